/-
  Structs that came in by value, opened: each cell reads as its leaf's type says.
-/
import Derived.Test.YthefgagmjamdkaaGreatDoorRows
import Derived.WalkKit
import Derived.Deep.Slices
import Derived.ChangeArms
import Derived.ChangeSame
import Derived.OpenShut
namespace Go.Proofs.YthefgagmjamdkaaGreatDoor
open Go.RowKit Go.Deep Go.ChangeShapes Go.WideShapes
namespace Flat
section
variable {H : Type} {enc : TypeId × Value → H} {P : Program} {W : World} {base : Nat} {spare : Nat → Bool} {held : Bool}
/-- The leaves of fields, from offset o on. -/
def leavesF (rec : TypeId → Option (List TypeId)) (P : Program) : Nat → List Field → Option (List TypeId)
  | _, [] => some []
  | o, f :: fs => if f.offset = o then (match rec f.type with
      | some l => if l.length = P.cellsOf f.type then (leavesF rec P (o + l.length) fs).map (fun r => l ++ r) else none
      | none => none) else none
def whole (x : Option (List TypeId)) (k : Nat) : Option (List TypeId) := x.bind fun l => if l.length = k then some l else none
/-- The leaves of a type whose leaves are numbers, marks, texts, slices. -/
def leaves (P : Program) : Nat → TypeId → Option (List TypeId)
  | 0, _ => none
  | d + 1, t => match P.underlying t with
    | some (.struct fs) => whole (leavesF (leaves P d) P 0 fs.toList) (P.cellsOf t)
    | some .bool => some [t]
    | some (.int _) => some [t]
    | some .string => some [t]
    | some (.slice _) => some [t]
    | _ => none
theorem leavesF_at (d : Nat) (n : Nat) (cs : List Value) (ih : ∀ (t : TypeId) (ts : List TypeId), leaves P d t = some ts → ∀ (fuel : Nat) (cs : List Value) (x : DataW H × List MemPlace), DataW.trod enc P W base spare held fuel t cs = some x → cs.length = ts.length ∧ ∀ (i : Nat) (u : TypeId) (v : Value), ts[i]? = some u → cs[i]? = some v → ∃ n y, DataW.trod enc P W base spare held n u [v] = some y) :
    ∀ (fl : List Field) (o : Nat) (l : List TypeId), leavesF (leaves P d) P o fl = some l → (∀ f ∈ fl, ∃ y, DataW.trod enc P W base spare held n f.type ((cs.drop f.offset).take (P.cellsOf f.type)) = some y) →
      ∀ (i : Nat) (u : TypeId) (v : Value), l[i]? = some u → cs[o + i]? = some v → ∃ n y, DataW.trod enc P W base spare held n u [v] = some y
  | [], o, l, h, _, i, u, v, hu, _ => by
    rw [leavesF] at h
    injection h with h
    subst h
    simp at hu
  | f :: fl, o, l, h, hf, i, u, v, hu, hv => by
    rw [leavesF] at h
    by_cases ho : f.offset = o
    · rw [if_pos ho] at h
      cases hr : leaves P d f.type with
      | none => rw [hr] at h; cases h
      | some l1 =>
        rw [hr] at h
        by_cases hk : l1.length = P.cellsOf f.type
        · simp only [hk, if_true] at h
          cases hr2 : leavesF (leaves P d) P (o + P.cellsOf f.type) fl with
          | none => rw [hr2] at h; cases h
          | some r =>
            rw [hr2] at h
            have h : l1 ++ r = l := by simpa using h
            subst h
            obtain ⟨y, hy⟩ := hf f List.mem_cons_self
            by_cases hi : i < l1.length
            · rw [List.getElem?_append_left hi] at hu
              refine (ih f.type l1 hr n _ y hy).2 i u v hu ?_
              rw [List.getElem?_take_of_lt (by omega), List.getElem?_drop, ho]
              exact hv
            · rw [List.getElem?_append_right (by omega)] at hu
              refine leavesF_at d n cs ih fl (o + P.cellsOf f.type) r hr2 (fun g hg => hf g (List.mem_cons_of_mem _ hg)) (i - l1.length) u v hu ?_
              rw [show o + P.cellsOf f.type + (i - l1.length) = o + i by omega]
              exact hv
        · simp only [hk, if_false] at h
          cases h
    · rw [if_neg ho] at h
      cases h
theorem leaf_one {t : TypeId} {fuel : Nat} {v : Value} {x : DataW H × List MemPlace} (h : DataW.trod enc P W base spare held fuel t [v] = some x) : ([v] : List Value).length = [t].length ∧ ∀ (i : Nat) (u : TypeId) (v' : Value), [t][i]? = some u → ([v] : List Value)[i]? = some v' → ∃ n y, DataW.trod enc P W base spare held n u [v'] = some y := by
  refine ⟨rfl, fun i u v' hu hv => ?_⟩
  match i, hu, hv with
  | 0, hu, hv =>
    simp at hu hv
    subst hu hv
    exact ⟨fuel, x, h⟩
theorem leaves_at : ∀ (d : Nat) (t : TypeId) (ts : List TypeId), leaves P d t = some ts → ∀ (fuel : Nat) (cs : List Value) (x : DataW H × List MemPlace), DataW.trod enc P W base spare held fuel t cs = some x → cs.length = ts.length ∧ ∀ (i : Nat) (u : TypeId) (v : Value), ts[i]? = some u → cs[i]? = some v → ∃ n y, DataW.trod enc P W base spare held n u [v] = some y
  | 0, t, ts, h, _, _, _, _ => by rw [leaves] at h; cases h
  | d + 1, t, ts, h, fuel, cs, x, hx => by
    rw [leaves] at h
    cases hu : P.underlying t with
    | none => rw [hu] at h; cases h
    | some s =>
      rw [hu] at h
      cases s with
      | struct fs =>
        obtain ⟨xs, n, _, _, hl, hlen, hf⟩ := DataW.trod_struct hu hx
        have h : whole (leavesF (leaves P d) P 0 fs.toList) (P.cellsOf t) = some ts := h
        cases hr : leavesF (leaves P d) P 0 fs.toList with
        | none => rw [hr] at h; cases h
        | some l =>
          rw [hr] at h
          simp only [whole, Option.bind_some] at h
          by_cases hk : l.length = P.cellsOf t
          · simp only [hk, if_true] at h
            injection h with h
            subst h
            refine ⟨by omega, fun i u v hu hv => ?_⟩
            refine leavesF_at d n cs (leaves_at d) fs.toList 0 l hr ?_ i u v hu (by rw [Nat.zero_add]; exact hv)
            intro f hfm
            obtain ⟨j, hj, rfl⟩ := List.mem_iff_getElem.1 hfm
            have h1 := hf j fs.toList[j] (by rw [← Array.getElem?_toList, List.getElem?_eq_getElem hj])
            have h2 : j < xs.length := by rw [hlen]; simpa using hj
            exact ⟨xs[j], by rw [h1, List.getElem?_eq_getElem h2]⟩
          · simp only [hk, if_false] at h
            cases h
      | bool =>
        injection h with h; subst h
        obtain ⟨b, hb, _⟩ := DataW.trod_bool hu hx
        have hb : cs = [.bool b] := by simpa using hb
        subst hb
        exact leaf_one hx
      | int k =>
        injection h with h; subst h
        obtain ⟨b, hb, _⟩ := DataW.trod_int hu hx
        have hb : cs = [.int k b] := by simpa using hb
        subst hb
        exact leaf_one hx
      | string =>
        injection h with h; subst h
        obtain ⟨b, hb, _⟩ := DataW.trod_string hu hx
        have hb : cs = [.string b] := by simpa using hb
        subst hb
        exact leaf_one hx
      | slice e =>
        injection h with h; subst h
        rcases open_slice hu hx with ⟨hc, _⟩ | ⟨a, len, cap, m, n', D, Pl, hc, _⟩
        · subst hc; exact leaf_one hx
        · subst hc; exact leaf_one hx
      | _ => cases h
end
theorem arr11 {cs : Array Value} (h : cs.size = 11) : ∃ c0 c1 c2 c3 c4 c5 c6 c7 c8 c9 c10, cs = #[c0, c1, c2, c3, c4, c5, c6, c7, c8, c9, c10] := by
  obtain ⟨l⟩ := cs
  match l, h with
  | [c0, c1, c2, c3, c4, c5, c6, c7, c8, c9, c10], _ => exact ⟨_, _, _, _, _, _, _, _, _, _, _, rfl⟩
theorem arr13 {cs : Array Value} (h : cs.size = 13) : ∃ c0 c1 c2 c3 c4 c5 c6 c7 c8 c9 c10 c11 c12, cs = #[c0, c1, c2, c3, c4, c5, c6, c7, c8, c9, c10, c11, c12] := by
  obtain ⟨l⟩ := cs
  match l, h with
  | [c0, c1, c2, c3, c4, c5, c6, c7, c8, c9, c10, c11, c12], _ => exact ⟨_, _, _, _, _, _, _, _, _, _, _, _, _, rfl⟩
theorem arr16 {cs : Array Value} (h : cs.size = 16) : ∃ c0 c1 c2 c3 c4 c5 c6 c7 c8 c9 c10 c11 c12 c13 c14 c15, cs = #[c0, c1, c2, c3, c4, c5, c6, c7, c8, c9, c10, c11, c12, c13, c14, c15] := by
  obtain ⟨l⟩ := cs
  match l, h with
  | [c0, c1, c2, c3, c4, c5, c6, c7, c8, c9, c10, c11, c12, c13, c14, c15], _ => exact ⟨_, _, _, _, _, _, _, _, _, _, _, _, _, _, _, _, rfl⟩
end Flat
end Go.Proofs.YthefgagmjamdkaaGreatDoor
