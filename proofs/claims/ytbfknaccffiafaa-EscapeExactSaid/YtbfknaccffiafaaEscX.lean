/-
  EscapeExact: the walk.
-/
import Derived.Test.YtbfknaccffiafaaEscG
import Derived.Test.YtbfknaccffiafaaEscQ
import Derived.Test.YtbfknaccffiafaaEscK
namespace Go.Proofs.Ytbfknaccffiafaa
open Go.RowKit Go.Deep
namespace Esc
open Opn (TxtV Strs lst)
/-- The first k pieces, put. -/
theorem lstJ_zero (ls : Nat → ByteArray) : lstJ ls 0 = [] := rfl
theorem join_snoc : ∀ (l : List (List UInt8)) (x : List UInt8), l ≠ [] → Lib.join (l ++ [x]) [44] = Lib.join l [44] ++ [44] ++ x
  | [], _, h => absurd rfl h
  | a :: l, x, _ => by
    rw [List.cons_append, Lib.join_cons, Lib.join_cons]
    have : ∀ m : List (List UInt8), Lib.joinTail [44] (m ++ [x]) = Lib.joinTail [44] m ++ [44] ++ x := fun m => by unfold Lib.joinTail; simp
    rw [this]
    simp
theorem lstJ_one (ls : Nat → ByteArray) : lstJ ls 1 = putL (ls 0).data.toList := by
  rw [lst_jp]
  show jp [(ls 0).data.toList] = _
  rw [jp_cons, tl_nil, List.append_nil]
theorem lstJ_succ (ls : Nat → ByteArray) (k : Nat) (hk : 0 < k) : lstJ ls (k + 1) = lstJ ls k ++ [44] ++ putL (ls k).data.toList := by
  unfold lstJ
  rw [List.range_succ, List.map_append, List.map_append]
  show Lib.join (_ ++ [_]) [44] = _
  rw [join_snoc _ _ (by intro h; have := congrArg List.length h; simp at this; omega)]
  rfl
/-- What has been put together so far, and whether all could be. -/
def ZP (ls : Nat → ByteArray) (k : Nat) (Z : List UInt8) (want : Int) : Prop := (want = 0 ∧ (∀ j, j < k → putB (ls j).data.toList = true) ∧ Z = lstJ ls k) ∨ (want = 3 ∧ ∃ j, j < k ∧ putB (ls j).data.toList = false)
theorem ZP.zero (ls : Nat → ByteArray) : ZP ls 0 [] 0 := Or.inl ⟨rfl, fun j hj => by omega, rfl⟩
theorem ZP.cases {ls : Nat → ByteArray} {k : Nat} {Z : List UInt8} {want : Int} (h : ZP ls k Z want) : (want = 0 ∧ ZP ls k Z 0) ∨ (want = 3 ∧ ZP ls k Z 3) := by
  rcases h with ⟨rfl, h⟩ | ⟨rfl, h⟩
  · exact Or.inl ⟨rfl, Or.inl ⟨rfl, h⟩⟩
  · exact Or.inr ⟨rfl, Or.inr ⟨rfl, h⟩⟩
theorem ZP.good {ls : Nat → ByteArray} {k : Nat} {Z : List UInt8} (h : ZP ls k Z 0) (hp : putB (ls k).data.toList = true) : ZP ls (k + 1) (if 0 < k then Z ++ [44] ++ putL (ls k).data.toList else Z ++ putL (ls k).data.toList) 0 := by
  rcases h with ⟨_, h1, rfl⟩ | ⟨h, _⟩
  · refine Or.inl ⟨rfl, fun j hj => ?_, ?_⟩
    · by_cases e : j = k
      · subst e; exact hp
      · exact h1 j (by omega)
    · by_cases hk : 0 < k
      · rw [if_pos hk, lstJ_succ ls k hk]
      · rw [if_neg hk]
        obtain rfl : k = 0 := by omega
        rw [lstJ_zero, lstJ_one]; rfl
  · cases h
theorem ZP.fail {ls : Nat → ByteArray} {k : Nat} {Z Z' : List UInt8} {want : Int} (_ : ZP ls k Z want) (hp : putB (ls k).data.toList = false) : ZP ls (k + 1) Z' 3 :=
  Or.inr ⟨rfl, k, by omega, hp⟩
theorem ZP.stay {ls : Nat → ByteArray} {k : Nat} {Z Z' : List UInt8} (h : ZP ls k Z 3) : ZP ls (k + 1) Z' 3 := by
  rcases h with ⟨h, _⟩ | ⟨_, j, hj, hp⟩
  · cases h
  · exact Or.inr ⟨rfl, j, by omega, hp⟩
/-- What List answers. -/
def ListP (ls : Nat → ByteArray) (n : Nat) (R : List UInt8) (rc : Int) : Prop := (rc = 0 ∧ 0 < n ∧ (∀ j, j < n → putB (ls j).data.toList = true) ∧ R = lstJ ls n) ∨ (rc = 3 ∧ R = [] ∧ ∃ j, j < n ∧ putB (ls j).data.toList = false) ∨ (rc = 2 ∧ R = [] ∧ n = 0)
theorem list_all (v : Value) (n : Nat) (ls : Nat → ByteArray) (w : World) (hn2 : n ≤ 60) (hv : TxtV w v (lst ls n)) (hsz : ∀ j, j < n → (ls j).size ≤ 800) :
    Calls Try.prog 10 #[v] w fun e w' => ∃ R rc, e = .returned (.tuple #[.string ⟨R.toArray⟩, .int .i64 rc]) ∧ ListP ls n R rc ∧ Below w.heap.size w w' := by
  by_cases h0 : n = 0
  · subst h0
    obtain ⟨a, c, rfl⟩ := TxtV.nil (show TxtV w v [] from hv)
    exact (list_nil a c w).mono fun e w' ⟨h1, h2⟩ => ⟨[], 2, h1, Or.inr (Or.inr ⟨rfl, rfl, rfl⟩), h2 ▸ Below.refl _ _⟩
  · obtain ⟨b, off, c, rfl, hb, hc⟩ := hv.form (by rw [Opn.lst_len]; omega)
    rw [Opn.lst_len]
    refine (list_to b off n c ls w (by omega) hn2 hb (fun j hj => ?_) hsz (lst_len ls n hn2 hsz)).mono ?_
    · rw [hc j (by rw [Opn.lst_len]; exact hj), Opn.lst_at, Opn.back_str]
    · rintro e w' ⟨R, rc, he, hr, hb⟩
      refine ⟨R, rc, he, ?_, hb⟩
      rcases hr.out with ⟨h1, h2, h3⟩ | ⟨h1, h2, h3⟩
      · exact Or.inl ⟨h1, by omega, h2, h3⟩
      · exact Or.inr (Or.inl ⟨h1, h2, h3⟩)
/-- The pieces got so far. -/
def QP (T : List (List UInt8)) (k : Nat) (want : Int) : Prop := (want = 0 ∧ (T.take k).all okG = true) ∨ (want = 3 ∧ (T.take k).all okG = false)
theorem QP.cases {T : List (List UInt8)} {k : Nat} {want : Int} (h : QP T k want) : (want = 0 ∧ QP T k 0) ∨ (want = 3 ∧ QP T k 3) := by
  rcases h with ⟨rfl, h⟩ | ⟨rfl, h⟩
  · exact Or.inl ⟨rfl, Or.inl ⟨rfl, h⟩⟩
  · exact Or.inr ⟨rfl, Or.inr ⟨rfl, h⟩⟩
theorem QP.good {T : List (List UInt8)} {k : Nat} {want : Int} (h : QP T k want) (hk : k < T.length) (hp : okG T[k] = true) : QP T (k + 1) want := by
  rcases h with ⟨rfl, h⟩ | ⟨rfl, h⟩
  · exact Or.inl ⟨rfl, by rw [List.take_succ_eq_append_getElem hk, List.all_append, h, List.all_cons, hp]; rfl⟩
  · exact Or.inr ⟨rfl, by rw [List.take_succ_eq_append_getElem hk, List.all_append, h]; rfl⟩
theorem QP.fail {T : List (List UInt8)} {k : Nat} (hk : k < T.length) (hp : okG T[k] = false) : QP T (k + 1) 3 :=
  Or.inr ⟨rfl, by rw [List.take_succ_eq_append_getElem hk, List.all_append, List.all_cons, hp]; simp⟩
theorem pcs_len (S : List UInt8) : ∀ (n : Nat) (cur T : List UInt8), T.length ≤ n → (pcsG cur T).length ≤ T.length + 1
  | _, cur, [], _ => by rw [pcs_nil]; simp
  | 0, cur, c :: T, h => by simp at h
  | n + 1, cur, c :: T, h => by
    rw [List.length_cons] at h
    by_cases h1 : c = 92
    · subst h1
      cases T with
      | nil => rw [pcs_one]; simp
      | cons d T =>
        rw [pcs_esc]; rw [List.length_cons] at h
        have := pcs_len S n (cur ++ [92, d]) T (by omega)
        simp only [List.length_cons] at this ⊢; omega
    · by_cases h2 : c = 44
      · subst h2; rw [pcs_com]
        have := pcs_len S n [] T (by omega)
        simp only [List.length_cons] at this ⊢; omega
      · rw [pcs_any _ _ h1 h2]
        have := pcs_len S n (cur ++ [c]) T (by omega)
        simp only [List.length_cons] at this ⊢; omega
theorem pcs_sz : ∀ (n : Nat) (cur T : List UInt8) (t : List UInt8), T.length ≤ n → t ∈ pcsG cur T → t.length ≤ cur.length + T.length
  | _, cur, [], t, _, ht => by rw [pcs_nil] at ht; simp at ht; subst ht; simp
  | 0, cur, c :: T, t, h, _ => by simp at h
  | n + 1, cur, c :: T, t, h, ht => by
    rw [List.length_cons] at h
    by_cases h1 : c = 92
    · subst h1
      cases T with
      | nil => rw [pcs_one] at ht; simp at ht; subst ht; simp
      | cons d T =>
        rw [pcs_esc] at ht; rw [List.length_cons] at h
        have := pcs_sz n (cur ++ [92, d]) T t (by omega) ht
        simp only [List.length_cons, List.length_append, List.length_nil] at this ⊢; omega
    · by_cases h2 : c = 44
      · subst h2; rw [pcs_com] at ht
        rcases List.mem_cons.1 ht with rfl | ht
        · simp
        · have := pcs_sz n [] T t (by omega) ht
          simp only [List.length_cons, List.length_nil] at this ⊢; omega
      · rw [pcs_any _ _ h1 h2] at ht
        have := pcs_sz n (cur ++ [c]) T t (by omega) ht
        simp only [List.length_cons, List.length_append, List.length_nil] at this ⊢; omega
theorem putR_cases (S : List UInt8) : putR S = (putL S, 0) ∧ putB S = true ∨ putR S = ([], 3) ∧ putB S = false := by
  unfold putR
  cases h : putB S with
  | true => exact Or.inl ⟨if_pos rfl, rfl⟩
  | false => exact Or.inr ⟨if_neg (by decide), rfl⟩
end Esc
end Go.Proofs.Ytbfknaccffiafaa
