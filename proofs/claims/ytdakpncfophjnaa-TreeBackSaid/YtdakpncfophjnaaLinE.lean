/-
  Package line: rows of parameters that a call owns; what reading leaves.
-/
import Derived.Test.YtdakpncfophjnaaLinD
namespace Go.Proofs.Ytdakpncfophjnaa
open Go.RowKit
namespace Lin
open CutB Cel
open Opn (TxtV)
open Rws (RowS)
theorem infoP : (Try.prog.info? 45).map (fun i => (i.zero, i.size, i.bytes)) = some (some (.agg #[.string ⟨#[]⟩, .slice none 0 0]), 2, 40) := by kernel_rfl
/-- A row of parameters that the call owns from block B on, their values likewise. -/
def ParR (B : Nat) (w : World) (v : Value) (ps : List PV) : Prop := ∃ xs, w.ownsRow B 45 2 v ps.length xs ∧ ∀ (j : Nat) (hj : j < ps.length), ∃ sv, xs[j * 2]? = some (.string ⟨(ps[j]).nm.toArray⟩) ∧ xs[j * 2 + 1]? = some sv ∧ RowS B w sv (ps[j]).vs
theorem ParR.nil (B : Nat) (w : World) : ParR B w (.slice none 0 0) [] := ⟨[], World.ownsRow_nil _ _ _ _, fun j hj => by simp at hj⟩
theorem ParR.set {B g : Nat} {w : World} {v : Value} {ps : List PV} (h : ParR B w v ps) (hg : g < B) (i : Nat) (x : Value) : ParR B (w.setCell ⟨g, i, none⟩ x) v ps := by
  obtain ⟨xs, h1, h2⟩ := h
  refine ⟨xs, own_set h1 hg i x, fun j hj => ?_⟩
  obtain ⟨sv, a, b, c⟩ := h2 j hj
  exact ⟨sv, a, b, own_set c hg i x⟩
theorem ParR.below {B : Nat} {w w' : World} {v : Value} {ps : List PV} (h : ParR B w v ps) (hb : Below w.heap.size w w') : ParR B w' v ps := by
  obtain ⟨xs, h1, h2⟩ := h
  refine ⟨xs, Esc.owns_below h1 hb, fun j hj => ?_⟩
  obtain ⟨sv, a, b, c⟩ := h2 j hj
  exact ⟨sv, a, b, c.below hb⟩
theorem ParR.alloc {B : Nat} {w : World} {v : Value} {ps : List PV} (h : ParR B w v ps) (o : Obj) : ParR B (w.alloc o) v ps := h.below ((Below.refl _ _).alloc (Nat.le_refl _) o)
theorem ParR.pars {B : Nat} {w : World} {v : Value} {ps : List PV} (h : ParR B w v ps) : ParsV w v ps := by
  obtain ⟨xs, h1, h2⟩ := h
  rcases h1.2 with ⟨rfl, hn⟩ | ⟨g, cap, cur, rfl, hg, hh, _⟩
  · have : ps = [] := List.eq_nil_of_length_eq_zero hn
    subst this
    exact ParsV.none w
  · refine ⟨_, _, _, rfl, rfl, fun j hj => ?_⟩
    obtain ⟨sv, a, b, c⟩ := h2 j hj
    have k1 := h1.cellAt (j * 2) (by omega)
    have k2 := h1.cellAt (j * 2 + 1) (by omega)
    have hlt : g < w.heap.size := (h1.lt g rfl).2
    exact ⟨g, 0, sv, rfl, hlt, by rw [Nat.zero_add, k1, a], by rw [Nat.zero_add, k2, b], c.txt⟩
theorem ParR.form {B : Nat} {w : World} {v : Value} {ps : List PV} (h : ParR B w v ps) : ∃ a c, v = .slice a ps.length c := by
  obtain ⟨a, n, c, rfl, rfl, _⟩ := h.pars
  exact ⟨a, c, rfl⟩
theorem cs_lo {g B : Nat} {w w' : World} {vs : List Value} (h : Cs g w vs) (hb : Below B w w') (hg : g < B) (hs : w.heap.size ≤ w'.heap.size) : Cs g w' vs :=
  ⟨Nat.lt_of_lt_of_le h.1 hs, fun i v hi => ⟨(hb.cell (p := ⟨g, i, none⟩) hg).trans (h.2 i v hi).1, (hb.frozen (p := ⟨g, i, none⟩) hg).trans (h.2 i v hi).2⟩⟩
theorem lchk_v (a b : ByteArray) (nm vl : List UInt8) (pv : Value) (ps : List PV) (e : Int) (w : World) (ha : a = ⟨nm.toArray⟩) (hb : b = ⟨vl.toArray⟩) (h1 : nm.length ≤ 1000000) (h2 : vl.length ≤ 1000000) (hp : ParsV w pv ps) (hlen : ps.length ≤ 1000000) (hsm : ∀ p ∈ ps, smlP p) (hE : Hid (lnE ⟨nm, ps, vl⟩ = e)) :
    Calls Try.prog 22 #[.agg #[.string a, pv, .string b]] w fun x w' => x = .returned (.int .i64 e) ∧ Below w.heap.size w w' := by
  subst ha hb
  exact lchk_to nm vl pv ps e w h1 h2 hp hlen hsm hE
/-- append(ps, p). -/
theorem appP {w : World} {ops : Array Oper} {rest : List Oper} {o : Oper} {a : Act} {Q : Exit → Act → World → Prop} (hgd : o.guard = none) (s x : Operand)
    (ho : o.op = .call { callee := .builtin .append, args := #[s, x], argTypes := #[22, 22] })
    (B : Nat) (v : Value) (ps : List PV) (hs : a.eval s = v) (hown : ParR B w v ps) (p : PV) (y : ByteArray) (u : Value) (hy : y = ⟨p.nm.toArray⟩) (hu : RowS B w u p.vs) (hx : a.eval x = .slice (some ⟨w.heap.size, 0, none⟩) 1 1)
    (hlen : ps.length ≤ 1000000000) (hB : B ≤ w.heap.size)
    (h : ∀ w' g cap, ParR B w' (.slice (some ⟨g, 0, none⟩) (ps.length + 1) cap) (ps ++ [p]) → (∀ (B0 : Nat) (W0 : World), B0 ≤ B → Below B0 W0 w → B0 ≤ w.heap.size → Below B0 W0 w') → w.heap.size ≤ w'.heap.size → wpList Try.prog ops Q rest (a.put o.dst (.slice (some ⟨g, 0, none⟩) (ps.length + 1) cap)) w') :
    wpList Try.prog ops Q (o :: rest) a (w.alloc (.cells #[.string y, u] 45)) := by
  obtain ⟨i0, hi0, hz0, hz1, hz2⟩ := info_parts infoP
  obtain ⟨xs, h1, h2⟩ := hown
  have huf : u.oneCell' = true := by
    rcases hu.2 with ⟨rfl, _⟩ | ⟨g, cap, cur, rfl, _⟩ <;> rfl
  refine wpList_append_own _ hgd s x 22 ho B 45 i0 (.agg #[.string ⟨#[]⟩, .slice none 0 0]) 2 40 (by kernel_rfl) hi0 hz0 hz1 hz2 rfl (by decide) v ps.length _ hs (h1.alloc _) ⟨w.heap.size, 0, none⟩ 1 1 [.string y, u] hx rfl ?_ ?_ (by unfold maxLen; omega) (by omega) (by simp; omega) ?_
  · intro j z hj
    match j, hj with
    | 0, hj =>
      simp at hj; subst hj
      rw [show (⟨w.heap.size, 0, none⟩ : Addr).add 0 = ⟨w.heap.size, 0, none⟩ from by simp [Addr.add], World.cell?_alloc_new]
      rfl
    | 1, hj =>
      simp at hj; subst hj
      rw [show (⟨w.heap.size, 0, none⟩ : Addr).add 1 = ⟨w.heap.size, 1, none⟩ from by simp [Addr.add], World.cell?_alloc_new]
      rfl
    | j + 2, hj => simp at hj
  · intro z hz
    simp only [List.mem_cons, List.mem_nil_iff, or_false] at hz
    rcases hz with rfl | rfl
    · rfl
    · exact huf
  · intro v' w' r3 g3 hne
    have hl : (ps ++ [p]).length = ps.length + 1 := by simp
    have keep : ∀ (sv : Value) (L : List (List UInt8)), RowS B w sv L → RowS B w' sv L := fun sv L hL =>
      World.ownsRow.kept (World.ownsRow.alloc hL _) g3 (Rws.apart hL h1 (by decide))
    have hp : ParR B w' v' (ps ++ [p]) := by
      refine ⟨xs ++ [.string y, u], by rw [hl]; exact r3, fun j hj => ?_⟩
      have hxl : xs.length = ps.length * 2 := h1.1
      by_cases hjp : j < ps.length
      · obtain ⟨sv, a1, b1, c1⟩ := h2 j hjp
        have e : (ps ++ [p])[j] = ps[j] := List.getElem_append_left hjp
        rw [e]
        exact ⟨sv, by rw [List.getElem?_append_left (by omega)]; exact a1, by rw [List.getElem?_append_left (by omega)]; exact b1, keep _ _ c1⟩
      · obtain rfl : j = ps.length := by omega
        have e : (ps ++ [p])[ps.length] = p := by simp
        rw [e]
        refine ⟨u, ?_, ?_, keep _ _ hu⟩
        · rw [List.getElem?_append_right (by omega), hxl, Nat.sub_self, hy]; rfl
        · rw [List.getElem?_append_right (by omega), hxl, show ps.length * 2 + 1 - ps.length * 2 = 1 by omega]; rfl
    have hform : ∃ g cap, v' = .slice (some ⟨g, 0, none⟩) (ps.length + 1) cap := by
      rcases r3.2 with ⟨_, e⟩ | ⟨g, cap, cur, e, _⟩
      · omega
      · exact ⟨g, cap, e⟩
    obtain ⟨g, cap, rfl⟩ := hform
    exact h w' g cap hp (fun B0 W0 hB0 hb hw => (hb.alloc hw _).grown g3 (by simp; omega) (fun k hk => Nat.le_trans hB0 (h1.lt k hk).1)) (Nat.le_trans (by simp) g3.size)
/-! ### What reading leaves -/
theorem rvL_bd {T V R : List UInt8} (h : rvL T = some (V, R)) : V.length ≤ T.length := by
  cases T with
  | nil => cases h
  | cons c U =>
    rw [rvL] at h
    split at h
    · split at h
      · cases h
      · injection h with h
        injection h with h _
        subst h
        have := hd_len [34] U
        simp only [List.length_cons]
        omega
    · split at h
      · cases h
      · injection h with h
        injection h with h _
        subst h
        exact hd_len _ _
theorem rvG_bd : ∀ (f : Nat) (T : List UInt8) (acc vs : List (List UInt8)) (R : List UInt8), rvG f T acc = some (vs, R) → 0 < R.length ∧ R.length ≤ T.length ∧ vs.length + R.length ≤ acc.length + T.length + 1 ∧ ∀ v ∈ vs, v ∈ acc ∨ v.length ≤ T.length
  | 0, _, _, _, _, h => by cases h
  | f + 1, T, acc, vs, R, h => by
    rw [rvG] at h
    cases hr : rvL T with
    | none => rw [hr] at h; cases h
    | some VR =>
      obtain ⟨V, Q⟩ := VR
      rw [hr] at h
      have l1 := rv_len hr
      have l2 := rvL_bd hr
      cases Q with
      | nil => cases h
      | cons d U =>
        simp only [List.length_cons] at l1
        have h : (if d = 44 then rvG f U (acc ++ [V]) else some (acc ++ [V], d :: U)) = some (vs, R) := h
        by_cases e : d = 44
        · rw [if_pos e] at h
          obtain ⟨a1, a2, a3, a4⟩ := rvG_bd f U _ _ _ h
          simp only [List.length_append, List.length_cons, List.length_nil] at a3
          refine ⟨a1, by omega, by omega, fun v hv => ?_⟩
          rcases a4 v hv with q | q
          · rcases List.mem_append.1 q with q | q
            · exact Or.inl q
            · rw [List.mem_singleton.1 q]; exact Or.inr l2
          · exact Or.inr (by omega)
        · rw [if_neg e] at h
          injection h with h
          injection h with h1 h2
          subst h1 h2
          refine ⟨by simp, by simp; omega, by simp; omega, fun v hv => ?_⟩
          rcases List.mem_append.1 hv with q | q
          · exact Or.inl q
          · rw [List.mem_singleton.1 q]; exact Or.inr l2
theorem rpL_bd {S : List UInt8} {p : PV} {R : List UInt8} (h : rpL S = some (p, R)) (hS : S.length ≤ 999999) : 0 < R.length ∧ R.length ≤ S.length ∧ smlP p := by
  rw [rpL] at h
  split at h
  · cases h
  · cases hg : rvG (S.length + 1) (tlT [61] S).tail [] with
    | none => rw [hg] at h; cases h
    | some VR =>
      obtain ⟨vs, Q⟩ := VR
      rw [hg] at h
      injection h with h
      injection h with h1 h2
      subst h1 h2
      obtain ⟨a1, a2, a3, a4⟩ := rvG_bd _ _ _ _ _ hg
      have t1 := tl_len [61] S
      have t2 := hd_len [61] S
      rw [List.length_tail] at a2 a3
      simp only [List.length_nil] at a3
      refine ⟨a1, by omega, ⟨by show (hdT [61] S).length ≤ _; omega, by show vs.length ≤ _; omega, fun v hv => ?_⟩⟩
      rcases a4 v hv with q | q
      · cases q
      · rw [List.length_tail] at q; omega
end Lin
end Go.Proofs.Ytdakpncfophjnaa
