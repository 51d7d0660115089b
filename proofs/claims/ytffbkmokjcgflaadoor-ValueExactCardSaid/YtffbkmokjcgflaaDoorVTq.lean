/-
  Slices of numbers, wherever they came from; the laws' Ints over any two; rows of numbers; value.Times.
-/
import Derived.Test.YtffbkmokjcgflaaDoorVTp
import Derived.Test.YtffbkmokjcgflaaDoorVal8
import Derived.Deep.AppendLies
namespace Go.Proofs.YtffbkmokjcgflaaDoor
open Go.RowKit
namespace Val
open Sol Civ Wk
/-- The value reads as the numbers L. -/
def IntV (w : World) (v : Value) (L : List Int) : Prop := ∃ a n c, v = .slice a n c ∧ n = L.length ∧ ∀ (j : Nat) (hj : j < L.length), ∃ b off, a = some ⟨b, off, none⟩ ∧ b < w.heap.size ∧ w.cell? ⟨b, off + j, none⟩ = some (.int .i64 L[j])
theorem IntV.below {w w' : World} {v : Value} {L : List Int} (h : IntV w v L) (hb : Below w.heap.size w w') : IntV w' v L := by
  obtain ⟨a, n, c, hv, hn, hc⟩ := h
  refine ⟨a, n, c, hv, hn, fun j hj => ?_⟩
  obtain ⟨b, off, ha, hl, hcell⟩ := hc j hj
  exact ⟨b, off, ha, Nat.lt_of_lt_of_le hl hb.size, (hb.cell (p := ⟨b, off + j, none⟩) hl).trans hcell⟩
theorem IntV.form {w : World} {v : Value} {L : List Int} (h : IntV w v L) (h0 : 0 < L.length) : ∃ b off c, v = .slice (some ⟨b, off, none⟩) L.length c ∧ b < w.heap.size ∧ ∀ (j : Nat) (hj : j < L.length), w.cell? ⟨b, off + j, none⟩ = some (.int .i64 L[j]) := by
  obtain ⟨a, n, c, hv, rfl, hc⟩ := h
  obtain ⟨b, off, rfl, hl, _⟩ := hc 0 h0
  refine ⟨b, off, c, hv, hl, fun j hj => ?_⟩
  obtain ⟨b', off', e, _, h2⟩ := hc j hj
  injection e with e
  injection e with e1 e2
  subst e1 e2
  exact h2
theorem IntV.nil {w : World} {v : Value} (h : IntV w v []) : ∃ a c, v = .slice a 0 c := by
  obtain ⟨a, n, c, hv, hn, _⟩ := h
  exact ⟨a, c, by rw [hv, hn]; rfl⟩
theorem IntV.slice {w : World} {v : Value} {L : List Int} (h : IntV w v L) : ∃ a c, v = .slice a L.length c := by
  obtain ⟨a, n, c, hv, rfl, _⟩ := h
  exact ⟨a, c, hv⟩
theorem IntV.none (w : World) : IntV w (.slice none 0 0) [] := ⟨_, _, _, rfl, rfl, fun j hj => by simp at hj⟩
theorem IntV.drew {w : World} {v : Value} {L : List Int} (h : IntV w v L) (m : Nat) : IntV (w.drewN m) v L := h
def RowI (B : Nat) (w : World) (v : Value) (L : List Int) : Prop := w.ownsRow B 3 1 v L.length (L.map (Value.int .i64))
theorem RowI.nil (B : Nat) (w : World) : RowI B w (.slice none 0 0) [] := World.ownsRow_nil _ _ _ _
theorem RowI.below {B : Nat} {w w' : World} {v : Value} {L : List Int} (h : RowI B w v L) (hb : Below w.heap.size w w') : RowI B w' v L := owns_below h hb
theorem RowI.cases {B : Nat} {w : World} {v : Value} {L : List Int} (h : RowI B w v L) : (v = .slice none 0 0 ∧ L = []) ∨ ∃ g cap, v = .slice (some ⟨g, 0, none⟩) L.length cap := by
  rcases h.2 with ⟨h1, h2⟩ | ⟨g, cap, cur, hv, _⟩
  · exact Or.inl ⟨h1, List.length_eq_zero_iff.1 h2⟩
  · exact Or.inr ⟨g, cap, hv⟩
theorem RowI.ints {B : Nat} {w : World} {v : Value} {L : List Int} (h : RowI B w v L) : IntV w v L := by
  by_cases h0 : L.length = 0
  · have hL : L = [] := List.length_eq_zero_iff.1 h0
    subst hL
    rcases h.2 with ⟨hv, _⟩ | ⟨g, cap, cur, hv, _⟩
    · exact ⟨_, _, _, hv, rfl, fun j hj => by simp at hj⟩
    · exact ⟨_, _, _, hv, rfl, fun j hj => by simp at hj⟩
  · obtain ⟨g, cap, hv, _, hg⟩ := World.ownsRow.form h (by omega)
    subst hv
    refine ⟨_, _, _, rfl, rfl, fun j hj => ⟨g, 0, rfl, hg, ?_⟩⟩
    have hc := World.ownsRow.cellAt h j (by omega)
    rw [Nat.zero_add, hc, List.getElem?_map, List.getElem?_eq_getElem hj]
    rfl
theorem appI {w : World} {ops : Array Oper} {rest : List Oper} {o : Oper} {a : Act} {Q : Exit → Act → World → Prop} (hgd : o.guard = none) (s x : Operand)
    (ho : o.op = .call { callee := .builtin .append, args := #[s, x], argTypes := #[30, 30] })
    (B : Nat) (v : Value) (L : List Int) (hs : a.eval s = v) (hown : RowI B w v L) (t : Int) (hx : a.eval x = .slice (some ⟨w.heap.size, 0, none⟩) 1 1)
    (hlen : L.length ≤ 1000000000) (hB : B ≤ w.heap.size)
    (h : ∀ w' g cap, RowI B w' (.slice (some ⟨g, 0, none⟩) (L.length + 1) cap) (L ++ [t]) → (∀ (B0 : Nat) (W0 : World), B0 ≤ B → Below B0 W0 w → B0 ≤ w.heap.size → Below B0 W0 w') → wpList Tryd.prog ops Q rest (a.put o.dst (.slice (some ⟨g, 0, none⟩) (L.length + 1) cap)) w') :
    wpList Tryd.prog ops Q (o :: rest) a (w.alloc (.cells #[.int .i64 t] 3)) := by
  obtain ⟨i0, hi0, hz0, hz1, hz2⟩ := info_parts i3
  refine wpList_append_own _ hgd s x 30 ho B 3 i0 (.int .i64 0) 1 8 (by kernel_rfl) hi0 hz0 hz1 hz2 rfl (by decide) v L.length _ hs (hown.alloc _) ⟨w.heap.size, 0, none⟩ 1 1 [.int .i64 t] hx rfl ?_ ?_ (by unfold maxLen; omega) (by omega) (by simp; omega) ?_
  · intro j u hj
    match j, hj with
    | 0, hj =>
      simp at hj; subst hj
      rw [show (⟨w.heap.size, 0, none⟩ : Addr).add 0 = ⟨w.heap.size, 0, none⟩ from by simp [Addr.add], World.cell?_alloc_new]
      rfl
  · intro u hu; simp at hu; subst hu; rfl
  · intro v' w' r3 g3 hne
    have r4 : RowI B w' v' (L ++ [t]) := by
      unfold RowI
      rw [List.length_append, List.map_append]
      exact r3
    rcases r4.cases with ⟨_, e⟩ | ⟨g, cap, rfl⟩
    · simp at e
    · rw [List.length_append] at r4
      rw [List.length_append]
      exact h w' g cap r4 (fun B0 W0 hB0 hb hw => (hb.alloc hw _).grown g3 (by simp; omega) (fun k hk => Nat.le_trans hB0 ((hown.alloc (Obj.cells #[.int .i64 t] 3)).lt k hk).1))
set_option maxHeartbeats 3200000 in
set_option maxRecDepth 100000 in
theorem ints_any (v u : Value) (L M : List Int) (w : World) (hv : IntV w v L) (hu : IntV w u M) (hL : L.length ≤ 1000000) (hM : M.length ≤ 1000000) :
    Calls Tryd.prog 12 #[v, u] w fun e w' => ∃ b, e = .returned (.bool b) ∧ Hid (b = decide (L = M)) ∧ ∃ m, w' = w.drewN m := by
  by_cases hlen : L.length = M.length
  · by_cases h0 : L.length = 0
    · have e1 : L = [] := List.length_eq_zero_iff.1 h0
      have e2 : M = [] := List.length_eq_zero_iff.1 (by omega)
      subst e1 e2
      obtain ⟨a, c, rfl⟩ := hv.nil
      obtain ⟨a2, c2, rfl⟩ := hu.nil
      clear hv hu hlen h0 hL hM
      go_enter Tryd.func12, Tryd.ntmps12
      go_wp2_with fail
      go_loopw [5] (fun iv wr => iv = .int .i64 0 ∧ wr = w) (fun _ _ => 0)
      case atStart => exact ⟨rfl, rfl⟩
      case round =>
        obtain ⟨rfl, rfl⟩ := hrel
        go_wp2
        go_ret
        exact ⟨true, rfl, Lib.hid (by simp), 0, rfl⟩
    · obtain ⟨b1, o1, c1, rfl, _, k1⟩ := hv.form (by omega)
      obtain ⟨b2, o2, c2, rfl, _, k2⟩ := hu.form (by omega)
      obtain ⟨n, hn⟩ : ∃ n, L.length = n := ⟨_, rfl⟩
      have K1 : Hid (∀ (j : Nat) (hj : j < L.length), w.cell? ⟨b1, o1 + j, Option.none⟩ = some (.int .i64 L[j])) := Lib.hid k1
      have K2 : Hid (∀ (j : Nat) (hj : j < M.length), w.cell? ⟨b2, o2 + j, Option.none⟩ = some (.int .i64 M[j])) := Lib.hid k2
      have HN := Lib.hid hn
      have HM : Hid (M.length = n) := Lib.hid (hlen ▸ hn)
      rw [← hlen, hn]
      rw [hn] at hL
      clear k1 k2 hv hu h0 hM hlen hn
      go_enter Tryd.func12, Tryd.ntmps12
      go_wp2_with fail
      go_loopw [5] (fun iv wr => ∃ k : Nat, k ≤ n ∧ iv = .int .i64 k ∧ Hid (L.take k = M.take k) ∧ ∃ m, wr = w.drewN m) (fun iv _ => n - (intOf iv).toNat)
      case atStart => exact ⟨0, Nat.zero_le _, rfl, Lib.hid rfl, 0, rfl⟩
      case round =>
        obtain ⟨k, hk, rfl, hT, m, rfl⟩ := hrel
        by_cases hlt : k < n
        · have h1L : k < L.length := by rw [HN.out]; exact hlt
          have h1M : k < M.length := by rw [HM.out]; exact hlt
          have g1 := K1.out k h1L
          have g2 := K2.out k h1M
          by_cases he : L[k] = M[k]
          · have HT : Hid (L.take (k + 1) = M.take (k + 1)) := Lib.hid (by rw [List.take_succ_eq_append_getElem h1L, List.take_succ_eq_append_getElem h1M, hT.out, he])
            rw [← he] at g2
            obtain ⟨X, hX⟩ : ∃ X : Int, L[k] = X := ⟨_, rfl⟩
            rw [hX] at g1 g2
            clear he h1L h1M hX
            go_wp2_with fail
            go_quiet (fail)
            go_wp2
            go_roundw
            case rel => exact ⟨k + 1, by omega, by go_num, HT, m + nq, by first | rfl | rw [World.drewN_drewN]⟩
            case measure => simp [intOf]; omega
          · have HF : Hid (decide (L = M) = false) := Lib.hid (decide_eq_false (fun e => he (by subst e; rfl)))
            obtain ⟨X, hX⟩ : ∃ X : Int, L[k] = X := ⟨_, rfl⟩
            obtain ⟨Y, hY⟩ : ∃ Y : Int, M[k] = Y := ⟨_, rfl⟩
            rw [hX] at g1 he
            rw [hY] at g2 he
            have hb1 : (X == Y) = false := beq_eq_false_iff_ne.2 he
            have hb2 : (X != Y) = true := by rw [bne, hb1]; rfl
            clear he h1L h1M hX hY
            go_wp2_with fail
            go_quiet (fail)
            go_wp2
            go_ret
            exact ⟨false, rfl, Lib.hid HF.out.symm, m + nq, by first | rfl | rw [World.drewN_drewN]⟩
        · have hkn : k = n := by omega
          subst hkn
          have HF : Hid (decide (L = M) = true) := Lib.hid (decide_eq_true (by have := hT.out; rwa [List.take_of_length_le (by rw [HN.out]; exact Nat.le_refl _), List.take_of_length_le (by rw [HM.out]; exact Nat.le_refl _)] at this))
          go_wp2
          go_ret
          exact ⟨true, rfl, Lib.hid HF.out.symm, _, rfl⟩
  · obtain ⟨a, c, rfl⟩ := hv.slice
    obtain ⟨a2, c2, rfl⟩ := hu.slice
    have HF : Hid (decide (L = M) = false) := Lib.hid (decide_eq_false (fun e => hlen (by rw [e])))
    obtain ⟨n, hn⟩ : ∃ n, L.length = n := ⟨_, rfl⟩
    obtain ⟨n2, hn2⟩ : ∃ n2, M.length = n2 := ⟨_, rfl⟩
    rw [hn] at hL hlen ⊢
    rw [hn2] at hM hlen ⊢
    have hne : ((n : Int) == (n2 : Int)) = false := beq_eq_false_iff_ne.2 (by omega)
    have hne2 : ((n : Int) != (n2 : Int)) = true := by rw [bne, hne]; rfl
    clear hv hu hn hn2
    go_enter Tryd.func12, Tryd.ntmps12
    go_wp2
    go_ret
    exact ⟨false, rfl, Lib.hid HF.out.symm, 0, rfl⟩
end Val
end Go.Proofs.YtffbkmokjcgflaaDoor
