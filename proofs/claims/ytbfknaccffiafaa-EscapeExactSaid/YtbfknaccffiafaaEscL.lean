/-
  Contract of escape.List over texts that came in.
-/
import Derived.Test.YtbfknaccffiafaaEscD
import Derived.Test.YtbfknaccffiafaaEscM
import Derived.Test.YtbfknaccffiafaaStrs
namespace Go.Proofs.Ytbfknaccffiafaa
open Go.RowKit
namespace Esc
theorem made_at (n j : Nat) (hj : j < n) : (madeCells (Value.string ⟨#[]⟩).cells n)[j]? = some (.string ⟨#[]⟩) := by
  unfold madeCells
  rw [Array.getElem?_map, Array.getElem?_range]
  simp [hj, Value.cells, Nat.mod_one]
theorem join_to (B n c : Nat) (xs : List ByteArray) (J : List UInt8) (w : World) (hl : xs.length = n) (hcells : ∀ (j : Nat) x, xs[j]? = some x → w.cell? ⟨B, j, none⟩ = some (.string x)) (hB : B < w.heap.size) (hn : n ≤ 60) (hc : n ≤ c)
    (hJ : Hid (Lib.join (xs.map (·.data.toList)) [44] = J)) (hlen : J.length ≤ 200000) :
    Calls Try.prog 19 #[.slice (some ⟨B, 0, none⟩) n c, .string ⟨#[44]⟩] w fun e w' => e = .returned (.string ⟨J.toArray⟩) ∧ Below w.heap.size w w' := by
  subst hl
  have h := hJ.out
  subst h
  exact (Try.strings_Join B 0 c xs ⟨#[44]⟩ w (fun j x hj => by rw [Nat.zero_add]; exact hcells j x hj) hB (by omega) hc (by have : (⟨#[44]⟩ : ByteArray).data.toList = [44] := rfl; rw [this]; omega))
def piece (ls : Nat → ByteArray) (j : Nat) : ByteArray := ⟨(putL (ls j).data.toList).toArray⟩
def lstJ (ls : Nat → ByteArray) (n : Nat) : List UInt8 := Lib.join (((List.range n).map (piece ls)).map (·.data.toList)) [44]
set_option maxHeartbeats 6400000 in
set_option maxRecDepth 100000 in
theorem list_to (bk off n c : Nat) (ls : Nat → ByteArray) (w : World) (hn : 0 < n) (hn2 : n ≤ 60) (hbk : bk < w.heap.size) (hcell : ∀ j, j < n → w.cell? ⟨bk, off + j, none⟩ = some (.string (ls j))) (hsz : ∀ j, j < n → (ls j).size ≤ 800) (hlen : (lstJ ls n).length ≤ 200000) :
    Calls Try.prog 10 #[.slice (some ⟨bk, off, none⟩) n c] w fun e w' => ∃ R rc, e = .returned (.tuple #[.string ⟨R.toArray⟩, .int .i64 rc]) ∧ Hid ((rc = 0 ∧ (∀ j, j < n → putB (ls j).data.toList = true) ∧ R = lstJ ls n) ∨ (rc = 3 ∧ R = [] ∧ ∃ j, j < n ∧ putB (ls j).data.toList = false)) ∧ Below w.heap.size w w' := by
  obtain ⟨i0, hi, hz0, hz1, hz2⟩ := info_parts is
  obtain ⟨M, hM⟩ : ∃ M, madeCells (Value.string ⟨#[]⟩).cells n = M := ⟨_, rfl⟩
  have HM : Hid (∀ j, j < n → M[j]? = some (.string ⟨#[]⟩)) := Lib.hid (fun j hj => by rw [← hM]; exact made_at n j hj)
  have hmk : ∀ w : World, (Instr.makeSlice 22 (.int .i64 n) (.int .i64 n)).run Try.prog w = .ok (.slice (some ⟨w.heap.size, 0, none⟩) n n) (w.alloc (.cells M 9)) := fun w => by
    have h := run_make (P := Try.prog) w 22 9 i0 (.string ⟨#[]⟩) (by kernel_rfl) hi hz0 .i64 .i64 (n : Int) (n : Int) (by omega) (by omega) (by rw [hz2]; omega) (by omega)
    rw [hz1, Int.toNat_natCast, Nat.mul_one, hM] at h
    exact h
  have HC := Lib.hid hcell
  have HS := Lib.hid hsz
  have HJL := Lib.hid hlen
  clear hcell hsz hlen hM
  have n0 : ((n : Int) == 0) = false := beq_eq_false_iff_ne.2 (by omega)
  have n1 : ¬ n = 0 := by omega
  obtain ⟨B, hB⟩ : ∃ B, w.heap.size = B := ⟨_, rfl⟩
  have hb0 : Below B w (w.alloc (.cells M 9)) := by rw [← hB]; exact (Below.refl _ _).alloc (Nat.le_refl _) _
  have hc0 : Hid (∀ j, j < n → (w.alloc (.cells M 9)).cell? ⟨B, j, none⟩ = some (.string ⟨#[]⟩) ∧ (w.alloc (.cells M 9)).frozen? ⟨B, j, none⟩ = false) := Lib.hid (fun j hj => by
    rw [← hB]
    exact ⟨by rw [World.cell?_alloc_new]; exact HM.out j hj, by rw [World.frozen?_alloc_new]⟩)
  have hs0 : B < (w.alloc (.cells M 9)).heap.size := by rw [← hB]; simp
  rw [hB] at hbk ⊢
  have hmk2 : (Instr.makeSlice 22 (.int .i64 n) (.int .i64 n)).run Try.prog w = .ok (.slice (some ⟨B, 0, none⟩) n n) (w.alloc (.cells M 9)) := by rw [← hB]; exact hmk w
  clear hmk
  have HBz := Lib.hid hB
  clear hB
  obtain ⟨w1, hw1⟩ : ∃ x, w.alloc (.cells M 9) = x := ⟨_, rfl⟩
  rw [hw1] at hb0 hc0 hs0 hmk2
  clear hw1
  go_enter Try.func10, Try.ntmps10
  go_wp2
  go_loopw [17] (fun cv wr => ∃ k : Nat, k ≤ n ∧ cv = .int .i64 k ∧ Hid (∀ j, j < k → putB (ls j).data.toList = true) ∧ Hid (∀ j, j < n → wr.cell? ⟨B, j, none⟩ = some (.string (if j < k then piece ls j else ⟨#[]⟩)) ∧ wr.frozen? ⟨B, j, none⟩ = false) ∧ Below B w wr ∧ B < wr.heap.size) (fun cv _ => n - (intOf cv).toNat)
  case atStart => exact ⟨0, Nat.zero_le _, rfl, Lib.hid (fun j hj => by omega), Lib.hid (fun j hj => by rw [if_neg (by omega)]; exact hc0.out j hj), hb0, hs0⟩
  case round =>
    obtain ⟨k, hk, rfl, hall, hcs, hb, hs⟩ := hrel
    by_cases hlt : k < n
    · have hc2 := (hb.cell (p := ⟨bk, off + k, none⟩) hbk).trans (HC.out k hlt)
      have hz := HS.out k hlt
      by_cases hp : putB (ls k).data.toList = true
      · have HP : Hid (putR (ls k).data.toList = (putL (ls k).data.toList, 0)) := Lib.hid (by rw [putR, if_pos hp])
        have HAL : Hid (∀ j, j < k + 1 → putB (ls j).data.toList = true) := Lib.hid (fun j hj => by
          by_cases e : j = k
          · subst e; exact hp
          · exact hall.out j (by omega))
        clear hp
        go_wp2_with fail
        refine (put_to (ls k) _ _ _ _ (by omega) (Lib.hid rfl) HP).mono ?_
        rintro e w2 ⟨rfl, b2⟩
        have hb2 : Below B w w2 := hb.trans (b2.mono (by omega))
        have hs2 : B < w2.heap.size := Nat.lt_of_lt_of_le hs b2.size
        have HC2 : Hid (∀ j, j < n → w2.cell? ⟨B, j, none⟩ = some (.string (if j < k then piece ls j else ⟨#[]⟩)) ∧ w2.frozen? ⟨B, j, none⟩ = false) := Lib.hid (fun j hj => ⟨(b2.cell (p := ⟨B, j, none⟩) hs).trans (hcs.out j hj).1, (b2.frozen (p := ⟨B, j, none⟩) hs).trans (hcs.out j hj).2⟩)
        obtain ⟨ck, fk⟩ := HC2.out k hlt
        rw [if_neg (by omega)] at ck
        clear b2 hc2
        go_wp2
        go_roundw
        case rel =>
          refine ⟨k + 1, by omega, by go_num, HAL, Lib.hid (fun j hj => ?_), hb2.setCell (Nat.le_refl _) _, by simpa using hs2⟩
          refine ⟨?_, by rw [World.frozen?_setCell]; exact (HC2.out j hj).2⟩
          by_cases e : j = k
          · subst e
            rw [World.cell?_setCell_same _ _ _ ck, if_pos (by omega)]; rfl
          · rw [World.cell?_setCell_other _ _ _ _ (by intro h; injection h with h1 h2; exact e h2.symm), (HC2.out j hj).1]
            by_cases e2 : j < k
            · rw [if_pos e2, if_pos (by omega)]
            · rw [if_neg e2, if_neg (by omega)]
        case measure => simp [intOf]; omega
      · have HP : Hid (putR (ls k).data.toList = ([], 3)) := Lib.hid (by rw [putR, if_neg hp])
        have HPF : Hid (putB (ls k).data.toList = false) := Lib.hid (by simpa using hp)
        clear hp
        go_wp2_with fail
        refine (put_to (ls k) _ _ _ _ (by omega) (Lib.hid rfl) HP).mono ?_
        rintro e w2 ⟨rfl, b2⟩
        have hb2 : Below B w w2 := hb.trans (b2.mono (by omega))
        clear b2 hc2
        go_wp2
        go_ret2
        exact ⟨[], 3, rfl, Lib.hid (Or.inr ⟨rfl, rfl, k, hlt, HPF.out⟩), hb2⟩
    · have hkn : k = n := by omega
      subst hkn
      have hxs : ((List.range k).map (piece ls)).length = k := by simp
      go_wp2_with fail
      refine (join_to B k k ((List.range k).map (piece ls)) (lstJ ls k) _ hxs (fun j x hj => ?_) hs hn2 (Nat.le_refl _) (Lib.hid rfl) HJL.out).mono ?_
      · have hj2 : j < k := by
          have := (List.getElem?_eq_some_iff.1 hj).1
          simpa using this
        have hx : x = piece ls j := by
          rw [List.getElem?_map, List.getElem?_range hj2] at hj
          injection hj with h; exact h.symm
        rw [(hcs.out j hj2).1, if_pos hj2, hx]
      rintro e w2 ⟨rfl, b2⟩
      have hb2 : Below B w w2 := hb.trans (b2.mono (by omega))
      go_wp2
      go_ret2
      exact ⟨_, 0, rfl, Lib.hid (Or.inl ⟨rfl, hall.out, rfl⟩), hb2⟩
end Esc
end Go.Proofs.Ytbfknaccffiafaa
