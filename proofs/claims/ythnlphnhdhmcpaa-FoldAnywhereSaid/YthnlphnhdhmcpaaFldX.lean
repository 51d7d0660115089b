/-
  fold's calls, whole; its waking call; FoldExact: the walk.
-/
import Derived.Test.YthnlphnhdhmcpaaFldV
namespace Go.Proofs.Ythnlphnhdhmcpaa
open Go.RowKit
namespace Fld
open Opn (sv TxtV)
def unfR (S : List UInt8) : List (List UInt8) × Int := if okCR S = true then (unfS S, 0) else ([], 18)
def lineR (S : List UInt8) : List UInt8 × Int := if hit S = true then ([], 18) else (foldL S, 0)
theorem unfold_any (s : ByteArray) (S : List UInt8) (L : List (List UInt8)) (rc : Int) (w : World) (hs : s.size ≤ 600000) (hS : Hid (s.data.toList = S)) (h : Hid (unfR S = (L, rc))) :
    Calls Try.prog 8 #[.string s] w fun e w' => ∃ v, e = .returned (.tuple #[v, .int .i64 rc]) ∧ TxtV w' v L ∧ Below w.heap.size w w' := by
  have hh := h.out
  unfold unfR at hh
  cases ho : okCR S with
  | true =>
    rw [ho, if_pos rfl] at hh
    injection hh with a b
    subst a b
    exact unf_to s S w hs hS (Lib.hid ho)
  | false =>
    rw [ho, if_neg (by decide)] at hh
    injection hh with a b
    subst a b
    exact (unf_no s S w hs hS (Lib.hid ho)).mono fun e w' ⟨h1, h2⟩ => ⟨_, h1, TxtV.none _, h2⟩
theorem runf_any (s : ByteArray) (S : List UInt8) (L : List (List UInt8)) (rc : Int) (w : World) (hs : s.size ≤ 600000) (hS : Hid (s.data.toList = S)) (h : Hid (unfR S = (L, rc))) :
    Calls Try.prog 9 #[.string s] w fun e w' => ∃ v, e = .returned (.tuple #[v, .int .i64 rc]) ∧ TxtV w' v L ∧ Below w.heap.size w w' := by
  have hh := h.out
  unfold unfR at hh
  cases ho : okCR S with
  | true =>
    rw [ho, if_pos rfl] at hh
    injection hh with a b
    subst a b
    exact runf_to s S w hs hS (Lib.hid ho)
  | false =>
    rw [ho, if_neg (by decide)] at hh
    injection hh with a b
    subst a b
    exact (runf_no s S w hs hS (Lib.hid ho)).mono fun e w' ⟨h1, h2⟩ => ⟨_, h1, TxtV.none _, h2⟩
theorem line_any (s : ByteArray) (S R : List UInt8) (rc : Int) (w : World) (hs : s.size ≤ 60000) (hS : Hid (s.data.toList = S)) (h : Hid (lineR S = (R, rc))) :
    Calls Try.prog 7 #[.string s] w fun e w' => e = .returned (.tuple #[.string ⟨R.toArray⟩, .int .i64 rc]) ∧ Below w.heap.size w w' := by
  have hh := h.out
  unfold lineR at hh
  cases ho : hit S with
  | true =>
    rw [ho, if_pos rfl] at hh
    injection hh with a b
    subst a b
    exact line_no s S w hs hS (Lib.hid ho)
  | false =>
    rw [ho, if_neg (by decide)] at hh
    injection hh with a b
    subst a b
    exact line_to s S w hs hS (Lib.hid ho)
theorem txt_lit1 (w : World) (x : ByteArray) (X : List UInt8) (hx : x = ⟨X.toArray⟩) : TxtV (w.alloc (.cells #[.string x] 9)) (.slice (some ⟨w.heap.size, 0, none⟩) 1 1) [X] := by
  subst hx
  refine ⟨_, _, _, rfl, rfl, fun j hj => ⟨_, 0, rfl, by simp, ?_⟩⟩
  match j, hj with
  | 0, _ => rw [World.cell?_alloc_new]; rfl
theorem txt_lit2 (w : World) (x y : ByteArray) (X Y : List UInt8) (hx : x = ⟨X.toArray⟩) (hy : y = ⟨Y.toArray⟩) : TxtV (w.alloc (.cells #[.string x, .string y] 9)) (.slice (some ⟨w.heap.size, 0, none⟩) 2 2) [X, Y] := by
  subst hx hy
  refine ⟨_, _, _, rfl, rfl, fun j hj => ⟨_, 0, rfl, by simp, ?_⟩⟩
  match j, hj with
  | 0, _ => rw [World.cell?_alloc_new]; rfl
  | 1, _ => rw [World.cell?_alloc_new]; rfl
/-- The waking call's long line. -/
def as76 : List UInt8 := List.replicate 76 97
theorem wk_l1 : ∃ T, lineR as76 = (T, 0) ∧ T.length = 81 ∧ unfR T = ([as76], 0) := ⟨_, rfl, by decide +kernel, by decide +kernel⟩
theorem wk_l2 : lineR [97, 10] = ([], 18) := by decide +kernel
theorem wk_u2 : unfR [97, 13, 10, 32, 98, 10, 99] = ([[97, 98], [99]], 0) := by decide +kernel
set_option maxHeartbeats 6400000 in
set_option maxRecDepth 100000 in
theorem wakes16_any (w : World) :
    Calls Try.prog 11 #[] w fun e w' => e = .returned (.bool true) ∧ Below w.heap.size w w' := by
  obtain ⟨T, hT1, hT2, hT3⟩ := wk_l1
  have HT1 := Lib.hid hT1
  have HT3 := Lib.hid hT3
  have hsz : (⟨T.toArray⟩ : ByteArray).size = 81 := hT2
  have HSZ := Lib.hid hsz
  have HTT : Hid ((⟨T.toArray⟩ : ByteArray).data.toList = T) := Lib.hid rfl
  obtain ⟨tb, htb⟩ : ∃ tb : ByteArray, ⟨T.toArray⟩ = tb := ⟨_, rfl⟩
  have HTB := Lib.hid htb
  rw [htb] at HSZ HTT
  clear hT1 hT2 hT3 hsz htb
  go_enter Try.func11, Try.ntmps11
  go_wp2
  go_loopw [1] (fun sv wr => ∃ k : Nat, k ≤ 76 ∧ ∃ s : ByteArray, sv = .string s ∧ s.size = k ∧ Hid (s.data.toList = List.replicate k 97) ∧ w = wr) (fun sv _ => 76 - szOf sv)
  case atStart => exact ⟨0, by omega, _, rfl, rfl, Lib.hid rfl, rfl⟩
  case round =>
    obtain ⟨k, hk, s, rfl, hz, hs, rfl⟩ := hrel
    by_cases hlt : k < 76
    · have HS : Hid ((s ++ ⟨#[97]⟩).data.toList = List.replicate (k + 1) 97) := Lib.hid (by rw [Rws.cat_data, hs.out, List.replicate_succ'])
      have HZ : Hid ((s ++ ⟨#[97]⟩).size = k + 1) := Lib.hid (by rw [Lib.size_eq, HS.out, List.length_replicate])
      have hz2 : s.size < 76 := by omega
      clear hs
      go_wp2
      go_roundw
      case rel => exact ⟨k + 1, by omega, s ++ ⟨#[97]⟩, rfl, HZ.out, HS, trivial⟩
      case measure => simp only [szOf]; rw [HZ.out]; omega
    · obtain rfl : k = 76 := by omega
      have hsb : Hid (s = ⟨as76.toArray⟩) := Lib.hid (Rws.ba_eq hs.out)
      have hs2 : Hid (s.data.toList = as76) := hs
      have hz2 : ¬ s.size < 76 := by omega
      have HZ := Lib.hid hz
      clear hs hz
      go_wp2_with fail
      refine (line_any s as76 T 0 _ (by rw [HZ.out]; omega) hs2 HT1).mono ?_
      rintro e w1 ⟨rfl, b1⟩
      rw [HTB.out]
      go_wp2_with fail
      refine (unfold_any tb T [as76] 0 _ (by rw [HSZ.out]; omega) HTT HT3).mono ?_
      rintro e w2 ⟨v2, rfl, t2, d2⟩
      have b2 := b1.trans (d2.mono b1.size)
      have T2 := Lib.hid t2
      clear d2 b1 t2
      go_wp2_with fail
      refine (line_any ⟨#[97, 10]⟩ [97, 10] [] 18 _ (by decide) (Lib.hid rfl) (Lib.hid wk_l2)).mono ?_
      rintro e w3 ⟨rfl, d3⟩
      have b3 := b2.trans (d3.mono b2.size)
      have T3 := Lib.hid (T2.out.below d3)
      clear d3 b2 T2
      go_wp2_with fail
      refine (unfold_any ⟨#[97, 13, 10, 32, 98, 10, 99]⟩ _ [[97, 98], [99]] 0 _ (by decide) (Lib.hid rfl) (Lib.hid wk_u2)).mono ?_
      rintro e w4 ⟨v4, rfl, t4, d4⟩
      have b4 := b3.trans (d4.mono b3.size)
      have T5 := Lib.hid (T3.out.below d4)
      have T4 := Lib.hid t4
      clear d4 b3 T3 t4
      have hz81 := HSZ.out
      go_wp2_with fail
      refine (Opn.texts_any v2 _ [as76] [as76] _ (T5.out.below ((Below.refl _ _).alloc (Nat.le_refl _) _)) (txt_lit1 w4 s as76 hsb.out) (by decide) (by decide)).mono ?_
      rintro e w5 ⟨bb, rfl, hbb, m5, rfl⟩
      obtain rfl : bb = true := by rw [hbb.out]; exact decide_eq_true rfl
      have b5 := below_drewN (b4.alloc b4.size (Obj.cells #[Value.string s] 9)) m5
      have T6 := Lib.hid (T4.out.below (below_drewN ((Below.refl _ _).alloc (Nat.le_refl _) (Obj.cells #[Value.string s] 9)) m5))
      clear hbb T5 T4 b4
      obtain ⟨W5, hW5⟩ : ∃ x, (w4.alloc (Obj.cells #[Value.string s] 9)).drewN m5 = x := ⟨_, rfl⟩
      rw [hW5] at b5 T6 ⊢
      clear hW5
      go_wp2_with fail
      refine (Opn.texts_any v4 _ [[97, 98], [99]] [[97, 98], [99]] _ (T6.out.below ((Below.refl _ _).alloc (Nat.le_refl _) _)) (txt_lit2 W5 _ _ [97, 98] [99] rfl rfl) (by decide) (by decide)).mono ?_
      rintro e w6 ⟨bb, rfl, hbb, m6, rfl⟩
      obtain rfl : bb = true := by rw [hbb.out]; exact decide_eq_true rfl
      clear hbb
      go_wp2
      go_ret
      exact ⟨rfl, below_drewN (b5.alloc b5.size _) m6⟩
end Fld
end Go.Proofs.Ythnlphnhdhmcpaa
