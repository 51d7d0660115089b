/-
  The waking call of layer 18. (Written by gen/gen_linw.py.)
-/
import Derived.Test.YtdakpncfophjnaaLinU
namespace Go.Proofs.Ytdakpncfophjnaa
open Go.RowKit
namespace Lin
open CutB Cel
open Opn (TxtV)
theorem txt_new (L : List (List UInt8)) (n cp : Nat) (t : TypeId) (g : Nat) (w : World) (hn : n ≤ L.length) (hg : g = w.heap.size) : TxtV (w.alloc (Obj.cells (L.map Opn.sv).toArray t)) (.slice (some ⟨g, 0, none⟩) n cp) (L.take n) := by
  subst hg
  refine ⟨_, _, _, rfl, by simp; omega, fun j hj => ⟨w.heap.size, 0, rfl, by simp, ?_⟩⟩
  have h1 : j < L.length := by simp at hj; omega
  rw [Nat.zero_add, World.cell?_alloc_at _ _ _ _ rfl, List.getElem?_toArray, List.getElem?_map, List.getElem?_eq_getElem h1]
  simp [Opn.sv]
theorem lp_at (s : ByteArray) (S : List UInt8) (r : Int × LV) (w : World) (hs : s.size ≤ 800000) (hS : Hid (s.data.toList = S)) (h : Hid (lnP S = r)) :
    Calls Try.prog 15 #[.string s] w (LpQ r w) := by
  rw [← h.out]
  exact lp_to s S w hs hS
theorem wk18_1 : lnP [82, 68, 65, 84, 69, 59, 84, 90, 73, 68, 61, 34, 97, 58, 98, 34, 44, 99, 58, 120, 58, 121] = (0, ⟨[82, 68, 65, 84, 69], [⟨[84, 90, 73, 68], [[97, 58, 98], [99]]⟩], [120, 58, 121]⟩) := by decide +kernel
theorem wk18_2 : lnT ⟨[82, 68, 65, 84, 69], [⟨[84, 90, 73, 68], [[97, 58, 98], [99]]⟩], [120, 58, 121]⟩ = [82, 68, 65, 84, 69, 59, 84, 90, 73, 68, 61, 34, 97, 58, 98, 34, 44, 99, 58, 120, 58, 121] ∧ lnE ⟨[82, 68, 65, 84, 69], [⟨[84, 90, 73, 68], [[97, 58, 98], [99]]⟩], [120, 58, 121]⟩ = 0 := by decide +kernel
theorem wk18_3 : lnP [82, 68, 65, 84, 69] = (18, LV.zero) := by decide +kernel
theorem wk18_4 : pmL [116, 122, 105, 100] [⟨[84, 90, 73, 68], [[97, 58, 98], [99]]⟩] = some [[97, 58, 98], [99]] := by decide +kernel
theorem wk18_5 : lnE ⟨[], [], []⟩ = 18 := by decide +kernel
set_option maxHeartbeats 6400000 in
set_option maxRecDepth 100000 in
theorem wakes18_any (w : World) :
    Calls Try.prog 23 #[] w fun e w' => e = .returned (.bool true) ∧ Below w.heap.size w w' := by
  have W1 := Lib.hid wk18_1
  have W2 := Lib.hid wk18_2
  have W3 := Lib.hid wk18_3
  have W5 := Lib.hid wk18_5
  go_enter Try.func23, Try.ntmps23
  go_wp2_with fail
  refine (lp_at _ [82, 68, 65, 84, 69, 59, 84, 90, 73, 68, 61, 34, 97, 58, 98, 34, 44, 99, 58, 120, 58, 121] (0, ⟨[82, 68, 65, 84, 69], [⟨[84, 90, 73, 68], [[97, 58, 98], [99]]⟩], [120, 58, 121]⟩) _ (by decide) (Lib.hid rfl) W1).mono ?_
  rintro e w1 ⟨pv, rfl, hq, b1⟩
  have Q1 := Lib.hid hq.out.1
  have B1 := Lib.hid b1
  have L1 := Lib.hid hq.out.2.2.2.2
  clear hq b1
  obtain ⟨a0, n0, c0, hpv⟩ : ∃ a n c, pv = .slice a n c := by obtain ⟨a, n, c, h, _⟩ := Q1.out; exact ⟨a, n, c, h⟩
  subst hpv
  have C1 := Lib.hid (Cs.new w1 [.string ⟨([82, 68, 65, 84, 69] : List UInt8).toArray⟩, .slice a0 n0 c0, .string ⟨([120, 58, 121] : List UInt8).toArray⟩] 24)
  go_wp2_with fail
  refine (ltx_to [82, 68, 65, 84, 69] [120, 58, 121] _ [⟨[84, 90, 73, 68], [[97, 58, 98], [99]]⟩] [82, 68, 65, 84, 69, 59, 84, 90, 73, 68, 61, 34, 97, 58, 98, 34, 44, 99, 58, 120, 58, 121] 0 _ (by decide) (by decide) (Q1.out.below ((Below.refl _ _).alloc (Nat.le_refl _) _)) (by decide) L1.out (by decide) W2).mono ?_
  rintro e w2 ⟨rfl, b2⟩
  have C2 := Lib.hid (C1.out.below b2)
  have Q2 := Lib.hid ((Q1.out.below ((Below.refl _ _).alloc (Nat.le_refl _) (Obj.cells #[.string ⟨([82, 68, 65, 84, 69] : List UInt8).toArray⟩, .slice a0 n0 c0, .string ⟨([120, 58, 121] : List UInt8).toArray⟩] 24))).below b2)
  have B2 := Lib.hid (bstep (B1.out.alloc B1.out.size _) b2)
  have z0 := (C2.out.2 0 _ rfl).1
  have z1 := (C2.out.2 1 _ rfl).1
  have z2 := (C2.out.2 2 _ rfl).1
  clear b2 C1 Q1
  obtain ⟨bb, off, cc, hf, hbb, hcc⟩ := Q2.out.form (by decide)
  obtain ⟨rfl, rfl, rfl⟩ : a0 = some ⟨bb, off, none⟩ ∧ n0 = 1 ∧ c0 = cc := by injection hf with h1 h2 h3; exact ⟨h1, h2, h3⟩
  go_wp2_with fail
  refine (lpm_4 [82, 68, 65, 84, 69] [120, 58, 121] bb off c0 [⟨[84, 90, 73, 68], [[97, 58, 98], [99]]⟩] _ [116, 122, 105, 100] _ (by decide) (Lib.hid rfl) hbb (Lib.hid hcc) (by decide) (Lib.hid (by decide))).mono ?_
  rintro e w3 ⟨v, ok, rfl, hv, b3⟩
  have hv := hv.out
  rw [wk18_4] at hv
  obtain ⟨hok, hv2⟩ : ok = true ∧ TxtV w3 v [[97, 58, 98], [99]] := by first | exact hv | exact ⟨hv.1, hv.2⟩ | (simpa using hv)
  subst hok
  have C3 := Lib.hid (C2.out.below b3)
  have V3 := Lib.hid hv2
  have B3 := Lib.hid (bstep B2.out b3)
  clear hv hv2 b3 z0 z1 z2 C2 Q2 hcc
  go_wp2_with fail
  refine (lp_at _ [82, 68, 65, 84, 69] (18, LV.zero) _ (by decide) (Lib.hid rfl) W3).mono ?_
  rintro e w4 ⟨pv4, rfl, hq, b4⟩
  obtain ⟨a4, c4, rfl⟩ := hq.out.1.nil
  have C4 := Lib.hid ((C3.out.below b4).alloc (Obj.cells #[.string ⟨#[]⟩, .slice a4 0 c4, .string ⟨#[]⟩] 24))
  have V4 := Lib.hid ((V3.out.below b4).below ((Below.refl _ _).alloc (Nat.le_refl _) (Obj.cells #[.string ⟨#[]⟩, .slice a4 0 c4, .string ⟨#[]⟩] 24)))
  have C4' := Lib.hid (C3.out.below b4)
  have gq : w1.heap.size < w4.heap.size := C4'.out.1
  have B4 := Lib.hid (bstep B3.out b4)
  have z0 := (C4'.out.2 0 _ rfl).1
  have z2 := (C4'.out.2 2 _ rfl).1
  obtain ⟨va, vn, hvv⟩ := V3.out.slice
  subst hvv
  clear hq b4 C3 V3
  simp only [LV.zero]
  go_wp2_with fail
  refine (Opn.texts_any _ _ [[97, 58, 98], [99]] [[97, 58, 98], [99]] _ (V4.out.below ((Below.refl _ _).alloc (Nat.le_refl _) _)) (txt_new [[97, 58, 98], [99]] 2 2 _ _ _ (by decide) (by simp)) (by decide) (by decide)).mono ?_
  rintro e w5 ⟨b5, rfl, hb5, m5, rfl⟩
  obtain rfl : b5 = true := by rw [hb5.out]; decide
  clear hb5
  go_wp2_with fail
  refine (lchk_to [] [] _ [] 18 _ (by decide) (by decide) (ParsV.none _) (by decide) (by simp) W5).mono ?_
  rintro e w6 ⟨rfl, b6⟩
  go_wp2
  go_ret
  exact ⟨rfl, bstep (show Below w.heap.size w _ from by repeat (first | with_reducible exact B4.out | refine below_drewN ?_ _ | refine Below.alloc ?_ (by have := B4.out.size; simp; omega) _)) b6⟩
end Lin
end Go.Proofs.Ytdakpncfophjnaa
