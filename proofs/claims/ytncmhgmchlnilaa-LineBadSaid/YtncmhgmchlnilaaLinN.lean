/-
  LineBad: texts that are no lines. (Written by gen/gen_linn.py.)
-/
import Derived.Test.YtncmhgmchlnilaaLinW
namespace Go.Proofs.Ytncmhgmchlnilaa
open Go.RowKit
namespace Lin
open CutB Cel
open Opn (TxtV)
set_option maxHeartbeats 3200000 in
set_option maxRecDepth 100000 in
theorem kln_zz (a : Option Addr) (c : Nat) (w : World) :
    Calls Try.prog 15 #[.agg #[.string ⟨#[]⟩, .slice a 0 c, .string ⟨#[]⟩], .agg #[.string ⟨#[]⟩, .slice none 0 0, .string ⟨#[]⟩]] w fun e w' => e = .returned (.bool true) ∧ Below w.heap.size w w' := by
  have C0 := Lib.hid ((Cs.new w [.string ⟨#[]⟩, .slice a 0 c, .string ⟨#[]⟩] 24).alloc (Obj.cells #[.string ⟨#[]⟩, .slice none 0 0, .string ⟨#[]⟩] 24))
  go_enter Try.func15, Try.ntmps15
  go_wp2
  go_loopw [5] (fun i wr => i = .int .i64 0 ∧ Cs w.heap.size wr [.string ⟨#[]⟩, .slice a 0 c, .string ⟨#[]⟩] ∧ Below w.heap.size w wr) (fun _ _ => 0)
  case atStart => exact ⟨rfl, C0.out, ((Below.refl _ _).alloc (Nat.le_refl _) _).alloc (by simp) _⟩
  case round =>
    obtain ⟨rfl, hc, hb⟩ := hrel
    have z1 := (hc.2 1 _ rfl).1
    go_wp2
    go_ret
    exact ⟨rfl, hb⟩
def bdT : Nat → List UInt8 := fun k => (([[], [65], [58, 120], [65, 59, 66, 58, 120], [65, 59, 61, 98, 58, 120], [65, 59, 66, 61, 34, 99, 58, 120], [65, 59, 66, 61, 99, 34, 100, 58, 120], [65, 95, 66, 58, 120], [65, 59, 66, 61, 34, 99, 34, 100, 58, 120], [65, 32, 66, 58, 120], [65, 59, 66, 61, 99, 59, 58, 120], [65, 58, 1], [65, 59, 66, 61, 2, 58, 120], [65, 59, 66, 61, 34, 99, 34], [65, 61, 98, 58, 120]] : List (List UInt8))).getD k []
theorem bd_all : ∀ k < 15, lnP (bdT k) = (18, LV.zero) ∧ (bdT k).length ≤ 20 := by decide +kernel
theorem bd_good : lnP [65, 59, 66, 61, 58] = (0, ⟨[65], [⟨[66], [[]]⟩], []⟩) := by decide +kernel
theorem nat_u (x : Int) (k : Int) (hk : 0 < k) : ∃ n : Nat, (IntKind.u64.wrap x).tmod k = (n : Int) ∧ (n : Int) < k := by
  have h0 : 0 ≤ (IntKind.u64.wrap x).tmod k := Int.tmod_nonneg _ (by rw [IntKind.wrap_u64]; omega)
  have h1 := Int.tmod_lt_of_pos (IntKind.u64.wrap x) hk
  exact ⟨((IntKind.u64.wrap x).tmod k).toNat, by omega, by omega⟩
set_option maxHeartbeats 6400000 in
set_option maxRecDepth 100000 in
theorem lbad_any (how : Int) (w : World) :
    Calls Try.prog 6 #[.int .i64 how] w fun e w' => e = .returned (.bool true) ∧ Below w.heap.size w w' := by
  have W2 := Lib.hid bd_good
  obtain ⟨k, ek, hk⟩ := nat_u how 15 (by decide)
  have HB := Lib.hid (bd_all k (by omega))
  have hc : (w.alloc (Obj.cells #[.string ⟨#[]⟩, .string ⟨#[65]⟩, .string ⟨#[58, 120]⟩, .string ⟨#[65, 59, 66, 58, 120]⟩, .string ⟨#[65, 59, 61, 98, 58, 120]⟩, .string ⟨#[65, 59, 66, 61, 34, 99, 58, 120]⟩, .string ⟨#[65, 59, 66, 61, 99, 34, 100, 58, 120]⟩, .string ⟨#[65, 95, 66, 58, 120]⟩, .string ⟨#[65, 59, 66, 61, 34, 99, 34, 100, 58, 120]⟩, .string ⟨#[65, 32, 66, 58, 120]⟩, .string ⟨#[65, 59, 66, 61, 99, 59, 58, 120]⟩, .string ⟨#[65, 58, 1]⟩, .string ⟨#[65, 59, 66, 61, 2, 58, 120]⟩, .string ⟨#[65, 59, 66, 61, 34, 99, 34]⟩, .string ⟨#[65, 61, 98, 58, 120]⟩] 9)).cell? ⟨w.heap.size, k, none⟩ = some (.string ⟨(bdT k).toArray⟩) := by
    rw [World.cell?_alloc_new]
    have hc : k = 0 ∨ k = 1 ∨ k = 2 ∨ k = 3 ∨ k = 4 ∨ k = 5 ∨ k = 6 ∨ k = 7 ∨ k = 8 ∨ k = 9 ∨ k = 10 ∨ k = 11 ∨ k = 12 ∨ k = 13 ∨ k = 14 := by omega
    rcases hc with rfl | rfl | rfl | rfl | rfl | rfl | rfl | rfl | rfl | rfl | rfl | rfl | rfl | rfl | rfl <;> rfl
  obtain ⟨Z, hZ⟩ : ∃ Z, bdT k = Z := ⟨_, rfl⟩
  rw [hZ] at hc HB
  have HZ : Hid ((⟨Z.toArray⟩ : ByteArray).size ≤ 800000) := Lib.hid (by have := HB.out.2; show Z.length ≤ 800000; omega)
  have HB1 := Lib.hid HB.out.1
  clear hZ HB
  go_enter Try.func6, Try.ntmps6
  go_wp2_with fail
  refine (lp_at _ Z (18, LV.zero) _ HZ.out (Lib.hid rfl) HB1).mono ?_
  rintro e w1 ⟨pv, rfl, hq, b1⟩
  obtain ⟨a1, c1, rfl⟩ := hq.out.1.nil
  have B1 := Lib.hid (bstep ((Below.refl w.heap.size w).alloc (Nat.le_refl _) _) b1)
  have C1 := Lib.hid (Cs.new w1 [.string ⟨#[]⟩, .slice a1 0 c1, .string ⟨#[]⟩] 24)
  clear hq b1 hc
  simp only [LV.zero]
  go_wp2_with fail
  refine (lp_at _ [65, 59, 66, 61, 58] (0, ⟨[65], [⟨[66], [[]]⟩], []⟩) _ (by decide) (Lib.hid rfl) W2).mono ?_
  rintro e w2 ⟨pv, rfl, hq, b2⟩
  obtain ⟨bb, off, cc, rfl, hbb, hcc⟩ := hq.out.1.form (by decide)
  obtain ⟨sv, d0, d1, ht⟩ := hcc 0 (by decide)
  obtain ⟨b3, off3, c3, rfl, hb3, hc3⟩ := ht.form (by decide)
  have d2 := hc3 0 (by decide)
  have B2 := Lib.hid (bstep (B1.out.alloc B1.out.size _) b2)
  have C2 := Lib.hid (C1.out.below b2)
  have CY := Lib.hid (Cs.new w2 [.string ⟨#[65]⟩, .slice (some ⟨bb, off, none⟩) 1 cc, .string ⟨#[]⟩] 24)
  have gq : w1.heap.size < w2.heap.size := C2.out.1
  have z0 := (C2.out.2 0 _ rfl).1
  have z1 := (C2.out.2 1 _ rfl).1
  have z2 := (C2.out.2 2 _ rfl).1
  have D1 := Lib.hid d1
  have D2 := Lib.hid d2
  clear hq b2 hcc ht hc3 d0 d1 d2
  go_wp2_with fail
  refine (kln_zz a1 c1 _).mono ?_
  rintro e w4 ⟨rfl, b4⟩
  have CY4 := Lib.hid (CY.out.below b4)
  have B4 := Lib.hid (bstep (B2.out.alloc B2.out.size _) b4)
  have bx := ((Below.refl w2.heap.size w2).alloc (Nat.le_refl _) (Obj.cells #[.string ⟨#[65]⟩, .slice (some ⟨bb, off, none⟩) 1 cc, .string ⟨#[]⟩] 24)).trans (b4.mono (by simp))
  have y1 := (CY4.out.2 1 _ rfl).1
  have y2 := (CY4.out.2 2 _ rfl).1
  have x1 := (bx.cell (p := ⟨bb, off + 0 * 2 + 1, none⟩) hbb).trans D1.out
  have x2 := (bx.cell (p := ⟨b3, off3 + 0, none⟩) hb3).trans D2.out
  have x1' : w4.cell? ⟨bb, off + 1, none⟩ = some (.slice (some ⟨b3, off3, none⟩) 1 c3) := by simpa using x1
  have x2' : w4.cell? ⟨b3, off3, none⟩ = some (.string ⟨#[]⟩) := by simpa using x2
  clear b4 bx x1 x2 z0 z1 z2
  go_wp2_with fail
  refine (wakes18_any _).mono ?_
  rintro e w5 ⟨rfl, b5⟩
  go_wp2
  go_ret
  exact ⟨rfl, bstep B4.out b5⟩
end Lin
end Go.Proofs.Ytncmhgmchlnilaa
