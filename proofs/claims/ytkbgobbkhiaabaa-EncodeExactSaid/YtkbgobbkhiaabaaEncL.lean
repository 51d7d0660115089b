/-
  EncodeExact: the law's walk. (Written by gen/gen_encl.py.)
-/
import Derived.Test.YtkbgobbkhiaabaaEncX
import Derived.Test.YtkbgobbkhiaabaaEncYC
import Derived.Test.YtkbgobbkhiaabaaEncMR
import Derived.Test.YtkbgobbkhiaabaaEncWk
import Derived.Test.YtkbgobbkhiaabaaBdT
import Derived.Test.YtkbgobbkhiaabaaRcvB
import Derived.Test.YtkbgobbkhiaabaaCelR
import Derived.Deep.CutBlock
namespace Go.Proofs.Ytkbgobbkhiaabaa
open Go.RowKit
namespace Enc
open Wk Cel
open Rcv (CV RecV LisV IntV DayV aggR SmlC KrQ)
theorem won_b (k v d : Int) (b : Bool) (w : World) (h : Hid (onOk k v d = b)) :
    Calls Try.prog 7 #[.agg #[.int .i64 k, .int .i64 v, .int .i64 d]] w fun e w' => e = .returned (.bool b) ∧ Below w.heap.size w w' :=
  (Wk.ron_any k v d w).mono fun _ _ ⟨he, hw⟩ => ⟨by rw [he, h.out], by rw [← hw]; exact (Below.refl _ _).alloc (Nat.le_refl _) _⟩
theorem no_eon {c : Int} {w w' : World} {e : Ending} (h : No c w e w') : EonQ CV.zero c w e w' := eon_no rfl h.1 h.2
set_option maxHeartbeats 3200000 in
set_option maxRecDepth 100000 in
theorem on_mon (month k v d m : Int) (w : World) (ho : onOk k v d = true) (hm : month < 1 ∨ 12 < month) :
    Calls Try.prog 4 #[.int .i64 month, .agg #[.int .i64 k, .int .i64 v, .int .i64 d], .int .i64 m] w (No 4 w) := by
  have HC := Lib.hid (chE_yes ho)
  clear ho
  by_cases h1 : month < 1
  · clear hm
    go_enter Try.func4, Try.ntmps4
    go_wp2_with fail
    refine (check_at _ _ _ _ _ HC).mono ?_
    rintro e w1 ⟨rfl, rfl⟩
    go_wp2
    exact bodyPost_ret (v := .tuple #[.agg #[.int .i64 0, .int .i64 0, .int .i64 0, .bool false, .int .i64 0, .bool false, .slice none 0 0, .slice none 0 0, .slice none 0 0, .slice none 0 0, .slice none 0 0, .slice none 0 0, .slice none 0 0, .slice none 0 0, .slice none 0 0, .int .i64 0], .int .i64 4]) (by simp [results, Try.results4, go_sem]) rfl ⟨rfl, by repeat (first | with_reducible exact Below.refl _ _ | with_reducible refine Below.setCell ?_ (by simp) _ | refine Below.alloc ?_ (by simp; try omega) _)⟩
  · have h2 : 12 < month := by omega
    clear hm
    go_enter Try.func4, Try.ntmps4
    go_wp2_with fail
    refine (check_at _ _ _ _ _ HC).mono ?_
    rintro e w1 ⟨rfl, rfl⟩
    go_wp2
    exact bodyPost_ret (v := .tuple #[.agg #[.int .i64 0, .int .i64 0, .int .i64 0, .bool false, .int .i64 0, .bool false, .slice none 0 0, .slice none 0 0, .slice none 0 0, .slice none 0 0, .slice none 0 0, .slice none 0 0, .slice none 0 0, .slice none 0 0, .slice none 0 0, .int .i64 0], .int .i64 4]) (by simp [results, Try.results4, go_sem]) rfl ⟨rfl, by repeat (first | with_reducible exact Below.refl _ _ | with_reducible refine Below.setCell ?_ (by simp) _ | refine Below.alloc ?_ (by simp; try omega) _)⟩
def enA (month k v d m : Int) : CV × Int := if onOk k v d = false then (CV.zero, 8) else if month < 1 ∨ 12 < month then (CV.zero, 4) else enO month k v d m
theorem eon_any (month k v d m : Int) (x : CV) (c : Int) (w : World) (m1 : -9223372036854775808 ≤ m) (m2 : m ≤ 9223372036854775807) (h : enA month k v d m = (x, c)) :
    Calls Try.prog 4 #[.int .i64 month, .agg #[.int .i64 k, .int .i64 v, .int .i64 d], .int .i64 m] w (EonQ x c w) := by
  rw [enA] at h
  cases ho : onOk k v d with
  | false =>
    rw [ho, if_pos rfl] at h
    obtain ⟨rfl, rfl⟩ := Prod.mk.inj h
    exact (on_bad month k v d m w ho).mono fun _ _ q => no_eon q
  | true =>
    rw [ho, if_neg (by decide)] at h
    by_cases hm : month < 1 ∨ 12 < month
    · rw [if_pos hm] at h
      obtain ⟨rfl, rfl⟩ := Prod.mk.inj h
      exact (on_mon month k v d m w ho hm).mono fun _ _ q => no_eon q
    · rw [if_neg hm] at h
      exact eon_to month k v d m x c w (by omega) ho m1 m2 (Lib.hid h)
theorem sml_en {month k v d m : Int} {x : CV} {c : Int} (h : enA month k v d m = (x, c)) : SmlC x := by
  have key : ∀ r : CV, (r = CV.zero ∨ ∃ dy md, r = rcv month dy md ∧ dy.length ≤ 1 ∧ md.length ≤ 7) → SmlC r := by
    rintro r (rfl | ⟨dy, md, rfl, h1, h2⟩)
    · exact ⟨by decide, by decide, by decide, by decide, by decide, by decide, by decide, by decide, by decide⟩
    · exact ⟨by simp [rcv], by simp [rcv], by simp [rcv], by simp [rcv]; omega, by simp [rcv]; omega, by simp [rcv], by simp [rcv], by simp [rcv], by simp [rcv]⟩
  refine key x ?_
  rw [enA] at h
  split at h
  · exact Or.inl (Prod.mk.inj h).1.symm
  · split at h
    · exact Or.inl (Prod.mk.inj h).1.symm
    · rw [enO] at h
      cases hr : enR month k v d m with
      | none => rw [hr] at h; exact Or.inl (Prod.mk.inj (show (CV.zero, (17 : Int)) = (x, c) from h)).1.symm
      | some r =>
        rw [hr] at h
        obtain ⟨rfl, _⟩ := Prod.mk.inj (show (r, (0 : Int)) = (x, c) from h)
        right
        unfold enR at hr
        repeat' split at hr
        all_goals first
          | (cases hr; done)
          | (obtain rfl := Option.some.inj hr; exact ⟨_, _, rfl, by simp, by simp [sevL]⟩)
/-- A rule's block: its cells, its lists. -/
def EnR (g : Nat) (w : World) (x : CV) : Prop := ∃ s6 s7 s8 s9 s10 s11 s12 s13 s14 : Value, Cs g w [.int .i64 x.fq, .int .i64 x.iv, .int .i64 x.ct, .bool x.un, .int .i64 x.ua, .bool x.ut, s6, s7, s8, s9, s10, s11, s12, s13, s14, .int .i64 x.wk] ∧ LisV w x s6 s7 s8 s9 s10 s11 s12 s13 s14
theorem EnR.below {g : Nat} {w w' : World} {x : CV} (h : EnR g w x) (hb : Below w.heap.size w w') : EnR g w' x := by
  obtain ⟨s6, s7, s8, s9, s10, s11, s12, s13, s14, h1, h2⟩ := h
  exact ⟨s6, s7, s8, s9, s10, s11, s12, s13, s14, h1.below hb, h2.below hb⟩
theorem EnR.of0 {g : Nat} {w : World} (h : Cs g w [.int .i64 0, .int .i64 0, .int .i64 0, .bool false, .int .i64 0, .bool false, .slice none 0 0, .slice none 0 0, .slice none 0 0, .slice none 0 0, .slice none 0 0, .slice none 0 0, .slice none 0 0, .slice none 0 0, .slice none 0 0, .int .i64 0]) : EnR g w CV.zero := ⟨_, _, _, _, _, _, _, _, _, h, ⟨IntV.none _, IntV.none _, IntV.none _, DayV.none _, IntV.none _, IntV.none _, IntV.none _, IntV.none _, IntV.none _⟩⟩
theorem EnR.of_rec {g : Nat} {w : World} {x : CV} {v0 v1 v2 v3 v4 v5 v6 v7 v8 v9 v10 v11 v12 v13 v14 v15 : Value} (h : Cs g w [v0, v1, v2, v3, v4, v5, v6, v7, v8, v9, v10, v11, v12, v13, v14, v15]) (hr : RecV w (.agg #[v0, v1, v2, v3, v4, v5, v6, v7, v8, v9, v10, v11, v12, v13, v14, v15]) x) : EnR g w x := by
  obtain ⟨s6, s7, s8, s9, s10, s11, s12, s13, s14, e, hl⟩ := hr
  simp only [Rcv.aggR, Value.agg.injEq, Array.mk.injEq, List.cons.injEq, and_true] at e
  obtain ⟨rfl, rfl, rfl, rfl, rfl, rfl, rfl, rfl, rfl, rfl, rfl, rfl, rfl, rfl, rfl, rfl⟩ := e
  exact ⟨_, _, _, _, _, _, _, _, _, h, hl⟩
theorem KeepA.new (lo : Nat) (w : World) (o : Obj) : KeepA lo w (w.alloc o) :=
  ⟨fun g vs _ h => h.alloc o, fun p _ h => World.cell?_alloc_lt w o p h, by simp⟩
theorem KeepA.set {lo g i : Nat} {w w' : World} (h : KeepA lo w w') (hg : g < lo) (x : Value) : KeepA lo w (w'.setCell ⟨g, i, none⟩ x) :=
  ⟨fun b vs hb hc => (h.1 b vs hb hc).other (by omega) x, fun p hp hs => (World.cell?_setCell_other _ _ _ _ (fun k => by subst k; exact absurd hp (by simp; omega))).trans (h.2.1 p hp hs), by have := h.2.2; simpa [World.setCell] using this⟩
theorem KeepA.row {lo g : Nat} {w : World} (hg : g < lo) : ∀ (us : List Value) (o : Nat) (w' : World), KeepA lo w w' → KeepA lo w (w'.setCells g o us)
  | [], _, _, h => h
  | v :: r, o, w', h => by
    rw [World.setCells]
    exact KeepA.row hg r (o + 1) _ (h.set hg v)
theorem KeepA.set16 {lo g : Nat} {w w' : World} (h : KeepA lo w w') (hg : g < lo) (u0 u1 u2 u3 u4 u5 u6 u7 u8 u9 u10 u11 u12 u13 u14 u15 : Value) : KeepA lo w ((((((((((((((((w'.setCell ⟨g, 0, none⟩ u0).setCell ⟨g, 1, none⟩ u1).setCell ⟨g, 2, none⟩ u2).setCell ⟨g, 3, none⟩ u3).setCell ⟨g, 4, none⟩ u4).setCell ⟨g, 5, none⟩ u5).setCell ⟨g, 6, none⟩ u6).setCell ⟨g, 7, none⟩ u7).setCell ⟨g, 8, none⟩ u8).setCell ⟨g, 9, none⟩ u9).setCell ⟨g, 10, none⟩ u10).setCell ⟨g, 11, none⟩ u11).setCell ⟨g, 12, none⟩ u12).setCell ⟨g, 13, none⟩ u13).setCell ⟨g, 14, none⟩ u14).setCell ⟨g, 15, none⟩ u15) :=
  (((((((((((((((h.set hg _).set hg _).set hg _).set hg _).set hg _).set hg _).set hg _).set hg _).set hg _).set hg _).set hg _).set hg _).set hg _).set hg _).set hg _).set hg _
def BlkR (lo : Nat) (w : World) (p : Value) (x : CV) : Prop := ∃ g, p = .pointer (some ⟨g, 0, none⟩) ∧ lo ≤ g ∧ EnR g w x
theorem BlkR.of {w : World} {u : Value} {x : CV} {lo : Nat} (h : RecV w u x) (hlo : lo ≤ w.heap.size) : ∃ s6 s7 s8 s9 s10 s11 s12 s13 s14 : Value, u = .agg #[.int .i64 x.fq, .int .i64 x.iv, .int .i64 x.ct, .bool x.un, .int .i64 x.ua, .bool x.ut, s6, s7, s8, s9, s10, s11, s12, s13, s14, .int .i64 x.wk] ∧ BlkR lo (w.alloc (Obj.cells #[.int .i64 x.fq, .int .i64 x.iv, .int .i64 x.ct, .bool x.un, .int .i64 x.ua, .bool x.ut, s6, s7, s8, s9, s10, s11, s12, s13, s14, .int .i64 x.wk] 29)) (.pointer (some ⟨w.heap.size, 0, none⟩)) x := by
  obtain ⟨s6, s7, s8, s9, s10, s11, s12, s13, s14, rfl, hl⟩ := h
  exact ⟨s6, s7, s8, s9, s10, s11, s12, s13, s14, rfl, _, rfl, hlo, s6, s7, s8, s9, s10, s11, s12, s13, s14, Cs.new w _ _, hl.below ((Below.refl _ _).alloc (Nat.le_refl _) _)⟩
theorem _root_.Go.Proofs.Ytkbgobbkhiaabaa.Rcv.RecV.sl {w : World} {u : Value} {x : CV} (h : RecV w u x) : ∃ (a6 a7 a8 a9 a10 a11 a12 a13 a14 : Option Addr) (n6 c6 n7 c7 n8 c8 n9 c9 n10 c10 n11 c11 n12 c12 n13 c13 n14 c14 : Nat), u = .agg #[.int .i64 x.fq, .int .i64 x.iv, .int .i64 x.ct, .bool x.un, .int .i64 x.ua, .bool x.ut, .slice a6 n6 c6, .slice a7 n7 c7, .slice a8 n8 c8, .slice a9 n9 c9, .slice a10 n10 c10, .slice a11 n11 c11, .slice a12 n12 c12, .slice a13 n13 c13, .slice a14 n14 c14, .int .i64 x.wk] ∧ Rcv.LisV w x (.slice a6 n6 c6) (.slice a7 n7 c7) (.slice a8 n8 c8) (.slice a9 n9 c9) (.slice a10 n10 c10) (.slice a11 n11 c11) (.slice a12 n12 c12) (.slice a13 n13 c13) (.slice a14 n14 c14) := by
  obtain ⟨s6, s7, s8, s9, s10, s11, s12, s13, s14, rfl, hl⟩ := h
  obtain ⟨a6, n6, c6, e6, _⟩ := hl.h6
  obtain ⟨a7, n7, c7, e7, _⟩ := hl.h7
  obtain ⟨a8, n8, c8, e8, _⟩ := hl.h8
  obtain ⟨a9, n9, c9, e9, _⟩ := hl.h9
  obtain ⟨a10, n10, c10, e10, _⟩ := hl.h10
  obtain ⟨a11, n11, c11, e11, _⟩ := hl.h11
  obtain ⟨a12, n12, c12, e12, _⟩ := hl.h12
  obtain ⟨a13, n13, c13, e13, _⟩ := hl.h13
  obtain ⟨a14, n14, c14, e14, _⟩ := hl.h14
  subst e6 e7 e8 e9 e10 e11 e12 e13 e14
  exact ⟨_, _, _, _, _, _, _, _, _, _, _, _, _, _, _, _, _, _, _, _, _, _, _, _, _, _, _, rfl, hl⟩
theorem BlkR.mk {w : World} {x : CV} {lo : Nat} {s6 s7 s8 s9 s10 s11 s12 s13 s14 : Value} (hl : Rcv.LisV w x s6 s7 s8 s9 s10 s11 s12 s13 s14) (hlo : lo ≤ w.heap.size) : BlkR lo (w.alloc (Obj.cells #[.int .i64 x.fq, .int .i64 x.iv, .int .i64 x.ct, .bool x.un, .int .i64 x.ua, .bool x.ut, s6, s7, s8, s9, s10, s11, s12, s13, s14, .int .i64 x.wk] 29)) (.pointer (some ⟨w.heap.size, 0, none⟩)) x :=
  ⟨_, rfl, hlo, s6, s7, s8, s9, s10, s11, s12, s13, s14, Cs.new w _ _, hl.below ((Below.refl _ _).alloc (Nat.le_refl _) _)⟩
noncomputable def codeW : Code := (Try.f3.body.bind (from_ 16)).getD .skip
set_option maxHeartbeats 12800000 in
set_option maxRecDepth 100000 in
theorem eexW (c : Int) (x : CV) (w w6 : World) (gx g4 : Nat) (HSM : Hid (SmlC x)) (X6 : Hid (EnR gx w6 x)) (Y6 : Hid (EnR g4 w6 x)) (B6 : Hid (Below w.heap.size w w6))
    (x0 x1 x2 x3 x4 x5 x6 x7 x8 x9 x10 x11 x12 x13 x14 x17 x18 x19 x20 x21 x22 x25 x26 x27 x28 x29 x30 x31 x32 x33 x34 x35 x36 x37 x38 x39 x40 x41 x42 x43 x44 x45 x46 x47 x48 x49 x50 x51 x52 x53 x54 x55 x56 x57 x58 x59 x60 x61 x62 x63 x64 x65 x66 x67 x68 x69 x70 x71 x72 x73 x74 x75 x76 x77 x78 x79 x80 x81 x82 x83 x84 x85 x86 x87 x88 x89 x90 x91 x92 x93 x94 x95 : Value) : Code.wp Try.prog codeW (bodyPost Try.prog Try.f3 (fun e w' => e = .returned (.bool true) ∧ Below w.heap.size w w')) ⟨List.toArray (x0 :: x1 :: x2 :: x3 :: x4 :: x5 :: x6 :: x7 :: x8 :: x9 :: x10 :: x11 :: x12 :: x13 :: x14 :: .pointer (some ⟨gx, 0, none⟩) :: .int .i64 c :: x17 :: x18 :: x19 :: x20 :: x21 :: x22 :: .int .i64 c :: .pointer (some ⟨g4, 0, none⟩) :: x25 :: x26 :: x27 :: x28 :: x29 :: x30 :: x31 :: x32 :: x33 :: x34 :: x35 :: x36 :: x37 :: x38 :: x39 :: x40 :: x41 :: x42 :: x43 :: x44 :: x45 :: x46 :: x47 :: x48 :: x49 :: x50 :: x51 :: x52 :: x53 :: x54 :: x55 :: x56 :: x57 :: x58 :: x59 :: x60 :: x61 :: x62 :: x63 :: x64 :: x65 :: x66 :: x67 :: x68 :: x69 :: x70 :: x71 :: x72 :: x73 :: x74 :: x75 :: x76 :: x77 :: x78 :: x79 :: x80 :: x81 :: x82 :: x83 :: x84 :: x85 :: x86 :: x87 :: x88 :: x89 :: x90 :: x91 :: x92 :: x93 :: x94 :: x95 :: []), []⟩ w6 := by
  conv => arg 2; whnf
  have cc : (c == c) = true := by simp
  obtain ⟨s6, s7, s8, s9, s10, s11, s12, s13, s14, gxc, gxl⟩ := X6.out
  obtain ⟨z6, z7, z8, z9, z10, z11, z12, z13, z14, gzc, gzl⟩ := Y6.out
  obtain ⟨⟨a0, a1, a2, a3, a4, a5, a6, a7, a8, a9, a10, a11, a12, a13, a14, a15⟩, _⟩ := cells16 gxc
  obtain ⟨⟨b0, b1, b2, b3, b4, b5, b6, b7, b8, b9, b10, b11, b12, b13, b14, b15⟩, _⟩ := cells16 gzc
  clear gxc gzc Y6 X6
  go_wp2_with fail
  refine (Rcv.krec_to s6 s7 s8 s9 s10 s11 s12 s13 s14 z6 z7 z8 z9 z10 z11 z12 z13 z14 x x _ gxl gzl HSM.out HSM.out).mono ?_
  rintro e w7 ⟨b, rfl, hb, k7⟩
  obtain rfl : b = true := hb.2 rfl
  go_wp2_with fail
  refine (wakes24_any _).mono ?_
  rintro e w8 ⟨rfl, k8⟩
  go_wp2
  go_ret
  exact ⟨rfl, bstep (bstep B6.out k7) k8⟩
noncomputable def codeZ : Code := (Try.f3.body.bind (from_ 12)).getD .skip
set_option maxHeartbeats 12800000 in
set_option maxRecDepth 100000 in
theorem eexZ (month k v d m c : Int) (x : CV) (w w4 w5 : World) (gx : Nat) (m1 : -9223372036854775808 ≤ m) (m2 : m ≤ 9223372036854775807) (HX : Hid (enA month k v d m = (x, c))) (HSM : Hid (SmlC x)) (O4 : Hid (Cs w.heap.size w4 [.int .i64 k, .int .i64 v, .int .i64 d])) (X4 : Hid (EnR gx w4 x)) (B4 : Hid (Below w.heap.size w w4)) (Z5 : Hid (Cs w4.heap.size w5 [.int .i64 0, .int .i64 0, .int .i64 0, .bool false, .int .i64 0, .bool false, .slice none 0 0, .slice none 0 0, .slice none 0 0, .slice none 0 0, .slice none 0 0, .slice none 0 0, .slice none 0 0, .slice none 0 0, .slice none 0 0, .int .i64 0])) (C5 : Hid (Below w4.heap.size w4 w5))
    (x1 x3 x4 x5 x6 x7 x9 x10 x11 x12 x13 x14 x17 x18 x19 x20 x21 x22 x25 x26 x27 x28 x29 x30 x31 x32 x33 x34 x35 x36 x37 x38 x39 x40 x41 x42 x43 x44 x45 x46 x47 x48 x49 x50 x51 x52 x53 x54 x55 x56 x57 x58 x59 x60 x61 x62 x63 x64 x65 x66 x67 x68 x69 x70 x71 x72 x73 x74 x75 x76 x77 x78 x79 x80 x81 x82 x83 x84 x85 x86 x87 x88 x89 x90 x91 x92 x93 x94 x95 : Value) : Code.wp Try.prog codeZ (bodyPost Try.prog Try.f3 (fun e w' => e = .returned (.bool true) ∧ Below w.heap.size w w')) ⟨List.toArray (.int .i64 month :: x1 :: .int .i64 m :: x3 :: x4 :: x5 :: x6 :: x7 :: .pointer (some ⟨w.heap.size, 0, none⟩) :: x9 :: x10 :: x11 :: x12 :: x13 :: x14 :: .pointer (some ⟨gx, 0, none⟩) :: .int .i64 c :: x17 :: x18 :: x19 :: x20 :: x21 :: x22 :: .int .i64 0 :: .pointer (some ⟨w4.heap.size, 0, none⟩) :: x25 :: x26 :: x27 :: x28 :: x29 :: x30 :: x31 :: x32 :: x33 :: x34 :: x35 :: x36 :: x37 :: x38 :: x39 :: x40 :: x41 :: x42 :: x43 :: x44 :: x45 :: x46 :: x47 :: x48 :: x49 :: x50 :: x51 :: x52 :: x53 :: x54 :: x55 :: x56 :: x57 :: x58 :: x59 :: x60 :: x61 :: x62 :: x63 :: x64 :: x65 :: x66 :: x67 :: x68 :: x69 :: x70 :: x71 :: x72 :: x73 :: x74 :: x75 :: x76 :: x77 :: x78 :: x79 :: x80 :: x81 :: x82 :: x83 :: x84 :: x85 :: x86 :: x87 :: x88 :: x89 :: x90 :: x91 :: x92 :: x93 :: x94 :: x95 :: []), []⟩ w5 := by
  conv => arg 2; whnf
  have cc : (c == c) = true := by simp
  go_upto_block 0 with fail
  go_cut [23] (fun z w6 => z = .int .i64 c ∧ Hid (EnR w4.heap.size w6 x) ∧ Hid (Below w4.heap.size w4 w6))
  case first =>
    obtain ⟨b, hb⟩ : ∃ b, onOk k v d = b := ⟨_, rfl⟩
    have HO := Lib.hid hb
    have O5 := Lib.hid (O4.out.below C5.out)
    have q0 := (O5.out.2 0 _ rfl).1
    have q1 := (O5.out.2 1 _ rfl).1
    have q2 := (O5.out.2 2 _ rfl).1
    go_wp2_with fail
    refine (won_b k v d b _ HO).mono ?_
    rintro e w6 ⟨rfl, k6⟩
    have O6 := Lib.hid (O5.out.below k6)
    have Z6 := Lib.hid (Z5.out.below k6)
    have C6 := Lib.hid (bstep C5.out k6)
    have hx := HX.out
    rw [enA, hb] at hx
    have HX2 := Lib.hid hx
    clear hx k6 q0 q1 q2
    cases b with
    | false =>
      have HF := Lib.hid (show (CV.zero, (8 : Int)) = (x, c) from by
        have q := HX2.out
        simpa using q)
      clear HX2
      go_wp2
      go_meet
      obtain ⟨hxz, hc⟩ := Prod.mk.inj HF.out
      exact ⟨by rw [← hc], Lib.hid (by rw [← hxz]; exact EnR.of0 Z6.out), C6⟩
    | true =>
      have HX3 := Lib.hid (show (if month < 1 ∨ 12 < month then (CV.zero, (4 : Int)) else enO month k v d m) = (x, c) from by
        have q := HX2.out
        simpa using q)
      clear HX2
      by_cases g1 : month < 1
      · have HF := Lib.hid (show (CV.zero, (4 : Int)) = (x, c) from by
          have q := HX3.out
          rw [if_pos (Or.inl g1)] at q; exact q)
        clear HX3
        go_wp2
        go_meet
        obtain ⟨hxz, hc⟩ := Prod.mk.inj HF.out
        exact ⟨by rw [← hc], Lib.hid (by rw [← hxz]; exact EnR.of0 Z6.out), C6⟩
      by_cases g2 : 12 < month
      · have HF := Lib.hid (show (CV.zero, (4 : Int)) = (x, c) from by
          have q := HX3.out
          rw [if_pos (Or.inr g2)] at q; exact q)
        clear HX3
        go_wp2
        go_meet
        obtain ⟨hxz, hc⟩ := Prod.mk.inj HF.out
        exact ⟨by rw [← hc], Lib.hid (by rw [← hxz]; exact EnR.of0 Z6.out), C6⟩
      obtain ⟨y, hy⟩ : ∃ y, enR month k v d m = y := ⟨_, rfl⟩
      have HY := Lib.hid hy
      have HF := Lib.hid (show unO y = (x, c) from by
        have q := HX3.out
        rw [if_neg (by omega), enO, hy] at q; exact q)
      clear HX3 hy
      have q0 := (O6.out.2 0 _ rfl).1
      have q1 := (O6.out.2 1 _ rfl).1
      have q2 := (O6.out.2 2 _ rfl).1
      go_upto_region 8 with fail
      go_wp2_with fail
      refine (ron_to month k v d m y _ ⟨by omega, by omega⟩ hb m1 m2 HY).mono ?_
      rintro e w7 ⟨u, rfl, ⟨i0, i1, i2, b3, i4, b5, a6, a7, a8, a9, a10, a11, a12, a13, a14, n6, c6, n7, c7, n8, c8, n9, c9, n10, c10, n11, c11, n12, c12, n13, c13, n14, c14, i15, rfl⟩, hrec, k7⟩
      have HR := Lib.hid hrec
      have Z7 := Lib.hid (Z6.out.below k7)
      have C7 := Lib.hid (bstep C6.out k7)
      have hz6 := Z6.out.1
      clear hrec k7 q0 q1 q2
      cases y with
      | none =>
        have HG := Lib.hid (show (CV.zero, (17 : Int)) = (x, c) from HF.out)
        clear HF HR
        go_wp2
        go_meet
        obtain ⟨hxz, hc⟩ := Prod.mk.inj HG.out
        exact ⟨by rw [← hc], Lib.hid (by rw [← hxz]; exact EnR.of0 (Z7.out.alloc _)), Lib.hid (C7.out.alloc C7.out.size _)⟩
      | some r =>
        have HG := Lib.hid (show (r, (0 : Int)) = (x, c) from HF.out)
        clear HF
        go_upto_region 10 with fail
        have U8 := Lib.hid (Cs.new w7 [.int .i64 i0, .int .i64 i1, .int .i64 i2, .bool b3, .int .i64 i4, .bool b5, .slice a6 n6 c6, .slice a7 n7 c7, .slice a8 n8 c8, .slice a9 n9 c9, .slice a10 n10 c10, .slice a11 n11 c11, .slice a12 n12 c12, .slice a13 n13 c13, .slice a14 n14 c14, .int .i64 i15] 29)
        have Z8 := Lib.hid (Z7.out.alloc (Obj.cells #[.int .i64 i0, .int .i64 i1, .int .i64 i2, .bool b3, .int .i64 i4, .bool b5, .slice a6 n6 c6, .slice a7 n7 c7, .slice a8 n8 c8, .slice a9 n9 c9, .slice a10 n10 c10, .slice a11 n11 c11, .slice a12 n12 c12, .slice a13 n13 c13, .slice a14 n14 c14, .int .i64 i15] 29))
        have C8 := Lib.hid (C7.out.alloc C7.out.size (Obj.cells #[.int .i64 i0, .int .i64 i1, .int .i64 i2, .bool b3, .int .i64 i4, .bool b5, .slice a6 n6 c6, .slice a7 n7 c7, .slice a8 n8 c8, .slice a9 n9 c9, .slice a10 n10 c10, .slice a11 n11 c11, .slice a12 n12 c12, .slice a13 n13 c13, .slice a14 n14 c14, .int .i64 i15] 29))
        have K8 := Lib.hid (KeepA.new w6.heap.size w7 (Obj.cells #[.int .i64 i0, .int .i64 i1, .int .i64 i2, .bool b3, .int .i64 i4, .bool b5, .slice a6 n6 c6, .slice a7 n7 c7, .slice a8 n8 c8, .slice a9 n9 c9, .slice a10 n10 c10, .slice a11 n11 c11, .slice a12 n12 c12, .slice a13 n13 c13, .slice a14 n14 c14, .int .i64 i15] 29))
        obtain ⟨w8, hw8⟩ : ∃ x, w7.alloc (Obj.cells #[.int .i64 i0, .int .i64 i1, .int .i64 i2, .bool b3, .int .i64 i4, .bool b5, .slice a6 n6 c6, .slice a7 n7 c7, .slice a8 n8 c8, .slice a9 n9 c9, .slice a10 n10 c10, .slice a11 n11 c11, .slice a12 n12 c12, .slice a13 n13 c13, .slice a14 n14 c14, .int .i64 i15] 29) = x := ⟨_, rfl⟩
        have hw9 : w7.alloc (Obj.cells [.int .i64 i0, .int .i64 i1, .int .i64 i2, .bool b3, .int .i64 i4, .bool b5, .slice a6 n6 c6, .slice a7 n7 c7, .slice a8 n8 c8, .slice a9 n9 c9, .slice a10 n10 c10, .slice a11 n11 c11, .slice a12 n12 c12, .slice a13 n13 c13, .slice a14 n14 c14, .int .i64 i15].toArray 29) = w8 := hw8
        rw [hw9] at U8
        rw [hw8] at Z8 C8 K8 ⊢
        clear hw8 hw9 Z7 C7
        have KR := Lib.hid (HR.out _ rfl _ ((KeepA.row hz6 [.int .i64 i0, .int .i64 i1, .int .i64 i2, .bool b3, .int .i64 i4, .bool b5, .slice a6 n6 c6, .slice a7 n7 c7, .slice a8 n8 c8, .slice a9 n9 c9, .slice a10 n10 c10, .slice a11 n11 c11, .slice a12 n12 c12, .slice a13 n13 c13, .slice a14 n14 c14, .int .i64 i15] 0 _ K8.out)))
        have ZR := Lib.hid (Z8.out.row [.int .i64 i0, .int .i64 i1, .int .i64 i2, .bool b3, .int .i64 i4, .bool b5, .slice a6 n6 c6, .slice a7 n7 c7, .slice a8 n8 c8, .slice a9 n9 c9, .slice a10 n10 c10, .slice a11 n11 c11, .slice a12 n12 c12, .slice a13 n13 c13, .slice a14 n14 c14, .int .i64 i15] rfl)
        have CR := Lib.hid (below_setCells (Nat.le_refl _) [.int .i64 i0, .int .i64 i1, .int .i64 i2, .bool b3, .int .i64 i4, .bool b5, .slice a6 n6 c6, .slice a7 n7 c7, .slice a8 n8 c8, .slice a9 n9 c9, .slice a10 n10 c10, .slice a11 n11 c11, .slice a12 n12 c12, .slice a13 n13 c13, .slice a14 n14 c14, .int .i64 i15] 0 _ C8.out)
        refine wp_region_lit ?_
        refine wpList_load_mid rfl 29 (.tmp 25) rfl _ 0 rfl [.int .i64 i0, .int .i64 i1, .int .i64 i2, .bool b3, .int .i64 i4, .bool b5, .slice a6 n6 c6, .slice a7 n7 c7, .slice a8 n8 c8, .slice a9 n9 c9, .slice a10 n10 c10, .slice a11 n11 c11, .slice a12 n12 c12, .slice a13 n13 c13, .slice a14 n14 c14, .int .i64 i15] _ U8.out.range Try.underlying29 rfl (by kernel_rfl) ?_
        refine wpList_store_mid rfl 29 (.tmp 24) (.tmp 73) rfl _ 0 #[.int .i64 i0, .int .i64 i1, .int .i64 i2, .bool b3, .int .i64 i4, .bool b5, .slice a6 n6 c6, .slice a7 n7 c7, .slice a8 n8 c8, .slice a9 n9 c9, .slice a10 n10 c10, .slice a11 n11 c11, .slice a12 n12 c12, .slice a13 n13 c13, .slice a14 n14 c14, .int .i64 i15] rfl rfl Z8.out.there (by kernel_rfl) (by kernel_rfl) ?_
        go_wp2
        go_meet
        obtain ⟨hxz, hc⟩ := Prod.mk.inj HG.out
        subst hxz
        exact ⟨by rw [← hc], Lib.hid (EnR.of_rec ZR.out KR.out), CR⟩
  case rest =>
  obtain ⟨w6, rfl⟩ : ∃ x : World, x = wc := ⟨_, rfl⟩
  obtain ⟨rfl, Y6, C6⟩ := hcut
  rename_i hK
  exact hK _ _ (eexW c x w w6 gx w4.heap.size HSM (Lib.hid (X4.out.below C6.out)) Y6 (Lib.hid (bstep B4.out C6.out)) _ _ _ _ _ _ _ _ _ _ _ _ _ _ _ _ _ _ _ _ _ _ _ _ _ _ _ _ _ _ _ _ _ _ _ _ _ _ _ _ _ _ _ _ _ _ _ _ _ _ _ _ _ _ _ _ _ _ _ _ _ _ _ _ _ _ _ _ _ _ _ _ _ _ _ _ _ _ _ _ _ _ _ _ _ _ _ _ _ _ _ _)
set_option maxHeartbeats 12800000 in
set_option maxRecDepth 100000 in
theorem eex_any (month k v d m n ak std save now : Int) (w : World) (m1 : -9223372036854775808 ≤ m) (m2 : m ≤ 9223372036854775807) (ak1 : -9223372036854775808 ≤ ak) (ak2 : ak ≤ 9223372036854775807) (n1 : -9223372036854775808 ≤ now) (n2 : now ≤ 9223372036854775807) :
    Calls Try.prog 3 #[.int .i64 month, .agg #[.int .i64 k, .int .i64 v, .int .i64 d], .int .i64 m, .agg #[.int .i64 n, .int .i64 ak], .int .i64 std, .int .i64 save, .int .i64 now] w fun e w' => e = .returned (.bool true) ∧ Below w.heap.size w w' := by
  obtain ⟨x, c, hx⟩ : ∃ x c, enA month k v d m = (x, c) := ⟨_, _, rfl⟩
  have HSM := Lib.hid (sml_en hx)
  have HX := Lib.hid hx
  obtain ⟨mv, h1⟩ : ∃ a, mvD n ak std save now = a := ⟨_, rfl⟩
  obtain ⟨mx, h2⟩ : ∃ a, mvS n ak std save now = a := ⟨_, rfl⟩
  obtain ⟨mb, h3⟩ : ∃ a, mvB n ak std save now = a := ⟨_, rfl⟩
  have HM := Lib.hid (And.intro h1 (And.intro h2 h3))
  clear hx h1 h2 h3
  go_enter Try.func3, Try.ntmps3
  go_upto_region 0 with fail
  go_cut [8, 10] (fun p q w1 => p = .pointer (some ⟨w.heap.size, 0, none⟩) ∧ q = .pointer (some ⟨w.heap.size + 1, 0, none⟩) ∧ Hid (Cs w.heap.size w1 [.int .i64 k, .int .i64 v, .int .i64 d]) ∧ Hid (Cs (w.heap.size + 1) w1 [.int .i64 n, .int .i64 ak]) ∧ Hid (Below w.heap.size w w1))
  case first =>
    go_wp2
    go_meet
    have k0 : Cs (w.heap.size + 1) ((w.alloc (Obj.cells #[.int .i64 k, .int .i64 v, .int .i64 d] 23)).alloc (Obj.cells #[.int .i64 n, .int .i64 ak] 25)) [.int .i64 n, .int .i64 ak] := by
      have := Cs.new (w.alloc (Obj.cells #[.int .i64 k, .int .i64 v, .int .i64 d] 23)) [.int .i64 n, .int .i64 ak] 25
      rwa [show (w.alloc (Obj.cells #[.int .i64 k, .int .i64 v, .int .i64 d] 23)).heap.size = w.heap.size + 1 by simp] at this
    exact ⟨rfl, rfl, Lib.hid ((Cs.new w _ _).alloc _), Lib.hid k0, Lib.hid (((Below.refl w.heap.size w).alloc (Nat.le_refl _) _).alloc (by simp) _)⟩
  case rest =>
  obtain ⟨w1, rfl⟩ : ∃ x : World, x = wc := ⟨_, rfl⟩
  obtain ⟨rfl, rfl, O1, T1, B1⟩ := hcut
  have q0 := (O1.out.2 0 _ rfl).1
  have q1 := (O1.out.2 1 _ rfl).1
  have q2 := (O1.out.2 2 _ rfl).1
  go_upto_region 1 with fail
  go_cut [15, 16] (fun p y w2 => BlkR w1.heap.size w2 p x ∧ y = .int .i64 c ∧ Hid (Cs w.heap.size w2 [.int .i64 k, .int .i64 v, .int .i64 d]) ∧ Hid (Cs (w.heap.size + 1) w2 [.int .i64 n, .int .i64 ak]) ∧ Hid (Below w.heap.size w w2))
  case first =>
    go_wp2_with fail
    refine (eon_any month k v d m x c _ m1 m2 HX.out).mono ?_
    rintro e w2 ⟨u, rfl, hr, k2⟩
    obtain ⟨a6, a7, a8, a9, a10, a11, a12, a13, a14, n6, c6, n7, c7, n8, c8, n9, c9, n10, c10, n11, c11, n12, c12, n13, c13, n14, c14, rfl, hl⟩ := hr.sl
    have HB := Lib.hid (BlkR.mk hl k2.size)
    clear hl
    go_wp2
    go_meet
    exact ⟨HB.out, rfl, Lib.hid ((O1.out.below k2).alloc _), Lib.hid ((T1.out.below k2).alloc _), Lib.hid ((bstep B1.out k2).alloc (bstep B1.out k2).size _)⟩
  case rest =>
  obtain ⟨w2, rfl⟩ : ∃ x : World, x = wc := ⟨_, rfl⟩
  obtain ⟨⟨gx, rfl, gx1, hgx⟩, rfl, O2, T2, B2⟩ := hcut
  have X2 := Lib.hid hgx
  clear O1 T1 B1 q0 q1 q2 hgx gx1
  have t0 := (T2.out.2 0 _ rfl).1
  have t1 := (T2.out.2 1 _ rfl).1
  go_wp2_with fail
  refine (move_to n ak std save now mv mx mb _ ak1 ak2 HM).mono ?_
  rintro e w3 ⟨rfl, k3⟩
  have O3 := Lib.hid (O2.out.below k3)
  have T3 := Lib.hid (T2.out.below k3)
  have X3 := Lib.hid (X2.out.below k3)
  have B3 := Lib.hid (bstep B2.out k3)
  clear O2 T2 X2 B2 k3 t0 t1
  have t0 := (T3.out.2 0 _ rfl).1
  have t1 := (T3.out.2 1 _ rfl).1
  go_wp2_with fail
  refine (rmove_to n ak std save now mv mx mb _ HM n1 n2).mono ?_
  rintro e w4 ⟨rfl, k4⟩
  have O4 := Lib.hid (O3.out.below k4)
  have X4 := Lib.hid (X3.out.below k4)
  have B4 := Lib.hid (bstep B3.out k4)
  clear O3 T3 X3 B3 k4 t0 t1
  have zb : (mb != mb) = false := by simp
  have zv : (mv != mv) = false := by simp
  have zx : (mx != mx) = false := by simp
  go_upto_region 7 with fail
  go_cut [24] (fun p w5 => p = .pointer (some ⟨w4.heap.size, 0, none⟩) ∧ Hid (Cs w4.heap.size w5 [.int .i64 0, .int .i64 0, .int .i64 0, .bool false, .int .i64 0, .bool false, .slice none 0 0, .slice none 0 0, .slice none 0 0, .slice none 0 0, .slice none 0 0, .slice none 0 0, .slice none 0 0, .slice none 0 0, .slice none 0 0, .int .i64 0]) ∧ Hid (Below w4.heap.size w4 w5))
  case first =>
    go_wp2
    go_meet
    exact ⟨rfl, Lib.hid (Cs.new w4 _ _), Lib.hid ((Below.refl _ _).alloc (Nat.le_refl _) _)⟩
  case rest =>
  obtain ⟨w5, rfl⟩ : ∃ x : World, x = wc := ⟨_, rfl⟩
  obtain ⟨rfl, Z5, C5⟩ := hcut
  rename_i hK
  exact hK _ _ (eexZ month k v d m c x w w4 w5 gx m1 m2 HX HSM O4 X4 B4 Z5 C5 _ _ _ _ _ _ _ _ _ _ _ _ _ _ _ _ _ _ _ _ _ _ _ _ _ _ _ _ _ _ _ _ _ _ _ _ _ _ _ _ _ _ _ _ _ _ _ _ _ _ _ _ _ _ _ _ _ _ _ _ _ _ _ _ _ _ _ _ _ _ _ _ _ _ _ _ _ _ _ _ _ _ _ _ _ _ _ _ _)
end Enc
end Go.Proofs.Ytkbgobbkhiaabaa
