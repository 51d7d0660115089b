/-
  The reference's ParseRule. (Written by gen/gen_ruxp.py.)
-/
import Derived.Test.YtopmcelfmkeamaaGreatDoorRuxB
import Derived.Test.YtopmcelfmkeamaaGreatDoorRRul
import Derived.Test.YtopmcelfmkeamaaGreatDoorRefOn2
import Derived.Test.YtopmcelfmkeamaaGreatDoorBdU
import Derived.Test.YtopmcelfmkeamaaGreatDoorCel
import Derived.BigRegion
namespace Go.Proofs.YtopmcelfmkeamaaGreatDoor
open Go.RowKit
namespace Rul
open Sol Clk Cel
theorem cells11 {g : Nat} {w : World} {v0 v1 v2 v3 v4 v5 v6 v7 v8 v9 v10 : Value} (h : Cs g w [v0, v1, v2, v3, v4, v5, v6, v7, v8, v9, v10]) :
    (w.cell? ⟨g, 0, none⟩ = some v0 ∧ w.cell? ⟨g, 1, none⟩ = some v1 ∧ w.cell? ⟨g, 2, none⟩ = some v2 ∧ w.cell? ⟨g, 3, none⟩ = some v3 ∧ w.cell? ⟨g, 4, none⟩ = some v4 ∧ w.cell? ⟨g, 5, none⟩ = some v5 ∧ w.cell? ⟨g, 6, none⟩ = some v6 ∧ w.cell? ⟨g, 7, none⟩ = some v7 ∧ w.cell? ⟨g, 8, none⟩ = some v8 ∧ w.cell? ⟨g, 9, none⟩ = some v9 ∧ w.cell? ⟨g, 10, none⟩ = some v10) ∧ w.frozen? ⟨g, 0, none⟩ = false ∧ w.frozen? ⟨g, 1, none⟩ = false ∧ w.frozen? ⟨g, 2, none⟩ = false ∧ w.frozen? ⟨g, 3, none⟩ = false ∧ w.frozen? ⟨g, 4, none⟩ = false ∧ w.frozen? ⟨g, 5, none⟩ = false ∧ w.frozen? ⟨g, 6, none⟩ = false ∧ w.frozen? ⟨g, 7, none⟩ = false ∧ w.frozen? ⟨g, 8, none⟩ = false ∧ w.frozen? ⟨g, 9, none⟩ = false ∧ w.frozen? ⟨g, 10, none⟩ = false :=
  ⟨⟨(h.2 0 _ rfl).1, (h.2 1 _ rfl).1, (h.2 2 _ rfl).1, (h.2 3 _ rfl).1, (h.2 4 _ rfl).1, (h.2 5 _ rfl).1, (h.2 6 _ rfl).1, (h.2 7 _ rfl).1, (h.2 8 _ rfl).1, (h.2 9 _ rfl).1, (h.2 10 _ rfl).1⟩, (h.2 0 _ rfl).2, (h.2 1 _ rfl).2, (h.2 2 _ rfl).2, (h.2 3 _ rfl).2, (h.2 4 _ rfl).2, (h.2 5 _ rfl).2, (h.2 6 _ rfl).2, (h.2 7 _ rfl).2, (h.2 8 _ rfl).2, (h.2 9 _ rfl).2, (h.2 10 _ rfl).2⟩
theorem set11 {g : Nat} {w : World} {v0 v1 v2 v3 v4 v5 v6 v7 v8 v9 v10 : Value} (h : Cs g w [v0, v1, v2, v3, v4, v5, v6, v7, v8, v9, v10]) (u0 u1 u2 u3 u4 u5 u6 u7 u8 u9 u10 : Value) :
    Cs g (((((((((((w.setCell ⟨g, 0, none⟩ u0).setCell ⟨g, 1, none⟩ u1).setCell ⟨g, 2, none⟩ u2).setCell ⟨g, 3, none⟩ u3).setCell ⟨g, 4, none⟩ u4).setCell ⟨g, 5, none⟩ u5).setCell ⟨g, 6, none⟩ u6).setCell ⟨g, 7, none⟩ u7).setCell ⟨g, 8, none⟩ u8).setCell ⟨g, 9, none⟩ u9).setCell ⟨g, 10, none⟩ u10) [u0, u1, u2, u3, u4, u5, u6, u7, u8, u9, u10] :=
  (((((((((((h.set 0 (by simp) u0).set 1 (by simp) u1).set 2 (by simp) u2).set 3 (by simp) u3).set 4 (by simp) u4).set 5 (by simp) u5).set 6 (by simp) u6).set 7 (by simp) u7).set 8 (by simp) u8).set 9 (by simp) u9).set 10 (by simp) u10)
theorem below11 {w0 w : World} {g : Nat} (hg : w0.heap.size ≤ g) (h : Below w0.heap.size w0 w) (u0 u1 u2 u3 u4 u5 u6 u7 u8 u9 u10 : Value) : Below w0.heap.size w0 (((((((((((w.setCell ⟨g, 0, none⟩ u0).setCell ⟨g, 1, none⟩ u1).setCell ⟨g, 2, none⟩ u2).setCell ⟨g, 3, none⟩ u3).setCell ⟨g, 4, none⟩ u4).setCell ⟨g, 5, none⟩ u5).setCell ⟨g, 6, none⟩ u6).setCell ⟨g, 7, none⟩ u7).setCell ⟨g, 8, none⟩ u8).setCell ⟨g, 9, none⟩ u9).setCell ⟨g, 10, none⟩ u10) :=
  (((((((((((h.setCell hg _).setCell hg _).setCell hg _).setCell hg _).setCell hg _).setCell hg _).setCell hg _).setCell hg _).setCell hg _).setCell hg _).setCell hg _)
def BlkIs (lo : Nat) (w : World) (x : Value) (vs : List Value) : Prop := ∃ g, x = .pointer (some ⟨g, 0, none⟩) ∧ lo ≤ g ∧ Cs g w vs
theorem BlkIs.new (w : World) (vs : List Value) (t : TypeId) : BlkIs w.heap.size (w.alloc (Obj.cells vs.toArray t)) (.pointer (some ⟨w.heap.size, 0, none⟩)) vs := ⟨_, rfl, Nat.le_refl _, Cs.new _ _ _⟩
theorem BlkIs.newer {lo : Nat} {w : World} (h : lo ≤ w.heap.size) (vs : List Value) (t : TypeId) : BlkIs lo (w.alloc (Obj.cells vs.toArray t)) (.pointer (some ⟨w.heap.size, 0, none⟩)) vs := ⟨_, rfl, h, Cs.new _ _ _⟩
theorem on_no {S : List UInt8} {a b c a6 v6 d6 b6 : Int} {r : Bool} (h : Onf.OnRel S a b c r) (h2 : Onf.onP S = (a6, v6, d6, b6)) (h3 : b6 ≠ 0) : r = false := by
  rcases h with ⟨_, h⟩ | ⟨h, _⟩
  · rw [h2] at h; simp only [Prod.mk.injEq] at h; exact absurd h.2.2.2 h3
  · exact h
theorem on_code (S : List UInt8) : (Onf.onP S).2.2.2 = 0 ∨ (Onf.onP S).2.2.2 = 8 := by
  unfold Onf.onP Onf.lastP Onf.besP
  (repeat' split) <;> simp
theorem on_8 {S : List UInt8} {a6 v6 d6 b6 : Int} (h2 : Onf.onP S = (a6, v6, d6, b6)) (h3 : b6 ≠ 0) : b6 = 8 := by
  rcases on_code S with h | h
  · rw [h2] at h; exact absurd h h3
  · rw [h2] at h; exact h
theorem on_yes {S : List UInt8} {a b c a6 v6 d6 : Int} {r : Bool} (h : Onf.OnRel S a b c r) (h2 : Onf.onP S = (a6, v6, d6, 0)) : a = a6 ∧ b = v6 ∧ c = d6 ∧ r = true := by
  rcases h with ⟨hr, h⟩ | ⟨_, h⟩
  · rw [h2] at h; simp only [Prod.mk.injEq] at h; exact ⟨h.1.symm, h.2.1.symm, h.2.2.1.symm, hr⟩
  · rw [h2] at h; simp only [Prod.mk.injEq] at h; exact absurd h.2.2.2 (by decide)
def sfB (S : List UInt8) : Bool := match S.getLast? with | some c => c == 115 || c == 100 | none => false
theorem sv_cases (S S8 : List UInt8) (h : svL S = S8) : (S = [] ∧ sfB S = false ∧ S8 = S) ∨ ∃ (k : Nat) (c : UInt8) (l : List UInt8), S = l ++ [c] ∧ l.length = k ∧ sfB S = (c == 115 || c == 100) ∧ S8 = if (c == 115 || c == 100) = true then l else S := by
  rcases List.eq_nil_or_concat S with rfl | ⟨l, c, rfl⟩
  · exact Or.inl ⟨rfl, rfl, h.symm⟩
  · refine Or.inr ⟨_, c, l, by simp, rfl, by simp [sfB], ?_⟩
    rw [List.concat_eq_append] at h ⊢
    rw [← h, sv_snoc]
    by_cases c1 : c = 115
    · simp [c1]
    · by_cases c2 : c = 100
      · simp [c2]
      · simp [c1, c2]
theorem mo_bd (S : List UInt8) {v : Int} (h : Wrd.rwP 2 S = v) : v ≤ 100 := by
  have h1 := Wrd.rgo_bd (m := Wrd.lstV 2) (S := S) (Wrd.wds 2) 0 (-1) (Int.le_refl _) (by decide)
  have h2 : (Wrd.wds 2).length = 12 := by decide
  have h3 : Wrd.rgo (Wrd.lstV 2) S (Wrd.wds 2) 0 (-1) = v := h
  rw [h3, h2] at h1
  omega
theorem cs_dr9 {g : Nat} {w : World} {vs : List Value} (h : Cs g w vs) : Cs g w.drew vs := h.below ⟨rfl, rfl, rfl, Nat.le_refl _, fun _ _ => rfl⟩
theorem res_by {P : Program} {fn : Func} {tmps : Array Value} {g : Nat} {W : World} {vs : List Value} {v : Value} (h : Cs g W vs) (k : ∀ W', Cs g W' vs → (results fn tmps).run P W' = .ok v W') : (results fn tmps).run P W = .ok v W := k W h
def starts (n : Nat) : Code → Bool
  | .region k _ _ => k == n
  | .seq a _ => starts n a
  | .scope a => starts n a
  | .block _ a => starts n a
  | _ => false
def from_ (n : Nat) : Code → Option Code
  | .seq a b => if starts n a = true then some (.seq a b) else from_ n b
  | c => if starts n c = true then some c else none
noncomputable def codeM : Code := (Tryz.f10.body.bind (from_ 24)).getD .skip
noncomputable def codeT : Code := (Tryz.f10.body.bind (from_ 31)).getD .skip
set_option maxHeartbeats 25600000 in
set_option maxRecDepth 100000 in
theorem rpT (bk off cp : Nat) (f1 f9 S8 lt : List UInt8) (a2 a3 v5 a6 v6 d6 a7 k7 a8 c : Int) (b8 ck : Bool) (r : RV) (Y8 : ByteArray) (w w9 : World) (gr : Nat) (hbk : bk < w.heap.size) (Q9 : Hid (w.cell? ⟨bk, off + 9, none⟩ = some (.string ⟨f9.toArray⟩)))
    (L1 : Hid (f1.length ≤ 1000)) (L8S : Hid (S8.length ≤ 1000)) (L11 : Hid (lt.length ≤ 1000)) (HY8 : Hid (Y8 = ⟨S8.toArray⟩)) (HS : Hid (clV S8 = a8 ∧ clB S8 = b8)) (HLT : Hid ((if f9 = [45] then [] else f9) = lt)) (HCK : Hid (chkB ⟨f1, a2, a3, v5 + 1, a6, v6, d6, a7, k7, a8, lt⟩ = ck)) (HH : Hid ((if b8 = false then (5, RV.zero) else if ck = false then (10, RV.zero) else (0, (⟨f1, a2, a3, v5 + 1, a6, v6, d6, a7, k7, a8, lt⟩ : RV))) = (c, r)))
    (d2 : gr ≠ w.heap.size) (d3 : gr ≠ w.heap.size + 1) (gw : w.heap.size ≤ gr)
    (R9 : Hid (Cs gr w9 [.string ⟨f1.toArray⟩, .int .i64 a2, .int .i64 a3, .int .i64 (v5 + 1), .int .i64 a6, .int .i64 v6, .int .i64 d6, .int .i64 a7, .int .i64 k7, .int .i64 0, .string ⟨#[]⟩])) (C09 : Hid (Cs w.heap.size w9 [.string ⟨#[]⟩, .int .i64 0, .int .i64 0, .int .i64 0, .int .i64 0, .int .i64 0, .int .i64 0, .int .i64 0, .int .i64 0, .int .i64 0, .string ⟨#[]⟩])) (C19 : Hid (Cs (w.heap.size + 1) w9 [.string ⟨#[]⟩, .int .i64 0, .int .i64 0, .int .i64 0, .int .i64 0, .int .i64 0, .int .i64 0, .int .i64 0, .int .i64 0, .int .i64 0, .string ⟨#[]⟩])) (B9 : Hid (Below w.heap.size w w9))
    (x1 x6 x7 x8 x9 x10 x11 x12 x14 x15 x16 x17 x18 x19 x20 x21 x22 x23 x24 x25 x26 x27 x28 x29 x30 x31 x32 x33 x34 x35 x36 x37 x38 x39 x40 x41 x42 x43 x44 x45 x46 x47 x48 x49 x50 x51 x52 x53 x54 x55 x56 x57 x58 x59 x60 x61 x62 x63 x64 x65 x66 x67 x68 x69 x70 x71 x72 x73 x74 x75 x76 x77 x78 x79 x80 x81 x82 x83 x84 x85 x86 x87 x88 x89 x90 x91 x92 x93 x94 x95 x96 x97 x98 x99 x100 x101 x102 x103 x104 x105 x106 x107 x108 x109 x110 x111 x112 x113 x114 x115 x116 x117 x118 x119 x120 x121 x122 x123 x124 x125 x126 x127 x128 x129 x130 x131 x132 x133 x134 x135 x136 x137 x138 x139 x140 x141 x142 x143 x144 x145 x146 x147 x148 x149 x150 x151 x152 : Value) : Code.wp Tryz.prog codeT (bodyPost Tryz.prog Tryz.f10 (fun e w' => e = .returned (.tuple #[r.val, .int .i64 c]) ∧ Below w.heap.size w w')) ⟨List.toArray (.slice (some ⟨bk, off, none⟩) 10 cp :: x1 :: .pointer (some ⟨w.heap.size, 0, none⟩) :: .int .i64 0 :: .pointer (some ⟨w.heap.size + 1, 0, none⟩) :: .pointer (some ⟨gr, 0, none⟩) :: x6 :: x7 :: x8 :: x9 :: x10 :: x11 :: x12 :: .string Y8 :: x14 :: x15 :: x16 :: x17 :: x18 :: x19 :: x20 :: x21 :: x22 :: x23 :: x24 :: x25 :: x26 :: x27 :: x28 :: x29 :: x30 :: x31 :: x32 :: x33 :: x34 :: x35 :: x36 :: x37 :: x38 :: x39 :: x40 :: x41 :: x42 :: x43 :: x44 :: x45 :: x46 :: x47 :: x48 :: x49 :: x50 :: x51 :: x52 :: x53 :: x54 :: x55 :: x56 :: x57 :: x58 :: x59 :: x60 :: x61 :: x62 :: x63 :: x64 :: x65 :: x66 :: x67 :: x68 :: x69 :: x70 :: x71 :: x72 :: x73 :: x74 :: x75 :: x76 :: x77 :: x78 :: x79 :: x80 :: x81 :: x82 :: x83 :: x84 :: x85 :: x86 :: x87 :: x88 :: x89 :: x90 :: x91 :: x92 :: x93 :: x94 :: x95 :: x96 :: x97 :: x98 :: x99 :: x100 :: x101 :: x102 :: x103 :: x104 :: x105 :: x106 :: x107 :: x108 :: x109 :: x110 :: x111 :: x112 :: x113 :: x114 :: x115 :: x116 :: x117 :: x118 :: x119 :: x120 :: x121 :: x122 :: x123 :: x124 :: x125 :: x126 :: x127 :: x128 :: x129 :: x130 :: x131 :: x132 :: x133 :: x134 :: x135 :: x136 :: x137 :: x138 :: x139 :: x140 :: x141 :: x142 :: x143 :: x144 :: x145 :: x146 :: x147 :: x148 :: x149 :: x150 :: x151 :: x152 :: []), []⟩ w9 := by
  conv => arg 2; whnf
--@14
  go_upto_region 31 with fail
  go_cut [11] (fun y wz => y = .bool b8 ∧ Hid (Cs gr wz [.string ⟨f1.toArray⟩, .int .i64 a2, .int .i64 a3, .int .i64 (v5 + 1), .int .i64 a6, .int .i64 v6, .int .i64 d6, .int .i64 a7, .int .i64 k7, .int .i64 a8, .string ⟨#[]⟩]) ∧ Hid (Cs w.heap.size wz [.string ⟨#[]⟩, .int .i64 0, .int .i64 0, .int .i64 0, .int .i64 0, .int .i64 0, .int .i64 0, .int .i64 0, .int .i64 0, .int .i64 0, .string ⟨#[]⟩]) ∧ Hid (Cs (w.heap.size + 1) wz [.string ⟨#[]⟩, .int .i64 0, .int .i64 0, .int .i64 0, .int .i64 0, .int .i64 0, .int .i64 0, .int .i64 0, .int .i64 0, .int .i64 0, .string ⟨#[]⟩]) ∧ Hid (Below w.heap.size w wz))
  case first =>
    go_wp2_with fail
    refine (Atf.rclock_l Y8 S8 a8 b8 _ L8S.out (Lib.hid (by rw [HY8.out])) HS).mono ?_
    rintro e w10 ⟨rfl, m10⟩
    have R10 := Lib.hid (R9.out.below m10)
    have r0 := R10.out.1
    have z9 := (R10.out.2 9 _ rfl).1
    have y9 := (R10.out.2 9 _ rfl).2
    go_wp2
    go_meet
    have D := R10.out.set 9 (by simp) (.int .i64 a8)
    simp only [List.set_cons_succ, List.set_cons_zero] at D
    exact ⟨rfl, Lib.hid D, Lib.hid ((C09.out.below m10).other d2 _), Lib.hid ((C19.out.below m10).other d3 _), Lib.hid ((bstep B9.out m10).setCell gw _)⟩
  case rest =>
  obtain ⟨w11, rfl⟩ : ∃ x : World, x = wc := ⟨_, rfl⟩
  obtain ⟨rfl, R11, C011, C111, B11⟩ := hcut
  clear R9 C09 C19 B9 HS HY8 L8S
  cases b8 with
  | false =>
    have hc := HH.out
    rw [if_pos rfl] at hc
    obtain ⟨rfl, rfl⟩ := Prod.mk.inj hc
    clear hc HH
--<x
    obtain ⟨⟨s0, s1, s2, s3, s4, s5, s6, s7, s8, s9, s10⟩, y0, y1, y2, y3, y4, y5, y6, y7, y8, y9, y10⟩ := cells11 C011.out
    obtain ⟨⟨z0, z1, z2, z3, z4, z5, z6, z7, z8, z9, z10⟩, _⟩ := cells11 C111.out
    go_wp2
    exact bodyPost_ret (v := .tuple #[.agg #[.string ⟨#[]⟩, .int .i64 0, .int .i64 0, .int .i64 0, .int .i64 0, .int .i64 0, .int .i64 0, .int .i64 0, .int .i64 0, .int .i64 0, .string ⟨#[]⟩], .int .i64 5]) (res_by (set11 C011.out _ _ _ _ _ _ _ _ _ _ _) (fun W h => by obtain ⟨⟨u0, u1, u2, u3, u4, u5, u6, u7, u8, u9, u10⟩, _⟩ := cells11 h; simp [results, Tryz.results10, go_sem, u0, u1, u2, u3, u4, u5, u6, u7, u8, u9, u10])) rfl ⟨rfl, below11 (Nat.le_refl _) B11.out _ _ _ _ _ _ _ _ _ _ _⟩
--x>
  | true =>
  have p9 := (B11.out.cell (p := ⟨bk, off + 9, none⟩) hbk).trans Q9.out
  obtain ⟨n9, hn9⟩ : ∃ b : Bool, b = !decide (f9 = [45]) := ⟨_, rfl⟩
  have HN9 := Lib.hid hn9
  clear hn9
  go_upto_region 34 with fail
  go_cut [143] (fun v wz => v = .bool n9 ∧ w11 = wz)
  case first =>
    by_cases e0 : f9 = [45]
    · have hq : n9 = false := by rw [HN9.out, decide_eq_true e0]; rfl
      subst hq e0
      go_wp2
      go_meet
      exact ⟨rfl, rfl⟩
    · have hq : n9 = true := by rw [HN9.out, decide_eq_false e0]; rfl
      subst hq
      have x1 : (f9 == [45]) = false := beq_eq_false_iff_ne.2 e0
      have x2 : ((⟨f9.toArray⟩ : ByteArray).toList == [45]) = false := by rw [Lib.toList_data]; exact x1
      have x3 : ¬ (⟨f9.toArray⟩ : ByteArray).toList = [45] := by rw [Lib.toList_data]; exact e0
      go_wp2
      go_meet
      exact ⟨rfl, rfl⟩
  case rest =>
  obtain ⟨rfl, hw11⟩ := hcut
  subst hw11
  have z10 := (R11.out.2 10 _ rfl).1
  have y10 := (R11.out.2 10 _ rfl).2
  have r0 := R11.out.1
  go_upto_if 143 with fail
  go_cut [] (fun wz => Hid (Cs gr wz [.string ⟨f1.toArray⟩, .int .i64 a2, .int .i64 a3, .int .i64 (v5 + 1), .int .i64 a6, .int .i64 v6, .int .i64 d6, .int .i64 a7, .int .i64 k7, .int .i64 a8, .string ⟨lt.toArray⟩]) ∧ Hid (Cs w.heap.size wz [.string ⟨#[]⟩, .int .i64 0, .int .i64 0, .int .i64 0, .int .i64 0, .int .i64 0, .int .i64 0, .int .i64 0, .int .i64 0, .int .i64 0, .string ⟨#[]⟩]) ∧ Hid (Cs (w.heap.size + 1) wz [.string ⟨#[]⟩, .int .i64 0, .int .i64 0, .int .i64 0, .int .i64 0, .int .i64 0, .int .i64 0, .int .i64 0, .int .i64 0, .int .i64 0, .string ⟨#[]⟩]) ∧ Hid (Below w.heap.size w wz))
  case first =>
    cases n9 with
    | false =>
      have e0 : f9 = [45] := by
        have := HN9.out
        by_cases q : f9 = [45]
        · exact q
        · rw [decide_eq_false q] at this; exact absurd this (by decide)
      have hl : Hid (lt = []) := Lib.hid (by rw [← HLT.out, if_pos e0])
      clear e0
      go_wp2
      go_meet
      rw [hl.out]
      exact ⟨R11, C011, C111, B11⟩
    | true =>
      have e0 : f9 ≠ [45] := by
        have := HN9.out
        intro q
        rw [decide_eq_true q] at this; exact absurd this (by decide)
      have hl : Hid (lt = f9) := Lib.hid (by rw [← HLT.out, if_neg e0])
      clear e0
      go_wp2
      go_meet
      have D := R11.out.set 10 (by simp) (.string ⟨f9.toArray⟩)
      simp only [List.set_cons_succ, List.set_cons_zero] at D
      rw [hl.out]
      exact ⟨Lib.hid D, Lib.hid (C011.out.other d2 _), Lib.hid (C111.out.other d3 _), Lib.hid (B11.out.setCell gw _)⟩
  case rest =>
  obtain ⟨w12, rfl⟩ : ∃ x : World, x = wc := ⟨_, rfl⟩
  obtain ⟨R12, C012, C112, B12⟩ := hcut
  clear R11 C011 C111 B11 z10 y10 r0 p9 HN9 HLT
--@15
  obtain ⟨⟨z0, z1, z2, z3, z4, z5, z6, z7, z8, z9, z10⟩, _⟩ := cells11 R12.out
  go_wp2_with fail
  refine (rrule_to f1 lt a2 a3 (v5 + 1) a6 v6 d6 a7 k7 a8 ck _ L1.out L11.out HCK).mono ?_
  rintro e w13 ⟨rfl, m13⟩
  clear z0 z1 z2 z3 z4 z5 z6 z7 z8 z9 z10
  have R13 := Lib.hid (R12.out.below m13)
  have C013 := Lib.hid (C012.out.below m13)
  have C113 := Lib.hid (C112.out.below m13)
  have B13 := Lib.hid (bstep B12.out m13)
  clear m13 R12 C012 C112 B12
  cases ck with
  | false =>
    have hc := HH.out
    rw [if_neg (by decide), if_pos rfl] at hc
    obtain ⟨rfl, rfl⟩ := Prod.mk.inj hc
    clear hc HH
--<x
    obtain ⟨⟨s0, s1, s2, s3, s4, s5, s6, s7, s8, s9, s10⟩, y0, y1, y2, y3, y4, y5, y6, y7, y8, y9, y10⟩ := cells11 C013.out
    obtain ⟨⟨z0, z1, z2, z3, z4, z5, z6, z7, z8, z9, z10⟩, _⟩ := cells11 C113.out
    go_wp2
    exact bodyPost_ret (v := .tuple #[.agg #[.string ⟨#[]⟩, .int .i64 0, .int .i64 0, .int .i64 0, .int .i64 0, .int .i64 0, .int .i64 0, .int .i64 0, .int .i64 0, .int .i64 0, .string ⟨#[]⟩], .int .i64 10]) (res_by (set11 C013.out _ _ _ _ _ _ _ _ _ _ _) (fun W h => by obtain ⟨⟨u0, u1, u2, u3, u4, u5, u6, u7, u8, u9, u10⟩, _⟩ := cells11 h; simp [results, Tryz.results10, go_sem, u0, u1, u2, u3, u4, u5, u6, u7, u8, u9, u10])) rfl ⟨rfl, below11 (Nat.le_refl _) B13.out _ _ _ _ _ _ _ _ _ _ _⟩
--x>
  | true =>
  have hc := HH.out
  rw [if_neg (by decide), if_neg (by decide)] at hc
  obtain ⟨rfl, rfl⟩ := Prod.mk.inj hc
  clear hc HH
--<x
  obtain ⟨⟨s0, s1, s2, s3, s4, s5, s6, s7, s8, s9, s10⟩, y0, y1, y2, y3, y4, y5, y6, y7, y8, y9, y10⟩ := cells11 C013.out
  obtain ⟨⟨z0, z1, z2, z3, z4, z5, z6, z7, z8, z9, z10⟩, _⟩ := cells11 R13.out
  go_wp2
  exact bodyPost_ret (v := .tuple #[.agg #[.string ⟨f1.toArray⟩, .int .i64 a2, .int .i64 a3, .int .i64 (v5 + 1), .int .i64 a6, .int .i64 v6, .int .i64 d6, .int .i64 a7, .int .i64 k7, .int .i64 a8, .string ⟨lt.toArray⟩], .int .i64 0]) (res_by (set11 C013.out _ _ _ _ _ _ _ _ _ _ _) (fun W h => by obtain ⟨⟨u0, u1, u2, u3, u4, u5, u6, u7, u8, u9, u10⟩, _⟩ := cells11 h; simp [results, Tryz.results10, go_sem, u0, u1, u2, u3, u4, u5, u6, u7, u8, u9, u10])) rfl ⟨rfl, below11 (Nat.le_refl _) B13.out _ _ _ _ _ _ _ _ _ _ _⟩
--x>
end Rul
end Go.Proofs.YtopmcelfmkeamaaGreatDoor
