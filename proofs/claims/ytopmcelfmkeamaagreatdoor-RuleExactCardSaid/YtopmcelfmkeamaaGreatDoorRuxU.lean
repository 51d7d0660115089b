/-
  The reference's ParseRule. (Written by gen/gen_ruxp.py.)
-/
import Derived.Test.YtopmcelfmkeamaaGreatDoorRuxT
import Derived.BigRegion
namespace Go.Proofs.YtopmcelfmkeamaaGreatDoor
open Go.RowKit
namespace Rul
open Sol Clk Cel
set_option maxHeartbeats 25600000 in
set_option maxRecDepth 100000 in
theorem rpM (bk off cp : Nat) (f1 f8 f9 S8 lt : List UInt8) (a2 a3 v5 a6 v6 d6 a7 k7 a8 c : Int) (b8 ck : Bool) (r : RV) (w w8 : World) (gr go ga : Nat) (hbk : bk < w.heap.size) (Q8 : Hid (w.cell? ⟨bk, off + 8, none⟩ = some (.string ⟨f8.toArray⟩))) (Q9 : Hid (w.cell? ⟨bk, off + 9, none⟩ = some (.string ⟨f9.toArray⟩)))
    (L1 : Hid (f1.length ≤ 1000)) (L8 : Hid (f8.length ≤ 1000)) (L8S : Hid (S8.length ≤ 1000)) (L11 : Hid (lt.length ≤ 1000)) (HS8 : Hid (svL f8 = S8)) (HS : Hid (clV S8 = a8 ∧ clB S8 = b8)) (HLT : Hid ((if f9 = [45] then [] else f9) = lt)) (HCK : Hid (chkB ⟨f1, a2, a3, v5 + 1, a6, v6, d6, a7, k7, a8, lt⟩ = ck)) (HH : Hid ((if b8 = false then (5, RV.zero) else if ck = false then (10, RV.zero) else (0, (⟨f1, a2, a3, v5 + 1, a6, v6, d6, a7, k7, a8, lt⟩ : RV))) = (c, r)))
    (e0 : 0 ≤ v5) (mob : v5 ≤ 100) (d2 : gr ≠ w.heap.size) (d3 : gr ≠ w.heap.size + 1) (gw : w.heap.size ≤ gr) (d8 : go ≠ gr) (e1 : ga ≠ gr) (e2 : gr ≠ ga) (e3 : ga ≠ go)
    (R8 : Hid (Cs gr w8 [.string ⟨f1.toArray⟩, .int .i64 0, .int .i64 0, .int .i64 0, .int .i64 0, .int .i64 0, .int .i64 0, .int .i64 0, .int .i64 0, .int .i64 0, .string ⟨#[]⟩])) (O8 : Hid (Cs go w8 [.int .i64 a6, .int .i64 v6, .int .i64 d6])) (A8 : Hid (Cs ga w8 [.int .i64 a7, .int .i64 k7])) (C08 : Hid (Cs w.heap.size w8 [.string ⟨#[]⟩, .int .i64 0, .int .i64 0, .int .i64 0, .int .i64 0, .int .i64 0, .int .i64 0, .int .i64 0, .int .i64 0, .int .i64 0, .string ⟨#[]⟩])) (C18 : Hid (Cs (w.heap.size + 1) w8 [.string ⟨#[]⟩, .int .i64 0, .int .i64 0, .int .i64 0, .int .i64 0, .int .i64 0, .int .i64 0, .int .i64 0, .int .i64 0, .int .i64 0, .string ⟨#[]⟩])) (B8 : Hid (Below w.heap.size w w8))
    (x1 x7 x13 x14 x15 x16 x17 x18 x19 x20 x21 x22 x23 x24 x25 x26 x27 x28 x29 x30 x31 x32 x33 x34 x35 x36 x37 x38 x39 x40 x41 x42 x43 x44 x45 x46 x47 x48 x49 x50 x51 x52 x53 x54 x55 x56 x57 x58 x59 x60 x61 x62 x63 x64 x65 x66 x67 x68 x69 x70 x71 x72 x73 x74 x75 x76 x77 x78 x79 x80 x81 x82 x83 x84 x85 x86 x87 x88 x89 x90 x91 x92 x93 x94 x95 x96 x97 x98 x99 x100 x101 x102 x103 x104 x105 x106 x107 x108 x109 x110 x111 x112 x113 x114 x115 x116 x117 x118 x119 x120 x121 x122 x123 x124 x125 x126 x127 x128 x129 x130 x131 x132 x133 x134 x135 x136 x137 x138 x139 x140 x141 x142 x143 x144 x145 x146 x147 x148 x149 x150 x151 x152 : Value) : Code.wp Tryz.prog codeM (bodyPost Tryz.prog Tryz.f10 (fun e w' => e = .returned (.tuple #[r.val, .int .i64 c]) ∧ Below w.heap.size w w')) ⟨List.toArray (.slice (some ⟨bk, off, none⟩) 10 cp :: x1 :: .pointer (some ⟨w.heap.size, 0, none⟩) :: .int .i64 0 :: .pointer (some ⟨w.heap.size + 1, 0, none⟩) :: .pointer (some ⟨gr, 0, none⟩) :: .int .i64 a2 :: x7 :: .int .i64 a3 :: .int .i64 v5 :: .pointer (some ⟨go, 0, none⟩) :: .bool true :: .pointer (some ⟨ga, 0, none⟩) :: x13 :: x14 :: x15 :: x16 :: x17 :: x18 :: x19 :: x20 :: x21 :: x22 :: x23 :: x24 :: x25 :: x26 :: x27 :: x28 :: x29 :: x30 :: x31 :: x32 :: x33 :: x34 :: x35 :: x36 :: x37 :: x38 :: x39 :: x40 :: x41 :: x42 :: x43 :: x44 :: x45 :: x46 :: x47 :: x48 :: x49 :: x50 :: x51 :: x52 :: x53 :: x54 :: x55 :: x56 :: x57 :: x58 :: x59 :: x60 :: x61 :: x62 :: x63 :: x64 :: x65 :: x66 :: x67 :: x68 :: x69 :: x70 :: x71 :: x72 :: x73 :: x74 :: x75 :: x76 :: x77 :: x78 :: x79 :: x80 :: x81 :: x82 :: x83 :: x84 :: x85 :: x86 :: x87 :: x88 :: x89 :: x90 :: x91 :: x92 :: x93 :: x94 :: x95 :: x96 :: x97 :: x98 :: x99 :: x100 :: x101 :: x102 :: x103 :: x104 :: x105 :: x106 :: x107 :: x108 :: x109 :: x110 :: x111 :: x112 :: x113 :: x114 :: x115 :: x116 :: x117 :: x118 :: x119 :: x120 :: x121 :: x122 :: x123 :: x124 :: x125 :: x126 :: x127 :: x128 :: x129 :: x130 :: x131 :: x132 :: x133 :: x134 :: x135 :: x136 :: x137 :: x138 :: x139 :: x140 :: x141 :: x142 :: x143 :: x144 :: x145 :: x146 :: x147 :: x148 :: x149 :: x150 :: x151 :: x152 :: []), []⟩ w8 := by
  conv => arg 2; whnf
  have p8 := (B8.out.cell (p := ⟨bk, off + 8, none⟩) hbk).trans Q8.out
  have key := sv_cases f8 S8 HS8.out
  have lz8 : (⟨f8.toArray⟩ : ByteArray).size = f8.length := rfl
  obtain ⟨X8, hX8⟩ : ∃ X, (⟨f8.toArray⟩ : ByteArray) = X := ⟨_, rfl⟩
  have hXd : X8.data.toList = f8 := by rw [← hX8]
  rw [hX8] at p8 lz8
  have HXD := Lib.hid hXd
  have LZ8 := Lib.hid lz8
  clear hX8 hXd HS8 lz8
  go_upto_region 28 with fail
  obtain ⟨q8, hq8⟩ : ∃ b : Bool, b = sfB f8 := ⟨_, rfl⟩
  have HQ8 := Lib.hid hq8
  clear hq8
  go_cut [115] (fun v wz => v = .bool q8 ∧ w8 = wz)
  case first =>
    rcases key with ⟨k0, s0, _⟩ | ⟨k, c, l, k0, k1, k2, _⟩
    · have hz : X8.size = 0 := by rw [LZ8.out, k0]; rfl
      have hq : q8 = false := by rw [HQ8.out, s0]
      subst hq
      go_wp2
      go_meet
      exact ⟨rfl, rfl⟩
    · have hz : X8.size = k + 1 := by rw [LZ8.out, k0]; simp [k1]
      have hlt : k < X8.size := by omega
      have hc : X8[k]'hlt = c := by
        have e : X8[k]'hlt = X8.data.toList[k]'(by simpa using hlt) := by simp [ByteArray.getElem_eq_getElem_data]
        rw [e]
        have e2 : X8.data.toList = l ++ [c] := by rw [HXD.out, k0]
        rw [List.getElem_of_eq e2]
        simp [k1]
      have i1 : (X8.size : Int) - 1 = (k : Int) := by omega
      have i2 : 0 < X8.size := by omega
      have i3 : k ≤ 1000 := by
        have := L8.out
        have := LZ8.out
        omega
      have HZ := Lib.hid hz
      have hq : q8 = (c == 115 || c == 100) := by rw [HQ8.out, k2]
      clear hz k0 k2
      by_cases c1 : c = 115
      · have hq1 : q8 = true := by rw [hq, c1]; rfl
        subst hq1 c1
        clear hq
        go_wp2
        go_meet
        exact ⟨rfl, rfl⟩
      · have n1 := Esc.u8_ne (n := 115) (by decide) c1
        by_cases c2 : c = 100
        · have hq1 : q8 = true := by rw [hq, c2]; rfl
          subst hq1 c2
          clear hq
          go_wp2
          go_meet
          exact ⟨rfl, rfl⟩
        · have n2 := Esc.u8_ne (n := 100) (by decide) c2
          have hq1 : q8 = false := by rw [hq, beq_eq_false_iff_ne.2 c1, beq_eq_false_iff_ne.2 c2]; rfl
          subst hq1
          clear hq
          have n3 : ¬ c.toNat = 115 := fun q => c1 (UInt8.toNat_inj.1 q)
          have n4 : ¬ c.toNat = 100 := fun q => c2 (UInt8.toNat_inj.1 q)
          go_wp2
          all_goals (go_meet; exact ⟨congrArg Value.bool (by first | (rw [n1, n2]; rfl) | (rw [Bool.or_eq_false_iff]; exact ⟨n1, n2⟩)), rfl⟩)
  case rest =>
  obtain ⟨rfl, hw8⟩ := hcut
  subst hw8
--@12
  go_upto_if 115 with fail
  obtain ⟨Y8, hY8⟩ : ∃ Y : ByteArray, Y = ⟨S8.toArray⟩ := ⟨_, rfl⟩
  have HY8 := Lib.hid hY8
  clear hY8
  go_cut [13] (fun v wz => v = .string Y8 ∧ w8 = wz)
  case first =>
    rcases key with ⟨k0, s0, s1⟩ | ⟨k, c, l, k0, k1, k2, s1⟩
    · have hq : q8 = false := by rw [HQ8.out, s0]
      have hE : Hid (X8 = Y8) := Lib.hid (by rw [HY8.out, s1, ← HXD.out, Lib.mk_data])
      subst hq
      go_wp2
      go_meet
      exact ⟨congrArg Value.string hE.out, rfl⟩
    · have hz : X8.size = k + 1 := by rw [LZ8.out, k0]; simp [k1]
      have i1 : (X8.size : Int) - 1 = (k : Int) := by omega
      have i2 : k ≤ X8.size := by omega
      have i3 : k ≤ 1000 := by
        have := L8.out
        have := LZ8.out
        omega
      have HZ := Lib.hid hz
      cases q8 with
      | false =>
        have hE : Hid (X8 = Y8) := Lib.hid (by rw [HY8.out, s1, if_neg (by rw [← k2, ← HQ8.out]; decide), ← HXD.out, Lib.mk_data])
        clear hz k0 k2
        go_wp2
        go_meet
        exact ⟨congrArg Value.string hE.out, rfl⟩
      | true =>
        have hE : Hid (X8.extract 0 k = Y8) := Lib.hid (by
          rw [HY8.out, s1, if_pos (by rw [← k2, ← HQ8.out])]
          apply ByteArray.ext
          apply Array.toList_inj.1
          rw [Lib.extract_data, HXD.out, k0]
          simp [k1])
        clear hz k0 k2
        go_wp2
        go_meet
        exact ⟨congrArg Value.string hE.out, rfl⟩
  case rest =>
  obtain ⟨rfl, hw8⟩ := hcut
  subst hw8
  clear key p8 HQ8 HXD LZ8
--@13
  have x13 : IntKind.i64.wrap (v5 + 1) = v5 + 1 := IntWalk.i64_in _ (by omega)
  have r0 := R8.out.1
  obtain ⟨⟨z0, z1, z2, z3, z4, z5, z6, z7, z8, z9, z10⟩, y0, y1, y2, y3', y4, y5, y6, y7, y8, y9, y10⟩ := cells11 R8.out
  have o0 := (O8.out.2 0 _ rfl).1
  have o1 := (O8.out.2 1 _ rfl).1
  have o2 := (O8.out.2 2 _ rfl).1
  have t0 := (A8.out.2 0 _ rfl).1
  have t1 := (A8.out.2 1 _ rfl).1
  go_upto_region 30 with fail
  go_cut [] (fun w9 => Hid (Cs gr w9 [.string ⟨f1.toArray⟩, .int .i64 a2, .int .i64 a3, .int .i64 (v5 + 1), .int .i64 a6, .int .i64 v6, .int .i64 d6, .int .i64 a7, .int .i64 k7, .int .i64 0, .string ⟨#[]⟩]) ∧ Hid (Cs w.heap.size w9 [.string ⟨#[]⟩, .int .i64 0, .int .i64 0, .int .i64 0, .int .i64 0, .int .i64 0, .int .i64 0, .int .i64 0, .int .i64 0, .int .i64 0, .string ⟨#[]⟩]) ∧ Hid (Cs (w.heap.size + 1) w9 [.string ⟨#[]⟩, .int .i64 0, .int .i64 0, .int .i64 0, .int .i64 0, .int .i64 0, .int .i64 0, .int .i64 0, .int .i64 0, .int .i64 0, .string ⟨#[]⟩]) ∧ Hid (Below w.heap.size w w9))
  case first =>
    go_region
    go_wp2_with fail
    go_meet
    have D := ((((((((R8.out.set 1 (by simp) (.int .i64 a2)).set 2 (by simp) (.int .i64 a3)).set 3 (by simp) (.int .i64 (v5 + 1))).set 4 (by simp) (.int .i64 a6)).set 5 (by simp) (.int .i64 v6)).set 6 (by simp) (.int .i64 d6)).set 7 (by simp) (.int .i64 a7)).set 8 (by simp) (.int .i64 k7))
    simp only [List.set_cons_succ, List.set_cons_zero] at D
    exact ⟨Lib.hid (cs_dr9 D), Lib.hid (cs_dr9 ((((((((C08.out.other d2 _).other d2 _).other d2 _).other d2 _).other d2 _).other d2 _).other d2 _).other d2 _)), Lib.hid (cs_dr9 ((((((((C18.out.other d3 _).other d3 _).other d3 _).other d3 _).other d3 _).other d3 _).other d3 _).other d3 _)), Lib.hid (((((((((B8.out.setCell gw _).setCell gw _).setCell gw _).setCell gw _).setCell gw _).setCell gw _).setCell gw _).setCell gw _).drew)⟩
  case rest =>
  obtain ⟨w9, rfl⟩ : ∃ x : World, x = wc := ⟨_, rfl⟩
  obtain ⟨R9, C09, C19, B9⟩ := hcut
  clear R8 C08 C18 B8 O8 A8 z0 z1 z2 z3 z4 z5 z6 z7 z8 z9 z10 y0 y1 y2 y3' y4 y5 y6 y7 y8 y9 y10 o0 o1 o2 t0 t1 x13 r0
  rename_i hK
  exact hK _ _ (rpT bk off cp f1 f9 S8 lt a2 a3 v5 a6 v6 d6 a7 k7 a8 c b8 ck r Y8 w w9 gr hbk Q9 L1 L8S L11 HY8 HS HLT HCK HH d2 d3 gw R9 C09 C19 B9 _ _ _ _ _ _ _ _ _ _ _ _ _ _ _ _ _ _ _ _ _ _ _ _ _ _ _ _ _ _ _ _ _ _ _ _ _ _ _ _ _ _ _ _ _ _ _ _ _ _ _ _ _ _ _ _ _ _ _ _ _ _ _ _ _ _ _ _ _ _ _ _ _ _ _ _ _ _ _ _ _ _ _ _ _ _ _ _ _ _ _ _ _ _ _ _ _ _ _ _ _ _ _ _ _ _ _ _ _ _ _ _ _ _ _ _ _ _ _ _ _ _ _ _ _ _ _ _ _ _ _ _ _ _ _ _ _ _ _ _ _ _ _ _ _ _ _)
end Rul
end Go.Proofs.YtopmcelfmkeamaaGreatDoor
