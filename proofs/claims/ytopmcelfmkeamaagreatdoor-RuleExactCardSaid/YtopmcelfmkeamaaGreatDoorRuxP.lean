/-
  The reference's ParseRule. (Written by gen/gen_ruxp.py.)
-/
import Derived.Test.YtopmcelfmkeamaaGreatDoorRuxU
namespace Go.Proofs.YtopmcelfmkeamaaGreatDoor
open Go.RowKit
namespace Rul
open Sol Clk Cel
set_option maxHeartbeats 25600000 in
set_option maxRecDepth 100000 in
theorem rprule10 (bk off cp : Nat) (f0 f1 f2 f3 f4 f5 f6 f7 f8 f9 : List UInt8) (c : Int) (r : RV) (w : World) (hbk : bk < w.heap.size)
    (q0 : w.cell? ⟨bk, off, none⟩ = some (.string ⟨f0.toArray⟩)) (l0 : f0.length ≤ 1000)
    (q1 : w.cell? ⟨bk, off + 1, none⟩ = some (.string ⟨f1.toArray⟩)) (l1 : f1.length ≤ 1000)
    (q2 : w.cell? ⟨bk, off + 2, none⟩ = some (.string ⟨f2.toArray⟩)) (l2 : f2.length ≤ 1000)
    (q3 : w.cell? ⟨bk, off + 3, none⟩ = some (.string ⟨f3.toArray⟩)) (l3 : f3.length ≤ 1000)
    (q4 : w.cell? ⟨bk, off + 4, none⟩ = some (.string ⟨f4.toArray⟩)) (l4 : f4.length ≤ 1000)
    (q5 : w.cell? ⟨bk, off + 5, none⟩ = some (.string ⟨f5.toArray⟩)) (l5 : f5.length ≤ 1000)
    (q6 : w.cell? ⟨bk, off + 6, none⟩ = some (.string ⟨f6.toArray⟩)) (l6 : f6.length ≤ 1000)
    (q7 : w.cell? ⟨bk, off + 7, none⟩ = some (.string ⟨f7.toArray⟩)) (l7 : f7.length ≤ 1000)
    (q8 : w.cell? ⟨bk, off + 8, none⟩ = some (.string ⟨f8.toArray⟩)) (l8 : f8.length ≤ 1000)
    (q9 : w.cell? ⟨bk, off + 9, none⟩ = some (.string ⟨f9.toArray⟩)) (l9 : f9.length ≤ 1000)
    (h : Hid (ruP [f0, f1, f2, f3, f4, f5, f6, f7, f8, f9] = (c, r))) :
    Calls Tryz.prog 10 #[.slice (some ⟨bk, off, none⟩) 10 cp] w fun e w' => e = .returned (.tuple #[r.val, .int .i64 c]) ∧ Below w.heap.size w w' := by
  have Q0 := Lib.hid q0
  have Z0 : Hid ((⟨f0.toArray⟩ : ByteArray).size ≤ 1000) := Lib.hid l0
  have Q1 := Lib.hid q1
  have Z1 : Hid ((⟨f1.toArray⟩ : ByteArray).size ≤ 1000) := Lib.hid l1
  have Q2 := Lib.hid q2
  have Z2 : Hid ((⟨f2.toArray⟩ : ByteArray).size ≤ 1000) := Lib.hid l2
  have Q3 := Lib.hid q3
  have Z3 : Hid ((⟨f3.toArray⟩ : ByteArray).size ≤ 1000) := Lib.hid l3
  have Q4 := Lib.hid q4
  have Z4 : Hid ((⟨f4.toArray⟩ : ByteArray).size ≤ 1000) := Lib.hid l4
  have Q5 := Lib.hid q5
  have Z5 : Hid ((⟨f5.toArray⟩ : ByteArray).size ≤ 1000) := Lib.hid l5
  have Q6 := Lib.hid q6
  have Z6 : Hid ((⟨f6.toArray⟩ : ByteArray).size ≤ 1000) := Lib.hid l6
  have Q7 := Lib.hid q7
  have Z7 : Hid ((⟨f7.toArray⟩ : ByteArray).size ≤ 1000) := Lib.hid l7
  have Q8 := Lib.hid q8
  have Z8 : Hid ((⟨f8.toArray⟩ : ByteArray).size ≤ 1000) := Lib.hid l8
  have Q9 := Lib.hid q9
  have Z9 : Hid ((⟨f9.toArray⟩ : ByteArray).size ≤ 1000) := Lib.hid l9
  clear q1 q2 q3 q4 q5 q6 q7 q8 q9
  obtain ⟨v0, hv0⟩ : ∃ a, Wrd.rwP 1 f0 = a := ⟨_, rfl⟩
  obtain ⟨pb, hp4⟩ : ∃ a, decide (f4 = [45]) = a := ⟨_, rfl⟩
  obtain ⟨a2, b2, h2⟩ : ∃ a b, fromP f2 = (a, b) := ⟨_, _, rfl⟩
  obtain ⟨y3, z3, h3⟩ : ∃ a b, yrW f3 a2 = (a, b) := ⟨_, _, rfl⟩
  obtain ⟨v4, hv4⟩ : ∃ a, Wrd.rwP 4 f3 = a := ⟨_, rfl⟩
  obtain ⟨a3, b3, hT⟩ : ∃ a b, toP f3 a2 = (a, b) := ⟨_, _, rfl⟩
  obtain ⟨v5, hv5⟩ : ∃ a, Wrd.rwP 2 f5 = a := ⟨_, rfl⟩
  obtain ⟨a6, v6, d6, b6, hO⟩ : ∃ a b d e, Onf.onP f6 = (a, b, d, e) := ⟨_, _, _, _, rfl⟩
  obtain ⟨a7, hA1⟩ : ∃ a, Atf.apV f7 = a := ⟨_, rfl⟩
  obtain ⟨k7, hA2⟩ : ∃ a, Atf.apKk f7 = a := ⟨_, rfl⟩
  obtain ⟨b7, hA3⟩ : ∃ a, clB (Atf.apL f7) = a := ⟨_, rfl⟩
  obtain ⟨S8, hS8⟩ : ∃ a, svL f8 = a := ⟨_, rfl⟩
  obtain ⟨a8, hS1⟩ : ∃ a, clV S8 = a := ⟨_, rfl⟩
  obtain ⟨b8, hS2⟩ : ∃ a, clB S8 = a := ⟨_, rfl⟩
  obtain ⟨lt, hlt⟩ : ∃ a, (if f9 = [45] then [] else f9) = a := ⟨_, rfl⟩
  have l11 : lt.length ≤ 1000 := by rw [← hlt]; split; (· simp); (· exact l9)
  have l8s : S8.length ≤ 1000 := by rw [← hS8]; exact Nat.le_trans (sv_len f8) l8
  obtain ⟨ck, hck⟩ : ∃ a, chkB ⟨f1, a2, a3, v5 + 1, a6, v6, d6, a7, k7, a8, lt⟩ = a := ⟨_, rfl⟩
  have hh0 := h.out
  rw [ruP_ref f1 hv0 hp4 h2 hT hv5 hO hA1 hA2 hA3 hS8 hS1 hS2 hlt hck] at hh0
  have ht3 : (if a2 = 0 ∧ v4 = 2 then ((0 : Int), (0 : Int)) else (y3, z3)) = (a3, b3) := by rw [← h3, ← hv4, yr_to, hT]
  have HT3 := Lib.hid ht3
  have hmx : b2 = 0 → max (a2 : Int) (-1) = a2 := fun e => by
    have := from_nn (S := f2) (a := a2) (by rw [h2, e])
    omega
  have HMX := Lib.hid hmx
  have HW0 := Lib.hid hv0
  have HP4 := Lib.hid hp4
  have H2 : Hid (yrW f2 0 = (a2, b2)) := Lib.hid (by rw [yr_from, h2])
  have H3 := Lib.hid h3
  have HV4 := Lib.hid hv4
  have HV5 := Lib.hid hv5
  have HO := Lib.hid hO
  have HA := Lib.hid (And.intro hA1 (And.intro hA2 hA3))
  have HS8 := Lib.hid hS8
  have HS := Lib.hid (And.intro hS1 hS2)
  have HLT := Lib.hid hlt
  have HCK := Lib.hid hck
  have HH := Lib.hid hh0
  have L1 := Lib.hid l1
  have L7 := Lib.hid l7
  have L8 := Lib.hid l8
  have L8S := Lib.hid l8s
  have L11 := Lib.hid l11
  clear h hh0 ht3 hv0 hp4 h2 h3 hv4 hT hv5 hO hA1 hA2 hA3 hS8 hS1 hS2 hlt hck hmx l0 l1 l2 l3 l4 l5 l6 l7 l8 l9 l8s l11
  have n1 : w.heap.size ≠ bk := by omega
  have n2 : bk ≠ w.heap.size := by omega
  have n3 : w.heap.size + 1 ≠ bk := by omega
  have n4 : bk ≠ w.heap.size + 1 := by omega
  have k0 : Cs (w.heap.size + 1) ((w.alloc (Obj.cells #[.string ⟨#[]⟩, .int .i64 0, .int .i64 0, .int .i64 0, .int .i64 0, .int .i64 0, .int .i64 0, .int .i64 0, .int .i64 0, .int .i64 0, .string ⟨#[]⟩] 27)).alloc (Obj.cells #[.string ⟨#[]⟩, .int .i64 0, .int .i64 0, .int .i64 0, .int .i64 0, .int .i64 0, .int .i64 0, .int .i64 0, .int .i64 0, .int .i64 0, .string ⟨#[]⟩] 27)) [.string ⟨#[]⟩, .int .i64 0, .int .i64 0, .int .i64 0, .int .i64 0, .int .i64 0, .int .i64 0, .int .i64 0, .int .i64 0, .int .i64 0, .string ⟨#[]⟩] := by
    have := Cs.new (w.alloc (Obj.cells #[.string ⟨#[]⟩, .int .i64 0, .int .i64 0, .int .i64 0, .int .i64 0, .int .i64 0, .int .i64 0, .int .i64 0, .int .i64 0, .int .i64 0, .string ⟨#[]⟩] 27)) [.string ⟨#[]⟩, .int .i64 0, .int .i64 0, .int .i64 0, .int .i64 0, .int .i64 0, .int .i64 0, .int .i64 0, .int .i64 0, .int .i64 0, .string ⟨#[]⟩] 27
    rwa [show (w.alloc (Obj.cells #[.string ⟨#[]⟩, .int .i64 0, .int .i64 0, .int .i64 0, .int .i64 0, .int .i64 0, .int .i64 0, .int .i64 0, .int .i64 0, .int .i64 0, .string ⟨#[]⟩] 27)).heap.size = w.heap.size + 1 by simp] at this
  have K1 := Lib.hid (Cs.new w [.string ⟨#[]⟩, .int .i64 0, .int .i64 0, .int .i64 0, .int .i64 0, .int .i64 0, .int .i64 0, .int .i64 0, .int .i64 0, .int .i64 0, .string ⟨#[]⟩] 27)
  have K0 := Lib.hid k0
  clear k0
  go_enter Tryz.func10, Tryz.ntmps10
  go_wp2_with fail
  refine (Wrd.rword_to 1 _ f0 v0 _ (by decide) Z0.out (Lib.hid rfl) HW0).mono ?_
  rintro e w1 ⟨rfl, m1⟩
  have C0 := Lib.hid ((K1.out.alloc _).below m1)
  have C1 := Lib.hid (K0.out.below m1)
  have B1 : Hid (Below w.heap.size w w1) := Lib.hid (bstep (((Below.refl w.heap.size w).alloc (Nat.le_refl _) _).alloc (by simp) _) m1)
  clear K0 K1 m1 q0
  by_cases e0 : v0 = 0
  case neg =>
    have x1 : (v0 == 0) = false := beq_eq_false_iff_ne.2 e0
    have x2 : (v0 != 0) = true := bne_iff_ne.2 e0
    have hc := HH.out
    rw [rpS, if_pos e0] at hc
    obtain ⟨rfl, rfl⟩ := Prod.mk.inj hc
    clear hc HH
--<x
    obtain ⟨⟨s0, s1, s2, s3, s4, s5, s6, s7, s8, s9, s10⟩, y0, y1, y2, y3, y4, y5, y6, y7, y8, y9, y10⟩ := cells11 C0.out
    obtain ⟨⟨z0, z1, z2, z3, z4, z5, z6, z7, z8, z9, z10⟩, _⟩ := cells11 C1.out
    go_wp2
    exact bodyPost_ret (v := .tuple #[.agg #[.string ⟨#[]⟩, .int .i64 0, .int .i64 0, .int .i64 0, .int .i64 0, .int .i64 0, .int .i64 0, .int .i64 0, .int .i64 0, .int .i64 0, .string ⟨#[]⟩], .int .i64 7]) (res_by (set11 C0.out _ _ _ _ _ _ _ _ _ _ _) (fun W h => by obtain ⟨⟨u0, u1, u2, u3, u4, u5, u6, u7, u8, u9, u10⟩, _⟩ := cells11 h; simp [results, Tryz.results10, go_sem, u0, u1, u2, u3, u4, u5, u6, u7, u8, u9, u10])) rfl ⟨rfl, below11 (Nat.le_refl _) B1.out _ _ _ _ _ _ _ _ _ _ _⟩
--x>
  subst e0
  have p4 := (B1.out.cell (p := ⟨bk, off + 4, none⟩) hbk).trans Q4.out
  cases pb with
  | false =>
    have e0 : f4 ≠ [45] := of_decide_eq_false HP4.out
    have x1 : (f4 == [45]) = false := beq_eq_false_iff_ne.2 e0
    have x2 : ((⟨f4.toArray⟩ : ByteArray).toList == [45]) = false := by rw [Lib.toList_data]; exact x1
    have x3 : ¬ (⟨f4.toArray⟩ : ByteArray).toList = [45] := by rw [Lib.toList_data]; exact e0
    have hc := HH.out
    rw [rpS, if_neg (fun q => q rfl), if_pos rfl] at hc
    obtain ⟨rfl, rfl⟩ := Prod.mk.inj hc
    clear hc HH
--<x
    obtain ⟨⟨s0, s1, s2, s3, s4, s5, s6, s7, s8, s9, s10⟩, y0, y1, y2, y3, y4, y5, y6, y7, y8, y9, y10⟩ := cells11 C0.out
    obtain ⟨⟨z0, z1, z2, z3, z4, z5, z6, z7, z8, z9, z10⟩, _⟩ := cells11 C1.out
    go_wp2
    exact bodyPost_ret (v := .tuple #[.agg #[.string ⟨#[]⟩, .int .i64 0, .int .i64 0, .int .i64 0, .int .i64 0, .int .i64 0, .int .i64 0, .int .i64 0, .int .i64 0, .int .i64 0, .string ⟨#[]⟩], .int .i64 10]) (res_by (set11 C0.out _ _ _ _ _ _ _ _ _ _ _) (fun W h => by obtain ⟨⟨u0, u1, u2, u3, u4, u5, u6, u7, u8, u9, u10⟩, _⟩ := cells11 h; simp [results, Tryz.results10, go_sem, u0, u1, u2, u3, u4, u5, u6, u7, u8, u9, u10])) rfl ⟨rfl, below11 (Nat.le_refl _) B1.out _ _ _ _ _ _ _ _ _ _ _⟩
--x>
  | true =>
  have e0 : f4 = [45] := of_decide_eq_true HP4.out
  subst e0
  clear HP4
--@1
  have p1 := (B1.out.cell (p := ⟨bk, off + 1, none⟩) hbk).trans Q1.out
  have hb1 : bk < w1.heap.size := Nat.lt_of_lt_of_le hbk B1.out.size
  go_upto_region 8 with fail
  go_cut [5] (fun x w2 => BlkIs w1.heap.size w2 x [.string ⟨f1.toArray⟩, .int .i64 0, .int .i64 0, .int .i64 0, .int .i64 0, .int .i64 0, .int .i64 0, .int .i64 0, .int .i64 0, .int .i64 0, .string ⟨#[]⟩] ∧ Hid (Cs w.heap.size w2 [.string ⟨#[]⟩, .int .i64 0, .int .i64 0, .int .i64 0, .int .i64 0, .int .i64 0, .int .i64 0, .int .i64 0, .int .i64 0, .int .i64 0, .string ⟨#[]⟩]) ∧ Hid (Cs (w.heap.size + 1) w2 [.string ⟨#[]⟩, .int .i64 0, .int .i64 0, .int .i64 0, .int .i64 0, .int .i64 0, .int .i64 0, .int .i64 0, .int .i64 0, .int .i64 0, .string ⟨#[]⟩]) ∧ Hid (Below w.heap.size w w2))
  case first =>
    go_wp2
    go_meet
    exact ⟨BlkIs.new _ _ _, Lib.hid (C0.out.alloc _), Lib.hid (C1.out.alloc _), Lib.hid (B1.out.alloc B1.out.size _)⟩
  case rest =>
  obtain ⟨w2, rfl⟩ : ∃ x : World, x = wc := ⟨_, rfl⟩
  obtain ⟨⟨gr, rfl, gr1, hr2⟩, C02, C12, B2⟩ := hcut
  have hg0 := C0.out.1
  have hg1 := C1.out.1
  have R2 := Lib.hid hr2
  have d1 : bk ≠ gr := by omega
  have d2 : gr ≠ w.heap.size := by omega
  have d3 : gr ≠ w.heap.size + 1 := by omega
  have gw : w.heap.size ≤ gr := by omega
  clear hr2 p4 p1 C0 C1 B1 hb1 hg0 hg1
  have p2 := (B2.out.cell (p := ⟨bk, off + 2, none⟩) hbk).trans Q2.out
--@2
  go_wp2_with fail
  refine (ryear_to _ f2 0 a2 b2 _ Z2.out (Lib.hid rfl) H2).mono ?_
  rintro e w3 ⟨rfl, m3⟩
  have C03 := Lib.hid (C02.out.below m3)
  have C13 := Lib.hid (C12.out.below m3)
  have R3 := Lib.hid (R2.out.below m3)
  have B3 := Lib.hid (bstep B2.out m3)
  clear m3 C02 C12 R2 B2
  clear p2
  by_cases e0 : b2 = 0
  case neg =>
    have x1 : (b2 == 0) = false := beq_eq_false_iff_ne.2 e0
    have x2 : (b2 != 0) = true := bne_iff_ne.2 e0
    have hc := HH.out
    rw [rpS, if_neg (fun q => q rfl), if_neg (by decide), if_pos e0] at hc
    obtain ⟨rfl, rfl⟩ := Prod.mk.inj hc
    clear hc HH
--<x
    obtain ⟨⟨s0, s1, s2, s3, s4, s5, s6, s7, s8, s9, s10⟩, y0, y1, y2, y3, y4, y5, y6, y7, y8, y9, y10⟩ := cells11 C03.out
    obtain ⟨⟨z0, z1, z2, z3, z4, z5, z6, z7, z8, z9, z10⟩, _⟩ := cells11 C13.out
    go_wp2
    exact bodyPost_ret (v := .tuple #[.agg #[.string ⟨#[]⟩, .int .i64 0, .int .i64 0, .int .i64 0, .int .i64 0, .int .i64 0, .int .i64 0, .int .i64 0, .int .i64 0, .int .i64 0, .string ⟨#[]⟩], .int .i64 b2]) (res_by (set11 C03.out _ _ _ _ _ _ _ _ _ _ _) (fun W h => by obtain ⟨⟨u0, u1, u2, u3, u4, u5, u6, u7, u8, u9, u10⟩, _⟩ := cells11 h; simp [results, Tryz.results10, go_sem, u0, u1, u2, u3, u4, u5, u6, u7, u8, u9, u10])) rfl ⟨rfl, below11 (Nat.le_refl _) B3.out _ _ _ _ _ _ _ _ _ _ _⟩
--x>
  subst e0
  have hmx := HMX.out rfl
--@3
  have p3 := (B3.out.cell (p := ⟨bk, off + 3, none⟩) hbk).trans Q3.out
  go_wp2_with fail
  refine (ryear_to _ f3 a2 y3 z3 _ Z3.out (Lib.hid rfl) H3).mono ?_
  rintro e w4 ⟨rfl, m4⟩
  have C04 := Lib.hid (C03.out.below m4)
  have C14 := Lib.hid (C13.out.below m4)
  have R4 := Lib.hid (R3.out.below m4)
  have B4 := Lib.hid (bstep B3.out m4)
  clear m4 C03 C13 R3 B3
  clear p3 hmx
  have p3 := (B4.out.cell (p := ⟨bk, off + 3, none⟩) hbk).trans Q3.out
--@4
  obtain ⟨qv, hqv⟩ : ∃ q, (decide (a2 = 0) && decide (v4 = 2)) = q := ⟨_, rfl⟩
  have HQV := Lib.hid hqv
  clear hqv
  go_upto_region 13 with fail
  go_cut [63] (fun v w5 => v = .bool qv ∧ Hid (Cs gr w5 [.string ⟨f1.toArray⟩, .int .i64 0, .int .i64 0, .int .i64 0, .int .i64 0, .int .i64 0, .int .i64 0, .int .i64 0, .int .i64 0, .int .i64 0, .string ⟨#[]⟩]) ∧ Hid (Cs w.heap.size w5 [.string ⟨#[]⟩, .int .i64 0, .int .i64 0, .int .i64 0, .int .i64 0, .int .i64 0, .int .i64 0, .int .i64 0, .int .i64 0, .int .i64 0, .string ⟨#[]⟩]) ∧ Hid (Cs (w.heap.size + 1) w5 [.string ⟨#[]⟩, .int .i64 0, .int .i64 0, .int .i64 0, .int .i64 0, .int .i64 0, .int .i64 0, .int .i64 0, .int .i64 0, .int .i64 0, .string ⟨#[]⟩]) ∧ Hid (Below w.heap.size w w5))
  case first =>
    by_cases e0 : a2 = 0
    · have x1 : (a2 == 0) = true := by rw [e0]; rfl
      have x2 := Lib.hid (decide_eq_true e0)
      clear e0
      go_wp2_with fail
      refine (Wrd.rword_to 4 _ f3 v4 _ (by decide) Z3.out (Lib.hid rfl) HV4).mono ?_
      rintro e w5 ⟨rfl, m5⟩
      go_wp2
      go_meet
      exact ⟨congrArg Value.bool (by rw [← HQV.out, x2.out, Bool.true_and]; rfl), Lib.hid (R4.out.below m5), Lib.hid (C04.out.below m5), Lib.hid (C14.out.below m5), Lib.hid (bstep B4.out m5)⟩
    · have x1 : (a2 == 0) = false := beq_eq_false_iff_ne.2 e0
      have x2 : decide (a2 = 0) = false := decide_eq_false e0
      go_wp2
      go_meet
      exact ⟨congrArg Value.bool (by rw [← HQV.out, x2, Bool.false_and]), R4, C04, C14, B4⟩
  case rest =>
  clear R4 C04 C14 B4 p3
  obtain ⟨w5, rfl⟩ : ∃ x : World, x = wc := ⟨_, rfl⟩
  obtain ⟨rfl, R5, C05, C15, B5⟩ := hcut
--@5
  go_upto_if 63 with fail
  go_cut [8, 7] (fun x y wz => x = .int .i64 a3 ∧ y = .int .i64 b3 ∧ w5 = wz)
  case first =>
    by_cases e0 : a2 = 0 ∧ v4 = 2
    · have x1 : qv = true := by rw [← HQV.out, decide_eq_true e0.1, decide_eq_true e0.2]; rfl
      subst x1
      have HX := Lib.hid (Prod.mk.inj ((if_pos e0).symm.trans HT3.out))
      clear e0
      go_wp2
      go_meet
      exact ⟨by rw [HX.out.1], by rw [HX.out.2], rfl⟩
    · have x1 : qv = false := by
        rw [← HQV.out]
        by_cases q : a2 = 0
        · rw [decide_eq_false (fun z => e0 ⟨q, z⟩), Bool.and_false]
        · rw [decide_eq_false q, Bool.false_and]
      subst x1
      have HX := Lib.hid (Prod.mk.inj ((if_neg e0).symm.trans HT3.out))
      clear e0
      go_wp2
      go_meet
      exact ⟨by rw [HX.out.1], by rw [HX.out.2], rfl⟩
  case rest =>
  obtain ⟨rfl, rfl, hw5⟩ := hcut
  subst hw5
--@6
  clear HT3 HV4 H3 HMX H2
  by_cases e0 : b3 = 0
  case neg =>
    have x1 : (b3 == 0) = false := beq_eq_false_iff_ne.2 e0
    have x2 : (b3 != 0) = true := bne_iff_ne.2 e0
    have hc := HH.out
    rw [rpS, if_neg (fun q => q rfl), if_neg (by decide), if_neg (fun q => q rfl), if_pos e0] at hc
    obtain ⟨rfl, rfl⟩ := Prod.mk.inj hc
    clear hc HH
--<x
    obtain ⟨⟨s0, s1, s2, s3, s4, s5, s6, s7, s8, s9, s10⟩, y0, y1, y2, y3, y4, y5, y6, y7, y8, y9, y10⟩ := cells11 C05.out
    obtain ⟨⟨z0, z1, z2, z3, z4, z5, z6, z7, z8, z9, z10⟩, _⟩ := cells11 C15.out
    go_wp2
    exact bodyPost_ret (v := .tuple #[.agg #[.string ⟨#[]⟩, .int .i64 0, .int .i64 0, .int .i64 0, .int .i64 0, .int .i64 0, .int .i64 0, .int .i64 0, .int .i64 0, .int .i64 0, .string ⟨#[]⟩], .int .i64 b3]) (res_by (set11 C05.out _ _ _ _ _ _ _ _ _ _ _) (fun W h => by obtain ⟨⟨u0, u1, u2, u3, u4, u5, u6, u7, u8, u9, u10⟩, _⟩ := cells11 h; simp [results, Tryz.results10, go_sem, u0, u1, u2, u3, u4, u5, u6, u7, u8, u9, u10])) rfl ⟨rfl, below11 (Nat.le_refl _) B5.out _ _ _ _ _ _ _ _ _ _ _⟩
--x>
  subst e0
--@7
  have p5 := (B5.out.cell (p := ⟨bk, off + 5, none⟩) hbk).trans Q5.out
  go_wp2_with fail
  refine (Wrd.rword_to 2 _ f5 v5 _ (by decide) Z5.out (Lib.hid rfl) HV5).mono ?_
  rintro e w6 ⟨rfl, m6⟩
  have C06 := Lib.hid (C05.out.below m6)
  have C16 := Lib.hid (C15.out.below m6)
  have R6 := Lib.hid (R5.out.below m6)
  have B6 := Lib.hid (bstep B5.out m6)
  clear m6 C05 C15 R5 B5
  clear p5
  by_cases e0 : v5 < 0
  case pos =>
    have hc := HH.out
    rw [rpS, if_neg (fun q => q rfl), if_neg (by decide), if_neg (fun q => q rfl), if_neg (fun q => q rfl), if_pos e0] at hc
    obtain ⟨rfl, rfl⟩ := Prod.mk.inj hc
    clear hc HH
--<x
    obtain ⟨⟨s0, s1, s2, s3, s4, s5, s6, s7, s8, s9, s10⟩, y0, y1, y2, y3, y4, y5, y6, y7, y8, y9, y10⟩ := cells11 C06.out
    obtain ⟨⟨z0, z1, z2, z3, z4, z5, z6, z7, z8, z9, z10⟩, _⟩ := cells11 C16.out
    go_wp2
    exact bodyPost_ret (v := .tuple #[.agg #[.string ⟨#[]⟩, .int .i64 0, .int .i64 0, .int .i64 0, .int .i64 0, .int .i64 0, .int .i64 0, .int .i64 0, .int .i64 0, .int .i64 0, .string ⟨#[]⟩], .int .i64 7]) (res_by (set11 C06.out _ _ _ _ _ _ _ _ _ _ _) (fun W h => by obtain ⟨⟨u0, u1, u2, u3, u4, u5, u6, u7, u8, u9, u10⟩, _⟩ := cells11 h; simp [results, Tryz.results10, go_sem, u0, u1, u2, u3, u4, u5, u6, u7, u8, u9, u10])) rfl ⟨rfl, below11 (Nat.le_refl _) B6.out _ _ _ _ _ _ _ _ _ _ _⟩
--x>
  have p6 := (B6.out.cell (p := ⟨bk, off + 6, none⟩) hbk).trans Q6.out
--@8
  go_upto_region 20 with fail
  by_cases e1 : b6 = 0
  case neg =>
    go_cut [11] (fun y w7 => y = .bool false ∧ Hid (Cs w.heap.size w7 [.string ⟨#[]⟩, .int .i64 0, .int .i64 0, .int .i64 0, .int .i64 0, .int .i64 0, .int .i64 0, .int .i64 0, .int .i64 0, .int .i64 0, .string ⟨#[]⟩]) ∧ Hid (Cs (w.heap.size + 1) w7 [.string ⟨#[]⟩, .int .i64 0, .int .i64 0, .int .i64 0, .int .i64 0, .int .i64 0, .int .i64 0, .int .i64 0, .int .i64 0, .int .i64 0, .string ⟨#[]⟩]) ∧ Hid (Below w.heap.size w w7))
    case first =>
      go_wp2_with fail
      refine (Onf.ronform_any _ f6 _ Z6.out (Lib.hid rfl)).mono ?_
      rintro e w7 ⟨qa, qb, qc, qr, rfl, HR, m7⟩
      have HRF : qr = false := on_no HR.out HO.out e1
      subst HRF
      go_wp2
      go_meet
      exact ⟨rfl, Lib.hid ((C06.out.below m7).alloc _), Lib.hid ((C16.out.below m7).alloc _), Lib.hid ((bstep B6.out m7).alloc (bstep B6.out m7).size _)⟩
    case rest =>
    obtain ⟨w7, rfl⟩ : ∃ x : World, x = wc := ⟨_, rfl⟩
    obtain ⟨rfl, C07, C17, B7⟩ := hcut
    clear C06 C16 B6 p6 R6
    have b8' : b6 = 8 := on_8 HO.out e1
    subst b8'
    have hc := HH.out
    rw [rpS, if_neg (fun q => q rfl), if_neg (by decide), if_neg (fun q => q rfl), if_neg (fun q => q rfl), if_neg (by omega), if_pos e1] at hc
    obtain ⟨rfl, rfl⟩ := Prod.mk.inj hc
    clear hc HH
--<x
    obtain ⟨⟨s0, s1, s2, s3, s4, s5, s6, s7, s8, s9, s10⟩, y0, y1, y2, y3, y4, y5, y6, y7, y8, y9, y10⟩ := cells11 C07.out
    obtain ⟨⟨z0, z1, z2, z3, z4, z5, z6, z7, z8, z9, z10⟩, _⟩ := cells11 C17.out
    go_wp2
    exact bodyPost_ret (v := .tuple #[.agg #[.string ⟨#[]⟩, .int .i64 0, .int .i64 0, .int .i64 0, .int .i64 0, .int .i64 0, .int .i64 0, .int .i64 0, .int .i64 0, .int .i64 0, .string ⟨#[]⟩], .int .i64 8]) (res_by (set11 C07.out _ _ _ _ _ _ _ _ _ _ _) (fun W h => by obtain ⟨⟨u0, u1, u2, u3, u4, u5, u6, u7, u8, u9, u10⟩, _⟩ := cells11 h; simp [results, Tryz.results10, go_sem, u0, u1, u2, u3, u4, u5, u6, u7, u8, u9, u10])) rfl ⟨rfl, below11 (Nat.le_refl _) B7.out _ _ _ _ _ _ _ _ _ _ _⟩
--x>
  subst e1
--@9
  go_cut [10, 11] (fun x y w7 => BlkIs w6.heap.size w7 x [.int .i64 a6, .int .i64 v6, .int .i64 d6] ∧ y = .bool true ∧ Hid (Cs gr w7 [.string ⟨f1.toArray⟩, .int .i64 0, .int .i64 0, .int .i64 0, .int .i64 0, .int .i64 0, .int .i64 0, .int .i64 0, .int .i64 0, .int .i64 0, .string ⟨#[]⟩]) ∧ Hid (Cs w.heap.size w7 [.string ⟨#[]⟩, .int .i64 0, .int .i64 0, .int .i64 0, .int .i64 0, .int .i64 0, .int .i64 0, .int .i64 0, .int .i64 0, .int .i64 0, .string ⟨#[]⟩]) ∧ Hid (Cs (w.heap.size + 1) w7 [.string ⟨#[]⟩, .int .i64 0, .int .i64 0, .int .i64 0, .int .i64 0, .int .i64 0, .int .i64 0, .int .i64 0, .int .i64 0, .int .i64 0, .string ⟨#[]⟩]) ∧ Hid (Below w.heap.size w w7))
  case first =>
    go_wp2_with fail
    refine (Onf.ronform_any _ f6 _ Z6.out (Lib.hid rfl)).mono ?_
    rintro e w7 ⟨qa, qb, qc, qr, rfl, HR, m7⟩
    obtain ⟨rfl, rfl, rfl, rfl⟩ := on_yes HR.out HO.out
    have m7z := m7.size
    go_wp2
    go_meet
    exact ⟨BlkIs.newer m7z _ _, rfl, Lib.hid ((R6.out.below m7).alloc _), Lib.hid ((C06.out.below m7).alloc _), Lib.hid ((C16.out.below m7).alloc _), Lib.hid ((bstep B6.out m7).alloc (bstep B6.out m7).size _)⟩
  case rest =>
  obtain ⟨w7, rfl⟩ : ∃ x : World, x = wc := ⟨_, rfl⟩
  obtain ⟨⟨go, rfl, go1, hr2⟩, rfl, R7, C07, C17, B7⟩ := hcut
  have hgr := R6.out.1
  have hg0 := C06.out.1
  have hg1 := C16.out.1
  have hb1 : bk < w6.heap.size := Nat.lt_of_lt_of_le hbk B6.out.size
  have O7 := Lib.hid hr2
  have d4 : bk ≠ go := by omega
  have d5 : go ≠ w.heap.size := by omega
  have d6' : go ≠ w.heap.size + 1 := by omega
  have d7 : gr ≠ go := by omega
  have d8 : go ≠ gr := by omega
  clear hr2 hgr hg0 hg1 hb1 p6 R6 C06 C16 B6 HO go1
--@10
  have p7 := (B7.out.cell (p := ⟨bk, off + 7, none⟩) hbk).trans Q7.out
  go_upto_region 23 with fail
  cases b7 with
  | false =>
    go_cut [11] (fun y w8 => y = .bool false ∧ Hid (Cs w.heap.size w8 [.string ⟨#[]⟩, .int .i64 0, .int .i64 0, .int .i64 0, .int .i64 0, .int .i64 0, .int .i64 0, .int .i64 0, .int .i64 0, .int .i64 0, .string ⟨#[]⟩]) ∧ Hid (Cs (w.heap.size + 1) w8 [.string ⟨#[]⟩, .int .i64 0, .int .i64 0, .int .i64 0, .int .i64 0, .int .i64 0, .int .i64 0, .int .i64 0, .int .i64 0, .int .i64 0, .string ⟨#[]⟩]) ∧ Hid (Below w.heap.size w w8))
    case first =>
      go_wp2_with fail
      refine (Atf.rat_to _ f7 a7 k7 false _ L7.out (Lib.hid rfl) HA).mono ?_
      rintro e w8 ⟨rfl, m8⟩
      go_wp2
      go_meet
      exact ⟨rfl, Lib.hid ((C07.out.below m8).alloc _), Lib.hid ((C17.out.below m8).alloc _), Lib.hid ((bstep B7.out m8).alloc (bstep B7.out m8).size _)⟩
    case rest =>
    obtain ⟨w8, rfl⟩ : ∃ x : World, x = wc := ⟨_, rfl⟩
    obtain ⟨rfl, C08, C18, B8⟩ := hcut
    clear C07 C17 B7 p7 R7 O7
    have hc := HH.out
    rw [rpS, if_neg (fun q => q rfl), if_neg (by decide), if_neg (fun q => q rfl), if_neg (fun q => q rfl), if_neg (by omega), if_neg (fun q => q rfl), if_pos rfl] at hc
    obtain ⟨rfl, rfl⟩ := Prod.mk.inj hc
    clear hc HH
--<x
    obtain ⟨⟨s0, s1, s2, s3, s4, s5, s6, s7, s8, s9, s10⟩, y0, y1, y2, y3, y4, y5, y6, y7, y8, y9, y10⟩ := cells11 C08.out
    obtain ⟨⟨z0, z1, z2, z3, z4, z5, z6, z7, z8, z9, z10⟩, _⟩ := cells11 C18.out
    go_wp2
    exact bodyPost_ret (v := .tuple #[.agg #[.string ⟨#[]⟩, .int .i64 0, .int .i64 0, .int .i64 0, .int .i64 0, .int .i64 0, .int .i64 0, .int .i64 0, .int .i64 0, .int .i64 0, .string ⟨#[]⟩], .int .i64 9]) (res_by (set11 C08.out _ _ _ _ _ _ _ _ _ _ _) (fun W h => by obtain ⟨⟨u0, u1, u2, u3, u4, u5, u6, u7, u8, u9, u10⟩, _⟩ := cells11 h; simp [results, Tryz.results10, go_sem, u0, u1, u2, u3, u4, u5, u6, u7, u8, u9, u10])) rfl ⟨rfl, below11 (Nat.le_refl _) B8.out _ _ _ _ _ _ _ _ _ _ _⟩
--x>
  | true =>
  go_cut [12, 11] (fun x y w8 => BlkIs w7.heap.size w8 x [.int .i64 a7, .int .i64 k7] ∧ y = .bool true ∧ Hid (Cs go w8 [.int .i64 a6, .int .i64 v6, .int .i64 d6]) ∧ Hid (Cs gr w8 [.string ⟨f1.toArray⟩, .int .i64 0, .int .i64 0, .int .i64 0, .int .i64 0, .int .i64 0, .int .i64 0, .int .i64 0, .int .i64 0, .int .i64 0, .string ⟨#[]⟩]) ∧ Hid (Cs w.heap.size w8 [.string ⟨#[]⟩, .int .i64 0, .int .i64 0, .int .i64 0, .int .i64 0, .int .i64 0, .int .i64 0, .int .i64 0, .int .i64 0, .int .i64 0, .string ⟨#[]⟩]) ∧ Hid (Cs (w.heap.size + 1) w8 [.string ⟨#[]⟩, .int .i64 0, .int .i64 0, .int .i64 0, .int .i64 0, .int .i64 0, .int .i64 0, .int .i64 0, .int .i64 0, .int .i64 0, .string ⟨#[]⟩]) ∧ Hid (Below w.heap.size w w8))
  case first =>
    go_wp2_with fail
    refine (Atf.rat_to _ f7 a7 k7 true _ L7.out (Lib.hid rfl) HA).mono ?_
    rintro e w8 ⟨rfl, m8⟩
    have m8z := m8.size
    go_wp2
    go_meet
    exact ⟨BlkIs.newer m8z _ _, rfl, Lib.hid ((O7.out.below m8).alloc _), Lib.hid ((R7.out.below m8).alloc _), Lib.hid ((C07.out.below m8).alloc _), Lib.hid ((C17.out.below m8).alloc _), Lib.hid ((bstep B7.out m8).alloc (bstep B7.out m8).size _)⟩
  case rest =>
  obtain ⟨w8, rfl⟩ : ∃ x : World, x = wc := ⟨_, rfl⟩
  obtain ⟨⟨ga, rfl, ga1, hr2⟩, rfl, O8, R8, C08, C18, B8⟩ := hcut
  have hgr := R7.out.1
  have hgo := O7.out.1
  have A8 := Lib.hid hr2
  have e1 : ga ≠ gr := by omega
  have e2 : gr ≠ ga := by omega
  have e3 : ga ≠ go := by omega
  clear hr2 hgr hgo p7 R7 C07 C17 B7 O7 HA ga1
  rename_i hK
  exact hK _ _ (rpM bk off cp f1 f8 f9 S8 lt a2 a3 v5 a6 v6 d6 a7 k7 a8 c b8 ck r w w8 gr go ga hbk Q8 Q9 L1 L8 L8S L11 HS8 HS HLT HCK (Lib.hid (by have hc := HH.out; rw [rpS, if_neg (fun q => q rfl), if_neg (by decide), if_neg (fun q => q rfl), if_neg (fun q => q rfl), if_neg (by omega), if_neg (fun q => q rfl), if_neg (by decide)] at hc; exact hc)) e0 (mo_bd f5 HV5.out) d2 d3 gw d8 e1 e2 e3 R8 O8 A8 C08 C18 B8 _ _ _ _ _ _ _ _ _ _ _ _ _ _ _ _ _ _ _ _ _ _ _ _ _ _ _ _ _ _ _ _ _ _ _ _ _ _ _ _ _ _ _ _ _ _ _ _ _ _ _ _ _ _ _ _ _ _ _ _ _ _ _ _ _ _ _ _ _ _ _ _ _ _ _ _ _ _ _ _ _ _ _ _ _ _ _ _ _ _ _ _ _ _ _ _ _ _ _ _ _ _ _ _ _ _ _ _ _ _ _ _ _ _ _ _ _ _ _ _ _ _ _ _ _ _ _ _ _ _ _ _ _ _ _ _ _ _ _ _ _ _)
end Rul
end Go.Proofs.YtopmcelfmkeamaaGreatDoor
