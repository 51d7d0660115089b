/-
  OnBack: the law answers true at every six numbers, in whatever world that holds the tables.
-/
import Derived.Test.YtikjlnkpcjjigaaDoorOnBad
namespace Go.Proofs.YtikjlnkpcjjigaaDoor
open Go.RowKit
namespace Onf
open Sol Wrd
/-- The law's own Some: a right form of any numbers. -/
def smK (k : Int) : Int := 1 + (IntKind.u64.wrap k).tmod 4
def smW (k v : Int) : Int := if smK k = 1 then 0 else (IntKind.u64.wrap v).tmod 7
def smD (k d : Int) : Int := if smK k = 2 then 0 else 1 + (IntKind.u64.wrap d).tmod 31
theorem um_bd (x : Int) (m : Int) (hm : 0 < m) : 0 ≤ (IntKind.u64.wrap x).tmod m ∧ (IntKind.u64.wrap x).tmod m < m :=
  ⟨Int.tmod_nonneg m (by rw [IntKind.wrap_u64]; omega), Int.tmod_lt_of_pos _ hm⟩
theorem sm_ok (k v d : Int) : Wk.onOk (smK k) (smW k v) (smD k d) = true := by
  have h1 := um_bd k 4 (by omega)
  have h2 := um_bd v 7 (by omega)
  have h3 := um_bd d 31 (by omega)
  refine decide_eq_true ?_
  unfold smW smD smK
  split <;> split <;> omega
set_option maxHeartbeats 1600000 in
set_option maxRecDepth 100000 in
theorem some7_any (k v d : Int) (w : World) :
    Calls Tryd.prog 15 #[.int .i64 k, .int .i64 v, .int .i64 d] w fun e w' => e = .returned (.agg #[.int .i64 (smK k), .int .i64 (smW k v), .int .i64 (smD k d)]) ∧ Below w.heap.size w w' := by
  have h1 := um_bd k 4 (by omega)
  have h2 := um_bd v 7 (by omega)
  have h3 := um_bd d 31 (by omega)
  have HK : Hid (smK k = 1 + (IntKind.u64.wrap k).tmod 4) := Lib.hid rfl
  have HV : Hid (smW k v = if smK k = 1 then 0 else (IntKind.u64.wrap v).tmod 7) := Lib.hid rfl
  have HD : Hid (smD k d = if smK k = 2 then 0 else 1 + (IntKind.u64.wrap d).tmod 31) := Lib.hid rfl
  rw [HK.out] at HV HD
  go_enter Tryd.func15, Tryd.ntmps15
  go_upto_region 2 with fail
  generalize (IntKind.u64.wrap k).tmod 4 = K at *
  generalize (IntKind.u64.wrap v).tmod 7 = V at *
  generalize (IntKind.u64.wrap d).tmod 31 = D at *
  have h4 : K = 0 ∨ K = 1 ∨ (K == 0) = false ∧ (K == 1) = false ∧ (1 + K == 1) = false ∧ (1 + K == 2) = false ∧ 2 ≤ K := by
    have : K = 0 ∨ K = 1 ∨ 2 ≤ K := by omega
    rcases this with h | h | h
    · exact Or.inl h
    · exact Or.inr (Or.inl h)
    · exact Or.inr (Or.inr ⟨beq_eq_false_iff_ne.2 (by omega), beq_eq_false_iff_ne.2 (by omega), beq_eq_false_iff_ne.2 (by omega), beq_eq_false_iff_ne.2 (by omega), h⟩)
  rcases h4 with rfl | rfl | ⟨k0, k1, k2, k3, k4⟩
  · go_wp2
    refine bodyPost_ret (v := .agg #[.int .i64 1, .int .i64 0, .int .i64 (1 + D)]) (by simp [results, Tryd.results15, go_sem]) rfl ⟨by rw [HK.out, HV.out, HD.out]; rfl, ?_⟩
    repeat (first | exact Below.refl _ _ | refine Below.setCell ?_ (by simp) _ | refine below_drewN ?_ _ | refine Below.drew ?_ | refine Below.alloc ?_ (by simp) _)
  · go_wp2
    refine bodyPost_ret (v := .agg #[.int .i64 2, .int .i64 V, .int .i64 0]) (by simp [results, Tryd.results15, go_sem]) rfl ⟨by rw [HK.out, HV.out, HD.out]; rfl, ?_⟩
    repeat (first | exact Below.refl _ _ | refine Below.setCell ?_ (by simp) _ | refine below_drewN ?_ _ | refine Below.drew ?_ | refine Below.alloc ?_ (by simp) _)
  · go_wp2
    refine bodyPost_ret (v := .agg #[.int .i64 (1 + K), .int .i64 V, .int .i64 (1 + D)]) (by simp [results, Tryd.results15, go_sem]) rfl ⟨by rw [HK.out, HV.out, HD.out, if_neg (by omega), if_neg (by omega)], ?_⟩
    repeat (first | exact Below.refl _ _ | refine Below.setCell ?_ (by simp) _ | refine below_drewN ?_ _ | refine Below.drew ?_ | refine Below.alloc ?_ (by simp) _)
theorem some7_to (k v d a b c : Int) (w : World) (h : Hid (smK k = a ∧ smW k v = b ∧ smD k d = c)) :
    Calls Tryd.prog 15 #[.int .i64 k, .int .i64 v, .int .i64 d] w fun e w' => e = .returned (.agg #[.int .i64 a, .int .i64 b, .int .i64 c]) ∧ Below w.heap.size w w' :=
  (some7_any k v d w).mono fun _ _ ⟨he, hw⟩ => ⟨by rw [he, h.out.1, h.out.2.1, h.out.2.2], hw⟩
/-- A day's text, small. -/
def t31 (d : Nat) : List UInt8 := if d < 10 then [UInt8.ofNat (48 + d)] else [UInt8.ofNat (48 + d / 10), UInt8.ofNat (48 + d % 10)]
theorem textL_31 (d : Nat) (h : d < 100) : textL (d : Int) 0 = t31 d := by
  rw [textL, if_neg (by omega), if_pos (by decide), show (0 : Int).toNat = 0 from rfl, Int.toNat_natCast, padL, Nat.zero_sub, List.replicate_zero, List.nil_append, t31]
  by_cases h1 : d < 10
  · rw [if_pos h1, Lib.decDigits_one h1]
  · rw [if_neg h1, Lib.decDigits_two h1 h]
def onT2 (k v d : Nat) : List UInt8 := if k = 2 then [108, 97, 115, 116] ++ (nmT 3 v).take 3 else if k = 3 then (nmT 3 v).take 3 ++ [62, 61] ++ t31 d else if k = 4 then (nmT 3 v).take 3 ++ [60, 61] ++ t31 d else t31 d
theorem back_tab : ((List.range 5).all fun k => (List.range 7).all fun v => (List.range 32).all fun d => !(Wk.onOk (k : Int) (v : Int) (d : Int)) || decide (onP (onT2 k v d) = ((k : Int), (v : Int), (d : Int), (0 : Int)) ∧ (onT2 k v d).length ≤ 20)) = true := by decide +kernel
theorem back_all (k v d : Nat) (hk : k < 5) (hv : v < 7) (hd : d < 32) (h : Wk.onOk (k : Int) (v : Int) (d : Int) = true) : onP (onT2 k v d) = ((k : Int), (v : Int), (d : Int), (0 : Int)) ∧ (onT2 k v d).length ≤ 20 := by
  have a := List.all_eq_true.1 back_tab k (List.mem_range.2 hk)
  have b := List.all_eq_true.1 a v (List.mem_range.2 hv)
  have c := List.all_eq_true.1 b d (List.mem_range.2 hd)
  rw [h] at c
  exact of_decide_eq_true c
theorem on_back {k v d : Int} (h : Wk.onOk k v d = true) : onP (onT k v d) = (k, v, d, 0) ∧ (onT k v d).length ≤ 20 := by
  obtain ⟨h1, h2, h3⟩ := Wk.onOk_v h
  obtain ⟨k, rfl⟩ : ∃ n : Nat, k = n := ⟨k.toNat, by omega⟩
  obtain ⟨v, rfl⟩ : ∃ n : Nat, v = n := ⟨v.toNat, by omega⟩
  obtain ⟨d, rfl⟩ : ∃ n : Nat, d = n := ⟨d.toNat, by omega⟩
  have e : onT k v d = onT2 k v d := by
    rw [onT, if_pos h, textL_31 d (by omega), onT2]
    have e2 : ((k : Int) = 2) = (k = 2) := propext ⟨fun h => by omega, fun h => by omega⟩
    have e3 : ((k : Int) = 3) = (k = 3) := propext ⟨fun h => by omega, fun h => by omega⟩
    have e4 : ((k : Int) = 4) = (k = 4) := propext ⟨fun h => by omega, fun h => by omega⟩
    simp only [e2, e3, e4]
  rw [e]
  exact back_all k v d (by omega) (by omega) (by omega) h
theorem on_inj {k v d k2 v2 d2 : Int} (h : Wk.onOk k v d = true) (h2 : Wk.onOk k2 v2 d2 = true) (e : onT k v d = onT k2 v2 d2) : k = k2 ∧ v = v2 ∧ d = d2 := by
  have a := (on_back h).1
  rw [e, (on_back h2).1] at a
  simp at a
  omega
set_option maxHeartbeats 3200000 in
set_option maxRecDepth 100000 in
theorem oback_any (k v d k2 v2 d2 : Int) (w : World) (hp : Pow w) (hm : MaxL w) :
    Calls Tryd.prog 4 #[.int .i64 k, .int .i64 v, .int .i64 d, .int .i64 k2, .int .i64 v2, .int .i64 d2] w fun e w' => e = .returned (.bool true) ∧ Below w.heap.size w w' := by
  have HP := Lib.hid hp
  have HM := Lib.hid hm
  clear hp hm
  have o1 := sm_ok k v d
  have o2 := sm_ok k2 v2 d2
  obtain ⟨A, hA⟩ : ∃ x, smK k = x := ⟨_, rfl⟩
  obtain ⟨B, hB⟩ : ∃ x, smW k v = x := ⟨_, rfl⟩
  obtain ⟨C, hC⟩ : ∃ x, smD k d = x := ⟨_, rfl⟩
  obtain ⟨A2, hA2⟩ : ∃ x, smK k2 = x := ⟨_, rfl⟩
  obtain ⟨B2, hB2⟩ : ∃ x, smW k2 v2 = x := ⟨_, rfl⟩
  obtain ⟨C2, hC2⟩ : ∃ x, smD k2 d2 = x := ⟨_, rfl⟩
  have S1 := Lib.hid (And.intro hA (And.intro hB hC))
  have S2 := Lib.hid (And.intro hA2 (And.intro hB2 hC2))
  rw [hA, hB, hC] at o1
  rw [hA2, hB2, hC2] at o2
  clear hA hB hC hA2 hB2 hC2
  have I := Lib.hid (fun e => on_inj o1 o2 e)
  obtain ⟨S, hS⟩ : ∃ x, onT A B C = x := ⟨_, rfl⟩
  obtain ⟨T, hT⟩ : ∃ x, onT A2 B2 C2 = x := ⟨_, rfl⟩
  have b1 := on_back o1
  rw [hS] at b1
  have T1 := Lib.hid (And.intro hS (Wk.chE_yes o1))
  have T2 := Lib.hid (And.intro hT (Wk.chE_yes o2))
  have P1 := Lib.hid b1.1
  have HZ : Hid ((⟨S.toArray⟩ : ByteArray).size ≤ 1000) := Lib.hid (by have := b1.2; show S.length ≤ 1000; omega)
  rw [hS, hT] at I
  have HE : Hid (A = A2 → B = B2 → C = C2 → S = T) := Lib.hid (by rintro rfl rfl rfl; rw [← hS, ← hT])
  clear hS hT b1 o1 o2
  go_enter Tryd.func4, Tryd.ntmps4
  go_wp2_with fail
  refine (some7_to _ _ _ _ _ _ _ S1).mono ?_
  rintro e w1 ⟨rfl, hb1⟩
  go_wp2_with fail
  refine (some7_to _ _ _ _ _ _ _ S2).mono ?_
  rintro e w2 ⟨rfl, hb2⟩
  have hB2 : Below w.heap.size w w2 := hb1.trans (hb2.mono hb1.size)
  have HO1 := Lib.hid ((On3.new w2 23 A B C).below ((Below.refl _ _).alloc (Nat.le_refl _) (Obj.cells #[.int .i64 A2, .int .i64 B2, .int .i64 C2] 23)))
  have HO2 := Lib.hid (On3.new (w2.alloc (Obj.cells #[.int .i64 A, .int .i64 B, .int .i64 C] 23)) 23 A2 B2 C2)
  have hB3 : Below w.heap.size w ((w2.alloc (Obj.cells #[.int .i64 A, .int .i64 B, .int .i64 C] 23)).alloc (Obj.cells #[.int .i64 A2, .int .i64 B2, .int .i64 C2] 23)) := (hB2.alloc hB2.size _).alloc (by have := hB2.size; simp; omega) _
  clear hb1 hb2 hB2
  go_upto_region 2 with fail
  obtain ⟨w3, hw3⟩ : ∃ x, (w2.alloc (Obj.cells #[.int .i64 A, .int .i64 B, .int .i64 C] 23)).alloc (Obj.cells #[.int .i64 A2, .int .i64 B2, .int .i64 C2] 23) = x := ⟨_, rfl⟩
  obtain ⟨g, hg⟩ : ∃ x, w2.heap.size = x := ⟨_, rfl⟩
  rw [hw3, hg] at HO1
  rw [hw3, World.size_alloc, hg] at HO2
  rw [hw3] at hB3
  rw [hw3, hg]
  obtain ⟨q0, z0, z1, z2⟩ := HO1.out
  have y := HO2.out
  clear hw3 hg
  go_wp2_with fail
  refine (otext_to _ _ _ _ _ _ (HP.out.stays hB3) T1).mono ?_
  rintro e w4 ⟨rfl, hb4⟩
  obtain ⟨_, y0, y1, y2⟩ := HO2.out.below hb4
  have HQ2 := Lib.hid (HO2.out.below hb4)
  have HQ1 := Lib.hid (HO1.out.below hb4)
  have hB4 : Below w.heap.size w w4 := hB3.trans (hb4.mono hB3.size)
  clear hb4 z0 z1 z2 q0 y
  go_wp2_with fail
  refine (otext_to _ _ _ _ _ _ (HP.out.stays hB4) T2).mono ?_
  rintro e w5 ⟨rfl, hb5⟩
  have HR2 := Lib.hid (HQ2.out.below hb5)
  have HR1 := Lib.hid (HQ1.out.below hb5)
  have hB5 : Below w.heap.size w w5 := hB4.trans (hb5.mono hB4.size)
  clear hb5 y0 y1 y2
  go_wp2_with fail
  refine (oparse_to _ S _ _ _ _ _ (HM.out.stays hB5) HZ.out (Lib.hid rfl) P1).mono ?_
  rintro e w6 ⟨rfl, hb6⟩
  have hB6 : Below w.heap.size w w6 := hB5.trans (hb6.mono hB5.size)
  have hB7 := hB6.alloc hB6.size (Obj.cells #[.int .i64 A, .int .i64 B, .int .i64 C] 23)
  have K1 := Lib.hid ((HR1.out.below hb6).below ((Below.refl _ _).alloc (Nat.le_refl _) (Obj.cells #[.int .i64 A, .int .i64 B, .int .i64 C] 23)))
  have K2 := Lib.hid ((HR2.out.below hb6).below ((Below.refl _ _).alloc (Nat.le_refl _) (Obj.cells #[.int .i64 A, .int .i64 B, .int .i64 C] 23)))
  have K3 := Lib.hid (On3.new w6 23 A B C)
  clear hb6
  go_upto_region 5 with fail
  obtain ⟨w7, hw7⟩ : ∃ x, w6.alloc (Obj.cells #[.int .i64 A, .int .i64 B, .int .i64 C] 23) = x := ⟨_, rfl⟩
  rw [hw7] at K1 K2 K3 hB7
  rw [hw7]
  obtain ⟨_, a0, a1, a2⟩ := K1.out
  obtain ⟨_, b0, b1, b2⟩ := K2.out
  obtain ⟨_, c0, c1, c2⟩ := K3.out
  clear hw7 hB6 hB5 hB4 hB3
  have hx : (A = A2 ∧ B = B2 ∧ C = C2 ∧ S = T) ∨ ((S == T) = false ∧ ((A == A2) = false ∨ (A = A2 ∧ (B == B2) = false) ∨ (A = A2 ∧ B = B2 ∧ (C == C2) = false))) := by
    by_cases h1 : A = A2
    · by_cases h2 : B = B2
      · by_cases h3 : C = C2
        · exact Or.inl ⟨h1, h2, h3, HE.out h1 h2 h3⟩
        · exact Or.inr ⟨beq_eq_false_iff_ne.2 (fun e => h3 (I.out e).2.2), Or.inr (Or.inr ⟨h1, h2, beq_eq_false_iff_ne.2 h3⟩)⟩
      · exact Or.inr ⟨beq_eq_false_iff_ne.2 (fun e => h2 (I.out e).2.1), Or.inr (Or.inl ⟨h1, beq_eq_false_iff_ne.2 h2⟩)⟩
    · exact Or.inr ⟨beq_eq_false_iff_ne.2 (fun e => h1 (I.out e).1), Or.inl (beq_eq_false_iff_ne.2 h1)⟩
  rcases hx with ⟨rfl, rfl, rfl, rfl⟩ | ⟨hst, h1 | ⟨rfl, h1⟩ | ⟨rfl, rfl, h1⟩⟩
  all_goals
    go_wp2_with fail
    refine (wakes7_any _ (HP.out.stays hB7) (HM.out.stays hB7)).mono ?_
    rintro e w8 ⟨rfl, hb8⟩
    go_wp2
    go_ret
    exact ⟨rfl, hB7.trans (hb8.mono hB7.size)⟩
end Onf
end Go.Proofs.YtikjlnkpcjjigaaDoor
