/-
  RruleMonths, from its region 13 on: the list is the law's; February 29 of three long years.
-/
import Derived.Test.YtgaolaafjiiehaaDoorRruW
import Derived.Test.YtgaolaafjiiehaaDoorRruYI
import Derived.Test.YtgaolaafjiiehaaDoorBdS
import Derived.Test.YtgaolaafjiiehaaDoorBdCl
namespace Go.Proofs.YtgaolaafjiiehaaDoor
open Go.RowKit
namespace Rru
open Rcv (CV LisV IntV DayV)
open Rck (ckE ckB Small)
open Ap (RowI)
open Civ (Ahead)
open Fil (moO mo_bd mo_of spE spT spF spQ perV perE perQ ld16)
open Cel
theorem mn_small (iv n : Int) : Small (mnR iv n) := ⟨Nat.zero_le _, Nat.zero_le _, Nat.zero_le _, Nat.zero_le _, Nat.zero_le _, Nat.zero_le _, Nat.zero_le _, Nat.zero_le _, Nat.zero_le _⟩
theorem mn_lis (iv n : Int) (w : World) : LisV w (mnR iv n) (.slice none 0 0) (.slice none 0 0) (.slice none 0 0) (.slice none 0 0) (.slice none 0 0) (.slice none 0 0) (.slice none 0 0) (.slice none 0 0) (.slice none 0 0) :=
  ⟨IntV.none w, IntV.none w, IntV.none w, DayV.none w, IntV.none w, IntV.none w, IntV.none w, IntV.none w, IntV.none w⟩
theorem yr_small : Small yrR := ⟨Nat.zero_le _, Nat.zero_le _, Nat.zero_le _, Nat.zero_le _, Nat.zero_le _, Nat.zero_le _, Nat.zero_le _, Nat.zero_le _, Nat.zero_le _⟩
theorem yr_lis (w : World) : LisV w yrR (.slice none 0 0) (.slice none 0 0) (.slice none 0 0) (.slice none 0 0) (.slice none 0 0) (.slice none 0 0) (.slice none 0 0) (.slice none 0 0) (.slice none 0 0) :=
  ⟨IntV.none w, IntV.none w, IntV.none w, DayV.none w, IntV.none w, IntV.none w, IntV.none w, IntV.none w, IntV.none w⟩
theorem wrap_t {n : Int} (h : -1000000 ≤ n ∧ n ≤ 1000000) : IntKind.i64.wrap n = n := by rw [IntKind.wrap_i64]; omega
theorem uu_mod (n : Int) {k : Int} (h : 1 ≤ k ∧ k ≤ 1000000) : ∃ m, (0 ≤ m ∧ m < k) ∧ Hid ((IntKind.u64.wrap n).tmod k = m ∧ IntKind.i64.wrap m = m) := by
  have u0 : 0 ≤ IntKind.u64.wrap n := by rw [IntKind.wrap_u64]; omega
  have e := Int.tmod_eq_emod_of_nonneg (b := k) u0
  have b : 0 ≤ IntKind.u64.wrap n % k ∧ IntKind.u64.wrap n % k < k := ⟨Int.emod_nonneg _ (by omega), Int.emod_lt_of_pos _ (by omega)⟩
  refine ⟨_, b, Lib.hid ⟨e, ?_⟩⟩
  generalize IntKind.u64.wrap n % k = m at b
  exact wrap_t ⟨by omega, by omega⟩
theorem len_to2 (y m L : Int) (w : World) (hy : -1000000 ≤ y ∧ y ≤ 1000000) (h : Hid (Cal.mlen y m = L)) :
    Calls Tryd.prog 4 #[.int .i64 y, .int .i64 m] w fun e w' => e = .returned (.int .i64 L) ∧ Below w.heap.size w w' :=
  (Civ.rlen_any y m w (by omega) (by omega)).mono fun _ _ ⟨he, n, hw⟩ => ⟨by rw [he, h.out], by rw [hw]; exact below_drewN (Below.refl _ _) _⟩
theorem num_to2 (y m d v : Int) (w : World) (hb : (0 ≤ y ∧ y ≤ 10000) ∧ (1 ≤ m ∧ m ≤ 12) ∧ 1 ≤ d ∧ d ≤ 31) (h : Hid (Cal.num y m d = v)) :
    Calls Tryd.prog 5 #[.agg #[.int .i64 y, .int .i64 m, .int .i64 d]] w fun e w' => e = .returned (.int .i64 v) ∧ Below w.heap.size w w' :=
  (Civ.rnum_any y m d w hb.1.1 hb.1.2 hb.2.1.1 hb.2.1.2 hb.2.2.1 hb.2.2.2).mono fun _ _ ⟨he, k⟩ => ⟨by rw [he, h.out], k⟩
theorem mnW_at {P iv D a b : Int} {k : Nat} (ha : (P + (k : Int) * iv) / 12 = a) (hb : (P + (k : Int) * iv) % 12 + 1 = b) : mnW P iv D k = if D ≤ Cal.mlen a b then some (Cal.num a b D * 86400) else none := by
  rw [mnW, mnU, ha, hb]; rfl
/-- What the rounds know of a row so far. -/
theorem wL_le_of {T : Nat → Option Int} {N k : Nat} (h : ∀ j : Nat, j < k → (wL T j).length < N) : (wL T k).length ≤ N := by
  cases k with
  | zero => exact Nat.zero_le _
  | succ k =>
    have := wL_len T k
    have := h k (by omega)
    omega

noncomputable def months_endC : Code := (Tryd.f3.body.bind (Tl.from_ 15)).getD .skip
set_option maxHeartbeats 25600000 in
set_option maxRecDepth 100000 in
theorem months_end (TT : Nat → Option Int) (O : List Int) (k l : Nat) (A : Option Addr) (cp : Nat) (lv : Value) (w wo : World) (HA : Hid (Ahead w)) (RO : Hid (RowI w.heap.size wo lv O)) (RW : Hid (RowI w.heap.size wo (.slice A l cp) (wL TT k))) (B : Hid (Below w.heap.size w wo)) (E0 : Hid (O = wL TT k)) (OL : Hid (O.length ≤ 1000000)) (WLb : Hid ((wL TT k).length ≤ 1000000)) (z0 z1 z2 z3 z4 z5 z6 z7 z8 z9 z10 z11 z13 z16 z17 z18 z19 z20 z21 z22 z23 z24 z25 z26 z27 z28 z29 z30 z31 z32 z33 z34 z35 z36 z37 z38 z39 z40 z41 z42 z43 z44 z45 z46 z47 z48 z49 z50 z51 z52 z53 z54 z55 z56 z57 z58 z59 z60 z61 z62 z63 z64 z65 z66 z67 z68 z69 z70 z71 z72 z73 z74 z75 z76 z77 z78 z79 z80 z81 z82 z83 z84 z85 z86 z87 z88 z89 z90 z91 z92 z93 z94 z95 z96 z97 z98 z99 z100 z101 z102 z103 z104 z105 z106 z107 z108 z109 z110 z111 z112 z113 z114 z115 z116 z117 z118 z119 z120 z121 z122 z123 z124 z125 z126 z127 z128 z129 z130 z131 z132 z133 z134 z135 z136 z137 z138 z139 z140 z141 z142 z143 z144 z145 z146 z147 z148 z149 z150 z151 z152 z153 z154 z155 z156 z157 z158 z159 z160 z161 : Value) : Code.wp Tryd.prog months_endC (bodyPost Tryd.prog Tryd.f3 (fun e w' => e = .returned (.bool true) ∧ Below w.heap.size w w')) ⟨List.toArray (z0 :: z1 :: z2 :: z3 :: z4 :: z5 :: z6 :: z7 :: z8 :: z9 :: z10 :: z11 :: lv :: z13 :: .int .i64 0 :: .slice A l cp :: z16 :: z17 :: z18 :: z19 :: z20 :: z21 :: z22 :: z23 :: z24 :: z25 :: z26 :: z27 :: z28 :: z29 :: z30 :: z31 :: z32 :: z33 :: z34 :: z35 :: z36 :: z37 :: z38 :: z39 :: z40 :: z41 :: z42 :: z43 :: z44 :: z45 :: z46 :: z47 :: z48 :: z49 :: z50 :: z51 :: z52 :: z53 :: z54 :: z55 :: z56 :: z57 :: z58 :: z59 :: z60 :: z61 :: z62 :: z63 :: z64 :: z65 :: z66 :: z67 :: z68 :: z69 :: z70 :: z71 :: z72 :: z73 :: z74 :: z75 :: z76 :: z77 :: z78 :: z79 :: z80 :: z81 :: z82 :: z83 :: z84 :: z85 :: z86 :: z87 :: z88 :: z89 :: z90 :: z91 :: z92 :: z93 :: z94 :: z95 :: z96 :: z97 :: z98 :: z99 :: z100 :: z101 :: z102 :: z103 :: z104 :: z105 :: z106 :: z107 :: z108 :: z109 :: z110 :: z111 :: z112 :: z113 :: z114 :: z115 :: z116 :: z117 :: z118 :: z119 :: z120 :: z121 :: z122 :: z123 :: z124 :: z125 :: z126 :: z127 :: z128 :: z129 :: z130 :: z131 :: z132 :: z133 :: z134 :: z135 :: z136 :: z137 :: z138 :: z139 :: z140 :: z141 :: z142 :: z143 :: z144 :: z145 :: z146 :: z147 :: z148 :: z149 :: z150 :: z151 :: z152 :: z153 :: z154 :: z155 :: z156 :: z157 :: z158 :: z159 :: z160 :: z161 :: []), []⟩ wo := by
  conv => arg 2; whnf
  obtain ⟨T0, hT0⟩ : ∃ z : Int, z = 951782400 := ⟨_, rfl⟩
  obtain ⟨T1, hT1⟩ : ∃ z : Int, z = 1078012800 := ⟨_, rfl⟩
  obtain ⟨T2, hT2⟩ : ∃ z : Int, z = 1204243200 := ⟨_, rfl⟩
  have XL : Hid (tmX yrR T0 T0 4611686018427387904 3000 = (0, 12, [T0, T1, T2])) := Lib.hid (by rw [hT0, hT1, hT2]; exact leap_tm)
  have TB : Hid (T0 = 951782400) := Lib.hid hT0
  have d1 : IntKind.i64.wrap (T1 - T0) = 126230400 := by rw [IntKind.wrap_i64]; omega
  have d2 : IntKind.i64.wrap (T2 - T1) = 126230400 := by rw [IntKind.wrap_i64]; omega
  have V0 : Hid (Cal.num 2000 2 29 = 11016) := Lib.hid (by decide +kernel)
  go_upto_region 15 with fail
  go_cut [18] (fun a wz => a = .int .i64 T0 ∧ Hid (RowI w.heap.size wz (.slice A l cp) (wL TT k)) ∧ Hid (RowI w.heap.size wz lv O) ∧ Hid (Below w.heap.size w wz))
  case first =>
    clear d1 d2 hT1 hT2
    go_wp2_with fail
    refine (num_to2 2000 2 29 11016 _ (by decide) V0).mono ?_
    rintro e w15 ⟨rfl, k5⟩
    have RO := Lib.hid (RO.out.below k5)
    have RW := Lib.hid (RW.out.below k5)
    have B := Lib.hid (bstep B.out k5)
    clear k5
    go_wp2
    go_meet
    refine ⟨?_, RW, RO, B⟩
    first | rfl | (rw [hT0]; rfl) | (rw [hT0]; done) | (simp [hT0]; done) | trace_state
  case rest =>
  obtain ⟨w15, rfl⟩ : ∃ x : World, x = wc := ⟨_, rfl⟩
  clear RO RW B hT0 hT1 hT2
  obtain ⟨rfl, RW, RO, B⟩ := hcut
  go_upto_region 16 with fail
  go_cut [19, 21] (fun a c wz => ∃ lk, lk = a ∧ c = .int .i64 0 ∧ Hid (RowI w.heap.size wz lk [T0, T1, T2]) ∧ Hid (RowI w.heap.size wz (.slice A l cp) (wL TT k)) ∧ Hid (RowI w.heap.size wz lv O) ∧ Hid (Below w.heap.size w wz))
  case first =>
    clear d1 d2
    go_wp2_with fail
    refine (tms_to yrR _ _ _ _ _ _ _ _ _ T0 T0 4611686018427387904 3000 _ _ (Lib.hid (HA.out.stays B.out)) (Lib.hid (show -9223372036854775808 ≤ (0 : Int) ∧ (0 : Int) ≤ 9223372036854775807 by decide)) (Lib.hid (yr_lis _)) (Lib.hid yr_small) (Lib.hid (by have := TB.out; omega)) XL).mono ?_
    rintro e w16 ⟨lk, rfl, R, k6⟩
    have RK := Lib.hid (own_less2 R B.out.size)
    have RO := Lib.hid (RO.out.below k6)
    have RW := Lib.hid (RW.out.below k6)
    have B := Lib.hid (bstep B.out k6)
    clear k6 R
    go_wp2
    go_meet
    exact ⟨_, rfl, rfl, RK, RW, RO, B⟩
  case rest =>
  obtain ⟨w16, rfl⟩ : ∃ x : World, x = wc := ⟨_, rfl⟩
  clear RO RW B
  obtain ⟨lk, rfl, rfl, RK, RW, RO, B⟩ := hcut
  obtain ⟨g, kc, rfl, hg0, hg, hcl, -⟩ := RK.out.form (by simp)
  have C0 : Hid (∀ X0, Below w16.heap.size w16 X0 → X0.cell? ⟨g, 0, none⟩ = some (.int .i64 T0)) := Lib.hid (fun X0 hx => by rw [hx.cell (p := ⟨g, 0, none⟩) hg]; exact hcl 0 (by simp))
  have C1 : Hid (∀ X0, Below w16.heap.size w16 X0 → X0.cell? ⟨g, 1, none⟩ = some (.int .i64 T1)) := Lib.hid (fun X0 hx => by rw [hx.cell (p := ⟨g, 1, none⟩) hg]; exact hcl 1 (by simp))
  have C2 : Hid (∀ X0, Below w16.heap.size w16 X0 → X0.cell? ⟨g, 2, none⟩ = some (.int .i64 T2)) := Lib.hid (fun X0 hx => by rw [hx.cell (p := ⟨g, 2, none⟩) hg]; exact hcl 2 (by simp))
  have Sd : Hid (Below w16.heap.size w16 w16.drew) := Lib.hid ((Below.refl _ _).trans ⟨rfl, rfl, rfl, Nat.le_refl _, fun _ _ => rfl⟩)
  have k3 : ([T0, T1, T2] : List Int).length = 3 := rfl
  rw [k3]
  clear hcl RK k3
  go_upto_region 17 with fail
  refine Hr.Walk.region (R := fun _ X0 => Below w16.heap.size w16 X0) (by kernel_rfl) ?_
  refine Hr.Walk.take (i := 0) (v := ?va_0) (fun X0 => Below w16.heap.size w16 X0) (fun _ => True) rfl (by kernel_rfl) (by kernel_rfl) (by kernel_rfl) (fun _ _ _ h => h) (fun _ _ _ _ _ _ => trivial) (fun _ _ _ h => h) (fun _ _ h => h) trivial (Or.inl ⟨by rfl, ?hya_0⟩) Sd.out Sd.out ?resta_0
  case hya_0 => intro X0 hx; have c0 := C0.out X0 hx; have c1 := C1.out X0 hx; have c2 := C2.out X0 hx; clear hx; go_simp; try with_reducible rfl
  (try go_simp)
  refine Hr.Walk.one (i := 1) (by kernel_rfl) rfl (fun K hK => ?_)
  go_simp
  refine hK.out _ _ Sd.out ?_
  clear hK K
  refine Hr.Walk.one (i := 2) (by kernel_rfl) rfl (fun K hK => ?_)
  go_simp
  go_at_call 8
  refine (ints_b _ _ O (wL TT k) _ (IntV.of_row (RO.out.below Sd.out)) (IntV.of_row (RW.out.below Sd.out)) OL.out WLb.out true (Lib.hid (decide_eq_true E0.out))).mono ?_
  rintro e w18 ⟨rfl, k8⟩
  have S2 : Hid (Below w16.heap.size w16 w18) := Lib.hid (bstep Sd.out k8)
  have c0b := C0.out _ S2.out
  have c1b := C1.out _ S2.out
  have c2b := C2.out _ S2.out
  refine hK.out _ _ S2.out ?_
  clear hK K
  refine Hr.Walk.one (i := 3) (by kernel_rfl) rfl (fun K hK => ?_)
  go_simp
  refine hK.out _ _ S2.out ?_
  clear hK K
  refine Hr.Walk.one (i := 4) (by kernel_rfl) rfl (fun K hK => ?_)
  go_simp
  refine hK.out _ _ S2.out ?_
  clear hK K
  refine Hr.Walk.one (i := 5) (by kernel_rfl) rfl (fun K hK => ?_)
  go_simp
  refine hK.out _ _ S2.out ?_
  clear hK K
  refine Hr.Walk.one (i := 6) (by kernel_rfl) rfl (fun K hK => ?_)
  go_simp
  refine hK.out _ _ S2.out ?_
  clear hK K
  refine Hr.Walk.one (i := 7) (by kernel_rfl) rfl (fun K hK => ?_)
  go_simp
  refine hK.out _ _ S2.out ?_
  clear hK K
  refine Hr.Walk.one (i := 8) (by kernel_rfl) rfl (fun K hK => ?_)
  go_simp
  refine hK.out _ _ S2.out ?_
  clear hK K
  refine Hr.Walk.one (i := 9) (by kernel_rfl) rfl (fun K hK => ?_)
  go_simp
  refine hK.out _ _ S2.out ?_
  clear hK K
  refine Hr.Walk.one (i := 10) (by kernel_rfl) rfl (fun K hK => ?_)
  go_simp
  refine hK.out _ _ S2.out ?_
  clear hK K
  refine Hr.Walk.one (i := 11) (by kernel_rfl) rfl (fun K hK => ?_)
  go_simp
  refine hK.out _ _ S2.out ?_
  clear hK K
  refine Hr.Walk.one (i := 12) (by kernel_rfl) rfl (fun K hK => ?_)
  go_simp
  refine hK.out _ _ S2.out ?_
  clear hK K
  refine Hr.Walk.take (i := 13) (v := ?va_13) (fun X0 => Below w16.heap.size w16 X0) (fun _ => True) rfl (by kernel_rfl) (by kernel_rfl) (by kernel_rfl) (fun _ _ _ h => h) (fun _ _ _ _ _ _ => trivial) (fun _ _ _ h => h) (fun _ _ h => h) trivial (Or.inl ⟨by rfl, ?hya_13⟩) S2.out S2.out ?resta_13
  case hya_13 => intro X0 hx; have c0 := C0.out X0 hx; have c1 := C1.out X0 hx; have c2 := C2.out X0 hx; clear hx; go_simp; try with_reducible rfl
  (try go_simp)
  refine Hr.Walk.take (i := 14) (v := ?va_14) (fun X0 => Below w16.heap.size w16 X0) (fun _ => True) rfl (by kernel_rfl) (by kernel_rfl) (by kernel_rfl) (fun _ _ _ h => h) (fun _ _ _ _ _ _ => trivial) (fun _ _ _ h => h) (fun _ _ h => h) trivial (Or.inl ⟨by rfl, ?hya_14⟩) S2.out S2.out ?resta_14
  case hya_14 => intro X0 hx; have c0 := C0.out X0 hx; have c1 := C1.out X0 hx; have c2 := C2.out X0 hx; clear hx; go_simp; try with_reducible rfl
  (try go_simp)
  refine Hr.Walk.take (i := 15) (v := ?va_15) (fun X0 => Below w16.heap.size w16 X0) (fun _ => True) rfl (by kernel_rfl) (by kernel_rfl) (by kernel_rfl) (fun _ _ _ h => h) (fun _ _ _ _ _ _ => trivial) (fun _ _ _ h => h) (fun _ _ h => h) trivial (Or.inl ⟨by rfl, ?hya_15⟩) S2.out S2.out ?resta_15
  case hya_15 => intro X0 hx; have c0 := C0.out X0 hx; have c1 := C1.out X0 hx; have c2 := C2.out X0 hx; clear hx; go_simp; try with_reducible rfl
  (try go_simp)
  refine Hr.Walk.one (i := 16) (by kernel_rfl) rfl (fun K hK => ?_)
  go_simp
  refine hK.out _ _ S2.out ?_
  clear hK K
  refine Hr.Walk.one (i := 17) (by kernel_rfl) rfl (fun K hK => ?_)
  go_simp
  refine hK.out _ _ S2.out ?_
  clear hK K
  refine Hr.Walk.one (i := 18) (by kernel_rfl) rfl (fun K hK => ?_)
  go_simp
  refine hK.out _ _ S2.out ?_
  clear hK K
  refine Hr.Walk.one (i := 19) (by kernel_rfl) rfl (fun K hK => ?_)
  go_simp
  refine hK.out _ _ S2.out ?_
  clear hK K
  refine Hr.Walk.one (i := 20) (by kernel_rfl) rfl (fun K hK => ?_)
  go_simp
  refine hK.out _ _ S2.out ?_
  clear hK K
  refine Hr.Walk.one (i := 21) (by kernel_rfl) rfl (fun K hK => ?_)
  go_simp
  refine hK.out _ _ S2.out ?_
  clear hK K
  refine Hr.Walk.one (i := 22) (by kernel_rfl) rfl (fun K hK => ?_)
  go_simp
  refine hK.out _ _ S2.out ?_
  clear hK K
  refine Hr.Walk.take (i := 23) (v := ?va_23) (fun X0 => Below w16.heap.size w16 X0) (fun _ => True) rfl (by kernel_rfl) (by kernel_rfl) (by kernel_rfl) (fun _ _ _ h => h) (fun _ _ _ _ _ _ => trivial) (fun _ _ _ h => h) (fun _ _ h => h) trivial (Or.inl ⟨by rfl, ?hya_23⟩) S2.out S2.out ?resta_23
  case hya_23 => intro X0 hx; have c0 := C0.out X0 hx; have c1 := C1.out X0 hx; have c2 := C2.out X0 hx; clear hx; go_simp; try with_reducible rfl
  (try go_simp)
  refine Hr.Walk.take (i := 24) (v := ?va_24) (fun X0 => Below w16.heap.size w16 X0) (fun _ => True) rfl (by kernel_rfl) (by kernel_rfl) (by kernel_rfl) (fun _ _ _ h => h) (fun _ _ _ _ _ _ => trivial) (fun _ _ _ h => h) (fun _ _ h => h) trivial (Or.inl ⟨by rfl, ?hya_24⟩) S2.out S2.out ?resta_24
  case hya_24 => intro X0 hx; have c0 := C0.out X0 hx; have c1 := C1.out X0 hx; have c2 := C2.out X0 hx; clear hx; go_simp; try with_reducible rfl
  (try go_simp)
  refine Hr.Walk.take (i := 25) (v := ?va_25) (fun X0 => Below w16.heap.size w16 X0) (fun _ => True) rfl (by kernel_rfl) (by kernel_rfl) (by kernel_rfl) (fun _ _ _ h => h) (fun _ _ _ _ _ _ => trivial) (fun _ _ _ h => h) (fun _ _ h => h) trivial (Or.inl ⟨by rfl, ?hya_25⟩) S2.out S2.out ?resta_25
  case hya_25 => intro X0 hx; have c0 := C0.out X0 hx; have c1 := C1.out X0 hx; have c2 := C2.out X0 hx; clear hx; go_simp; try with_reducible rfl
  (try go_simp)
  refine Hr.Walk.one (i := 26) (by kernel_rfl) rfl (fun K hK => ?_)
  go_simp
  refine hK.out _ _ S2.out ?_
  clear hK K
  refine Hr.Walk.one (i := 27) (by kernel_rfl) rfl (fun K hK => ?_)
  go_simp
  refine hK.out _ _ S2.out ?_
  clear hK K
  refine Hr.Walk.one (i := 28) (by kernel_rfl) rfl (fun K hK => ?_)
  go_simp
  refine hK.out _ _ S2.out ?_
  clear hK K
  refine Hr.Walk.one (i := 29) (by kernel_rfl) rfl (fun K hK => ?_)
  go_simp
  refine hK.out _ _ S2.out ?_
  clear hK K
  refine Hr.Walk.one (i := 30) (by kernel_rfl) rfl (fun K hK => ?_)
  go_simp
  refine hK.out _ _ S2.out ?_
  clear hK K
  refine Hr.Walk.one (i := 31) (by kernel_rfl) rfl (fun K hK => ?_)
  go_simp
  refine hK.out _ _ S2.out ?_
  clear hK K
  refine Hr.Walk.one (i := 32) (by kernel_rfl) rfl (fun K hK => ?_)
  go_simp
  refine hK.out _ _ S2.out ?_
  clear hK K
  refine Hr.Walk.one (i := 33) (by kernel_rfl) rfl (fun K hK => ?_)
  go_simp
  go_at_call 7
  refine (wakes23_any _ (HA.out.stays (bstep B.out S2.out))).mono ?_
  rintro e w19 ⟨rfl, k9⟩
  have S3 : Hid (Below w16.heap.size w16 w19) := Lib.hid (bstep S2.out k9)
  refine hK.out _ _ S3.out ?_
  clear hK K
  refine Hr.Walk.one (i := 34) (by kernel_rfl) rfl (fun K hK => ?_)
  go_simp
  refine hK.out _ _ S3.out ?_
  clear hK K
  refine Hr.Walk.one (i := 35) (by kernel_rfl) rfl (fun K hK => ?_)
  go_simp
  refine hK.out _ _ S3.out ?_
  clear hK K
  refine Hr.Walk.done (by kernel_rfl) ?_ _
  go_wp2
  go_ret
  exact ⟨ret_b rfl, bstep B.out S3.out⟩

end Rru
end Go.Proofs.YtgaolaafjiiehaaDoor
