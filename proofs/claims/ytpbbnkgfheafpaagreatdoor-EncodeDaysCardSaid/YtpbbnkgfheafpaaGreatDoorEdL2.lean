/-
  EncodeDays, from its region 10 on: the forms' days and the rule's times.
-/
import Derived.Test.YtpbbnkgfheafpaaGreatDoorEdyB
import Derived.Test.YtpbbnkgfheafpaaGreatDoorEncX
import Derived.Test.YtpbbnkgfheafpaaGreatDoorEncWk
import Derived.Test.YtpbbnkgfheafpaaGreatDoorBdU5
import Derived.Test.YtpbbnkgfheafpaaGreatDoorBdK1
import Derived.Test.YtpbbnkgfheafpaaGreatDoorRcvB
import Derived.Test.YtpbbnkgfheafpaaGreatDoorSome7
import Derived.Test.YtpbbnkgfheafpaaGreatDoorBdCl
namespace Go.Proofs.YtpbbnkgfheafpaaGreatDoor
open Go.RowKit
namespace Edy
open Rcv (CV LisV IntV DayV RecV)
open Rck (ckE ckB Small)
open Ap (RowI)
open Civ (Ahead)
open Wk (onOk resV resE resolve_any)
open Enc (rcv enR enO unO EonQ eon_to wakes24_any smK smW smD sm_ok some7_to)
open Fil (moO mo_bd ld16)
open Rru (tmX tms_to ldY own_less2 tm_len)
open Cel

theorem ret_b {a b : Bool} (h : a = b) : Ending.returned (.bool a) = .returned (.bool b) := by rw [h]
theorem wrap_t {n : Int} (h : -1000000000000000 ≤ n ∧ n ≤ 1000000000000000) : IntKind.i64.wrap n = n := by rw [IntKind.wrap_i64]; omega
theorem uu_mod (n : Int) {k : Int} (h : 1 ≤ k ∧ k ≤ 1000000) : ∃ m, (0 ≤ m ∧ m < k) ∧ Hid ((IntKind.u64.wrap n).tmod k = m ∧ IntKind.i64.wrap m = m) := by
  have u0 : 0 ≤ IntKind.u64.wrap n := by rw [IntKind.wrap_u64]; omega
  have e := Int.tmod_eq_emod_of_nonneg (b := k) u0
  have b : 0 ≤ IntKind.u64.wrap n % k ∧ IntKind.u64.wrap n % k < k := ⟨Int.emod_nonneg _ (by omega), Int.emod_lt_of_pos _ (by omega)⟩
  refine ⟨_, b, Lib.hid ⟨e, ?_⟩⟩
  generalize IntKind.u64.wrap n % k = m at b
  exact wrap_t ⟨by omega, by omega⟩
theorem res_to (y m k v d N E : Int) (w : World) (hA : Ahead w) (h : Hid (resV y m k v d = N ∧ resE y m k v d = E)) :
    Calls Tryz.prog 8 #[.int .i64 y, .int .i64 m, .agg #[.int .i64 k, .int .i64 v, .int .i64 d]] w fun e w' => e = .returned (.tuple #[.int .i64 N, .int .i64 E]) ∧ Below w.heap.size w w' :=
  (resolve_any y m k v d w hA).mono fun _ _ ⟨he, hw⟩ => ⟨by rw [he, h.out.1, h.out.2], hw⟩
theorem ints_c (v u : Value) (L M : List Int) (w : World) (hv : IntV w v L) (hu : IntV w u M) (hL : L.length ≤ 1000000) (hM : M.length ≤ 1000000) (b : Bool) (h : Hid (decide (L = M) = b)) :
    Calls Tryz.prog 11 #[v, u] w fun e w' => e = .returned (.bool b) ∧ Below w.heap.size w w' :=
  (Rcv.ints_any v u L M w hv hu hL hM).mono fun _ _ ⟨b', he, hb, m, hw⟩ => ⟨by rw [he, hb.out, h.out], by rw [hw]; exact ⟨rfl, rfl, rfl, Nat.le_refl _, fun _ _ => rfl⟩⟩
/-- The days' times, so many years gone through. -/
def tL (M k v d m y : Int) (i : Nat) : List Int := (List.range i).map (fun j : Nat => yT M k v d m (y + (j : Int)))
theorem tL_len (M k v d m y : Int) (i : Nat) : (tL M k v d m y i).length = i := by simp [tL]
theorem tL_succ (M k v d m y : Int) (i : Nat) : tL M k v d m y (i + 1) = tL M k v d m y i ++ [yT M k v d m (y + (i : Int))] := by rw [tL, List.range_succ, List.map_append]; rfl
theorem tL_get (M k v d m y : Int) (n i : Nat) (h : i < (tL M k v d m y n).length) : (tL M k v d m y n)[i] = yT M k v d m (y + (i : Int)) := by simp [tL]

noncomputable def edT10C : Code := (Tryz.f3.body.bind (Tl.from_ 10)).getD .skip
set_option maxHeartbeats 25600000 in
set_option maxRecDepth 100000 in
theorem edT10 (M K V D m y v0 : Int) (n g0 g : Nat) (x : CV) (s6 s7 s8 s9 s10 s11 s12 s13 s14 : Value) (w w2 : World) (HA : Hid (Ahead w)) (UA : Hid (x.ua = 0)) (L : Hid (LisV w2 x s6 s7 s8 s9 s10 s11 s12 s13 s14)) (S : Hid (Small x)) (NB : Hid (n ≤ 19 ∧ 1 ≤ y ∧ y ≤ 9920 ∧ -3 ≤ m ∧ m ≤ 3)) (VY : Hid (∀ Y, 1 ≤ Y ∧ Y ≤ 9999 → resE Y M K V D = 0 ∧ (-720000 ≤ resV Y M K V D ∧ resV Y M K V D ≤ 3000000))) (V0 : Hid (resV y M K V D = v0)) (TM : Hid (∃ c, tmX x (yT M K V D m y) (-4611686018427387904) (yT M K V D m (y + n)) 1000 = (0, c, tL M K V D m y (n + 1)))) (RO : Hid (Cs g0 w2 [.int .i64 K, .int .i64 V, .int .i64 D])) (RB : Hid (Cs g w2 [.int .i64 x.fq, .int .i64 x.iv, .int .i64 x.ct, .bool x.un, .int .i64 x.ua, .bool x.ut, s6, s7, s8, s9, s10, s11, s12, s13, s14, .int .i64 x.wk])) (B : Hid (Below w.heap.size w w2)) (z1 z2 z3 z7 z8 z9 z10 z11 z12 z13 z14 z17 z19 z20 z21 z22 z23 z24 z25 z26 z27 z28 z29 z30 z31 z32 z33 z34 z35 z36 z37 z38 z39 z40 z41 z42 z43 z44 z45 z46 z47 z48 z49 z50 z51 z52 z53 z54 z55 z56 z57 z58 z59 z60 z61 z62 z63 z64 z65 z66 z67 z68 z69 z70 z71 z72 z73 z74 z75 z76 z77 z78 z79 z80 z81 z82 z83 z84 z85 z86 z87 z88 z89 z90 z91 z92 z93 z94 z95 z96 z97 z98 z99 z100 z101 z102 z103 z104 z105 z106 z107 z108 z109 z110 z111 z112 z113 z114 z115 z116 z117 z118 z119 z120 z121 z122 z123 z124 z125 z126 z127 z128 z129 : Value) : Code.wp Tryz.prog edT10C (bodyPost Tryz.prog Tryz.f3 (fun e w' => e = .returned (.bool true) ∧ Below w.heap.size w w')) ⟨List.toArray (.int .i64 M :: z1 :: z2 :: z3 :: .int .i64 m :: .int .i64 y :: .int .i64 n :: z7 :: z8 :: z9 :: z10 :: z11 :: z12 :: z13 :: z14 :: .pointer (some ⟨g0, 0, none⟩) :: .pointer (some ⟨g, 0, none⟩) :: z17 :: .int .i64 v0 :: z19 :: z20 :: z21 :: z22 :: z23 :: z24 :: z25 :: z26 :: z27 :: z28 :: z29 :: z30 :: z31 :: z32 :: z33 :: z34 :: z35 :: z36 :: z37 :: z38 :: z39 :: z40 :: z41 :: z42 :: z43 :: z44 :: z45 :: z46 :: z47 :: z48 :: z49 :: z50 :: z51 :: z52 :: z53 :: z54 :: z55 :: z56 :: z57 :: z58 :: z59 :: z60 :: z61 :: z62 :: z63 :: z64 :: z65 :: z66 :: z67 :: z68 :: z69 :: z70 :: z71 :: z72 :: z73 :: z74 :: z75 :: z76 :: z77 :: z78 :: z79 :: z80 :: z81 :: z82 :: z83 :: z84 :: z85 :: z86 :: z87 :: z88 :: z89 :: z90 :: z91 :: z92 :: z93 :: z94 :: z95 :: z96 :: z97 :: z98 :: z99 :: z100 :: z101 :: z102 :: z103 :: z104 :: z105 :: z106 :: z107 :: z108 :: z109 :: z110 :: z111 :: z112 :: z113 :: z114 :: z115 :: z116 :: z117 :: z118 :: z119 :: z120 :: z121 :: z122 :: z123 :: z124 :: z125 :: z126 :: z127 :: z128 :: z129 :: []), []⟩ w2 := by
  conv => arg 2; whnf
  go_wp2_with fail
  go_loopw [20, 21, 22, 23] (fun wv iv q1 q2 wr => ∃ (i : Nat) (mv : Value), i ≤ n + 1 ∧ wv = mv ∧ iv = .int .i64 i ∧ Hid (RowI w2.heap.size wr mv (tL M K V D m y i)) ∧ Hid (Below w2.heap.size w2 wr)) (fun _ iv _ _ _ => n + 1 - (intOf iv).toNat)
  case atStart => exact ⟨0, .slice none 0 0, by omega, rfl, by rfl, Lib.hid (RowI.nil _ _), Lib.hid (Below.refl _ _)⟩
  case round =>
    obtain ⟨i, mv, hi, rfl, rfl, HR, K1⟩ := hrel
    obtain ⟨wo, rfl⟩ : ∃ wo : World, wo = wr := ⟨_, rfl⟩
    have nb := NB.out
    by_cases hlt : i ≤ n
    · obtain ⟨yi, hyi⟩ : ∃ z, y + (i : Int) = z := ⟨_, rfl⟩
      obtain ⟨re, rb⟩ := VY.out yi (by omega)
      obtain ⟨v, hv⟩ : ∃ z, resV yi M K V D = z := ⟨_, rfl⟩
      rw [hv] at rb
      have RN := Lib.hid (And.intro hv re)
      obtain ⟨vm, hvm⟩ : ∃ z, v + m = z := ⟨_, rfl⟩
      obtain ⟨t, ht⟩ : ∃ z, 86400 * vm = z := ⟨_, rfl⟩
      have TS : Hid (tL M K V D m y (i + 1) = tL M K V D m y i ++ [t]) := Lib.hid (by rw [tL_succ, hyi, yT, hv, hvm, show vm * 86400 = t by omega])
      have e1 : IntKind.i64.wrap yi = yi := wrap_t (by omega)
      have e2 : IntKind.i64.wrap vm = vm := wrap_t (by omega)
      have e3 : IntKind.i64.wrap t = t := wrap_t (by omega)
      have s1 : IntKind.i64.wrap ((i : Int) + 1) = ((i + 1 : Nat) : Int) := by rw [IntWalk.i64_in _ (by omega)]; omega
      have h12 : (i : Int) ≤ (n : Int) := by omega
      have o0 := ((RO.out.below K1.out).2 0 _ rfl).1
      have o1 := ((RO.out.below K1.out).2 1 _ rfl).1
      have o2 := ((RO.out.below K1.out).2 2 _ rfl).1
      have HI : Hid (i ≤ n) := Lib.hid hlt
      clear re rb hv nb hi
      go_wp2_with fail
      refine (res_to yi M K V D v 0 _ (HA.out.stays (bstep B.out K1.out)) RN).mono ?_
      rintro e w7 ⟨rfl, k7⟩
      have HR := Lib.hid (HR.out.below k7)
      have K1 := Lib.hid (bstep K1.out k7)
      have hl : (tL M K V D m y i).length ≤ 100000000 := by rw [tL_len]; have := HI.out; have := NB.out; omega
      have hsz : w2.heap.size ≤ w7.heap.size := K1.out.size
      clear k7 o0 o1 o2
      go_wp2_with (at_builtin; refine Ap.appI rfl _ _ rfl w2.heap.size _ (tL M K V D m y i) rfl HR.out t rfl hl hsz ?_)
      intro wn gg gcap r5 g5
      have HB7 := Lib.hid (g5.below w2.heap.size w2 (Nat.le_refl _) K1.out hsz)
      have HR6 : Hid (RowI w2.heap.size wn (.slice (some ⟨gg, 0, none⟩) ((tL M K V D m y i).length + 1) gcap) (tL M K V D m y (i + 1))) := Lib.hid (by rw [TS.out]; exact r5)
      clear g5 r5 HR K1 hsz hl
      go_wp2
      go_roundw
      case rel => exact ⟨i + 1, _, by have := HI.out; omega, rfl, by first | rfl | (rw [s1]) | go_num, HR6, HB7⟩
      case measure => have := HI.out; simp [intOf]; omega
    · obtain rfl : i = n + 1 := by omega
      obtain ⟨ga, gc, hva, -, -, -, -⟩ := HR.out.form (by rw [tL_len]; omega)
      subst hva
      have hl := tL_len M K V D m y (n + 1)
      rw [hl] at HR ⊢
      have RW := Lib.hid (own_less2 HR.out B.out.size)
      have RB := Lib.hid (RB.out.below K1.out)
      have L := Lib.hid (L.out.below K1.out)
      have VB : Hid (-720000 ≤ v0 ∧ v0 ≤ 3000000) := Lib.hid (by rw [← V0.out]; exact (VY.out y (by omega)).2)
      have V1 : Hid (yT M K V D m y = (v0 + m) * 86400) := Lib.hid (by rw [yT, V0.out])
      have B := Lib.hid (bstep B.out K1.out)
      clear hl nb hlt hi
      have nb := NB.out
      have vb := VB.out
      obtain ⟨st, hst⟩ : ∃ z, yT M K V D m y = z := ⟨_, rfl⟩
      obtain ⟨tt, htt⟩ : ∃ z, yT M K V D m (y + n) = z := ⟨_, rfl⟩
      obtain ⟨c, hX⟩ := TM.out
      have v1 := V1.out
      have tq : -9000000000000 ≤ yT M K V D m (y + n) ∧ yT M K V D m (y + n) ≤ 9000000000000 := by
        have := (VY.out (y + n) (by omega)).2
        rw [yT]
        omega
      rw [hst] at v1
      rw [htt] at tq
      rw [hst, htt] at hX
      have X1 := Lib.hid hX
      obtain ⟨vm, hvm⟩ : ∃ z, v0 + m = z := ⟨_, rfl⟩
      rw [hvm] at v1
      have v2 : 86400 * vm = st := by omega
      have e1 : IntKind.i64.wrap vm = vm := wrap_t (by omega)
      have e2 : IntKind.i64.wrap st = st := wrap_t (by omega)
      have SB : Hid ((-9223372036854775808 ≤ st ∧ st ≤ 9223372036854775807) ∧ (-9223372036854775808 ≤ (-4611686018427387904 : Int) ∧ (-4611686018427387904 : Int) ≤ 9223372036854775807) ∧ (-9223372036854775808 ≤ tt ∧ tt ≤ 9223372036854775807) ∧ -9223372036854775808 ≤ (1000 : Int) ∧ (1000 : Int) ≤ 9223372036854775807) := Lib.hid ⟨by omega, by decide, by omega, by decide⟩
      obtain ⟨g1, c1, hv1, -, hg, hcl, -⟩ := RW.out.form (by rw [tL_len]; omega)
      injection hv1 with q1 q2 q3
      injection q1 with q1
      injection q1 with q1 _
      subst q1
      clear q2 q3
      have C0 : Hid (∀ X0, Below wo.heap.size wo X0 → X0.cell? ⟨ga, n, none⟩ = some (.int .i64 tt)) := Lib.hid (fun X0 hx => by rw [hx.cell (p := ⟨ga, n, none⟩) hg, hcl n (by rw [tL_len]; omega), tL_get, htt])
      have LT : Hid ((tL M K V D m y (n + 1)).length ≤ 1000000) := Lib.hid (by rw [tL_len]; omega)
      have HU : Hid (-9223372036854775808 ≤ x.ua ∧ x.ua ≤ 9223372036854775807) := Lib.hid (by have := UA.out; omega)
      have Sd : Hid (Below wo.heap.size wo wo.drew) := Lib.hid ((Below.refl _ _).trans ⟨rfl, rfl, rfl, Nat.le_refl _, fun _ _ => rfl⟩)
      have nlt : n < n + 1 := by omega
      have c0w := C0.out wo (Below.refl _ _)
      clear hcl hX v1 nb vb hst htt TM tq
      go_upto_region 18 with fail
      go_cut [24, 26] (fun a b wz => ∃ lv, lv = a ∧ b = .int .i64 0 ∧ Hid (RowI w.heap.size wz lv (tL M K V D m y (n + 1))) ∧ Hid (RowI w.heap.size wz (.slice (some ⟨ga, 0, none⟩) (n + 1) gc) (tL M K V D m y (n + 1))) ∧ Hid (Below w.heap.size w wz))
      case first =>
        refine Hr.Walk.region (R := fun _ X0 => Below wo.heap.size wo X0) (by kernel_rfl) ?_
        refine Hr.Walk.take (i := 0) (v := ?va_0) (fun X0 => Below wo.heap.size wo X0) (fun _ => True) rfl (by kernel_rfl) (by kernel_rfl) (by kernel_rfl) (fun _ _ _ h => h) (fun _ _ _ _ _ _ => trivial) (fun _ _ _ h => h) (fun _ _ h => h) trivial (Or.inl ⟨by rfl, ?hya_0⟩) Sd.out Sd.out ?resta_0
        case hya_0 => intro X0 hx; have hr := (RB.out.below hx).range; clear hx; refine ldY (x := .tmp 16) hr ?_ ?_ Tryz.underlying29 rfl ?_; all_goals first | rfl | kernel_rfl
        (try go_simp)
        refine Hr.Walk.take (i := 1) (v := ?va_1) (fun X0 => Below wo.heap.size wo X0) (fun _ => True) rfl (by kernel_rfl) (by kernel_rfl) (by kernel_rfl) (fun _ _ _ h => h) (fun _ _ _ _ _ _ => trivial) (fun _ _ _ h => h) (fun _ _ h => h) trivial (Or.inl ⟨by rfl, ?hya_1⟩) Sd.out Sd.out ?resta_1
        case hya_1 => intro X0 hx; have c0 := C0.out X0 hx; clear hx; go_simp; try with_reducible rfl
        (try go_simp)
        refine Hr.Walk.take (i := 2) (v := ?va_2) (fun X0 => Below wo.heap.size wo X0) (fun _ => True) rfl (by kernel_rfl) (by kernel_rfl) (by kernel_rfl) (fun _ _ _ h => h) (fun _ _ _ _ _ _ => trivial) (fun _ _ _ h => h) (fun _ _ h => h) trivial (Or.inl ⟨by rfl, ?hya_2⟩) Sd.out Sd.out ?resta_2
        case hya_2 => intro X0 hx; have c0 := C0.out X0 hx; clear hx; go_simp; try with_reducible rfl
        (try go_simp)
        refine Hr.Walk.take (i := 3) (v := ?va_3) (fun X0 => Below wo.heap.size wo X0) (fun _ => True) rfl (by kernel_rfl) (by kernel_rfl) (by kernel_rfl) (fun _ _ _ h => h) (fun _ _ _ _ _ _ => trivial) (fun _ _ _ h => h) (fun _ _ h => h) trivial (Or.inl ⟨by rfl, ?hya_3⟩) Sd.out Sd.out ?resta_3
        case hya_3 => intro X0 hx; have c0 := C0.out X0 hx; clear hx; go_simp; try with_reducible rfl
        (try go_simp)
        refine Hr.Walk.take (i := 4) (v := ?va_4) (fun X0 => Below wo.heap.size wo X0) (fun _ => True) rfl (by kernel_rfl) (by kernel_rfl) (by kernel_rfl) (fun _ _ _ h => h) (fun _ _ _ _ _ _ => trivial) (fun _ _ _ h => h) (fun _ _ h => h) trivial (Or.inl ⟨by rfl, ?hya_4⟩) Sd.out Sd.out ?resta_4
        case hya_4 => intro X0 hx; have c0 := C0.out X0 hx; clear hx; go_simp; try with_reducible rfl
        (try go_simp)
        refine Hr.Walk.take (i := 5) (v := ?va_5) (fun X0 => Below wo.heap.size wo X0) (fun _ => True) rfl (by kernel_rfl) (by kernel_rfl) (by kernel_rfl) (fun _ _ _ h => h) (fun _ _ _ _ _ _ => trivial) (fun _ _ _ h => h) (fun _ _ h => h) trivial (Or.inl ⟨by rfl, ?hya_5⟩) Sd.out Sd.out ?resta_5
        case hya_5 => intro X0 hx; have c0 := C0.out X0 hx; clear hx; go_simp; try with_reducible rfl
        (try go_simp)
        refine Hr.Walk.one (i := 6) (by kernel_rfl) rfl (fun K hK => ?_)
        go_simp
        refine hK.out _ _ Sd.out ?_
        clear hK K
        refine Hr.Walk.one (i := 7) (by kernel_rfl) rfl (fun K hK => ?_)
        go_simp
        refine hK.out _ _ Sd.out ?_
        clear hK K
        refine Hr.Walk.one (i := 8) (by kernel_rfl) rfl (fun K hK => ?_)
        go_simp
        refine hK.out _ _ Sd.out ?_
        clear hK K
        refine Hr.Walk.one (i := 9) (by kernel_rfl) rfl (fun K hK => ?_)
        go_simp
        go_at_call 10
        refine (tms_to x _ _ _ _ _ _ _ _ _ st (-4611686018427387904) tt 1000 _ _ (Lib.hid (HA.out.stays (bstep B.out Sd.out))) HU (Lib.hid (L.out.below Sd.out)) S SB X1).mono ?_
        rintro e w8 ⟨lv, rfl, R, k8⟩
        have RO := Lib.hid (own_less2 R (bstep B.out Sd.out).size)
        have RW := Lib.hid (RW.out.below (bstep Sd.out k8))
        have S2 : Hid (Below wo.heap.size wo w8) := Lib.hid (bstep Sd.out k8)
        clear R
        refine hK.out _ _ S2.out ?_
        clear hK K
        refine Hr.Walk.one (i := 10) (by kernel_rfl) rfl (fun K hK => ?_)
        go_simp
        refine hK.out _ _ S2.out ?_
        clear hK K
        refine Hr.Walk.take (i := 11) (v := ?va_11) (fun X0 => Below wo.heap.size wo X0) (fun _ => True) rfl (by kernel_rfl) (by kernel_rfl) (by kernel_rfl) (fun _ _ _ h => h) (fun _ _ _ _ _ _ => trivial) (fun _ _ _ h => h) (fun _ _ h => h) trivial (Or.inl ⟨by rfl, ?hya_11⟩) S2.out S2.out ?resta_11
        case hya_11 => intro X0 hx; have c0 := C0.out X0 hx; clear hx; go_simp; try with_reducible rfl
        (try go_simp)
        refine Hr.Walk.take (i := 12) (v := ?va_12) (fun X0 => Below wo.heap.size wo X0) (fun _ => True) rfl (by kernel_rfl) (by kernel_rfl) (by kernel_rfl) (fun _ _ _ h => h) (fun _ _ _ _ _ _ => trivial) (fun _ _ _ h => h) (fun _ _ h => h) trivial (Or.inl ⟨by rfl, ?hya_12⟩) S2.out S2.out ?resta_12
        case hya_12 => intro X0 hx; have c0 := C0.out X0 hx; clear hx; go_simp; try with_reducible rfl
        (try go_simp)
        refine Hr.Walk.take (i := 13) (v := ?va_13) (fun X0 => Below wo.heap.size wo X0) (fun _ => True) rfl (by kernel_rfl) (by kernel_rfl) (by kernel_rfl) (fun _ _ _ h => h) (fun _ _ _ _ _ _ => trivial) (fun _ _ _ h => h) (fun _ _ h => h) trivial (Or.inl ⟨by rfl, ?hya_13⟩) S2.out S2.out ?resta_13
        case hya_13 => intro X0 hx; have c0 := C0.out X0 hx; clear hx; go_simp; try with_reducible rfl
        (try go_simp)
        refine Hr.Walk.one (i := 14) (by kernel_rfl) rfl (fun K hK => ?_)
        go_simp
        refine hK.out _ _ S2.out ?_
        clear hK K
        refine Hr.Walk.one (i := 15) (by kernel_rfl) rfl (fun K hK => ?_)
        go_simp
        refine hK.out _ _ S2.out ?_
        clear hK K
        refine Hr.Walk.one (i := 16) (by kernel_rfl) rfl (fun K hK => ?_)
        go_simp
        refine hK.out _ _ S2.out ?_
        clear hK K
        refine Hr.Walk.done (by kernel_rfl) ?_ _
        go_wp2
        go_meet
        exact ⟨_, rfl, rfl, RO, RW, Lib.hid (bstep B.out S2.out)⟩
      case rest =>
      obtain ⟨w18, rfl⟩ : ∃ x : World, x = wc := ⟨_, rfl⟩
      clear RW B
      obtain ⟨lv, rfl, rfl, RO, RW, B⟩ := hcut
      go_wp2_with fail
      refine (ints_c _ _ (tL M K V D m y (n + 1)) (tL M K V D m y (n + 1)) _ (IntV.of_row RO.out) (IntV.of_row RW.out) LT.out LT.out true (Lib.hid (decide_eq_true rfl))).mono ?_
      rintro e w19 ⟨rfl, k9⟩
      have B := Lib.hid (bstep B.out k9)
      clear k9
      go_wp2_with fail
      refine (wakes24_any _).mono ?_
      rintro e wo0 ⟨rfl, k⟩
      go_wp2
      go_ret
      exact ⟨ret_b rfl, bstep B.out k⟩

end Edy
end Go.Proofs.YtpbbnkgfheafpaaGreatDoor
