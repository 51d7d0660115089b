/-
  RruleLets, from its region 12 on: each time that is told.
-/
import Derived.Test.YtbdakbjlgljahaaGreatDoorRruW
import Derived.Test.YtbdakbjlgljahaaGreatDoorBdU7
import Derived.Test.YtbdakbjlgljahaaGreatDoorRruYB
import Derived.Test.YtbdakbjlgljahaaGreatDoorBdCl
import Derived.Test.YtbdakbjlgljahaaGreatDoorBdFd
namespace Go.Proofs.YtbdakbjlgljahaaGreatDoor
open Go.RowKit
namespace Rru
open Rcv (CV LisV IntV DayV)
open Rck (ckE ckB Small)
open Ap (RowI)
open Civ (numV numE dY dM dD dnE ydV Ahead)
open Fil (moO mo_bd spE spT spF spQ perV perE perQ ld16 vsm vsm_mo vsm_bd vsome_to ck_fq per_to span_to)
open Cel

theorem wrap_tm {a v : Int} (h : 1 ≤ v ∧ v ≤ 1000) : IntKind.i64.wrap (a.tmod v) = a.tmod v := by
  have a1 := Int.tmod_lt_of_pos a (show 0 < v by omega)
  have b1 := Int.lt_tmod_of_pos a (show 0 < v by omega)
  generalize a.tmod v = r at a1 b1 ⊢
  rw [IntKind.wrap_i64]
  omega

noncomputable def ltT12C : Code := (Tryz.f4.body.bind (Tl.from_ 12)).getD .skip
set_option maxHeartbeats 25600000 in
set_option maxRecDepth 100000 in
theorem ltT12 (x : CV) (s6 s7 s8 s9 s10 s11 s12 s13 : Value) (a14 : Option Addr) (c14 : Nat) (T f to_ p : Int) (A : Option Addr) (cc : Nat) (O : List Int) (w w2 : World) (HA : Hid (Ahead w)) (HU : Hid (-9223372036854775808 ≤ x.ua ∧ x.ua ≤ 9223372036854775807)) (L : Hid (LisV w x s6 s7 s8 s9 s10 s11 s12 s13 (.slice a14 x.sp.length c14))) (S : Hid (Small x)) (HKB : Hid (ckB x = true)) (BDS : Hid (-62135596800 ≤ T ∧ T < 253402300800 ∧ -62200000000 ≤ f ∧ f ≤ to_ ∧ to_ ≤ 255000000000)) (PV : Hid (perV x T = p)) (OL : Hid (O.length ≤ 1000000)) (EA : Hid (∀ t ∈ O, (f ≤ t ∧ t ≤ to_) ∧ T ≤ t ∧ (t ≠ T → perE x t = 0 ∧ (perV x t - p).tmod x.iv = 0 ∧ Fil.letP x T t = true ∧ (x.un = true → t ≤ x.ua)))) (UP : Hid (O.Pairwise (· < ·))) (RO : Hid (RowI (w.heap.size + 1) w2 (.slice A O.length cc) O)) (RB : Hid (Cs w.heap.size w2 [.int .i64 x.fq, .int .i64 x.iv, .int .i64 x.ct, .bool x.un, .int .i64 x.ua, .bool x.ut, s6, s7, s8, s9, s10, s11, s12, s13, .slice a14 x.sp.length c14, .int .i64 x.wk])) (B : Hid (Below w.heap.size w w2)) (z0 z3 z5 z6 z7 z8 z11 z12 z14 z15 z16 z17 z18 z19 z20 z21 z22 z23 z24 z25 z26 z27 z28 z29 z30 z31 z32 z33 z34 z35 z36 z37 z38 z39 z40 z41 z42 z43 z44 z45 z46 z47 z48 z49 z50 z51 z52 z53 z54 z55 z56 z57 z58 z59 z60 z61 z62 z63 z64 z65 z66 z67 z68 z69 z70 z71 z72 z73 z74 z75 z76 z77 z78 z79 z80 z81 z82 z83 z84 z85 z86 z87 z88 z89 z90 z91 z92 z93 z94 z95 z96 z97 z98 z99 z100 z101 z102 z103 z104 z105 z106 z107 z108 z109 z110 z111 z112 z113 z114 z115 z116 z117 z118 z119 z120 z121 z122 z123 z124 z125 z126 z127 z128 z129 z130 z131 z132 z133 z134 z135 z136 z137 z138 z139 z140 z141 z142 z143 z144 z145 z146 z147 z148 z149 z150 z151 z152 z153 z154 z155 z156 z157 z158 z159 z160 z161 z162 z163 z164 z165 z166 z167 z168 : Value) : Code.wp Tryz.prog ltT12C (bodyPost Tryz.prog Tryz.f4 (fun e w' => e = .returned (.bool true) ∧ Below w.heap.size w w')) ⟨List.toArray (z0 :: .int .i64 T :: .int .i64 f :: z3 :: .pointer (some ⟨w.heap.size, 0, none⟩) :: z5 :: z6 :: z7 :: z8 :: .int .i64 to_ :: .slice A O.length cc :: z11 :: z12 :: .int .i64 p :: z14 :: z15 :: z16 :: z17 :: z18 :: z19 :: z20 :: z21 :: z22 :: z23 :: z24 :: z25 :: z26 :: z27 :: z28 :: z29 :: z30 :: z31 :: z32 :: z33 :: z34 :: z35 :: z36 :: z37 :: z38 :: z39 :: z40 :: z41 :: z42 :: z43 :: z44 :: z45 :: z46 :: z47 :: z48 :: z49 :: z50 :: z51 :: z52 :: z53 :: z54 :: z55 :: z56 :: z57 :: z58 :: z59 :: z60 :: z61 :: z62 :: z63 :: z64 :: z65 :: z66 :: z67 :: z68 :: z69 :: z70 :: z71 :: z72 :: z73 :: z74 :: z75 :: z76 :: z77 :: z78 :: z79 :: z80 :: z81 :: z82 :: z83 :: z84 :: z85 :: z86 :: z87 :: z88 :: z89 :: z90 :: z91 :: z92 :: z93 :: z94 :: z95 :: z96 :: z97 :: z98 :: z99 :: z100 :: z101 :: z102 :: z103 :: z104 :: z105 :: z106 :: z107 :: z108 :: z109 :: z110 :: z111 :: z112 :: z113 :: z114 :: z115 :: z116 :: z117 :: z118 :: z119 :: z120 :: z121 :: z122 :: z123 :: z124 :: z125 :: z126 :: z127 :: z128 :: z129 :: z130 :: z131 :: z132 :: z133 :: z134 :: z135 :: z136 :: z137 :: z138 :: z139 :: z140 :: z141 :: z142 :: z143 :: z144 :: z145 :: z146 :: z147 :: z148 :: z149 :: z150 :: z151 :: z152 :: z153 :: z154 :: z155 :: z156 :: z157 :: z158 :: z159 :: z160 :: z161 :: z162 :: z163 :: z164 :: z165 :: z166 :: z167 :: z168 :: []), []⟩ w2 := by
  conv => arg 2; whnf
  obtain ⟨n, hn⟩ : ∃ z, O.length = z := ⟨_, rfl⟩
  have HN := Lib.hid hn
  have RO2 := RO
  rw [hn] at RO2
  clear RO
  rw [hn]
  clear hn
  go_wp2_with fail
  go_loopw [15, 16, 17] (fun iv q1 q2 wr => ∃ (k : Nat), k ≤ n ∧ iv = .int .i64 k ∧ Hid (RowI (w.heap.size + 1) wr (.slice A n cc) O) ∧ Hid (Cs w.heap.size wr [.int .i64 x.fq, .int .i64 x.iv, .int .i64 x.ct, .bool x.un, .int .i64 x.ua, .bool x.ut, s6, s7, s8, s9, s10, s11, s12, s13, .slice a14 x.sp.length c14, .int .i64 x.wk]) ∧ Hid (Below w.heap.size w wr)) (fun iv _ _ _ => n - (intOf iv).toNat)
  case atStart => exact ⟨0, by omega, by rfl, RO2, RB, B⟩
  case round =>
    clear RO2 RB B
    obtain ⟨k, hk, rfl, RO, RB, B⟩ := hrel
    obtain ⟨wo, rfl⟩ : ∃ wo : World, wo = wr := ⟨_, rfl⟩
    by_cases hlt : k < n
    · obtain ⟨g, c, hv, hg0, hg, hcl, -⟩ := RO.out.form (by rw [HN.out]; omega)
      injection hv with e1 e2 e3
      subst e1 e3
      clear e2
      have kL : k < O.length := by rw [HN.out]; exact hlt
      obtain ⟨t, ht⟩ : ∃ z, O[k]'kL = z := ⟨_, rfl⟩
      have tm : t ∈ O := by rw [← ht]; exact List.getElem_mem kL
      have ET := Lib.hid (EA.out t tm)
      have C0 : Hid (∀ X0, Below wo.heap.size wo X0 → X0.cell? ⟨g, k, none⟩ = some (.int .i64 t)) := Lib.hid (fun X0 hx => by rw [hx.cell (p := ⟨g, k, none⟩) hg, hcl k kL, ht])
      have PR : Hid (∀ j : Nat, j + 1 = k → ∃ u, u < t ∧ ∀ X0, Below wo.heap.size wo X0 → X0.cell? ⟨g, j, none⟩ = some (.int .i64 u)) := Lib.hid (fun j hj => by
        subst hj
        exact ⟨O[j], by rw [← ht]; exact List.pairwise_iff_getElem.1 UP.out j (j + 1) (by omega) kL (by omega), fun X0 hx => by rw [hx.cell (p := ⟨g, j, none⟩) hg, hcl j (by omega)]⟩)
      clear hcl
      have TBD : Hid (-62200000000 ≤ t ∧ t ≤ 255000000000) := Lib.hid (by have := BDS.out; have := ET.out; omega)
      have NL : Hid (n ≤ 1000000) := Lib.hid (by rw [← HN.out]; exact OL.out)
      have nb := NL.out
      have z1 : ¬ t < f := by have := ET.out.1.1; omega
      have z2 : ¬ to_ < t := by have := ET.out.1.2; omega
      have z3 : ¬ t < T := by have := ET.out.2.1; omega
      have s1 : IntKind.i64.wrap ((k : Int) + 1) = ((k + 1 : Nat) : Int) := by rw [IntWalk.i64_in _ (by omega)]; omega
      have S1 := Lib.hid s1
      have Sd : Hid (Below wo.heap.size wo wo.drew) := Lib.hid ((Below.refl _ _).trans ⟨rfl, rfl, rfl, Nat.le_refl _, fun _ _ => rfl⟩)
      clear ht s1
      go_upto_region 15 with fail
      go_cut [118] (fun a wz => a = .bool false ∧ Hid (Below wo.heap.size wo wz))
      case first =>
        have gn : g < wo.heap.size := hg
        by_cases k0 : k = 0
        · subst k0
          clear PR
          refine Hr.Walk.region (R := fun _ X0 => Below wo.heap.size wo X0) (by kernel_rfl) ?_
          refine Hr.Walk.take (i := 0) (v := ?va_0) (fun X0 => Below wo.heap.size wo X0) (fun _ => True) rfl (by kernel_rfl) (by kernel_rfl) (by kernel_rfl) (fun _ _ _ h => h) (fun _ _ _ _ _ _ => trivial) (fun _ _ _ h => h) (fun _ _ h => h) trivial (Or.inl ⟨by rfl, ?hya_0⟩) Sd.out Sd.out ?resta_0
          case hya_0 => intro X0 hx; have c0 := C0.out X0 hx; clear hx; go_simp; try with_reducible rfl
          (try go_simp)
          refine Hr.Walk.take (i := 1) (v := ?va_1) (fun X0 => Below wo.heap.size wo X0) (fun _ => True) rfl (by kernel_rfl) (by kernel_rfl) (by kernel_rfl) (fun _ _ _ h => h) (fun _ _ _ _ _ _ => trivial) (fun _ _ _ h => h) (fun _ _ h => h) trivial (Or.inl ⟨by rfl, ?hya_1⟩) Sd.out Sd.out ?resta_1
          case hya_1 => intro X0 hx; have c0 := C0.out X0 hx; clear hx; go_simp; try with_reducible rfl
          (try go_simp)
          refine Hr.Walk.take (i := 2) (v := ?va_2) (fun X0 => Below wo.heap.size wo X0) (fun _ => True) rfl (by kernel_rfl) (by kernel_rfl) (by kernel_rfl) (fun _ _ _ h => h) (fun _ _ _ _ _ _ => trivial) (fun _ _ _ h => h) (fun _ _ h => h) trivial (Or.inl ⟨by rfl, ?hya_2⟩) Sd.out Sd.out ?resta_2
          case hya_2 => intro X0 hx; have c0 := C0.out X0 hx; clear hx; go_simp; try with_reducible rfl
          (try go_simp)
          refine Hr.Walk.take (i := 3) (v := ?va_3) (fun X0 => Below wo.heap.size wo X0) (fun _ => True) rfl (by kernel_rfl) (by kernel_rfl) (by kernel_rfl) (fun _ _ _ h => h) (fun _ _ _ _ _ _ => trivial) (fun _ _ _ h => h) (fun _ _ h => h) trivial (Or.inl ⟨by rfl, ?hya_3⟩) Sd.out Sd.out ?resta_3
          case hya_3 => intro X0 hx; have c0 := C0.out X0 hx; clear hx; go_simp; try with_reducible rfl
          (try go_simp)
          refine Hr.Walk.one (i := 4) (by kernel_rfl) rfl (fun K hK => ?_)
          go_simp
          refine hK.out _ _ Sd.out ?_
          clear hK K
          refine Hr.Walk.one (i := 5) (by kernel_rfl) rfl (fun K hK => ?_)
          go_simp
          refine hK.out _ _ Sd.out ?_
          clear hK K
          refine Hr.Walk.one (i := 6) (by kernel_rfl) rfl (fun K hK => ?_)
          go_simp
          refine hK.out _ _ Sd.out ?_
          clear hK K
          refine Hr.Walk.take (i := 7) (v := ?va_7) (fun X0 => Below wo.heap.size wo X0) (fun _ => True) rfl (by kernel_rfl) (by kernel_rfl) (by kernel_rfl) (fun _ _ _ h => h) (fun _ _ _ _ _ _ => trivial) (fun _ _ _ h => h) (fun _ _ h => h) trivial (Or.inl ⟨by rfl, ?hya_7⟩) Sd.out Sd.out ?resta_7
          case hya_7 => intro X0 hx; have c0 := C0.out X0 hx; clear hx; go_simp; try with_reducible rfl
          (try go_simp)
          refine Hr.Walk.take (i := 8) (v := ?va_8) (fun X0 => Below wo.heap.size wo X0) (fun _ => True) rfl (by kernel_rfl) (by kernel_rfl) (by kernel_rfl) (fun _ _ _ h => h) (fun _ _ _ _ _ _ => trivial) (fun _ _ _ h => h) (fun _ _ h => h) trivial (Or.inl ⟨by rfl, ?hya_8⟩) Sd.out Sd.out ?resta_8
          case hya_8 => intro X0 hx; have c0 := C0.out X0 hx; clear hx; go_simp; try with_reducible rfl
          (try go_simp)
          refine Hr.Walk.take (i := 9) (v := ?va_9) (fun X0 => Below wo.heap.size wo X0) (fun _ => True) rfl (by kernel_rfl) (by kernel_rfl) (by kernel_rfl) (fun _ _ _ h => h) (fun _ _ _ _ _ _ => trivial) (fun _ _ _ h => h) (fun _ _ h => h) trivial (Or.inl ⟨by rfl, ?hya_9⟩) Sd.out Sd.out ?resta_9
          case hya_9 => intro X0 hx; have c0 := C0.out X0 hx; clear hx; go_simp; try with_reducible rfl
          (try go_simp)
          refine Hr.Walk.take (i := 10) (v := ?va_10) (fun X0 => Below wo.heap.size wo X0) (fun _ => True) rfl (by kernel_rfl) (by kernel_rfl) (by kernel_rfl) (fun _ _ _ h => h) (fun _ _ _ _ _ _ => trivial) (fun _ _ _ h => h) (fun _ _ h => h) trivial (Or.inl ⟨by rfl, ?hya_10⟩) Sd.out Sd.out ?resta_10
          case hya_10 => intro X0 hx; have c0 := C0.out X0 hx; clear hx; go_simp; try with_reducible rfl
          (try go_simp)
          refine Hr.Walk.one (i := 11) (by kernel_rfl) rfl (fun K hK => ?_)
          go_simp
          refine hK.out _ _ Sd.out ?_
          clear hK K
          refine Hr.Walk.one (i := 12) (by kernel_rfl) rfl (fun K hK => ?_)
          go_simp
          refine hK.out _ _ Sd.out ?_
          clear hK K
          refine Hr.Walk.one (i := 13) (by kernel_rfl) rfl (fun K hK => ?_)
          go_simp
          refine hK.out _ _ Sd.out ?_
          clear hK K
          refine Hr.Walk.one (i := 14) (by kernel_rfl) rfl (fun K hK => ?_)
          go_simp
          refine hK.out _ _ Sd.out ?_
          clear hK K
          refine Hr.Walk.take (i := 15) (v := ?va_15) (fun X0 => Below wo.heap.size wo X0) (fun _ => True) rfl (by kernel_rfl) (by kernel_rfl) (by kernel_rfl) (fun _ _ _ h => h) (fun _ _ _ _ _ _ => trivial) (fun _ _ _ h => h) (fun _ _ h => h) trivial (Or.inl ⟨by rfl, ?hya_15⟩) Sd.out Sd.out ?resta_15
          case hya_15 => intro X0 hx; have c0 := C0.out X0 hx; clear hx; go_simp; try with_reducible rfl
          (try go_simp)
          refine Hr.Walk.take (i := 16) (v := ?va_16) (fun X0 => Below wo.heap.size wo X0) (fun _ => True) rfl (by kernel_rfl) (by kernel_rfl) (by kernel_rfl) (fun _ _ _ h => h) (fun _ _ _ _ _ _ => trivial) (fun _ _ _ h => h) (fun _ _ h => h) trivial (Or.inl ⟨by rfl, ?hya_16⟩) Sd.out Sd.out ?resta_16
          case hya_16 => intro X0 hx; have c0 := C0.out X0 hx; clear hx; go_simp; try with_reducible rfl
          (try go_simp)
          refine Hr.Walk.take (i := 17) (v := ?va_17) (fun X0 => Below wo.heap.size wo X0) (fun _ => True) rfl (by kernel_rfl) (by kernel_rfl) (by kernel_rfl) (fun _ _ _ h => h) (fun _ _ _ _ _ _ => trivial) (fun _ _ _ h => h) (fun _ _ h => h) trivial (Or.inl ⟨by rfl, ?hya_17⟩) Sd.out Sd.out ?resta_17
          case hya_17 => intro X0 hx; have c0 := C0.out X0 hx; clear hx; go_simp; try with_reducible rfl
          (try go_simp)
          refine Hr.Walk.take (i := 18) (v := ?va_18) (fun X0 => Below wo.heap.size wo X0) (fun _ => True) rfl (by kernel_rfl) (by kernel_rfl) (by kernel_rfl) (fun _ _ _ h => h) (fun _ _ _ _ _ _ => trivial) (fun _ _ _ h => h) (fun _ _ h => h) trivial (Or.inl ⟨by rfl, ?hya_18⟩) Sd.out Sd.out ?resta_18
          case hya_18 => intro X0 hx; have c0 := C0.out X0 hx; clear hx; go_simp; try with_reducible rfl
          (try go_simp)
          refine Hr.Walk.one (i := 19) (by kernel_rfl) rfl (fun K hK => ?_)
          go_simp
          refine hK.out _ _ Sd.out ?_
          clear hK K
          refine Hr.Walk.one (i := 20) (by kernel_rfl) rfl (fun K hK => ?_)
          go_simp
          refine hK.out _ _ Sd.out ?_
          clear hK K
          refine Hr.Walk.one (i := 21) (by kernel_rfl) rfl (fun K hK => ?_)
          go_simp
          refine hK.out _ _ Sd.out ?_
          clear hK K
          refine Hr.Walk.one (i := 22) (by kernel_rfl) rfl (fun K hK => ?_)
          go_simp
          refine hK.out _ _ Sd.out ?_
          clear hK K
          refine Hr.Walk.one (i := 23) (by kernel_rfl) rfl (fun K hK => ?_)
          go_simp
          refine hK.out _ _ Sd.out ?_
          clear hK K
          refine Hr.Walk.one (i := 24) (by kernel_rfl) rfl (fun K hK => ?_)
          go_simp
          refine hK.out _ _ Sd.out ?_
          clear hK K
          refine Hr.Walk.one (i := 25) (by kernel_rfl) rfl (fun K hK => ?_)
          go_simp
          refine hK.out _ _ Sd.out ?_
          clear hK K
          refine Hr.Walk.take (i := 26) (v := undef) (fun X0 => Below wo.heap.size wo X0) (fun _ => True) rfl (by kernel_rfl) (by kernel_rfl) (by kernel_rfl) (fun _ _ _ h => h) (fun _ _ _ _ _ _ => trivial) (fun _ _ _ h => h) (fun _ _ h => h) trivial (Or.inr ⟨by rfl, rfl⟩) Sd.out Sd.out ?_
          (try go_simp)
          refine Hr.Walk.take (i := 27) (v := undef) (fun X0 => Below wo.heap.size wo X0) (fun _ => True) rfl (by kernel_rfl) (by kernel_rfl) (by kernel_rfl) (fun _ _ _ h => h) (fun _ _ _ _ _ _ => trivial) (fun _ _ _ h => h) (fun _ _ h => h) trivial (Or.inr ⟨by rfl, rfl⟩) Sd.out Sd.out ?_
          (try go_simp)
          refine Hr.Walk.take (i := 28) (v := undef) (fun X0 => Below wo.heap.size wo X0) (fun _ => True) rfl (by kernel_rfl) (by kernel_rfl) (by kernel_rfl) (fun _ _ _ h => h) (fun _ _ _ _ _ _ => trivial) (fun _ _ _ h => h) (fun _ _ h => h) trivial (Or.inr ⟨by rfl, rfl⟩) Sd.out Sd.out ?_
          (try go_simp)
          refine Hr.Walk.take (i := 29) (v := undef) (fun X0 => Below wo.heap.size wo X0) (fun _ => True) rfl (by kernel_rfl) (by kernel_rfl) (by kernel_rfl) (fun _ _ _ h => h) (fun _ _ _ _ _ _ => trivial) (fun _ _ _ h => h) (fun _ _ h => h) trivial (Or.inr ⟨by rfl, rfl⟩) Sd.out Sd.out ?_
          (try go_simp)
          refine Hr.Walk.take (i := 30) (v := undef) (fun X0 => Below wo.heap.size wo X0) (fun _ => True) rfl (by kernel_rfl) (by kernel_rfl) (by kernel_rfl) (fun _ _ _ h => h) (fun _ _ _ _ _ _ => trivial) (fun _ _ _ h => h) (fun _ _ h => h) trivial (Or.inr ⟨by rfl, rfl⟩) Sd.out Sd.out ?_
          (try go_simp)
          refine Hr.Walk.one (i := 31) (by kernel_rfl) rfl (fun K hK => ?_)
          go_simp
          refine hK.out _ _ Sd.out ?_
          clear hK K
          refine Hr.Walk.one (i := 32) (by kernel_rfl) rfl (fun K hK => ?_)
          go_simp
          refine hK.out _ _ Sd.out ?_
          clear hK K
          refine Hr.Walk.one (i := 33) (by kernel_rfl) rfl (fun K hK => ?_)
          go_simp
          refine hK.out _ _ Sd.out ?_
          clear hK K
          refine Hr.Walk.one (i := 34) (by kernel_rfl) rfl (fun K hK => ?_)
          go_simp
          refine hK.out _ _ Sd.out ?_
          clear hK K
          refine Hr.Walk.one (i := 35) (by kernel_rfl) rfl (fun K hK => ?_)
          go_simp
          refine hK.out _ _ Sd.out ?_
          clear hK K
          refine Hr.Walk.one (i := 36) (by kernel_rfl) rfl (fun K hK => ?_)
          go_simp
          refine hK.out _ _ Sd.out ?_
          clear hK K
          refine Hr.Walk.one (i := 37) (by kernel_rfl) rfl (fun K hK => ?_)
          go_simp
          refine hK.out _ _ Sd.out ?_
          clear hK K
          refine Hr.Walk.done (by kernel_rfl) ?_ _
          go_wp2
          go_meet
          exact ⟨rfl, Sd⟩
        · obtain ⟨j, hj⟩ : ∃ z, z + 1 = k := ⟨k - 1, by omega⟩
          obtain ⟨u, hu, hc⟩ := PR.out j (by omega)
          have C1 := Lib.hid hc
          have z4 : ¬ t ≤ u := by omega
          have s2 : IntKind.i64.wrap ((k : Int) - 1) = (j : Int) := by rw [IntWalk.i64_in _ (by omega)]; omega
          have s4 : j < n := by omega
          have s5 : 0 < k := by omega
          have c1w := hc wo (Below.refl _ _)
          have c0w := C0.out wo (Below.refl _ _)
          clear PR hc hu hj k0
          refine Hr.Walk.region (R := fun _ X0 => Below wo.heap.size wo X0) (by kernel_rfl) ?_
          refine Hr.Walk.take (i := 0) (v := ?vb_0) (fun X0 => Below wo.heap.size wo X0) (fun _ => True) rfl (by kernel_rfl) (by kernel_rfl) (by kernel_rfl) (fun _ _ _ h => h) (fun _ _ _ _ _ _ => trivial) (fun _ _ _ h => h) (fun _ _ h => h) trivial (Or.inl ⟨by rfl, ?hyb_0⟩) Sd.out Sd.out ?restb_0
          case hyb_0 => intro X0 hx; have c0 := C0.out X0 hx; have c1 := C1.out X0 hx; clear hx; go_simp; try with_reducible rfl
          (try go_simp)
          refine Hr.Walk.take (i := 1) (v := ?vb_1) (fun X0 => Below wo.heap.size wo X0) (fun _ => True) rfl (by kernel_rfl) (by kernel_rfl) (by kernel_rfl) (fun _ _ _ h => h) (fun _ _ _ _ _ _ => trivial) (fun _ _ _ h => h) (fun _ _ h => h) trivial (Or.inl ⟨by rfl, ?hyb_1⟩) Sd.out Sd.out ?restb_1
          case hyb_1 => intro X0 hx; have c0 := C0.out X0 hx; have c1 := C1.out X0 hx; clear hx; go_simp; try with_reducible rfl
          (try go_simp)
          refine Hr.Walk.take (i := 2) (v := ?vb_2) (fun X0 => Below wo.heap.size wo X0) (fun _ => True) rfl (by kernel_rfl) (by kernel_rfl) (by kernel_rfl) (fun _ _ _ h => h) (fun _ _ _ _ _ _ => trivial) (fun _ _ _ h => h) (fun _ _ h => h) trivial (Or.inl ⟨by rfl, ?hyb_2⟩) Sd.out Sd.out ?restb_2
          case hyb_2 => intro X0 hx; have c0 := C0.out X0 hx; have c1 := C1.out X0 hx; clear hx; go_simp; try with_reducible rfl
          (try go_simp)
          refine Hr.Walk.take (i := 3) (v := ?vb_3) (fun X0 => Below wo.heap.size wo X0) (fun _ => True) rfl (by kernel_rfl) (by kernel_rfl) (by kernel_rfl) (fun _ _ _ h => h) (fun _ _ _ _ _ _ => trivial) (fun _ _ _ h => h) (fun _ _ h => h) trivial (Or.inl ⟨by rfl, ?hyb_3⟩) Sd.out Sd.out ?restb_3
          case hyb_3 => intro X0 hx; have c0 := C0.out X0 hx; have c1 := C1.out X0 hx; clear hx; go_simp; try with_reducible rfl
          (try go_simp)
          refine Hr.Walk.one (i := 4) (by kernel_rfl) rfl (fun K hK => ?_)
          go_simp
          refine hK.out _ _ Sd.out ?_
          clear hK K
          refine Hr.Walk.one (i := 5) (by kernel_rfl) rfl (fun K hK => ?_)
          go_simp
          refine hK.out _ _ Sd.out ?_
          clear hK K
          refine Hr.Walk.one (i := 6) (by kernel_rfl) rfl (fun K hK => ?_)
          go_simp
          refine hK.out _ _ Sd.out ?_
          clear hK K
          refine Hr.Walk.take (i := 7) (v := ?vb_7) (fun X0 => Below wo.heap.size wo X0) (fun _ => True) rfl (by kernel_rfl) (by kernel_rfl) (by kernel_rfl) (fun _ _ _ h => h) (fun _ _ _ _ _ _ => trivial) (fun _ _ _ h => h) (fun _ _ h => h) trivial (Or.inl ⟨by rfl, ?hyb_7⟩) Sd.out Sd.out ?restb_7
          case hyb_7 => intro X0 hx; have c0 := C0.out X0 hx; have c1 := C1.out X0 hx; clear hx; go_simp; try with_reducible rfl
          (try go_simp)
          refine Hr.Walk.take (i := 8) (v := ?vb_8) (fun X0 => Below wo.heap.size wo X0) (fun _ => True) rfl (by kernel_rfl) (by kernel_rfl) (by kernel_rfl) (fun _ _ _ h => h) (fun _ _ _ _ _ _ => trivial) (fun _ _ _ h => h) (fun _ _ h => h) trivial (Or.inl ⟨by rfl, ?hyb_8⟩) Sd.out Sd.out ?restb_8
          case hyb_8 => intro X0 hx; have c0 := C0.out X0 hx; have c1 := C1.out X0 hx; clear hx; go_simp; try with_reducible rfl
          (try go_simp)
          refine Hr.Walk.take (i := 9) (v := ?vb_9) (fun X0 => Below wo.heap.size wo X0) (fun _ => True) rfl (by kernel_rfl) (by kernel_rfl) (by kernel_rfl) (fun _ _ _ h => h) (fun _ _ _ _ _ _ => trivial) (fun _ _ _ h => h) (fun _ _ h => h) trivial (Or.inl ⟨by rfl, ?hyb_9⟩) Sd.out Sd.out ?restb_9
          case hyb_9 => intro X0 hx; have c0 := C0.out X0 hx; have c1 := C1.out X0 hx; clear hx; go_simp; try with_reducible rfl
          (try go_simp)
          refine Hr.Walk.take (i := 10) (v := ?vb_10) (fun X0 => Below wo.heap.size wo X0) (fun _ => True) rfl (by kernel_rfl) (by kernel_rfl) (by kernel_rfl) (fun _ _ _ h => h) (fun _ _ _ _ _ _ => trivial) (fun _ _ _ h => h) (fun _ _ h => h) trivial (Or.inl ⟨by rfl, ?hyb_10⟩) Sd.out Sd.out ?restb_10
          case hyb_10 => intro X0 hx; have c0 := C0.out X0 hx; have c1 := C1.out X0 hx; clear hx; go_simp; try with_reducible rfl
          (try go_simp)
          refine Hr.Walk.one (i := 11) (by kernel_rfl) rfl (fun K hK => ?_)
          go_simp
          refine hK.out _ _ Sd.out ?_
          clear hK K
          refine Hr.Walk.one (i := 12) (by kernel_rfl) rfl (fun K hK => ?_)
          go_simp
          refine hK.out _ _ Sd.out ?_
          clear hK K
          refine Hr.Walk.one (i := 13) (by kernel_rfl) rfl (fun K hK => ?_)
          go_simp
          refine hK.out _ _ Sd.out ?_
          clear hK K
          refine Hr.Walk.one (i := 14) (by kernel_rfl) rfl (fun K hK => ?_)
          go_simp
          refine hK.out _ _ Sd.out ?_
          clear hK K
          refine Hr.Walk.take (i := 15) (v := ?vb_15) (fun X0 => Below wo.heap.size wo X0) (fun _ => True) rfl (by kernel_rfl) (by kernel_rfl) (by kernel_rfl) (fun _ _ _ h => h) (fun _ _ _ _ _ _ => trivial) (fun _ _ _ h => h) (fun _ _ h => h) trivial (Or.inl ⟨by rfl, ?hyb_15⟩) Sd.out Sd.out ?restb_15
          case hyb_15 => intro X0 hx; have c0 := C0.out X0 hx; have c1 := C1.out X0 hx; clear hx; go_simp; try with_reducible rfl
          (try go_simp)
          refine Hr.Walk.take (i := 16) (v := ?vb_16) (fun X0 => Below wo.heap.size wo X0) (fun _ => True) rfl (by kernel_rfl) (by kernel_rfl) (by kernel_rfl) (fun _ _ _ h => h) (fun _ _ _ _ _ _ => trivial) (fun _ _ _ h => h) (fun _ _ h => h) trivial (Or.inl ⟨by rfl, ?hyb_16⟩) Sd.out Sd.out ?restb_16
          case hyb_16 => intro X0 hx; have c0 := C0.out X0 hx; have c1 := C1.out X0 hx; clear hx; go_simp; try with_reducible rfl
          (try go_simp)
          refine Hr.Walk.take (i := 17) (v := ?vb_17) (fun X0 => Below wo.heap.size wo X0) (fun _ => True) rfl (by kernel_rfl) (by kernel_rfl) (by kernel_rfl) (fun _ _ _ h => h) (fun _ _ _ _ _ _ => trivial) (fun _ _ _ h => h) (fun _ _ h => h) trivial (Or.inl ⟨by rfl, ?hyb_17⟩) Sd.out Sd.out ?restb_17
          case hyb_17 => intro X0 hx; have c0 := C0.out X0 hx; have c1 := C1.out X0 hx; clear hx; go_simp; try with_reducible rfl
          (try go_simp)
          refine Hr.Walk.take (i := 18) (v := ?vb_18) (fun X0 => Below wo.heap.size wo X0) (fun _ => True) rfl (by kernel_rfl) (by kernel_rfl) (by kernel_rfl) (fun _ _ _ h => h) (fun _ _ _ _ _ _ => trivial) (fun _ _ _ h => h) (fun _ _ h => h) trivial (Or.inl ⟨by rfl, ?hyb_18⟩) Sd.out Sd.out ?restb_18
          case hyb_18 => intro X0 hx; have c0 := C0.out X0 hx; have c1 := C1.out X0 hx; clear hx; go_simp; try with_reducible rfl
          (try go_simp)
          refine Hr.Walk.one (i := 19) (by kernel_rfl) rfl (fun K hK => ?_)
          go_simp
          refine hK.out _ _ Sd.out ?_
          clear hK K
          refine Hr.Walk.one (i := 20) (by kernel_rfl) rfl (fun K hK => ?_)
          go_simp
          refine hK.out _ _ Sd.out ?_
          clear hK K
          refine Hr.Walk.one (i := 21) (by kernel_rfl) rfl (fun K hK => ?_)
          go_simp
          refine hK.out _ _ Sd.out ?_
          clear hK K
          refine Hr.Walk.one (i := 22) (by kernel_rfl) rfl (fun K hK => ?_)
          go_simp
          refine hK.out _ _ Sd.out ?_
          clear hK K
          refine Hr.Walk.one (i := 23) (by kernel_rfl) rfl (fun K hK => ?_)
          go_simp
          refine hK.out _ _ Sd.out ?_
          clear hK K
          refine Hr.Walk.one (i := 24) (by kernel_rfl) rfl (fun K hK => ?_)
          go_simp
          refine hK.out _ _ Sd.out ?_
          clear hK K
          refine Hr.Walk.one (i := 25) (by kernel_rfl) rfl (fun K hK => ?_)
          go_simp
          refine hK.out _ _ Sd.out ?_
          clear hK K
          refine Hr.Walk.take (i := 26) (v := ?vb_26) (fun X0 => Below wo.heap.size wo X0) (fun _ => True) rfl (by kernel_rfl) (by kernel_rfl) (by kernel_rfl) (fun _ _ _ h => h) (fun _ _ _ _ _ _ => trivial) (fun _ _ _ h => h) (fun _ _ h => h) trivial (Or.inl ⟨by rfl, ?hyb_26⟩) Sd.out Sd.out ?restb_26
          case hyb_26 => intro X0 hx; have c0 := C0.out X0 hx; have c1 := C1.out X0 hx; clear hx; go_simp; try with_reducible rfl
          (try go_simp)
          refine Hr.Walk.take (i := 27) (v := ?vb_27) (fun X0 => Below wo.heap.size wo X0) (fun _ => True) rfl (by kernel_rfl) (by kernel_rfl) (by kernel_rfl) (fun _ _ _ h => h) (fun _ _ _ _ _ _ => trivial) (fun _ _ _ h => h) (fun _ _ h => h) trivial (Or.inl ⟨by rfl, ?hyb_27⟩) Sd.out Sd.out ?restb_27
          case hyb_27 => intro X0 hx; have c0 := C0.out X0 hx; have c1 := C1.out X0 hx; clear hx; go_simp; try with_reducible rfl
          (try go_simp)
          refine Hr.Walk.take (i := 28) (v := ?vb_28) (fun X0 => Below wo.heap.size wo X0) (fun _ => True) rfl (by kernel_rfl) (by kernel_rfl) (by kernel_rfl) (fun _ _ _ h => h) (fun _ _ _ _ _ _ => trivial) (fun _ _ _ h => h) (fun _ _ h => h) trivial (Or.inl ⟨by rfl, ?hyb_28⟩) Sd.out Sd.out ?restb_28
          case hyb_28 => intro X0 hx; have c0 := C0.out X0 hx; have c1 := C1.out X0 hx; clear hx; go_simp; try with_reducible rfl
          (try go_simp)
          refine Hr.Walk.take (i := 29) (v := ?vb_29) (fun X0 => Below wo.heap.size wo X0) (fun _ => True) rfl (by kernel_rfl) (by kernel_rfl) (by kernel_rfl) (fun _ _ _ h => h) (fun _ _ _ _ _ _ => trivial) (fun _ _ _ h => h) (fun _ _ h => h) trivial (Or.inl ⟨by rfl, ?hyb_29⟩) Sd.out Sd.out ?restb_29
          case hyb_29 => intro X0 hx; have c0 := C0.out X0 hx; have c1 := C1.out X0 hx; clear hx; go_simp; try with_reducible rfl
          (try go_simp)
          refine Hr.Walk.take (i := 30) (v := ?vb_30) (fun X0 => Below wo.heap.size wo X0) (fun _ => True) rfl (by kernel_rfl) (by kernel_rfl) (by kernel_rfl) (fun _ _ _ h => h) (fun _ _ _ _ _ _ => trivial) (fun _ _ _ h => h) (fun _ _ h => h) trivial (Or.inl ⟨by rfl, ?hyb_30⟩) Sd.out Sd.out ?restb_30
          case hyb_30 => intro X0 hx; have c0 := C0.out X0 hx; have c1 := C1.out X0 hx; clear hx; go_simp; try with_reducible rfl
          (try go_simp)
          refine Hr.Walk.one (i := 31) (by kernel_rfl) rfl (fun K hK => ?_)
          go_simp
          refine hK.out _ _ Sd.out ?_
          clear hK K
          refine Hr.Walk.one (i := 32) (by kernel_rfl) rfl (fun K hK => ?_)
          go_simp
          refine hK.out _ _ Sd.out ?_
          clear hK K
          refine Hr.Walk.one (i := 33) (by kernel_rfl) rfl (fun K hK => ?_)
          go_simp
          refine hK.out _ _ Sd.out ?_
          clear hK K
          refine Hr.Walk.one (i := 34) (by kernel_rfl) rfl (fun K hK => ?_)
          go_simp
          refine hK.out _ _ Sd.out ?_
          clear hK K
          refine Hr.Walk.one (i := 35) (by kernel_rfl) rfl (fun K hK => ?_)
          go_simp
          refine hK.out _ _ Sd.out ?_
          clear hK K
          refine Hr.Walk.one (i := 36) (by kernel_rfl) rfl (fun K hK => ?_)
          go_simp
          refine hK.out _ _ Sd.out ?_
          clear hK K
          refine Hr.Walk.one (i := 37) (by kernel_rfl) rfl (fun K hK => ?_)
          go_simp
          refine hK.out _ _ Sd.out ?_
          clear hK K
          refine Hr.Walk.done (by kernel_rfl) ?_ _
          go_wp2
          go_meet
          exact ⟨rfl, Sd⟩
      case rest =>
      obtain ⟨wp, rfl⟩ : ∃ x : World, x = wc := ⟨_, rfl⟩
      obtain ⟨rfl, K1⟩ := hcut
      clear PR z1 z2 z3 Sd
      have RB := Lib.hid (RB.out.below K1.out)
      have RO := Lib.hid (RO.out.below K1.out)
      have B := Lib.hid (bstep B.out K1.out)
      have C0 : Hid (∀ X0, Below wp.heap.size wp X0 → X0.cell? ⟨g, k, none⟩ = some (.int .i64 t)) := Lib.hid (fun X0 hx => C0.out X0 (bstep K1.out hx))
      have gw : g < wp.heap.size := Nat.lt_of_lt_of_le hg K1.out.size
      clear hg hg0 K1
      have c0 := C0.out wp (Below.refl _ _)
      by_cases ts : t = T
      · have ts0 : (t == T) = true := by rw [ts]; exact beq_self_eq_true T
        have s1 := S1.out
        clear ts
        go_wp2_with fail
        go_roundw
        case rel => exact ⟨k + 1, by omega, by first | rfl | (rw [s1]) | go_num, RO, RB, B⟩
        case measure => simp [intOf]; omega
      have ts0 : (t == T) = false := beq_eq_false_iff_ne.2 ts
      have E2 := Lib.hid (ET.out.2.2 ts)
      clear ts
      obtain ⟨q, hq⟩ : ∃ z, perV x t = z := ⟨_, rfl⟩
      have QV := Lib.hid hq
      clear hq
      have PT := Lib.hid E2.out.1
      have L0 : Hid (Fil.letP x T t = true) := Lib.hid E2.out.2.2.1
      have UA := Lib.hid E2.out.2.2.2
      have RM : Hid ((q - p).tmod x.iv = 0) := Lib.hid (by rw [← QV.out]; exact E2.out.2.1)
      clear E2
      have Sd : Hid (Below wp.heap.size wp wp.drew) := Lib.hid ((Below.refl _ _).trans ⟨rfl, rfl, rfl, Nat.le_refl _, fun _ _ => rfl⟩)
      go_upto_region 18 with fail
      go_cut [16, 17] (fun a b wz => a = .int .i64 q ∧ b = .int .i64 0 ∧ Hid (Below wp.heap.size wp wz))
      case first =>
        refine Hr.Walk.region (R := fun _ X0 => Below wp.heap.size wp X0) (by kernel_rfl) ?_
        refine Hr.Walk.take (i := 0) (v := ?vc_0) (fun X0 => Below wp.heap.size wp X0) (fun _ => True) rfl (by kernel_rfl) (by kernel_rfl) (by kernel_rfl) (fun _ _ _ h => h) (fun _ _ _ _ _ _ => trivial) (fun _ _ _ h => h) (fun _ _ h => h) trivial (Or.inl ⟨by rfl, ?hyc_0⟩) Sd.out Sd.out ?restc_0
        case hyc_0 => intro X0 hx; have hr := (RB.out.below hx).range; clear hx; refine ldY (x := .tmp 4) hr ?_ ?_ Tryz.underlying25 rfl ?_; all_goals first | rfl | kernel_rfl
        (try go_simp)
        refine Hr.Walk.take (i := 1) (v := ?vc_1) (fun X0 => Below wp.heap.size wp X0) (fun _ => True) rfl (by kernel_rfl) (by kernel_rfl) (by kernel_rfl) (fun _ _ _ h => h) (fun _ _ _ _ _ _ => trivial) (fun _ _ _ h => h) (fun _ _ h => h) trivial (Or.inl ⟨by rfl, ?hyc_1⟩) Sd.out Sd.out ?restc_1
        case hyc_1 => intro X0 hx; have c0 := C0.out X0 hx; clear hx; go_simp; try with_reducible rfl
        (try go_simp)
        refine Hr.Walk.one (i := 2) (by kernel_rfl) rfl (fun K hK => ?_)
        go_simp
        refine hK.out _ _ Sd.out ?_
        clear hK K
        refine Hr.Walk.one (i := 3) (by kernel_rfl) rfl (fun K hK => ?_)
        go_simp
        refine hK.out _ _ Sd.out ?_
        clear hK K
        refine Hr.Walk.one (i := 4) (by kernel_rfl) rfl (fun K hK => ?_)
        go_simp
        refine hK.out _ _ Sd.out ?_
        clear hK K
        refine Hr.Walk.one (i := 5) (by kernel_rfl) rfl (fun K hK => ?_)
        go_simp
        go_at_call 26
        refine (per_to x _ _ _ _ _ _ _ _ _ t q 0 _ (HA.out.stays (bstep B.out Sd.out)) HU.out.1 HU.out.2 (L.out.below (bstep B.out Sd.out)) S.out (by have := TBD.out; omega) (by have := TBD.out; omega) QV PT).mono ?_
        rintro e w8 ⟨rfl, k8⟩
        have S2 : Hid (Below wp.heap.size wp w8) := Lib.hid (bstep Sd.out k8)
        refine hK.out _ _ S2.out ?_
        clear hK K
        refine Hr.Walk.one (i := 6) (by kernel_rfl) rfl (fun K hK => ?_)
        go_simp
        refine hK.out _ _ S2.out ?_
        clear hK K
        refine Hr.Walk.take (i := 7) (v := ?vc_7) (fun X0 => Below wp.heap.size wp X0) (fun _ => True) rfl (by kernel_rfl) (by kernel_rfl) (by kernel_rfl) (fun _ _ _ h => h) (fun _ _ _ _ _ _ => trivial) (fun _ _ _ h => h) (fun _ _ h => h) trivial (Or.inl ⟨by rfl, ?hyc_7⟩) S2.out S2.out ?restc_7
        case hyc_7 => intro X0 hx; have c0 := C0.out X0 hx; clear hx; go_simp; try with_reducible rfl
        (try go_simp)
        refine Hr.Walk.take (i := 8) (v := ?vc_8) (fun X0 => Below wp.heap.size wp X0) (fun _ => True) rfl (by kernel_rfl) (by kernel_rfl) (by kernel_rfl) (fun _ _ _ h => h) (fun _ _ _ _ _ _ => trivial) (fun _ _ _ h => h) (fun _ _ h => h) trivial (Or.inl ⟨by rfl, ?hyc_8⟩) S2.out S2.out ?restc_8
        case hyc_8 => intro X0 hx; have c0 := C0.out X0 hx; clear hx; go_simp; try with_reducible rfl
        (try go_simp)
        refine Hr.Walk.one (i := 9) (by kernel_rfl) rfl (fun K hK => ?_)
        go_simp
        refine hK.out _ _ S2.out ?_
        clear hK K
        refine Hr.Walk.one (i := 10) (by kernel_rfl) rfl (fun K hK => ?_)
        go_simp
        refine hK.out _ _ S2.out ?_
        clear hK K
        refine Hr.Walk.done (by kernel_rfl) ?_ _
        go_wp2
        go_meet
        exact ⟨rfl, rfl, S2⟩
      case rest =>
      obtain ⟨wq, rfl⟩ : ∃ x : World, x = wc := ⟨_, rfl⟩
      obtain ⟨rfl, rfl, K1⟩ := hcut
      clear Sd ts0 c0
      have RB := Lib.hid (RB.out.below K1.out)
      have RO := Lib.hid (RO.out.below K1.out)
      have B := Lib.hid (bstep B.out K1.out)
      have C0 : Hid (∀ X0, Below wq.heap.size wq X0 → X0.cell? ⟨g, k, none⟩ = some (.int .i64 t)) := Lib.hid (fun X0 hx => C0.out X0 (bstep K1.out hx))
      have gw := Nat.lt_of_lt_of_le gw K1.out.size
      clear K1
      have pb := per_bd (x := x) T
      have qb := per_bd (x := x) t
      rw [PV.out] at pb
      rw [QV.out] at qb
      have wqp : IntKind.i64.wrap (q - p) = q - p := by rw [IntKind.wrap_i64]; omega
      have ivb := iv_bd HKB.out
      have iv0 : ¬ x.iv = 0 := by omega
      have rm := RM.out
      have c0 := C0.out wq (Below.refl _ _)
      have d1 := (RB.out.2 1 _ rfl).1
      have d3 := (RB.out.2 3 _ rfl).1
      have d4 := (RB.out.2 4 _ rfl).1
      clear pb qb ivb
      have Sd : Hid (Below wq.heap.size wq wq.drew) := Lib.hid ((Below.refl _ _).trans ⟨rfl, rfl, rfl, Nat.le_refl _, fun _ _ => rfl⟩)
      go_upto_region 19 with fail
      go_cut [167] (fun a wz => a = .bool false ∧ Hid (Below wq.heap.size wq wz))
      case first =>
        obtain ⟨un, hun⟩ : ∃ z, x.un = z := ⟨_, rfl⟩
        have D3 : Hid (∀ X0, Below wq.heap.size wq X0 → X0.cell? ⟨w.heap.size, 3, none⟩ = some (.bool un)) := Lib.hid (fun X0 hx => by rw [← hun]; exact ((RB.out.below hx).2 3 _ rfl).1)
        have UA2 : un = true → t ≤ x.ua := fun h => UA.out (by rw [hun, h])
        clear hun d3
        have d3 := D3.out wq (Below.refl _ _)
        cases un with
        | false =>
          refine Hr.Walk.region (R := fun _ X0 => Below wq.heap.size wq X0) (by kernel_rfl) ?_
          refine Hr.Walk.one (i := 0) (by kernel_rfl) rfl (fun K hK => ?_)
          go_simp
          refine hK.out _ _ Sd.out ?_
          clear hK K
          refine Hr.Walk.one (i := 1) (by kernel_rfl) rfl (fun K hK => ?_)
          go_simp
          refine hK.out _ _ Sd.out ?_
          clear hK K
          refine Hr.Walk.one (i := 2) (by kernel_rfl) rfl (fun K hK => ?_)
          go_simp
          refine hK.out _ _ Sd.out ?_
          clear hK K
          refine Hr.Walk.take (i := 3) (v := ?vd_3) (fun X0 => Below wq.heap.size wq X0) (fun _ => True) rfl (by kernel_rfl) (by kernel_rfl) (by kernel_rfl) (fun _ _ _ h => h) (fun _ _ _ _ _ _ => trivial) (fun _ _ _ h => h) (fun _ _ h => h) trivial (Or.inl ⟨by rfl, ?hyd_3⟩) Sd.out Sd.out ?restd_3
          case hyd_3 => intro X0 hx; have c0 := C0.out X0 hx; have c21 := ((RB.out.below hx).2 1 _ rfl).1; have c23 := D3.out X0 hx; have c24 := ((RB.out.below hx).2 4 _ rfl).1; clear hx; go_simp; try with_reducible rfl
          (try go_simp)
          refine Hr.Walk.take (i := 4) (v := ?vd_4) (fun X0 => Below wq.heap.size wq X0) (fun _ => True) rfl (by kernel_rfl) (by kernel_rfl) (by kernel_rfl) (fun _ _ _ h => h) (fun _ _ _ _ _ _ => trivial) (fun _ _ _ h => h) (fun _ _ h => h) trivial (Or.inl ⟨by rfl, ?hyd_4⟩) Sd.out Sd.out ?restd_4
          case hyd_4 => intro X0 hx; have c0 := C0.out X0 hx; have c21 := ((RB.out.below hx).2 1 _ rfl).1; have c23 := D3.out X0 hx; have c24 := ((RB.out.below hx).2 4 _ rfl).1; clear hx; go_simp; try with_reducible rfl
          (try go_simp)
          refine Hr.Walk.take (i := 5) (v := ?vd_5) (fun X0 => Below wq.heap.size wq X0) (fun _ => True) rfl (by kernel_rfl) (by kernel_rfl) (by kernel_rfl) (fun _ _ _ h => h) (fun _ _ _ _ _ _ => trivial) (fun _ _ _ h => h) (fun _ _ h => h) trivial (Or.inl ⟨by rfl, ?hyd_5⟩) Sd.out Sd.out ?restd_5
          case hyd_5 => intro X0 hx; have c0 := C0.out X0 hx; have c21 := ((RB.out.below hx).2 1 _ rfl).1; have c23 := D3.out X0 hx; have c24 := ((RB.out.below hx).2 4 _ rfl).1; clear hx; go_simp; try with_reducible rfl
          (try go_simp)
          refine Hr.Walk.one (i := 6) (by kernel_rfl) rfl (fun K hK => ?_)
          go_simp
          refine hK.out _ _ Sd.out ?_
          clear hK K
          refine Hr.Walk.one (i := 7) (by kernel_rfl) rfl (fun K hK => ?_)
          go_simp
          refine hK.out _ _ Sd.out ?_
          clear hK K
          refine Hr.Walk.one (i := 8) (by kernel_rfl) rfl (fun K hK => ?_)
          go_simp
          refine hK.out _ _ Sd.out ?_
          clear hK K
          refine Hr.Walk.one (i := 9) (by kernel_rfl) rfl (fun K hK => ?_)
          go_simp
          refine hK.out _ _ Sd.out ?_
          clear hK K
          refine Hr.Walk.one (i := 10) (by kernel_rfl) rfl (fun K hK => ?_)
          go_simp
          refine hK.out _ _ Sd.out ?_
          clear hK K
          refine Hr.Walk.one (i := 11) (by kernel_rfl) rfl (fun K hK => ?_)
          go_simp
          refine hK.out _ _ Sd.out ?_
          clear hK K
          refine Hr.Walk.take (i := 12) (v := ?vd_12) (fun X0 => Below wq.heap.size wq X0) (fun _ => True) rfl (by kernel_rfl) (by kernel_rfl) (by kernel_rfl) (fun _ _ _ h => h) (fun _ _ _ _ _ _ => trivial) (fun _ _ _ h => h) (fun _ _ h => h) trivial (Or.inl ⟨by rfl, ?hyd_12⟩) Sd.out Sd.out ?restd_12
          case hyd_12 => intro X0 hx; have hr := (RB.out.below hx).range; clear hx; refine ldY (x := .tmp 4) hr ?_ ?_ Tryz.underlying25 rfl ?_; all_goals first | rfl | kernel_rfl
          (try go_simp)
          refine Hr.Walk.take (i := 13) (v := ?vd_13) (fun X0 => Below wq.heap.size wq X0) (fun _ => True) rfl (by kernel_rfl) (by kernel_rfl) (by kernel_rfl) (fun _ _ _ h => h) (fun _ _ _ _ _ _ => trivial) (fun _ _ _ h => h) (fun _ _ h => h) trivial (Or.inl ⟨by rfl, ?hyd_13⟩) Sd.out Sd.out ?restd_13
          case hyd_13 => intro X0 hx; have c0 := C0.out X0 hx; have c21 := ((RB.out.below hx).2 1 _ rfl).1; have c23 := D3.out X0 hx; have c24 := ((RB.out.below hx).2 4 _ rfl).1; clear hx; go_simp; try with_reducible rfl
          (try go_simp)
          refine Hr.Walk.take (i := 14) (v := ?vd_14) (fun X0 => Below wq.heap.size wq X0) (fun _ => True) rfl (by kernel_rfl) (by kernel_rfl) (by kernel_rfl) (fun _ _ _ h => h) (fun _ _ _ _ _ _ => trivial) (fun _ _ _ h => h) (fun _ _ h => h) trivial (Or.inl ⟨by rfl, ?hyd_14⟩) Sd.out Sd.out ?restd_14
          case hyd_14 => intro X0 hx; have c0 := C0.out X0 hx; have c21 := ((RB.out.below hx).2 1 _ rfl).1; have c23 := D3.out X0 hx; have c24 := ((RB.out.below hx).2 4 _ rfl).1; clear hx; go_simp; try with_reducible rfl
          (try go_simp)
          refine Hr.Walk.one (i := 15) (by kernel_rfl) rfl (fun K hK => ?_)
          go_simp
          refine hK.out _ _ Sd.out ?_
          clear hK K
          refine Hr.Walk.one (i := 16) (by kernel_rfl) rfl (fun K hK => ?_)
          go_simp
          refine hK.out _ _ Sd.out ?_
          clear hK K
          refine Hr.Walk.one (i := 17) (by kernel_rfl) rfl (fun K hK => ?_)
          go_simp
          refine hK.out _ _ Sd.out ?_
          clear hK K
          refine Hr.Walk.one (i := 18) (by kernel_rfl) rfl (fun K hK => ?_)
          go_simp
          clear rm wqp iv0
          go_at_call 27
          refine (Fil.lets_to x _ _ _ _ _ _ _ _ _ T t true _ (HA.out.stays (bstep B.out Sd.out)) HU.out.1 HU.out.2 (L.out.below (bstep B.out Sd.out)) S.out (Fil.nth_all (HA.out.stays (bstep B.out Sd.out)) (L.out.below (bstep B.out Sd.out))) (by have := BDS.out; omega) (by have := BDS.out; omega) (by have := TBD.out; omega) (by have := TBD.out; omega) L0).mono ?_
          rintro e w8 ⟨rfl, k8⟩
          have S2 : Hid (Below wq.heap.size wq w8) := Lib.hid (bstep Sd.out k8)
          have c0b := C0.out _ S2.out
          have d3b := D3.out _ S2.out
          have d4b := ((RB.out.below S2.out).2 4 _ rfl).1
          refine hK.out _ _ S2.out ?_
          clear hK K
          refine Hr.Walk.one (i := 19) (by kernel_rfl) rfl (fun K hK => ?_)
          go_simp
          refine hK.out _ _ S2.out ?_
          clear hK K
          refine Hr.Walk.one (i := 20) (by kernel_rfl) rfl (fun K hK => ?_)
          go_simp
          refine hK.out _ _ S2.out ?_
          clear hK K
          refine Hr.Walk.one (i := 21) (by kernel_rfl) rfl (fun K hK => ?_)
          go_simp
          refine hK.out _ _ S2.out ?_
          clear hK K
          refine Hr.Walk.one (i := 22) (by kernel_rfl) rfl (fun K hK => ?_)
          go_simp
          refine hK.out _ _ S2.out ?_
          clear hK K
          refine Hr.Walk.one (i := 23) (by kernel_rfl) rfl (fun K hK => ?_)
          go_simp
          refine hK.out _ _ S2.out ?_
          clear hK K
          refine Hr.Walk.one (i := 24) (by kernel_rfl) rfl (fun K hK => ?_)
          go_simp
          refine hK.out _ _ S2.out ?_
          clear hK K
          refine Hr.Walk.take (i := 25) (v := undef) (fun X0 => Below wq.heap.size wq X0) (fun _ => True) rfl (by kernel_rfl) (by kernel_rfl) (by kernel_rfl) (fun _ _ _ h => h) (fun _ _ _ _ _ _ => trivial) (fun _ _ _ h => h) (fun _ _ h => h) trivial (Or.inr ⟨by rfl, rfl⟩) S2.out S2.out ?_
          (try go_simp)
          refine Hr.Walk.take (i := 26) (v := undef) (fun X0 => Below wq.heap.size wq X0) (fun _ => True) rfl (by kernel_rfl) (by kernel_rfl) (by kernel_rfl) (fun _ _ _ h => h) (fun _ _ _ _ _ _ => trivial) (fun _ _ _ h => h) (fun _ _ h => h) trivial (Or.inr ⟨by rfl, rfl⟩) S2.out S2.out ?_
          (try go_simp)
          refine Hr.Walk.take (i := 27) (v := undef) (fun X0 => Below wq.heap.size wq X0) (fun _ => True) rfl (by kernel_rfl) (by kernel_rfl) (by kernel_rfl) (fun _ _ _ h => h) (fun _ _ _ _ _ _ => trivial) (fun _ _ _ h => h) (fun _ _ h => h) trivial (Or.inr ⟨by rfl, rfl⟩) S2.out S2.out ?_
          (try go_simp)
          refine Hr.Walk.take (i := 28) (v := undef) (fun X0 => Below wq.heap.size wq X0) (fun _ => True) rfl (by kernel_rfl) (by kernel_rfl) (by kernel_rfl) (fun _ _ _ h => h) (fun _ _ _ _ _ _ => trivial) (fun _ _ _ h => h) (fun _ _ h => h) trivial (Or.inr ⟨by rfl, rfl⟩) S2.out S2.out ?_
          (try go_simp)
          refine Hr.Walk.one (i := 29) (by kernel_rfl) rfl (fun K hK => ?_)
          go_simp
          refine hK.out _ _ S2.out ?_
          clear hK K
          refine Hr.Walk.one (i := 30) (by kernel_rfl) rfl (fun K hK => ?_)
          go_simp
          refine hK.out _ _ S2.out ?_
          clear hK K
          refine Hr.Walk.one (i := 31) (by kernel_rfl) rfl (fun K hK => ?_)
          go_simp
          refine hK.out _ _ S2.out ?_
          clear hK K
          refine Hr.Walk.one (i := 32) (by kernel_rfl) rfl (fun K hK => ?_)
          go_simp
          refine hK.out _ _ S2.out ?_
          clear hK K
          refine Hr.Walk.one (i := 33) (by kernel_rfl) rfl (fun K hK => ?_)
          go_simp
          refine hK.out _ _ S2.out ?_
          clear hK K
          refine Hr.Walk.done (by kernel_rfl) ?_ _
          go_wp2
          go_meet
          exact ⟨rfl, S2⟩
        | true =>
          have z5 : ¬ x.ua < t := by have := UA2 rfl; omega
          clear UA2
          refine Hr.Walk.region (R := fun _ X0 => Below wq.heap.size wq X0) (by kernel_rfl) ?_
          refine Hr.Walk.one (i := 0) (by kernel_rfl) rfl (fun K hK => ?_)
          go_simp
          refine hK.out _ _ Sd.out ?_
          clear hK K
          refine Hr.Walk.one (i := 1) (by kernel_rfl) rfl (fun K hK => ?_)
          go_simp
          refine hK.out _ _ Sd.out ?_
          clear hK K
          refine Hr.Walk.one (i := 2) (by kernel_rfl) rfl (fun K hK => ?_)
          go_simp
          refine hK.out _ _ Sd.out ?_
          clear hK K
          refine Hr.Walk.take (i := 3) (v := ?ve_3) (fun X0 => Below wq.heap.size wq X0) (fun _ => True) rfl (by kernel_rfl) (by kernel_rfl) (by kernel_rfl) (fun _ _ _ h => h) (fun _ _ _ _ _ _ => trivial) (fun _ _ _ h => h) (fun _ _ h => h) trivial (Or.inl ⟨by rfl, ?hye_3⟩) Sd.out Sd.out ?reste_3
          case hye_3 => intro X0 hx; have c0 := C0.out X0 hx; have c21 := ((RB.out.below hx).2 1 _ rfl).1; have c23 := D3.out X0 hx; have c24 := ((RB.out.below hx).2 4 _ rfl).1; clear hx; go_simp; try with_reducible rfl
          (try go_simp)
          refine Hr.Walk.take (i := 4) (v := ?ve_4) (fun X0 => Below wq.heap.size wq X0) (fun _ => True) rfl (by kernel_rfl) (by kernel_rfl) (by kernel_rfl) (fun _ _ _ h => h) (fun _ _ _ _ _ _ => trivial) (fun _ _ _ h => h) (fun _ _ h => h) trivial (Or.inl ⟨by rfl, ?hye_4⟩) Sd.out Sd.out ?reste_4
          case hye_4 => intro X0 hx; have c0 := C0.out X0 hx; have c21 := ((RB.out.below hx).2 1 _ rfl).1; have c23 := D3.out X0 hx; have c24 := ((RB.out.below hx).2 4 _ rfl).1; clear hx; go_simp; try with_reducible rfl
          (try go_simp)
          refine Hr.Walk.take (i := 5) (v := ?ve_5) (fun X0 => Below wq.heap.size wq X0) (fun _ => True) rfl (by kernel_rfl) (by kernel_rfl) (by kernel_rfl) (fun _ _ _ h => h) (fun _ _ _ _ _ _ => trivial) (fun _ _ _ h => h) (fun _ _ h => h) trivial (Or.inl ⟨by rfl, ?hye_5⟩) Sd.out Sd.out ?reste_5
          case hye_5 => intro X0 hx; have c0 := C0.out X0 hx; have c21 := ((RB.out.below hx).2 1 _ rfl).1; have c23 := D3.out X0 hx; have c24 := ((RB.out.below hx).2 4 _ rfl).1; clear hx; go_simp; try with_reducible rfl
          (try go_simp)
          refine Hr.Walk.one (i := 6) (by kernel_rfl) rfl (fun K hK => ?_)
          go_simp
          refine hK.out _ _ Sd.out ?_
          clear hK K
          refine Hr.Walk.one (i := 7) (by kernel_rfl) rfl (fun K hK => ?_)
          go_simp
          refine hK.out _ _ Sd.out ?_
          clear hK K
          refine Hr.Walk.one (i := 8) (by kernel_rfl) rfl (fun K hK => ?_)
          go_simp
          refine hK.out _ _ Sd.out ?_
          clear hK K
          refine Hr.Walk.one (i := 9) (by kernel_rfl) rfl (fun K hK => ?_)
          go_simp
          refine hK.out _ _ Sd.out ?_
          clear hK K
          refine Hr.Walk.one (i := 10) (by kernel_rfl) rfl (fun K hK => ?_)
          go_simp
          refine hK.out _ _ Sd.out ?_
          clear hK K
          refine Hr.Walk.one (i := 11) (by kernel_rfl) rfl (fun K hK => ?_)
          go_simp
          refine hK.out _ _ Sd.out ?_
          clear hK K
          refine Hr.Walk.take (i := 12) (v := ?ve_12) (fun X0 => Below wq.heap.size wq X0) (fun _ => True) rfl (by kernel_rfl) (by kernel_rfl) (by kernel_rfl) (fun _ _ _ h => h) (fun _ _ _ _ _ _ => trivial) (fun _ _ _ h => h) (fun _ _ h => h) trivial (Or.inl ⟨by rfl, ?hye_12⟩) Sd.out Sd.out ?reste_12
          case hye_12 => intro X0 hx; have hr := (RB.out.below hx).range; clear hx; refine ldY (x := .tmp 4) hr ?_ ?_ Tryz.underlying25 rfl ?_; all_goals first | rfl | kernel_rfl
          (try go_simp)
          refine Hr.Walk.take (i := 13) (v := ?ve_13) (fun X0 => Below wq.heap.size wq X0) (fun _ => True) rfl (by kernel_rfl) (by kernel_rfl) (by kernel_rfl) (fun _ _ _ h => h) (fun _ _ _ _ _ _ => trivial) (fun _ _ _ h => h) (fun _ _ h => h) trivial (Or.inl ⟨by rfl, ?hye_13⟩) Sd.out Sd.out ?reste_13
          case hye_13 => intro X0 hx; have c0 := C0.out X0 hx; have c21 := ((RB.out.below hx).2 1 _ rfl).1; have c23 := D3.out X0 hx; have c24 := ((RB.out.below hx).2 4 _ rfl).1; clear hx; go_simp; try with_reducible rfl
          (try go_simp)
          refine Hr.Walk.take (i := 14) (v := ?ve_14) (fun X0 => Below wq.heap.size wq X0) (fun _ => True) rfl (by kernel_rfl) (by kernel_rfl) (by kernel_rfl) (fun _ _ _ h => h) (fun _ _ _ _ _ _ => trivial) (fun _ _ _ h => h) (fun _ _ h => h) trivial (Or.inl ⟨by rfl, ?hye_14⟩) Sd.out Sd.out ?reste_14
          case hye_14 => intro X0 hx; have c0 := C0.out X0 hx; have c21 := ((RB.out.below hx).2 1 _ rfl).1; have c23 := D3.out X0 hx; have c24 := ((RB.out.below hx).2 4 _ rfl).1; clear hx; go_simp; try with_reducible rfl
          (try go_simp)
          refine Hr.Walk.one (i := 15) (by kernel_rfl) rfl (fun K hK => ?_)
          go_simp
          refine hK.out _ _ Sd.out ?_
          clear hK K
          refine Hr.Walk.one (i := 16) (by kernel_rfl) rfl (fun K hK => ?_)
          go_simp
          refine hK.out _ _ Sd.out ?_
          clear hK K
          refine Hr.Walk.one (i := 17) (by kernel_rfl) rfl (fun K hK => ?_)
          go_simp
          refine hK.out _ _ Sd.out ?_
          clear hK K
          refine Hr.Walk.one (i := 18) (by kernel_rfl) rfl (fun K hK => ?_)
          go_simp
          clear rm wqp iv0
          go_at_call 27
          refine (Fil.lets_to x _ _ _ _ _ _ _ _ _ T t true _ (HA.out.stays (bstep B.out Sd.out)) HU.out.1 HU.out.2 (L.out.below (bstep B.out Sd.out)) S.out (Fil.nth_all (HA.out.stays (bstep B.out Sd.out)) (L.out.below (bstep B.out Sd.out))) (by have := BDS.out; omega) (by have := BDS.out; omega) (by have := TBD.out; omega) (by have := TBD.out; omega) L0).mono ?_
          rintro e w8 ⟨rfl, k8⟩
          have S2 : Hid (Below wq.heap.size wq w8) := Lib.hid (bstep Sd.out k8)
          have c0b := C0.out _ S2.out
          have d3b := D3.out _ S2.out
          have d4b := ((RB.out.below S2.out).2 4 _ rfl).1
          refine hK.out _ _ S2.out ?_
          clear hK K
          refine Hr.Walk.one (i := 19) (by kernel_rfl) rfl (fun K hK => ?_)
          go_simp
          refine hK.out _ _ S2.out ?_
          clear hK K
          refine Hr.Walk.one (i := 20) (by kernel_rfl) rfl (fun K hK => ?_)
          go_simp
          refine hK.out _ _ S2.out ?_
          clear hK K
          refine Hr.Walk.one (i := 21) (by kernel_rfl) rfl (fun K hK => ?_)
          go_simp
          refine hK.out _ _ S2.out ?_
          clear hK K
          refine Hr.Walk.one (i := 22) (by kernel_rfl) rfl (fun K hK => ?_)
          go_simp
          refine hK.out _ _ S2.out ?_
          clear hK K
          refine Hr.Walk.one (i := 23) (by kernel_rfl) rfl (fun K hK => ?_)
          go_simp
          refine hK.out _ _ S2.out ?_
          clear hK K
          refine Hr.Walk.one (i := 24) (by kernel_rfl) rfl (fun K hK => ?_)
          go_simp
          refine hK.out _ _ S2.out ?_
          clear hK K
          refine Hr.Walk.take (i := 25) (v := ?ve_25) (fun X0 => Below wq.heap.size wq X0) (fun _ => True) rfl (by kernel_rfl) (by kernel_rfl) (by kernel_rfl) (fun _ _ _ h => h) (fun _ _ _ _ _ _ => trivial) (fun _ _ _ h => h) (fun _ _ h => h) trivial (Or.inl ⟨by rfl, ?hye_25⟩) S2.out S2.out ?reste_25
          case hye_25 => intro X0 hx; have c0 := C0.out X0 hx; have c21 := ((RB.out.below hx).2 1 _ rfl).1; have c23 := D3.out X0 hx; have c24 := ((RB.out.below hx).2 4 _ rfl).1; clear hx; go_simp; try with_reducible rfl
          (try go_simp)
          refine Hr.Walk.take (i := 26) (v := ?ve_26) (fun X0 => Below wq.heap.size wq X0) (fun _ => True) rfl (by kernel_rfl) (by kernel_rfl) (by kernel_rfl) (fun _ _ _ h => h) (fun _ _ _ _ _ _ => trivial) (fun _ _ _ h => h) (fun _ _ h => h) trivial (Or.inl ⟨by rfl, ?hye_26⟩) S2.out S2.out ?reste_26
          case hye_26 => intro X0 hx; have c0 := C0.out X0 hx; have c21 := ((RB.out.below hx).2 1 _ rfl).1; have c23 := D3.out X0 hx; have c24 := ((RB.out.below hx).2 4 _ rfl).1; clear hx; go_simp; try with_reducible rfl
          (try go_simp)
          refine Hr.Walk.take (i := 27) (v := ?ve_27) (fun X0 => Below wq.heap.size wq X0) (fun _ => True) rfl (by kernel_rfl) (by kernel_rfl) (by kernel_rfl) (fun _ _ _ h => h) (fun _ _ _ _ _ _ => trivial) (fun _ _ _ h => h) (fun _ _ h => h) trivial (Or.inl ⟨by rfl, ?hye_27⟩) S2.out S2.out ?reste_27
          case hye_27 => intro X0 hx; have c0 := C0.out X0 hx; have c21 := ((RB.out.below hx).2 1 _ rfl).1; have c23 := D3.out X0 hx; have c24 := ((RB.out.below hx).2 4 _ rfl).1; clear hx; go_simp; try with_reducible rfl
          (try go_simp)
          refine Hr.Walk.take (i := 28) (v := ?ve_28) (fun X0 => Below wq.heap.size wq X0) (fun _ => True) rfl (by kernel_rfl) (by kernel_rfl) (by kernel_rfl) (fun _ _ _ h => h) (fun _ _ _ _ _ _ => trivial) (fun _ _ _ h => h) (fun _ _ h => h) trivial (Or.inl ⟨by rfl, ?hye_28⟩) S2.out S2.out ?reste_28
          case hye_28 => intro X0 hx; have c0 := C0.out X0 hx; have c21 := ((RB.out.below hx).2 1 _ rfl).1; have c23 := D3.out X0 hx; have c24 := ((RB.out.below hx).2 4 _ rfl).1; clear hx; go_simp; try with_reducible rfl
          (try go_simp)
          refine Hr.Walk.one (i := 29) (by kernel_rfl) rfl (fun K hK => ?_)
          go_simp
          refine hK.out _ _ S2.out ?_
          clear hK K
          refine Hr.Walk.one (i := 30) (by kernel_rfl) rfl (fun K hK => ?_)
          go_simp
          refine hK.out _ _ S2.out ?_
          clear hK K
          refine Hr.Walk.one (i := 31) (by kernel_rfl) rfl (fun K hK => ?_)
          go_simp
          refine hK.out _ _ S2.out ?_
          clear hK K
          refine Hr.Walk.one (i := 32) (by kernel_rfl) rfl (fun K hK => ?_)
          go_simp
          refine hK.out _ _ S2.out ?_
          clear hK K
          refine Hr.Walk.one (i := 33) (by kernel_rfl) rfl (fun K hK => ?_)
          go_simp
          refine hK.out _ _ S2.out ?_
          clear hK K
          refine Hr.Walk.done (by kernel_rfl) ?_ _
          go_wp2
          go_meet
          exact ⟨rfl, S2⟩
      case rest =>
      obtain ⟨wr2, rfl⟩ : ∃ x : World, x = wc := ⟨_, rfl⟩
      obtain ⟨rfl, K1⟩ := hcut
      clear Sd rm wqp iv0 c0 d1 d3 d4
      have RB := Lib.hid (RB.out.below K1.out)
      have RO := Lib.hid (RO.out.below K1.out)
      have B := Lib.hid (bstep B.out K1.out)
      have s1 := S1.out
      clear K1
      go_wp2_with fail
      go_roundw
      case rel => exact ⟨k + 1, by omega, by first | rfl | (rw [s1]) | go_num, RO, RB, B⟩
      case measure => simp [intOf]; omega
    · obtain rfl : k = n := by omega
      go_wp2_with fail
      refine (wakes23_any _ (HA.out.stays B.out)).mono ?_
      rintro e w13 ⟨rfl, k⟩
      go_wp2
      go_ret
      exact ⟨ret_b rfl, bstep B.out k⟩

end Rru
end Go.Proofs.YtbdakbjlgljahaaGreatDoor
