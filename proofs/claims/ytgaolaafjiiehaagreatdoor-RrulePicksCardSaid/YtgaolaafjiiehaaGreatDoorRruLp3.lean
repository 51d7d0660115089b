/-
  RrulePicks, from its region 18 on: the times at the places that are asked for.
-/
import Derived.Test.YtgaolaafjiiehaaGreatDoorRruW
import Derived.Test.YtgaolaafjiiehaaGreatDoorRruYJ
import Derived.Test.YtgaolaafjiiehaaGreatDoorBdCl
namespace Go.Proofs.YtgaolaafjiiehaaGreatDoor
open Go.RowKit
namespace Rru
open Rcv (CV LisV IntV DayV)
open Rck (ckE ckB Small)
open Ap (RowI)
open Civ (numV numE dY dM dD dnE ydV Ahead)
open Fil (moO mo_bd spE spT spF spQ perV perE perQ ld16 vsm vsm_mo vsm_bd vsome_to ck_fq per_to span_to)
open Cel

noncomputable def pkT18C : Code := (Tryz.f3.body.bind (Tl.from_ 18)).getD .skip
set_option maxHeartbeats 25600000 in
set_option maxRecDepth 100000 in
theorem pkT18 (N A : List Int) (pA : Option Addr) (pc : Nat) (va vb : Value) (w w2 : World) (HA : Hid (Ahead w)) (PV : Hid (IntV w (.slice pA N.length pc) N)) (NL : Hid (1 ≤ N.length ∧ N.length ≤ 60)) (AL : Hid (A.length ≤ 200000)) (RA : Hid (RowI w.heap.size w2 va A)) (RO : Hid (RowI w.heap.size w2 vb (pkL N A A.length))) (B : Hid (Below w.heap.size w w2)) (z0 z1 z2 z4 z5 z6 z7 z8 z9 z10 z11 z12 z14 z16 z17 z18 z19 z20 z21 z22 z23 z24 z25 z26 z27 z28 z29 z30 z31 z32 z33 z34 z35 z36 z37 z38 z39 z40 z41 z42 z43 z44 z45 z46 z47 z48 z49 z50 z51 z52 z53 z54 z55 z56 z57 z58 z59 z60 z61 z62 z63 z64 z65 z66 z67 z68 z69 z70 z71 z72 z73 z74 z75 z76 z77 z78 z79 z80 z81 z82 z83 z84 z85 z86 z87 z88 z89 z90 z91 z92 z93 z94 z95 z96 z97 z98 z99 z100 z101 z102 z103 z104 z105 z106 z107 z108 z109 z110 z111 z112 z113 z114 z115 z116 z117 z118 z119 z120 z121 z122 z123 z124 z125 z126 z127 z128 z129 z130 z131 z132 z133 z134 z135 z136 z137 z138 z139 z140 z141 z142 z143 z144 z145 z146 z147 z148 z149 z150 z151 z152 z153 z154 z155 z156 z157 z158 z159 z160 z161 z162 z163 z164 z165 z166 z167 z168 z169 z170 z171 z172 : Value) : Code.wp Tryz.prog pkT18C (bodyPost Tryz.prog Tryz.f3 (fun e w' => e = .returned (.bool true) ∧ Below w.heap.size w w')) ⟨List.toArray (z0 :: z1 :: z2 :: .slice pA N.length pc :: z4 :: z5 :: z6 :: z7 :: z8 :: z9 :: z10 :: z11 :: z12 :: va :: z14 :: vb :: z16 :: z17 :: z18 :: z19 :: z20 :: z21 :: z22 :: z23 :: z24 :: z25 :: z26 :: z27 :: z28 :: z29 :: z30 :: z31 :: z32 :: z33 :: z34 :: z35 :: z36 :: z37 :: z38 :: z39 :: z40 :: z41 :: z42 :: z43 :: z44 :: z45 :: z46 :: z47 :: z48 :: z49 :: z50 :: z51 :: z52 :: z53 :: z54 :: z55 :: z56 :: z57 :: z58 :: z59 :: z60 :: z61 :: z62 :: z63 :: z64 :: z65 :: z66 :: z67 :: z68 :: z69 :: z70 :: z71 :: z72 :: z73 :: z74 :: z75 :: z76 :: z77 :: z78 :: z79 :: z80 :: z81 :: z82 :: z83 :: z84 :: z85 :: z86 :: z87 :: z88 :: z89 :: z90 :: z91 :: z92 :: z93 :: z94 :: z95 :: z96 :: z97 :: z98 :: z99 :: z100 :: z101 :: z102 :: z103 :: z104 :: z105 :: z106 :: z107 :: z108 :: z109 :: z110 :: z111 :: z112 :: z113 :: z114 :: z115 :: z116 :: z117 :: z118 :: z119 :: z120 :: z121 :: z122 :: z123 :: z124 :: z125 :: z126 :: z127 :: z128 :: z129 :: z130 :: z131 :: z132 :: z133 :: z134 :: z135 :: z136 :: z137 :: z138 :: z139 :: z140 :: z141 :: z142 :: z143 :: z144 :: z145 :: z146 :: z147 :: z148 :: z149 :: z150 :: z151 :: z152 :: z153 :: z154 :: z155 :: z156 :: z157 :: z158 :: z159 :: z160 :: z161 :: z162 :: z163 :: z164 :: z165 :: z166 :: z167 :: z168 :: z169 :: z170 :: z171 :: z172 :: []), []⟩ w2 := by
  conv => arg 2; whnf
  have PW := Lib.hid (PV.out.below B.out)
  obtain ⟨aa, ac, rfl⟩ := RA.out.forms
  obtain ⟨pb, po, pc2, hv, hp1, hp2⟩ := PW.out.form (by have := NL.out; omega)
  injection hv with e1 e2 e3
  subst e1 e3
  clear e2
  have CN : Hid (∀ (j : Nat) (hj : j < N.length) X0, Below w2.heap.size w2 X0 → X0.cell? ⟨pb, po + j, none⟩ = some (.int .i64 N[j])) := Lib.hid (fun j hj X0 hx => by rw [hx.cell (p := ⟨pb, po + j, none⟩) hp1]; exact hp2 j hj)
  obtain ⟨n, hn⟩ : ∃ z, A.length = z := ⟨_, rfl⟩
  obtain ⟨m, hm⟩ : ∃ z, N.length = z := ⟨_, rfl⟩
  have HN := Lib.hid hn
  have HM := Lib.hid hm
  rw [hn, hm]
  have NB : Hid (n ≤ 200000 ∧ m ≤ 60) := Lib.hid (by rw [← hn, ← hm]; exact ⟨AL.out, NL.out.2⟩)
  clear hn hm hp1 hp2 PW
  go_wp2_with fail
  go_loopw [17, 18, 19, 20] (fun wv iv q1 q2 wr => ∃ (k : Nat) (mv : Value), k ≤ n ∧ wv = mv ∧ iv = .int .i64 k ∧ Hid (RowI w2.heap.size wr mv (pkL N A k)) ∧ Hid (Below w2.heap.size w2 wr)) (fun _ iv _ _ _ => n - (intOf iv).toNat)
  case atStart => exact ⟨0, .slice none 0 0, by omega, rfl, by rfl, Lib.hid (RowI.nil _ _), Lib.hid (Below.refl _ _)⟩
  case round =>
    obtain ⟨k, mv, hk, rfl, rfl, HR, K1⟩ := hrel
    obtain ⟨wo, rfl⟩ : ∃ wo : World, wo = wr := ⟨_, rfl⟩
    by_cases hlt : k < n
    · obtain ⟨bq, hbq⟩ : ∃ z, asks N A.length k = z := ⟨_, rfl⟩
      have HQ := Lib.hid hbq
      have HK := Lib.hid hlt
      clear hbq hk
      go_wp2_with fail
      go_loopw [19, 20] (fun sv jv wq => ∃ j : Nat, j ≤ m ∧ jv = .int .i64 j ∧ sv = .bool (askK N n k j) ∧ Hid (Below wo.heap.size wo wq)) (fun _ jv _ => m - (intOf jv).toNat)
      case atStart => exact ⟨0, by omega, by rfl, by rw [ask_0], Lib.hid (Below.refl _ _)⟩
      case round =>
        obtain ⟨j, hj, rfl, rfl, K2⟩ := hrel
        obtain ⟨wi, rfl⟩ : ∃ wi : World, wi = wr := ⟨_, rfl⟩
        by_cases hlj : j < m
        · have hjN : j < N.length := by rw [HM.out]; exact hlj
          obtain ⟨t, ht⟩ : ∃ z, N[j]'hjN = z := ⟨_, rfl⟩
          have c0 := CN.out j hjN wi (bstep K1.out K2.out)
          rw [ht] at c0
          have AS := ask_s (c := n) (i := k) hjN
          rw [ht] at AS
          obtain ⟨b0, hb0⟩ : ∃ z, askK N n k j = z := ⟨_, rfl⟩
          rw [hb0] at AS ⊢
          have AS := Lib.hid AS
          have nb := NB.out
          obtain ⟨k1, hk1⟩ : ∃ z, (k : Int) + 1 = z := ⟨_, rfl⟩
          obtain ⟨kn, hkn⟩ : ∃ z, (k : Int) - (n : Int) = z := ⟨_, rfl⟩
          have s1 : IntKind.i64.wrap ((j : Int) + 1) = ((j + 1 : Nat) : Int) := by rw [IntWalk.i64_in _ (by omega)]; omega
          have s2 : IntKind.i64.wrap k1 = k1 := by rw [IntKind.wrap_i64]; omega
          have s3 : IntKind.i64.wrap kn = kn := by rw [IntKind.wrap_i64]; omega
          have AS : Hid (askK N n k (j + 1) = (b0 || (decide (t = k1) || decide (t = kn)))) := Lib.hid (by rw [AS.out, hk1, hkn])
          clear ht hb0 nb hlt
          cases b0 with
          | true =>
            have AS : Hid (askK N n k (j + 1) = true) := Lib.hid (by rw [AS.out]; rfl)
            go_wp2_with fail
            go_roundw
            case rel => exact ⟨j + 1, by omega, by first | rfl | (rw [s1]) | go_num, by rw [AS.out], K2⟩
            case measure => simp [intOf]; omega
          | false =>
            by_cases e1 : t = k1
            · have AS : Hid (askK N n k (j + 1) = true) := Lib.hid (by rw [AS.out, decide_eq_true e1]; rfl)
              have q1 : (t == k1) = true := beq_iff_eq.2 e1
              clear e1
              go_wp2_with fail
              go_roundw
              case rel => exact ⟨j + 1, by omega, by first | rfl | (rw [s1]) | go_num, by rw [AS.out], K2⟩
              case measure => simp [intOf]; omega
            · by_cases e2 : t = kn
              · have AS : Hid (askK N n k (j + 1) = true) := Lib.hid (by rw [AS.out, decide_eq_true e2]; simp)
                have q1 : (t == k1) = false := beq_eq_false_iff_ne.2 e1
                have q2 : (t == kn) = true := beq_iff_eq.2 e2
                clear e1 e2
                go_wp2_with fail
                go_roundw
                case rel => exact ⟨j + 1, by omega, by first | rfl | (rw [s1]) | go_num, by rw [AS.out], K2⟩
                case measure => simp [intOf]; omega
              · have AS : Hid (askK N n k (j + 1) = false) := Lib.hid (by rw [AS.out, decide_eq_false e1, decide_eq_false e2]; rfl)
                have q1 : (t == k1) = false := beq_eq_false_iff_ne.2 e1
                have q2 : (t == kn) = false := beq_eq_false_iff_ne.2 e2
                clear e1 e2
                go_wp2_with fail
                go_roundw
                case rel => exact ⟨j + 1, by omega, by first | rfl | (rw [s1]) | go_num, by rw [AS.out], K2⟩
                case measure => simp [intOf]; omega
        · have AQ : askK N n k j = bq := by
            rw [← HQ.out, HN.out, show j = N.length by rw [HM.out]; omega, ask_n]
          obtain rfl : j = m := by omega
          rw [AQ]
          have HR := Lib.hid (HR.out.below K2.out)
          have K1 := Lib.hid (bstep K1.out K2.out)
          have nb := NB.out
          have s1 : IntKind.i64.wrap ((k : Int) + 1) = ((k + 1 : Nat) : Int) := by rw [IntWalk.i64_in _ (by omega)]; omega
          have kA : k < A.length := by rw [HN.out]; exact HK.out
          clear AQ K2 nb
          cases bq with
          | true =>
            obtain ⟨ga, gc, hva, -, hga, hca, -⟩ := RA.out.form (by omega)
            injection hva with e1 e2 e3
            subst e1 e3
            obtain ⟨ak, hak⟩ : ∃ z, A[k]'kA = z := ⟨_, rfl⟩
            have c0 : wi.cell? ⟨ga, k, none⟩ = some (.int .i64 ak) := by rw [K1.out.cell (p := ⟨ga, k, none⟩) hga, hca k kA, hak]
            have PK : Hid (pkL N A (k + 1) = pkL N A k ++ [ak]) := Lib.hid (by rw [pk_yes kA HQ.out, hak])
            have hl : (pkL N A k).length ≤ 100000000 := by have := pk_len N A k; have := AL.out; omega
            have hsz : w2.heap.size ≤ wi.heap.size := K1.out.size
            clear e2 hca hak
            go_wp2_with (at_builtin; refine Ap.appI rfl _ _ rfl w2.heap.size _ (pkL N A k) rfl HR.out ak rfl hl hsz ?_)
            intro wn gg gcap r5 g5
            have HB7 := Lib.hid (g5.below w2.heap.size w2 (Nat.le_refl _) K1.out hsz)
            have HR6 : Hid (RowI w2.heap.size wn (.slice (some ⟨gg, 0, none⟩) ((pkL N A k).length + 1) gcap) (pkL N A (k + 1))) := Lib.hid (by rw [PK.out]; exact r5)
            clear g5 r5 HR K1 hsz hl c0
            go_wp2
            go_roundw
            case rel => exact ⟨k + 1, _, by have := HK.out; omega, rfl, by first | rfl | (rw [s1]) | go_num, HR6, HB7⟩
            case measure => have := HK.out; simp [intOf]; omega
          | false =>
            have HR6 : Hid (RowI w2.heap.size wi _ (pkL N A (k + 1))) := Lib.hid (by rw [pk_no HQ.out]; exact HR.out)
            go_wp2_with fail
            go_roundw
            case rel => exact ⟨k + 1, _, by have := HK.out; omega, rfl, by first | rfl | (rw [s1]) | go_num, HR6, K1⟩
            case measure => have := HK.out; simp [intOf]; omega
    · obtain rfl : k = n := by omega
      have RO := Lib.hid (RO.out.below K1.out)
      have B := Lib.hid (bstep B.out K1.out)
      have l1 : (pkL N A A.length).length ≤ 1000000 := by have := pk_len N A A.length; have := AL.out; omega
      have l2 := l1
      rw [HN.out] at l2
      go_wp2_with fail
      refine (ints_b _ _ (pkL N A A.length) (pkL N A k) _ (IntV.of_row RO.out) (IntV.of_row HR.out) l1 l2 true (Lib.hid (decide_eq_true (by rw [HN.out])))).mono ?_
      rintro e w19 ⟨rfl, k9⟩
      have B := Lib.hid (bstep B.out k9)
      clear k9
      go_wp2_with fail
      refine (wakes23_any _ (HA.out.stays B.out)).mono ?_
      rintro e w13 ⟨rfl, k⟩
      go_wp2
      go_ret
      exact ⟨ret_b rfl, bstep B.out k⟩

end Rru
end Go.Proofs.YtgaolaafjiiehaaGreatDoor
