/-
  Package filter: span, a period's first time and the one behind its last.
-/
import Derived.Test.YtpbbnkgfheafpaaGreatDoorBdFb
namespace Go.Proofs.YtpbbnkgfheafpaaGreatDoor
open Go.RowKit
namespace Fil
open Rcv (CV LisV IntV)
open Civ (numV numE dY dM dD dnE Ahead)
open Cel
theorem drw {w : World} {n : Nat} {w0 : World} (h : Below n w0 w) : Below n w0 w.drew := ⟨h.os, h.tape, h.output, h.size, h.block⟩
theorem ret_iib {a a' b b' : Int} {c c' : Bool} (h : a = a') (k : b = b') (l : c = c') : Ending.returned (.tuple #[.int .i64 a, .int .i64 b, .bool c]) = .returned (.tuple #[.int .i64 a', .int .i64 b', .bool c']) := by rw [h, k, l]
theorem nn_len {L : List Int} : ((L.length : Int) = 0) ↔ L = [] := by
  rw [← List.length_eq_zero_iff]; omega
theorem pl_bd (y m d : Int) : -1000000000 ≤ numV y m d ∧ numV y m d ≤ 1000000000 := by
  have := numV_bd y m d
  omega
theorem wf_bd (y k : Int) : -1000000000 ≤ wfV y k ∧ wfV y k ≤ 1000000000 := by
  have := numV_bd y 1 4
  unfold wfV
  omega
set_option maxHeartbeats 3200000 in
set_option maxRecDepth 100000 in
theorem sp_to (x : CV) (s6 s7 s8 s9 s10 s11 s12 s13 s14 : Value) (p : Int) (w : World) (hA : Ahead w) (hf : 1 ≤ x.fq ∧ x.fq ≤ 7) (hk : 0 ≤ x.wk ∧ x.wk ≤ 6) (hp : -1099511627776 ≤ p ∧ p ≤ 1099511627776) (hw : IntV w s12 x.wn) :
    Calls Tryz.prog 50 #[.agg #[.int .i64 x.fq, .int .i64 x.iv, .int .i64 x.ct, .bool x.un, .int .i64 x.ua, .bool x.ut, s6, s7, s8, s9, s10, s11, s12, s13, s14, .int .i64 x.wk], .int .i64 p] w fun e w' => e = .returned (.tuple #[.int .i64 (spA x p), .int .i64 (spZ x p), .bool (spO x p)]) ∧ Below w.heap.size w w' := by
  obtain ⟨a12, c12, rfl⟩ := hw.slice
  clear hw
  have HA := Lib.hid hA
  clear hA
  obtain ⟨p1, p2⟩ := hp
  obtain ⟨k1, k2⟩ := hk
  obtain ⟨wk, hwk⟩ : ∃ k, x.wk = k := ⟨_, rfl⟩
  obtain ⟨fq, hfq⟩ : ∃ k, x.fq = k := ⟨_, rfl⟩
  have EA := Lib.hid (show spA x p = spA x p from rfl)
  obtain ⟨A, hAA⟩ : ∃ a, spA x p = a := ⟨_, rfl⟩
  obtain ⟨Z, hZZ⟩ : ∃ a, spZ x p = a := ⟨_, rfl⟩
  obtain ⟨O, hOO⟩ : ∃ a, spO x p = a := ⟨_, rfl⟩
  rw [hAA, hZZ, hOO]
  unfold spA at hAA
  unfold spZ at hZZ
  unfold spO at hOO
  rw [hwk] at hAA hZZ k1 k2 ⊢
  rw [hfq] at hAA hZZ hOO hf ⊢
  have HR := Lib.hid (And.intro hAA (And.intro hZZ hOO))
  clear hAA hZZ hOO EA hwk hfq
  go_enter Tryz.func50, Tryz.ntmps50
  go_upto_region 0 with fail
  go_cut [2] (fun q wz => q = .pointer (some ⟨w.heap.size, 0, none⟩) ∧ Hid (Cs w.heap.size wz [.int .i64 fq, .int .i64 x.iv, .int .i64 x.ct, .bool x.un, .int .i64 x.ua, .bool x.ut, s6, s7, s8, s9, s10, s11, .slice a12 x.wn.length c12, s13, s14, .int .i64 wk]) ∧ Hid (Below w.heap.size w wz))
  case first =>
    go_wp2
    go_meet
    exact ⟨rfl, Lib.hid (Cs.new w _ _), Lib.hid ((Below.refl _ _).alloc (Nat.le_refl _) _)⟩
  case rest =>
  obtain ⟨w1, rfl⟩ : ∃ x : World, x = wc := ⟨_, rfl⟩
  obtain ⟨rfl, C, B⟩ := hcut
  have l0 := (C.out.2 0 _ rfl).1
  have l12 := (C.out.2 12 _ rfl).1
  have l15 := (C.out.2 15 _ rfl).1
  have hq : fq = 1 ∨ fq = 2 ∨ fq = 3 ∨ fq = 4 ∨ fq = 5 ∨ fq = 6 ∨ fq = 7 := by omega
  clear hf
  rcases hq with rfl | rfl | rfl | rfl | rfl | rfl | rfl
  · have h1 : p = A := HR.out.1
    have h2 : p + 1 = Z := HR.out.2.1
    have h3 : true = O := HR.out.2.2
    have HR := Lib.hid (And.intro h1 (And.intro h2 h3))
    clear C h1 h2 h3
    go_wp2
    go_ret3
    exact ⟨ret_iib HR.out.1 HR.out.2.1 HR.out.2.2, B.out⟩
  · have h1 : p * 60 = A := HR.out.1
    have h2 : (p + 1) * 60 = Z := HR.out.2.1
    have h3 : true = O := HR.out.2.2
    have HR := Lib.hid (And.intro h1 (And.intro h2 h3))
    clear C h1 h2 h3
    go_wp2
    go_ret3
    exact ⟨ret_iib HR.out.1 HR.out.2.1 HR.out.2.2, B.out⟩
  · have h1 : p * 3600 = A := HR.out.1
    have h2 : (p + 1) * 3600 = Z := HR.out.2.1
    have h3 : true = O := HR.out.2.2
    have HR := Lib.hid (And.intro h1 (And.intro h2 h3))
    clear C h1 h2 h3
    go_wp2
    go_ret3
    exact ⟨ret_iib HR.out.1 HR.out.2.1 HR.out.2.2, B.out⟩
  · have h1 : p * 86400 = A := HR.out.1
    have h2 : (p + 1) * 86400 = Z := HR.out.2.1
    have h3 : true = O := HR.out.2.2
    have HR := Lib.hid (And.intro h1 (And.intro h2 h3))
    clear C h1 h2 h3
    go_wp2
    go_ret3
    exact ⟨ret_iib HR.out.1 HR.out.2.1 HR.out.2.2, B.out⟩
  · have h1 : (p * 7 - 4 + wk) * 86400 = A := HR.out.1
    have h2 : (p * 7 - 4 + wk + 7) * 86400 = Z := HR.out.2.1
    have h3 : true = O := HR.out.2.2
    have HR := Lib.hid (And.intro h1 (And.intro h2 h3))
    clear C h1 h2 h3
    go_wp2
    go_ret3
    exact ⟨ret_iib HR.out.1 HR.out.2.1 HR.out.2.2, B.out⟩
  · obtain ⟨v, hv⟩ : ∃ v, mfV p = v := ⟨_, rfl⟩
    obtain ⟨v2, hv2⟩ : ∃ v, mfV (p + 1) = v := ⟨_, rfl⟩
    obtain ⟨o, ho⟩ : ∃ v, mfO p = v := ⟨_, rfl⟩
    obtain ⟨o2, ho2⟩ : ∃ v, mfO (p + 1) = v := ⟨_, rfl⟩
    have b1 : -1000000000 ≤ v ∧ v ≤ 1000000000 := by rw [← hv]; exact pl_bd _ _ _
    have b2 : -1000000000 ≤ v2 ∧ v2 ≤ 1000000000 := by rw [← hv2]; exact pl_bd _ _ _
    obtain ⟨hAA, hZZ, hOO⟩ := HR.out
    have hAA : v * 86400 = A := by rw [← hv]; exact hAA
    have hZZ : v2 * 86400 = Z := by rw [← hv2]; exact hZZ
    have hOO : (o && o2) = O := by rw [← ho, ← ho2]; exact hOO
    have HQ := Lib.hid (And.intro hAA (And.intro hZZ hOO))
    clear HR
    have V1 := Lib.hid hv
    have V2 := Lib.hid hv2
    have O1 := Lib.hid ho
    have O2 := Lib.hid ho2
    clear hAA hZZ hOO hv hv2 ho ho2 C
    go_wp2_with fail
    refine (md_to p v o _ (HA.out.stays B.out) (by omega) (by omega) V1 O1).mono ?_
    rintro e w2 ⟨rfl, k⟩
    have B := Lib.hid (bstep B.out k)
    clear k
    go_wp2_with fail
    refine (md_to (p + 1) v2 o2 _ (HA.out.stays B.out) (by omega) (by omega) V2 O2).mono ?_
    rintro e w3 ⟨rfl, k⟩
    have B := Lib.hid (bstep B.out k)
    clear k
    go_wp2_with fail
    refine (bt_to v v2 o o2 _ b1 b2).mono ?_
    rintro e w4 ⟨rfl, k⟩
    have B := Lib.hid (bstep B.out k)
    clear k
    go_wp2
    go_ret3
    exact ⟨ret_iib HQ.out.1 HQ.out.2.1 HQ.out.2.2, B.out⟩
  · by_cases hn : x.wn = []
    · have hn0 : x.wn.length = 0 := by rw [hn]; rfl
      obtain ⟨v, hv⟩ : ∃ v, yfV p = v := ⟨_, rfl⟩
      obtain ⟨v2, hv2⟩ : ∃ v, yfV (p + 1) = v := ⟨_, rfl⟩
      obtain ⟨o, ho⟩ : ∃ v, yfO p = v := ⟨_, rfl⟩
      obtain ⟨o2, ho2⟩ : ∃ v, yfO (p + 1) = v := ⟨_, rfl⟩
      have b1 : -1000000000 ≤ v ∧ v ≤ 1000000000 := by rw [← hv]; exact pl_bd _ _ _
      have b2 : -1000000000 ≤ v2 ∧ v2 ≤ 1000000000 := by rw [← hv2]; exact pl_bd _ _ _
      obtain ⟨hAA, hZZ, hOO⟩ := HR.out
      rw [if_pos hn] at hAA hZZ hOO
      have hAA : v * 86400 = A := by rw [← hv]; exact hAA
      have hZZ : v2 * 86400 = Z := by rw [← hv2]; exact hZZ
      have hOO : (o && o2) = O := by rw [← ho, ← ho2]; exact hOO
      have HQ := Lib.hid (And.intro hAA (And.intro hZZ hOO))
      clear HR
      have V1 := Lib.hid hv
      have V2 := Lib.hid hv2
      have O1 := Lib.hid ho
      have O2 := Lib.hid ho2
      rw [hn0] at l12
      clear hAA hZZ hOO hv hv2 ho ho2 C hn
      go_wp2_with fail
      refine (yd_to p v o _ (HA.out.stays B.out) V1 O1).mono ?_
      rintro e w2 ⟨rfl, k⟩
      have B := Lib.hid (bstep B.out k)
      clear k
      go_wp2_with fail
      refine (yd_to (p + 1) v2 o2 _ (HA.out.stays B.out) V2 O2).mono ?_
      rintro e w3 ⟨rfl, k⟩
      have B := Lib.hid (bstep B.out k)
      clear k
      go_wp2_with fail
      refine (bt_to v v2 o o2 _ b1 b2).mono ?_
      rintro e w4 ⟨rfl, k⟩
      have B := Lib.hid (bstep B.out k)
      clear k
      go_wp2
      go_ret3
      exact ⟨ret_iib HQ.out.1 HQ.out.2.1 HQ.out.2.2, B.out⟩
    · have hn0 : ¬ (x.wn.length : Int) = 0 := fun h => hn (nn_len.1 h)
      obtain ⟨v, hv⟩ : ∃ v, wfV p wk = v := ⟨_, rfl⟩
      obtain ⟨v2, hv2⟩ : ∃ v, wfV (p + 1) wk = v := ⟨_, rfl⟩
      obtain ⟨o, ho⟩ : ∃ v, wfO p = v := ⟨_, rfl⟩
      obtain ⟨o2, ho2⟩ : ∃ v, wfO (p + 1) = v := ⟨_, rfl⟩
      have b1 : -1000000000 ≤ v ∧ v ≤ 1000000000 := by rw [← hv]; exact wf_bd _ _
      have b2 : -1000000000 ≤ v2 ∧ v2 ≤ 1000000000 := by rw [← hv2]; exact wf_bd _ _
      obtain ⟨hAA, hZZ, hOO⟩ := HR.out
      rw [if_neg hn] at hAA hZZ hOO
      have hAA : v * 86400 = A := by rw [← hv]; exact hAA
      have hZZ : v2 * 86400 = Z := by rw [← hv2]; exact hZZ
      have hOO : (o && o2) = O := by rw [← ho, ← ho2]; exact hOO
      have HQ := Lib.hid (And.intro hAA (And.intro hZZ hOO))
      clear HR
      have V1 := Lib.hid hv
      have V2 := Lib.hid hv2
      have O1 := Lib.hid ho
      have O2 := Lib.hid ho2
      have K := Lib.hid (And.intro k1 k2)
      clear hAA hZZ hOO hv hv2 ho ho2 hn
      go_upto_region 17 with fail
      go_cut [4, 5, 6] (fun a b c wz => a = .int .i64 A ∧ b = .int .i64 Z ∧ c = .bool O ∧ Hid (Below w.heap.size w wz))
      case first =>
        obtain ⟨q, hq⟩ : ∃ q, p + 1 = q := ⟨_, rfl⟩
        have W1 := fun (X : World) (h : Below w.heap.size w X) => fw_to p wk v o X (HA.out.stays h) K.out.1 K.out.2 V1 O1
        rw [hq] at V2 O2
        have r1 : IntKind.i64.wrap q = q := IntWalk.i64_in _ (by omega)
        have W2 := fun (X : World) (h : Below w.heap.size w X) => fw_to q wk v2 o2 X (HA.out.stays h) K.out.1 K.out.2 V2 O2
        have W1 := Lib.hid W1
        have W2 := Lib.hid W2
        go_region_with (first | (go_at_call 67; first | (have kX := kA; refine (W2.out _ (bstep (drw B.out) kX)).mono ?_; rintro e w3 ⟨rfl, kB⟩) | (refine (W1.out _ (drw B.out)).mono ?_; rintro e w2 ⟨rfl, kA⟩; have mA := (((C.out.drewN 1).below kA).2 15 _ rfl).1)) | (go_at_call 64; refine (bt_to v v2 o o2 _ b1 b2).mono ?_; rintro e w4 ⟨rfl, kC⟩))
        all_goals go_wp2
        all_goals go_meet
        all_goals refine ⟨by rw [← HQ.out.1], by rw [← HQ.out.2.1], by rw [← HQ.out.2.2], Lib.hid ?_⟩
        all_goals first | exact bstep (bstep (bstep (drw B.out) kA) kB) kC | exact bstep (bstep (bstep (drw B.out) kB) kA) kC
      case rest =>
      obtain ⟨w2, rfl⟩ : ∃ x : World, x = wc := ⟨_, rfl⟩
      clear C B
      obtain ⟨rfl, rfl, rfl, B⟩ := hcut
      go_wp2
      go_ret3
      exact ⟨ret_iib rfl rfl rfl, B.out⟩
end Fil
end Go.Proofs.YtpbbnkgfheafpaaGreatDoor
