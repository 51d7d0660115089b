/-
  The reference's ParseTime. (Written by gen/gen_vxp.py.)
-/
import Derived.Test.YtffbkmokjcgflaaDoorVxU
import Derived.Deep.RegionWith
namespace Go.Proofs.YtffbkmokjcgflaaDoor
open Go.RowKit
namespace Val
open Sol Civ Wk Cel
set_option maxHeartbeats 25600000 in
set_option maxRecDepth 100000 in
theorem rptime_to (s : ByteArray) (S : List UInt8) (t c : Int) (u : Bool) (w : World) (hS : s.data.toList = S) (h : Hid (ptP S = (t, u, c))) :
    Calls Tryd.prog 9 #[.string s] w fun e w' => e = .returned (.tuple #[.int .i64 t, .bool u, .bool (decide (c = 0))]) ∧ Below w.heap.size w w' := by
  have HH := h.out
  rw [ptP_ref] at HH
  have hl : S.length = s.size := by rw [← hS]; rfl
  have HS := Lib.hid hS
  clear h hS
  cases hu : utcB S with
  | true =>
    rw [hu, if_pos rfl] at HH
    obtain ⟨h16, h90⟩ := of_decide_eq_true hu
    have z16 : s.size = 16 := by omega
    have hlt : 15 < s.size := by omega
    have y90 : (((s[15]'hlt).toNat : Int) == 90) = true := by
      have : s[15]'hlt = 90 := by
        have e : s[15]'hlt = s.data.toList[15]'(by simp; omega) := by simp [ByteArray.getElem_eq_getElem_data]
        rw [e]
        have h91 := h90
        rw [← HS.out, List.getElem?_eq_getElem (by simp; omega)] at h91
        injection h91
      rw [this]; rfl
    obtain ⟨B, hB⟩ : ∃ B, S.take 15 = B := ⟨_, rfl⟩
    rw [hB] at HH
    obtain ⟨SB, hSB⟩ : ∃ X, s.extract 0 15 = X := ⟨_, rfl⟩
    have HB : Hid (SB.data.toList = B) := Lib.hid (by rw [← hSB, Lib.extract_data, HS.out, ← hB]; simp)
    have hz : SB.size = 15 := by rw [Lib.size_eq, HB.out, ← hB, List.length_take]; omega
    have HSB := Lib.hid hSB
    obtain ⟨ub, hub⟩ : ∃ b, true = b := ⟨_, rfl⟩
    have HUB := Lib.hid hub
    rw [hub] at HH
    have HL : Hid (B.length = 15) := Lib.hid (by rw [← hB, List.length_take]; omega)
    clear hu h16 h90 hB hSB hl hub
    go_enter Tryd.func9, Tryd.ntmps9
    go_upto_region 4 with fail
    rw [HSB.out]
    rw [ptG_eq _ HL.out] at HH
    have HI : SB[8]'(by omega) = SB.data.toList[8]'(by simp; omega) := by simp [ByteArray.getElem_eq_getElem_data]
    have HB8 : Hid (B[8]? = some (SB[8]'(by omega))) := Lib.hid (by rw [HI, ← HB.out, List.getElem?_eq_getElem (by simp; omega)])
    clear HI
    by_cases h8 : SB[8]'(by omega) = 84
    case neg =>
      have HF : Hid (((0 : Int), false, (19 : Int)) = (t, u, c)) := Lib.hid (by
        rw [← HH, if_neg (fun e => h8 (by have e1 := e.1; rw [HB8.out] at e1; injection e1))])
      have y8 : (((SB[8]'(by omega)).toNat : Int) != 84) = true := bne_iff_ne.2 (fun e => h8 (UInt8.toNat_inj.1 (by show _ = 84; omega)))
      clear HH h8
      go_wp2
      go_ret3
      exact ⟨fin_no HF.out, Below.refl _ _⟩
    case pos =>
      have y8 : (((SB[8]'(by omega)).toNat : Int) != 84) = false := by rw [h8]; rfl
      have h84 : B[8]? = some 84 := by rw [HB8.out, h8]
      obtain ⟨d8, hd8⟩ : ∃ x, Clk.okP (B.take 8) 8 8 = x := ⟨_, rfl⟩
      obtain ⟨d6, hd6⟩ : ∃ x, Clk.okP (B.drop 9) 6 6 = x := ⟨_, rfl⟩
      rw [hd8, hd6] at HH
      have HD8 := Lib.hid hd8
      have HD6 := Lib.hid hd6
      have E8 : Hid ((SB.extract 0 8).data.toList = B.take 8) := Lib.hid (by rw [Lib.extract_data, HB.out]; simp)
      have E6 : Hid ((SB.extract 9 15).data.toList = B.drop 9) := Lib.hid (by rw [Lib.extract_data, HB.out]; exact List.take_of_length_le (by rw [List.length_drop, HL.out]; decide))
      clear hd8 hd6 HB8 h8
      go_wp2_with fail
      refine (rdig8 _ (B.take 8) d8 _ E8.out HD8).mono ?_
      rintro e w1 ⟨rfl, hw1⟩
      subst hw1
      cases d8 with
      | false =>
        have HF : Hid (((0 : Int), false, (19 : Int)) = (t, u, c)) := Lib.hid (by rw [← HH, if_neg (fun e => by cases e.2.1)])
        clear HH h84
        go_wp2
        go_ret3
        exact ⟨fin_no HF.out, Below.refl _ _⟩
      | true =>
        go_wp2_with fail
        refine (rdig6 _ (B.drop 9) d6 _ E6.out HD6).mono ?_
        rintro e w1 ⟨rfl, hw1⟩
        subst hw1
        cases d6 with
        | false =>
          have HF : Hid (((0 : Int), false, (19 : Int)) = (t, u, c)) := Lib.hid (by rw [← HH, if_neg (fun e => by cases e.2.2.1)])
          clear HH h84
          go_wp2
          go_ret3
          exact ⟨fin_no HF.out, Below.refl _ _⟩
        | true =>
          have HN : Hid (¬ okT B → ((0 : Int), false, (19 : Int)) = (t, u, c)) := Lib.hid (fun q => by rw [← HH, if_neg (fun e => q e.2.2.2)])
          have HY : Hid (okT B → (vlT B, ub, (0 : Int)) = (t, u, c)) := Lib.hid (fun q => by rw [← HH, if_pos ⟨h84, by trivial, by trivial, q⟩])
          obtain ⟨p1, p2, p3, p4, p5, p6⟩ := digs HL.out HD8.out HD6.out
          obtain ⟨Y, hY⟩ : ∃ x, digVal (B.take 4) = x := ⟨_, rfl⟩
          obtain ⟨M, hM⟩ : ∃ x, digVal ((B.drop 4).take 2) = x := ⟨_, rfl⟩
          obtain ⟨D, hD⟩ : ∃ x, digVal ((B.drop 6).take 2) = x := ⟨_, rfl⟩
          obtain ⟨H, hH⟩ : ∃ x, digVal ((B.drop 9).take 2) = x := ⟨_, rfl⟩
          obtain ⟨m, hm⟩ : ∃ x, digVal ((B.drop 11).take 2) = x := ⟨_, rfl⟩
          obtain ⟨x, hx⟩ : ∃ x, digVal ((B.drop 13).take 2) = x := ⟨_, rfl⟩
          obtain ⟨bY0, bY1⟩ := dv_bd p1 (by rw [List.length_take]; omega)
          obtain ⟨bM0, bM1⟩ := dv_bd p2 (by rw [List.length_take]; omega)
          obtain ⟨bD0, bD1⟩ := dv_bd p3 (by rw [List.length_take]; omega)
          obtain ⟨bH0, bH1⟩ := dv_bd p4 (by rw [List.length_take]; omega)
          obtain ⟨bm0, bm1⟩ := dv_bd p5 (by rw [List.length_take]; omega)
          obtain ⟨bx0, bx1⟩ := dv_bd p6 (by rw [List.length_take]; omega)
          have HOK : Hid (okT B ↔ 1 ≤ Y ∧ Cal.valid Y M D = true ∧ H ≤ 23 ∧ m ≤ 59 ∧ x ≤ 59) := Lib.hid (by
            rw [okT, dv2, dv2, dv2, dv2, dv2, hY, hM, hD, hH, hm, hx])
          have HVL : Hid (vlT B = Cal.num Y M D * 86400 + 3600 * H + 60 * m + x) := Lib.hid (by
            rw [vlT, dv2, dv2, dv2, dv2, dv2, hY, hM, hD, hH, hm, hx])
          rw [hY] at bY0 bY1
          rw [hM] at bM0 bM1
          rw [hD] at bD0 bD1
          rw [hH] at bH0 bH1
          rw [hm] at bm0 bm1
          rw [hx] at bx0 bx1
          have V1 := Lib.hid (And.intro p1 hY)
          have V2 := Lib.hid (And.intro p2 hM)
          have V3 := Lib.hid (And.intro p3 hD)
          have V4 := Lib.hid (And.intro p4 hH)
          have V5 := Lib.hid (And.intro p5 hm)
          have V6 := Lib.hid (And.intro p6 hx)
          have F1 : Hid ((SB.extract 0 4).data.toList = B.take 4) := Lib.hid (by rw [Lib.extract_data, HB.out]; simp)
          have F2 : Hid ((SB.extract 4 6).data.toList = (B.drop 4).take 2) := Lib.hid (by rw [Lib.extract_data, HB.out])
          have F3 : Hid ((SB.extract 6 8).data.toList = (B.drop 6).take 2) := Lib.hid (by rw [Lib.extract_data, HB.out])
          have F4 : Hid ((SB.extract 9 11).data.toList = (B.drop 9).take 2) := Lib.hid (by rw [Lib.extract_data, HB.out])
          have F5 : Hid ((SB.extract 11 13).data.toList = (B.drop 11).take 2) := Lib.hid (by rw [Lib.extract_data, HB.out])
          have F6 : Hid ((SB.extract 13 15).data.toList = (B.drop 13).take 2) := Lib.hid (by rw [Lib.extract_data, HB.out])
          clear HH h84 y8 E8 E6 p1 p2 p3 p4 p5 p6 hY hM hD hH hm hx
          go_upto_region 6 with fail
          go_cut [6] (fun v wx => v = .pointer (some ⟨w.heap.size, 0, none⟩) ∧ Hid (Cs w.heap.size wx [.int .i64 Y, .int .i64 M, .int .i64 D]) ∧ Hid (Below w.heap.size w wx))
          case first =>
            go_region_with (first
              | (go_at_call 27; (with_reducible refine (rval_v (SB.extract 0 4) _ Y _ F1.out V1).mono ?_); rintro e w' ⟨rfl, rfl⟩)
              | (go_at_call 27; (with_reducible refine (rval_v (SB.extract 4 6) _ M _ F2.out V2).mono ?_); rintro e w' ⟨rfl, rfl⟩)
              | (go_at_call 27; (with_reducible refine (rval_v (SB.extract 6 8) _ D _ F3.out V3).mono ?_); rintro e w' ⟨rfl, rfl⟩))
            all_goals (go_wp2_with fail; go_meet)
            all_goals exact ⟨rfl, Lib.hid (Cs.new w.drew _ 42), Lib.hid ((Below.refl w.heap.size w).drew.alloc (Nat.le_refl _) _)⟩
          case rest =>
          obtain ⟨rfl, HC, HW⟩ := hcut
          go_upto_region 7 with fail
          go_cut [7, 8, 9] (fun v1 v2 v3 wy => v1 = .int .i64 H ∧ v2 = .int .i64 m ∧ v3 = .int .i64 x ∧ Hid (Cs w.heap.size wy [.int .i64 Y, .int .i64 M, .int .i64 D]) ∧ Hid (Below w.heap.size w wy))
          case first =>
            go_region_with (first
              | (go_at_call 27; (with_reducible refine (rval_v (SB.extract 9 11) _ H _ F4.out V4).mono ?_); rintro e w' ⟨rfl, rfl⟩)
              | (go_at_call 27; (with_reducible refine (rval_v (SB.extract 11 13) _ m _ F5.out V5).mono ?_); rintro e w' ⟨rfl, rfl⟩)
              | (go_at_call 27; (with_reducible refine (rval_v (SB.extract 13 15) _ x _ F6.out V6).mono ?_); rintro e w' ⟨rfl, rfl⟩))
            all_goals (go_wp2_with fail; go_meet)
            all_goals exact ⟨rfl, rfl, rfl, Lib.hid (HC.out.below (Below.refl _ _).drew), Lib.hid HW.out.drew⟩
          case rest =>
          clear HC HW
          obtain ⟨rfl, rfl, rfl, HC, HW⟩ := hcut
          have g0 := HC.out.1
          have a0 := (HC.out.2 0 _ rfl).1
          have a1 := (HC.out.2 1 _ rfl).1
          have a2 := (HC.out.2 2 _ rfl).1
          by_cases k1 : Y < 1
          · have HF := Lib.hid (HN.out (fun q => by have := (HOK.out.1 q).1; omega))
            go_wp2
            go_ret3
            exact ⟨fin_no HF.out, HW.out⟩
          · obtain ⟨vb, hvb⟩ : ∃ b, Cal.valid Y M D = b := ⟨_, rfl⟩
            have HVB := Lib.hid hvb
            clear hvb
            go_wp2_with fail
            refine (rright_v Y M D vb _ (by omega) (by omega) HVB).mono ?_
            rintro e wz ⟨rfl, k2⟩
            have HC2 := Lib.hid (HC.out.below k2)
            have HW2 := Lib.hid (bstep HW.out k2)
            clear k2 a0 a1 a2 g0 HC HW
            cases vb with
            | false =>
              have HF := Lib.hid (HN.out (fun q => by have := (HOK.out.1 q).2.1; rw [HVB.out] at this; cases this))
              go_wp2
              go_ret3
              exact ⟨fin_no HF.out, HW2.out⟩
            | true =>
              by_cases k3 : 23 < H
              · have HF := Lib.hid (HN.out (fun q => by have := (HOK.out.1 q).2.2.1; omega))
                go_wp2
                go_ret3
                exact ⟨fin_no HF.out, HW2.out⟩
              · by_cases k4 : 59 < m
                · have HF := Lib.hid (HN.out (fun q => by have := (HOK.out.1 q).2.2.2.1; omega))
                  go_wp2
                  go_ret3
                  exact ⟨fin_no HF.out, HW2.out⟩
                · by_cases k5 : 59 < x
                  · have HF := Lib.hid (HN.out (fun q => by have := (HOK.out.1 q).2.2.2.2; omega))
                    go_wp2
                    go_ret3
                    exact ⟨fin_no HF.out, HW2.out⟩
                  · have HT := Lib.hid (HY.out (HOK.out.2 ⟨by omega, HVB.out, by omega, by omega, by omega⟩))
                    have hv := HVB.out
                    rw [Cal.valid] at hv
                    obtain ⟨v0, v1, v2, v3⟩ := of_decide_eq_true hv
                    obtain ⟨m1, m2⟩ := Cal.mlen_pos (y := Y) (m := M) (by omega)
                    have hnb := num_bd v0 v1 m1 m2 v2 v3
                    have ml := (Cal.mlen_bd Y M).2
                    have d31 : D ≤ 31 := by omega
                    obtain ⟨N, hN⟩ : ∃ N, Cal.num Y M D = N := ⟨_, rfl⟩
                    have HNN := Lib.hid hN
                    have bN := hnb.2.2.2.2
                    rw [hN] at bN
                    have g0 := HC2.out.1
                    have a0 := (HC2.out.2 0 _ rfl).1
                    have a1 := (HC2.out.2 1 _ rfl).1
                    have a2 := (HC2.out.2 2 _ rfl).1
                    clear hv v3 hnb ml hN
                    go_wp2_with fail
                    refine (Civ.rnum_any Y M D _ v0 v1 m1 m2 v2 d31).mono ?_
                    rintro e wn ⟨rfl, k6⟩
                    rw [HNN.out]
                    have HW3 := Lib.hid (bstep HW2.out k6)
                    clear k6 a0 a1 a2 g0 HC2 HW2
                    go_wp2
                    go_ret3
                    exact ⟨(by
                      have q := fin_yes HT.out
                      rw [HVL.out, HNN.out, ← HUB.out] at q
                      exact q), HW3.out⟩
  | false =>
    rw [hu, if_neg (by decide)] at HH
    have hnu : ¬ (s.size = 16 ∧ S[15]? = some 90) := by
      have := of_decide_eq_false hu
      rw [hl] at this
      exact this
    by_cases z16 : s.size = 16
    · have hlt : 15 < s.size := by omega
      have y90 : (((s[15]'hlt).toNat : Int) == 90) = false := beq_eq_false_iff_ne.2 (fun e => hnu ⟨z16, by
        have e2 : s[15]'hlt = 90 := UInt8.toNat_inj.1 (by show _ = 90; omega)
        have e3 : s[15]'hlt = s.data.toList[15]'(by simp; omega) := by simp [ByteArray.getElem_eq_getElem_data]
        rw [← HS.out, List.getElem?_eq_getElem (by simp; omega), ← e3, e2]⟩)
      have HF : Hid (((0 : Int), false, (19 : Int)) = (t, u, c)) := Lib.hid (by rw [← HH, ptG_len _ (by rw [hl]; omega)])
      clear HH hu hnu hl
      go_enter Tryd.func9, Tryd.ntmps9
      go_wp2
      go_ret3
      exact ⟨fin_no HF.out, Below.refl _ _⟩
    · by_cases hz : s.size = 15
      · obtain ⟨SB, hSB⟩ : ∃ X, s = X := ⟨_, rfl⟩
        subst hSB
        obtain ⟨B, hB⟩ : ∃ B, S = B := ⟨_, rfl⟩
        subst hB
        obtain ⟨ub, hub⟩ : ∃ b, false = b := ⟨_, rfl⟩
        have HUB := Lib.hid hub
        rw [hub] at HH
        have HL : Hid (S.length = 15) := Lib.hid (by omega)
        have HB := HS
        clear hu hnu z16 hl hub
        go_enter Tryd.func9, Tryd.ntmps9
        go_upto_region 4 with fail
        rw [ptG_eq _ HL.out] at HH
        have HI : s[8]'(by omega) = s.data.toList[8]'(by simp; omega) := by simp [ByteArray.getElem_eq_getElem_data]
        have HB8 : Hid (S[8]? = some (s[8]'(by omega))) := Lib.hid (by rw [HI, ← HS.out, List.getElem?_eq_getElem (by simp; omega)])
        clear HI
        by_cases h8 : s[8]'(by omega) = 84
        case neg =>
          have HF : Hid (((0 : Int), false, (19 : Int)) = (t, u, c)) := Lib.hid (by
            rw [← HH, if_neg (fun e => h8 (by have e1 := e.1; rw [HB8.out] at e1; injection e1))])
          have y8 : (((s[8]'(by omega)).toNat : Int) != 84) = true := bne_iff_ne.2 (fun e => h8 (UInt8.toNat_inj.1 (by show _ = 84; omega)))
          clear HH h8
          go_wp2
          go_ret3
          exact ⟨fin_no HF.out, Below.refl _ _⟩
        case pos =>
          have y8 : (((s[8]'(by omega)).toNat : Int) != 84) = false := by rw [h8]; rfl
          have h84 : S[8]? = some 84 := by rw [HB8.out, h8]
          obtain ⟨d8, hd8⟩ : ∃ x, Clk.okP (S.take 8) 8 8 = x := ⟨_, rfl⟩
          obtain ⟨d6, hd6⟩ : ∃ x, Clk.okP (S.drop 9) 6 6 = x := ⟨_, rfl⟩
          rw [hd8, hd6] at HH
          have HD8 := Lib.hid hd8
          have HD6 := Lib.hid hd6
          have E8 : Hid ((s.extract 0 8).data.toList = S.take 8) := Lib.hid (by rw [Lib.extract_data, HS.out]; simp)
          have E6 : Hid ((s.extract 9 15).data.toList = S.drop 9) := Lib.hid (by rw [Lib.extract_data, HS.out]; exact List.take_of_length_le (by rw [List.length_drop, HL.out]; decide))
          clear hd8 hd6 HB8 h8
          go_wp2_with fail
          refine (rdig8 _ (S.take 8) d8 _ E8.out HD8).mono ?_
          rintro e w1 ⟨rfl, hw1⟩
          subst hw1
          cases d8 with
          | false =>
            have HF : Hid (((0 : Int), false, (19 : Int)) = (t, u, c)) := Lib.hid (by rw [← HH, if_neg (fun e => by cases e.2.1)])
            clear HH h84
            go_wp2
            go_ret3
            exact ⟨fin_no HF.out, Below.refl _ _⟩
          | true =>
            go_wp2_with fail
            refine (rdig6 _ (S.drop 9) d6 _ E6.out HD6).mono ?_
            rintro e w1 ⟨rfl, hw1⟩
            subst hw1
            cases d6 with
            | false =>
              have HF : Hid (((0 : Int), false, (19 : Int)) = (t, u, c)) := Lib.hid (by rw [← HH, if_neg (fun e => by cases e.2.2.1)])
              clear HH h84
              go_wp2
              go_ret3
              exact ⟨fin_no HF.out, Below.refl _ _⟩
            | true =>
              have HN : Hid (¬ okT S → ((0 : Int), false, (19 : Int)) = (t, u, c)) := Lib.hid (fun q => by rw [← HH, if_neg (fun e => q e.2.2.2)])
              have HY : Hid (okT S → (vlT S, ub, (0 : Int)) = (t, u, c)) := Lib.hid (fun q => by rw [← HH, if_pos ⟨h84, by trivial, by trivial, q⟩])
              obtain ⟨p1, p2, p3, p4, p5, p6⟩ := digs HL.out HD8.out HD6.out
              obtain ⟨Y, hY⟩ : ∃ x, digVal (S.take 4) = x := ⟨_, rfl⟩
              obtain ⟨M, hM⟩ : ∃ x, digVal ((S.drop 4).take 2) = x := ⟨_, rfl⟩
              obtain ⟨D, hD⟩ : ∃ x, digVal ((S.drop 6).take 2) = x := ⟨_, rfl⟩
              obtain ⟨H, hH⟩ : ∃ x, digVal ((S.drop 9).take 2) = x := ⟨_, rfl⟩
              obtain ⟨m, hm⟩ : ∃ x, digVal ((S.drop 11).take 2) = x := ⟨_, rfl⟩
              obtain ⟨x, hx⟩ : ∃ x, digVal ((S.drop 13).take 2) = x := ⟨_, rfl⟩
              obtain ⟨bY0, bY1⟩ := dv_bd p1 (by rw [List.length_take]; omega)
              obtain ⟨bM0, bM1⟩ := dv_bd p2 (by rw [List.length_take]; omega)
              obtain ⟨bD0, bD1⟩ := dv_bd p3 (by rw [List.length_take]; omega)
              obtain ⟨bH0, bH1⟩ := dv_bd p4 (by rw [List.length_take]; omega)
              obtain ⟨bm0, bm1⟩ := dv_bd p5 (by rw [List.length_take]; omega)
              obtain ⟨bx0, bx1⟩ := dv_bd p6 (by rw [List.length_take]; omega)
              have HOK : Hid (okT S ↔ 1 ≤ Y ∧ Cal.valid Y M D = true ∧ H ≤ 23 ∧ m ≤ 59 ∧ x ≤ 59) := Lib.hid (by
                rw [okT, dv2, dv2, dv2, dv2, dv2, hY, hM, hD, hH, hm, hx])
              have HVL : Hid (vlT S = Cal.num Y M D * 86400 + 3600 * H + 60 * m + x) := Lib.hid (by
                rw [vlT, dv2, dv2, dv2, dv2, dv2, hY, hM, hD, hH, hm, hx])
              rw [hY] at bY0 bY1
              rw [hM] at bM0 bM1
              rw [hD] at bD0 bD1
              rw [hH] at bH0 bH1
              rw [hm] at bm0 bm1
              rw [hx] at bx0 bx1
              have V1 := Lib.hid (And.intro p1 hY)
              have V2 := Lib.hid (And.intro p2 hM)
              have V3 := Lib.hid (And.intro p3 hD)
              have V4 := Lib.hid (And.intro p4 hH)
              have V5 := Lib.hid (And.intro p5 hm)
              have V6 := Lib.hid (And.intro p6 hx)
              have F1 : Hid ((s.extract 0 4).data.toList = S.take 4) := Lib.hid (by rw [Lib.extract_data, HS.out]; simp)
              have F2 : Hid ((s.extract 4 6).data.toList = (S.drop 4).take 2) := Lib.hid (by rw [Lib.extract_data, HS.out])
              have F3 : Hid ((s.extract 6 8).data.toList = (S.drop 6).take 2) := Lib.hid (by rw [Lib.extract_data, HS.out])
              have F4 : Hid ((s.extract 9 11).data.toList = (S.drop 9).take 2) := Lib.hid (by rw [Lib.extract_data, HS.out])
              have F5 : Hid ((s.extract 11 13).data.toList = (S.drop 11).take 2) := Lib.hid (by rw [Lib.extract_data, HS.out])
              have F6 : Hid ((s.extract 13 15).data.toList = (S.drop 13).take 2) := Lib.hid (by rw [Lib.extract_data, HS.out])
              clear HH h84 y8 E8 E6 p1 p2 p3 p4 p5 p6 hY hM hD hH hm hx
              go_upto_region 6 with fail
              go_cut [6] (fun v wx => v = .pointer (some ⟨w.heap.size, 0, none⟩) ∧ Hid (Cs w.heap.size wx [.int .i64 Y, .int .i64 M, .int .i64 D]) ∧ Hid (Below w.heap.size w wx))
              case first =>
                go_region_with (first
                  | (go_at_call 27; (with_reducible refine (rval_v (s.extract 0 4) _ Y _ F1.out V1).mono ?_); rintro e w' ⟨rfl, rfl⟩)
                  | (go_at_call 27; (with_reducible refine (rval_v (s.extract 4 6) _ M _ F2.out V2).mono ?_); rintro e w' ⟨rfl, rfl⟩)
                  | (go_at_call 27; (with_reducible refine (rval_v (s.extract 6 8) _ D _ F3.out V3).mono ?_); rintro e w' ⟨rfl, rfl⟩))
                all_goals (go_wp2_with fail; go_meet)
                all_goals exact ⟨rfl, Lib.hid (Cs.new w.drew _ 42), Lib.hid ((Below.refl w.heap.size w).drew.alloc (Nat.le_refl _) _)⟩
              case rest =>
              obtain ⟨rfl, HC, HW⟩ := hcut
              go_upto_region 7 with fail
              go_cut [7, 8, 9] (fun v1 v2 v3 wy => v1 = .int .i64 H ∧ v2 = .int .i64 m ∧ v3 = .int .i64 x ∧ Hid (Cs w.heap.size wy [.int .i64 Y, .int .i64 M, .int .i64 D]) ∧ Hid (Below w.heap.size w wy))
              case first =>
                go_region_with (first
                  | (go_at_call 27; (with_reducible refine (rval_v (s.extract 9 11) _ H _ F4.out V4).mono ?_); rintro e w' ⟨rfl, rfl⟩)
                  | (go_at_call 27; (with_reducible refine (rval_v (s.extract 11 13) _ m _ F5.out V5).mono ?_); rintro e w' ⟨rfl, rfl⟩)
                  | (go_at_call 27; (with_reducible refine (rval_v (s.extract 13 15) _ x _ F6.out V6).mono ?_); rintro e w' ⟨rfl, rfl⟩))
                all_goals (go_wp2_with fail; go_meet)
                all_goals exact ⟨rfl, rfl, rfl, Lib.hid (HC.out.below (Below.refl _ _).drew), Lib.hid HW.out.drew⟩
              case rest =>
              clear HC HW
              obtain ⟨rfl, rfl, rfl, HC, HW⟩ := hcut
              have g0 := HC.out.1
              have a0 := (HC.out.2 0 _ rfl).1
              have a1 := (HC.out.2 1 _ rfl).1
              have a2 := (HC.out.2 2 _ rfl).1
              by_cases k1 : Y < 1
              · have HF := Lib.hid (HN.out (fun q => by have := (HOK.out.1 q).1; omega))
                go_wp2
                go_ret3
                exact ⟨fin_no HF.out, HW.out⟩
              · obtain ⟨vb, hvb⟩ : ∃ b, Cal.valid Y M D = b := ⟨_, rfl⟩
                have HVB := Lib.hid hvb
                clear hvb
                go_wp2_with fail
                refine (rright_v Y M D vb _ (by omega) (by omega) HVB).mono ?_
                rintro e wz ⟨rfl, k2⟩
                have HC2 := Lib.hid (HC.out.below k2)
                have HW2 := Lib.hid (bstep HW.out k2)
                clear k2 a0 a1 a2 g0 HC HW
                cases vb with
                | false =>
                  have HF := Lib.hid (HN.out (fun q => by have := (HOK.out.1 q).2.1; rw [HVB.out] at this; cases this))
                  go_wp2
                  go_ret3
                  exact ⟨fin_no HF.out, HW2.out⟩
                | true =>
                  by_cases k3 : 23 < H
                  · have HF := Lib.hid (HN.out (fun q => by have := (HOK.out.1 q).2.2.1; omega))
                    go_wp2
                    go_ret3
                    exact ⟨fin_no HF.out, HW2.out⟩
                  · by_cases k4 : 59 < m
                    · have HF := Lib.hid (HN.out (fun q => by have := (HOK.out.1 q).2.2.2.1; omega))
                      go_wp2
                      go_ret3
                      exact ⟨fin_no HF.out, HW2.out⟩
                    · by_cases k5 : 59 < x
                      · have HF := Lib.hid (HN.out (fun q => by have := (HOK.out.1 q).2.2.2.2; omega))
                        go_wp2
                        go_ret3
                        exact ⟨fin_no HF.out, HW2.out⟩
                      · have HT := Lib.hid (HY.out (HOK.out.2 ⟨by omega, HVB.out, by omega, by omega, by omega⟩))
                        have hv := HVB.out
                        rw [Cal.valid] at hv
                        obtain ⟨v0, v1, v2, v3⟩ := of_decide_eq_true hv
                        obtain ⟨m1, m2⟩ := Cal.mlen_pos (y := Y) (m := M) (by omega)
                        have hnb := num_bd v0 v1 m1 m2 v2 v3
                        have ml := (Cal.mlen_bd Y M).2
                        have d31 : D ≤ 31 := by omega
                        obtain ⟨N, hN⟩ : ∃ N, Cal.num Y M D = N := ⟨_, rfl⟩
                        have HNN := Lib.hid hN
                        have bN := hnb.2.2.2.2
                        rw [hN] at bN
                        have g0 := HC2.out.1
                        have a0 := (HC2.out.2 0 _ rfl).1
                        have a1 := (HC2.out.2 1 _ rfl).1
                        have a2 := (HC2.out.2 2 _ rfl).1
                        clear hv v3 hnb ml hN
                        go_wp2_with fail
                        refine (Civ.rnum_any Y M D _ v0 v1 m1 m2 v2 d31).mono ?_
                        rintro e wn ⟨rfl, k6⟩
                        rw [HNN.out]
                        have HW3 := Lib.hid (bstep HW2.out k6)
                        clear k6 a0 a1 a2 g0 HC2 HW2
                        go_wp2
                        go_ret3
                        exact ⟨(by
                          have q := fin_yes HT.out
                          rw [HVL.out, HNN.out, ← HUB.out] at q
                          exact q), HW3.out⟩
      · have HF : Hid (((0 : Int), false, (19 : Int)) = (t, u, c)) := Lib.hid (by rw [← HH, ptG_len _ (by rw [hl]; exact hz)])
        have x16 : ((s.size : Int) == 16) = false := beq_eq_false_iff_ne.2 (by omega)
        have x15 : ((s.size : Int) != 15) = true := by simp [bne]; omega
        clear HH hu hnu hl
        go_enter Tryd.func9, Tryd.ntmps9
        go_wp2
        go_ret3
        exact ⟨fin_no HF.out, Below.refl _ _⟩
end Val
end Go.Proofs.YtffbkmokjcgflaaDoor
