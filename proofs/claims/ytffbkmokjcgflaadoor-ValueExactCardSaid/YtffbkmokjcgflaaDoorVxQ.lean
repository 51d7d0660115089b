/-
  The reference's ParseOffset. (Written by gen/gen_vxq.py.)
-/
import Derived.Test.YtffbkmokjcgflaaDoorVxU
import Derived.Deep.RegionWith
namespace Go.Proofs.YtffbkmokjcgflaaDoor
open Go.RowKit
namespace Val
open Sol Civ Wk Cel
theorem fo_no {v c : Int} (h : ((0 : Int), (19 : Int)) = (v, c)) : Ending.returned (.tuple #[.int .i64 0, .bool false]) = .returned (.tuple #[.int .i64 v, .bool (decide (c = 0))]) := by
  injection h with h1 h2
  subst h1 h2
  rfl
theorem fo_yes {v c z : Int} (h : (z, (0 : Int)) = (v, c)) : Ending.returned (.tuple #[.int .i64 z, .bool true]) = .returned (.tuple #[.int .i64 v, .bool (decide (c = 0))]) := by
  injection h with h1 h2
  subst h1 h2
  rfl
theorem digo {X : List UInt8} {n : Nat} (hl : X.length = n) (h : X.all isDig = true) : (4 ≤ n → parseB ((X.drop 0).take 2) = true) ∧ (4 ≤ n → parseB ((X.drop 2).take 2) = true) ∧ (6 ≤ n → parseB ((X.drop 4).take 2) = true) := by
  have key : ∀ k, k + 2 ≤ n → parseB ((X.drop k).take 2) = true := fun k hk => by
    rw [pb_all (by rw [List.length_take, List.length_drop]; omega) (by rw [List.length_take]; omega), List.all_eq_true]
    exact fun c hc => List.all_eq_true.1 h c (List.mem_of_mem_drop (List.mem_of_mem_take hc))
  exact ⟨fun h => key 0 (by omega), fun h => key 2 (by omega), fun h => key 4 (by omega)⟩
set_option maxHeartbeats 12800000 in
set_option maxRecDepth 100000 in
theorem rpo_5_45 (s : ByteArray) (X : List UInt8) (v c : Int) (w : World) (hz : s.size = 5) (HS : Hid (s.data.toList = 45 :: X)) (hl : (45 :: X : List UInt8).length = 5) (HH : (if ((45 : UInt8) = 45 ∨ (45 : UInt8) = 43) ∧ (X.length = 4 ∨ X.length = 6) ∧ X.all isDig = true ∧ okO 45 X then (if (45 : UInt8) = 45 then -vlO X else vlO X, (0 : Int)) else (0, 19)) = (v, c)) :
    Calls Tryd.prog 10 #[.string s] w fun e w' => e = .returned (.tuple #[.int .i64 v, .bool (decide (c = 0))]) ∧ Below w.heap.size w w' := by
  have h0 : 0 < s.size := by omega
  have HI : s[0]'h0 = 45 := by
    have e : s[0]'h0 = s.data.toList[0]'(by simp; omega) := by simp [ByteArray.getElem_eq_getElem_data]
    rw [e]
    exact List.getElem_of_eq HS.out _
  have y43 : (((s[0]'h0).toNat : Int) != 43) = true := by rw [HI]; rfl
  have y45 : (((s[0]'h0).toNat : Int) != 45) = false := by rw [HI]; rfl
  have e45 : (((s[0]'h0).toNat : Int) == 45) = true := by rw [HI]; rfl
  have hXl : X.length = 4 := by have h := hl; simp at h; omega
  have HXL := Lib.hid hXl
  obtain ⟨d, hd⟩ : ∃ x, Clk.okP X 4 6 = x := ⟨_, rfl⟩
  have HD := Lib.hid hd
  have hda : X.all isDig = d := by rw [← hd, Clk.okP, decide_eq_true ⟨by omega, by omega⟩, Bool.true_and]
  have E1 : Hid ((s.extract 1 5).data.toList = X) := Lib.hid (by rw [Lib.extract_data, HS.out]; exact List.take_of_length_le (by simp; omega))
  rw [hda] at HH
  clear HI hd hl
  go_enter Tryd.func10, Tryd.ntmps10
  go_wp2_with fail
  refine (rdig46 _ X d _ E1.out HD).mono ?_
  rintro e w1 ⟨rfl, hw1⟩
  subst hw1
  cases d with
  | false =>
    have HF : Hid (((0 : Int), (19 : Int)) = (v, c)) := Lib.hid (by rw [← HH, if_neg (fun e => by cases e.2.2.1)])
    clear HH
    go_wp2
    go_ret2
    exact ⟨fo_no HF.out, Below.refl _ _⟩
  | true =>
    obtain ⟨p1, p2, P3⟩ := digo hXl hda
    have p1 := p1 (by omega)
    have p2 := p2 (by omega)
    obtain ⟨H, hH⟩ : ∃ x, digVal ((X.drop 0).take 2) = x := ⟨_, rfl⟩
    obtain ⟨m, hm⟩ : ∃ x, digVal ((X.drop 2).take 2) = x := ⟨_, rfl⟩
    obtain ⟨bH0, bH1⟩ := dv_bd p1 (by rw [List.length_take]; omega)
    obtain ⟨bm0, bm1⟩ := dv_bd p2 (by rw [List.length_take]; omega)
    obtain ⟨x, hx⟩ : ∃ x : Int, 0 = x := ⟨_, rfl⟩
    have hx4 : x4 X = x := by rw [x4, if_neg (by omega), ← hx]
    have HN : Hid (¬ (H ≤ 23 ∧ m ≤ 59 ∧ x ≤ 59 ∧ ¬ ((45 : UInt8) = 45 ∧ 3600 * H + 60 * m + x = 0)) → ((0 : Int), (19 : Int)) = (v, c)) := Lib.hid (fun q => by
      rw [← HH, if_neg (fun e => q (by
        have h4 := e.2.2.2
        rw [okO, vlO, dv2, dv2, hH, hm, hx4] at h4
        exact h4))])
    have HY : Hid ((H ≤ 23 ∧ m ≤ 59 ∧ x ≤ 59 ∧ ¬ ((45 : UInt8) = 45 ∧ 3600 * H + 60 * m + x = 0)) → (-(3600 * H + 60 * m + x), (0 : Int)) = (v, c)) := Lib.hid (fun q => by
      have h4 : okO 45 X := by
        rw [okO, vlO, dv2, dv2, hH, hm, hx4]
        exact q
      rw [← HH, if_pos ⟨(by first | exact Or.inl (by trivial) | exact Or.inr (by trivial) | simp), Or.inl hXl, by trivial, h4⟩]
      rw [vlO, dv2, dv2, hH, hm, hx4]
      rfl)
    rw [hH] at bH0 bH1
    rw [hm] at bm0 bm1
    have V1 := Lib.hid (And.intro p1 hH)
    have V2 := Lib.hid (And.intro p2 hm)
    have F1 : Hid ((s.extract 1 3).data.toList = (X.drop 0).take 2) := Lib.hid (by rw [Lib.extract_data, HS.out]; rfl)
    have F2 : Hid ((s.extract 3 5).data.toList = (X.drop 2).take 2) := Lib.hid (by rw [Lib.extract_data, HS.out]; rfl)
    subst hx
    clear P3
    clear HH hda E1 p1 p2 hH hm hx4 hXl
    go_upto_region 3 with fail
    go_cut [4, 5, 6] (fun v1 v2 v3 wy => v1 = .int .i64 H ∧ v2 = .int .i64 m ∧ v3 = .int .i64 0 ∧ Hid (Below w.heap.size w wy))
    case first =>
      go_region_with (first
        | (go_at_call 27; (with_reducible refine (rval_v (s.extract 1 3) _ H _ F1.out V1).mono ?_); rintro e w' ⟨rfl, rfl⟩)
        | (go_at_call 27; (with_reducible refine (rval_v (s.extract 3 5) _ m _ F2.out V2).mono ?_); rintro e w' ⟨rfl, rfl⟩))
      all_goals (go_wp2_with fail; go_meet)
      all_goals exact ⟨rfl, rfl, rfl, Lib.hid (Below.refl w.heap.size w).drew⟩
    case rest =>
    obtain ⟨rfl, rfl, rfl, HW⟩ := hcut
    skip
    by_cases k3 : 23 < H
    · have HF := Lib.hid (HN.out (fun q => by have := q.1; omega))
      go_wp2
      go_ret2
      exact ⟨fo_no HF.out, HW.out⟩
    · by_cases k4 : 59 < m
      · have HF := Lib.hid (HN.out (fun q => by have := q.2.1; omega))
        go_wp2
        go_ret2
        exact ⟨fo_no HF.out, HW.out⟩
      · by_cases k6 : 3600 * H + 60 * m + 0 = 0
        · have HF := Lib.hid (HN.out (fun q => q.2.2.2 ⟨by trivial, k6⟩))
          have k7 : (3600 * H + 60 * m == 0) = true := by rw [Int.add_zero] at k6; simp [k6]
          clear k6
          go_wp2
          go_ret2
          exact ⟨fo_no HF.out, HW.out⟩
        · have HT := Lib.hid (HY.out ⟨by omega, by omega, by omega, fun q => k6 q.2⟩)
          have k7 : (3600 * H + 60 * m == 0) = false := beq_eq_false_iff_ne.2 (by rw [Int.add_zero] at k6; exact k6)
          clear k6
          go_wp2
          go_ret2
          first | exact ⟨fo_yes HT.out, HW.out⟩ | exact ⟨by have q := fo_yes HT.out; simp only [Int.add_zero] at q; exact q, HW.out⟩
set_option maxHeartbeats 12800000 in
set_option maxRecDepth 100000 in
theorem rpo_5_43 (s : ByteArray) (X : List UInt8) (v c : Int) (w : World) (hz : s.size = 5) (HS : Hid (s.data.toList = 43 :: X)) (hl : (43 :: X : List UInt8).length = 5) (HH : (if ((43 : UInt8) = 45 ∨ (43 : UInt8) = 43) ∧ (X.length = 4 ∨ X.length = 6) ∧ X.all isDig = true ∧ okO 43 X then (if (43 : UInt8) = 45 then -vlO X else vlO X, (0 : Int)) else (0, 19)) = (v, c)) :
    Calls Tryd.prog 10 #[.string s] w fun e w' => e = .returned (.tuple #[.int .i64 v, .bool (decide (c = 0))]) ∧ Below w.heap.size w w' := by
  have h0 : 0 < s.size := by omega
  have HI : s[0]'h0 = 43 := by
    have e : s[0]'h0 = s.data.toList[0]'(by simp; omega) := by simp [ByteArray.getElem_eq_getElem_data]
    rw [e]
    exact List.getElem_of_eq HS.out _
  have y43 : (((s[0]'h0).toNat : Int) != 43) = false := by rw [HI]; rfl
  have y45 : (((s[0]'h0).toNat : Int) != 45) = true := by rw [HI]; rfl
  have e45 : (((s[0]'h0).toNat : Int) == 45) = false := by rw [HI]; rfl
  have hXl : X.length = 4 := by have h := hl; simp at h; omega
  have HXL := Lib.hid hXl
  obtain ⟨d, hd⟩ : ∃ x, Clk.okP X 4 6 = x := ⟨_, rfl⟩
  have HD := Lib.hid hd
  have hda : X.all isDig = d := by rw [← hd, Clk.okP, decide_eq_true ⟨by omega, by omega⟩, Bool.true_and]
  have E1 : Hid ((s.extract 1 5).data.toList = X) := Lib.hid (by rw [Lib.extract_data, HS.out]; exact List.take_of_length_le (by simp; omega))
  rw [hda] at HH
  clear HI hd hl
  go_enter Tryd.func10, Tryd.ntmps10
  go_wp2_with fail
  refine (rdig46 _ X d _ E1.out HD).mono ?_
  rintro e w1 ⟨rfl, hw1⟩
  subst hw1
  cases d with
  | false =>
    have HF : Hid (((0 : Int), (19 : Int)) = (v, c)) := Lib.hid (by rw [← HH, if_neg (fun e => by cases e.2.2.1)])
    clear HH
    go_wp2
    go_ret2
    exact ⟨fo_no HF.out, Below.refl _ _⟩
  | true =>
    obtain ⟨p1, p2, P3⟩ := digo hXl hda
    have p1 := p1 (by omega)
    have p2 := p2 (by omega)
    obtain ⟨H, hH⟩ : ∃ x, digVal ((X.drop 0).take 2) = x := ⟨_, rfl⟩
    obtain ⟨m, hm⟩ : ∃ x, digVal ((X.drop 2).take 2) = x := ⟨_, rfl⟩
    obtain ⟨bH0, bH1⟩ := dv_bd p1 (by rw [List.length_take]; omega)
    obtain ⟨bm0, bm1⟩ := dv_bd p2 (by rw [List.length_take]; omega)
    obtain ⟨x, hx⟩ : ∃ x : Int, 0 = x := ⟨_, rfl⟩
    have hx4 : x4 X = x := by rw [x4, if_neg (by omega), ← hx]
    have HN : Hid (¬ (H ≤ 23 ∧ m ≤ 59 ∧ x ≤ 59 ∧ ¬ ((43 : UInt8) = 45 ∧ 3600 * H + 60 * m + x = 0)) → ((0 : Int), (19 : Int)) = (v, c)) := Lib.hid (fun q => by
      rw [← HH, if_neg (fun e => q (by
        have h4 := e.2.2.2
        rw [okO, vlO, dv2, dv2, hH, hm, hx4] at h4
        exact h4))])
    have HY : Hid ((H ≤ 23 ∧ m ≤ 59 ∧ x ≤ 59 ∧ ¬ ((43 : UInt8) = 45 ∧ 3600 * H + 60 * m + x = 0)) → (3600 * H + 60 * m + x, (0 : Int)) = (v, c)) := Lib.hid (fun q => by
      have h4 : okO 43 X := by
        rw [okO, vlO, dv2, dv2, hH, hm, hx4]
        exact q
      rw [← HH, if_pos ⟨(by first | exact Or.inl (by trivial) | exact Or.inr (by trivial) | simp), Or.inl hXl, by trivial, h4⟩]
      rw [vlO, dv2, dv2, hH, hm, hx4]
      rfl)
    rw [hH] at bH0 bH1
    rw [hm] at bm0 bm1
    have V1 := Lib.hid (And.intro p1 hH)
    have V2 := Lib.hid (And.intro p2 hm)
    have F1 : Hid ((s.extract 1 3).data.toList = (X.drop 0).take 2) := Lib.hid (by rw [Lib.extract_data, HS.out]; rfl)
    have F2 : Hid ((s.extract 3 5).data.toList = (X.drop 2).take 2) := Lib.hid (by rw [Lib.extract_data, HS.out]; rfl)
    subst hx
    clear P3
    clear HH hda E1 p1 p2 hH hm hx4 hXl
    go_upto_region 3 with fail
    go_cut [4, 5, 6] (fun v1 v2 v3 wy => v1 = .int .i64 H ∧ v2 = .int .i64 m ∧ v3 = .int .i64 0 ∧ Hid (Below w.heap.size w wy))
    case first =>
      go_region_with (first
        | (go_at_call 27; (with_reducible refine (rval_v (s.extract 1 3) _ H _ F1.out V1).mono ?_); rintro e w' ⟨rfl, rfl⟩)
        | (go_at_call 27; (with_reducible refine (rval_v (s.extract 3 5) _ m _ F2.out V2).mono ?_); rintro e w' ⟨rfl, rfl⟩))
      all_goals (go_wp2_with fail; go_meet)
      all_goals exact ⟨rfl, rfl, rfl, Lib.hid (Below.refl w.heap.size w).drew⟩
    case rest =>
    obtain ⟨rfl, rfl, rfl, HW⟩ := hcut
    skip
    by_cases k3 : 23 < H
    · have HF := Lib.hid (HN.out (fun q => by have := q.1; omega))
      go_wp2
      go_ret2
      exact ⟨fo_no HF.out, HW.out⟩
    · by_cases k4 : 59 < m
      · have HF := Lib.hid (HN.out (fun q => by have := q.2.1; omega))
        go_wp2
        go_ret2
        exact ⟨fo_no HF.out, HW.out⟩
      · have HT := Lib.hid (HY.out ⟨by omega, by omega, by omega, fun q => by cases q.1⟩)
        go_wp2
        go_ret2
        first | exact ⟨fo_yes HT.out, HW.out⟩ | exact ⟨by have q := fo_yes HT.out; simp only [Int.add_zero] at q; exact q, HW.out⟩
set_option maxHeartbeats 12800000 in
set_option maxRecDepth 100000 in
theorem rpo_7_45 (s : ByteArray) (X : List UInt8) (v c : Int) (w : World) (hz : s.size = 7) (HS : Hid (s.data.toList = 45 :: X)) (hl : (45 :: X : List UInt8).length = 7) (HH : (if ((45 : UInt8) = 45 ∨ (45 : UInt8) = 43) ∧ (X.length = 4 ∨ X.length = 6) ∧ X.all isDig = true ∧ okO 45 X then (if (45 : UInt8) = 45 then -vlO X else vlO X, (0 : Int)) else (0, 19)) = (v, c)) :
    Calls Tryd.prog 10 #[.string s] w fun e w' => e = .returned (.tuple #[.int .i64 v, .bool (decide (c = 0))]) ∧ Below w.heap.size w w' := by
  have h0 : 0 < s.size := by omega
  have HI : s[0]'h0 = 45 := by
    have e : s[0]'h0 = s.data.toList[0]'(by simp; omega) := by simp [ByteArray.getElem_eq_getElem_data]
    rw [e]
    exact List.getElem_of_eq HS.out _
  have y43 : (((s[0]'h0).toNat : Int) != 43) = true := by rw [HI]; rfl
  have y45 : (((s[0]'h0).toNat : Int) != 45) = false := by rw [HI]; rfl
  have e45 : (((s[0]'h0).toNat : Int) == 45) = true := by rw [HI]; rfl
  have hXl : X.length = 6 := by have h := hl; simp at h; omega
  have HXL := Lib.hid hXl
  obtain ⟨d, hd⟩ : ∃ x, Clk.okP X 4 6 = x := ⟨_, rfl⟩
  have HD := Lib.hid hd
  have hda : X.all isDig = d := by rw [← hd, Clk.okP, decide_eq_true ⟨by omega, by omega⟩, Bool.true_and]
  have E1 : Hid ((s.extract 1 7).data.toList = X) := Lib.hid (by rw [Lib.extract_data, HS.out]; exact List.take_of_length_le (by simp; omega))
  rw [hda] at HH
  clear HI hd hl
  go_enter Tryd.func10, Tryd.ntmps10
  go_wp2_with fail
  refine (rdig46 _ X d _ E1.out HD).mono ?_
  rintro e w1 ⟨rfl, hw1⟩
  subst hw1
  cases d with
  | false =>
    have HF : Hid (((0 : Int), (19 : Int)) = (v, c)) := Lib.hid (by rw [← HH, if_neg (fun e => by cases e.2.2.1)])
    clear HH
    go_wp2
    go_ret2
    exact ⟨fo_no HF.out, Below.refl _ _⟩
  | true =>
    obtain ⟨p1, p2, P3⟩ := digo hXl hda
    have p1 := p1 (by omega)
    have p2 := p2 (by omega)
    obtain ⟨H, hH⟩ : ∃ x, digVal ((X.drop 0).take 2) = x := ⟨_, rfl⟩
    obtain ⟨m, hm⟩ : ∃ x, digVal ((X.drop 2).take 2) = x := ⟨_, rfl⟩
    obtain ⟨bH0, bH1⟩ := dv_bd p1 (by rw [List.length_take]; omega)
    obtain ⟨bm0, bm1⟩ := dv_bd p2 (by rw [List.length_take]; omega)
    obtain ⟨x, hx⟩ : ∃ x, digVal ((X.drop 4).take 2) = x := ⟨_, rfl⟩
    have p3 := P3 (by omega)
    obtain ⟨bx0, bx1⟩ := dv_bd p3 (by rw [List.length_take]; omega)
    have hx4 : x4 X = x := by rw [x4, if_pos hXl, dv2, hx]
    have HN : Hid (¬ (H ≤ 23 ∧ m ≤ 59 ∧ x ≤ 59 ∧ ¬ ((45 : UInt8) = 45 ∧ 3600 * H + 60 * m + x = 0)) → ((0 : Int), (19 : Int)) = (v, c)) := Lib.hid (fun q => by
      rw [← HH, if_neg (fun e => q (by
        have h4 := e.2.2.2
        rw [okO, vlO, dv2, dv2, hH, hm, hx4] at h4
        exact h4))])
    have HY : Hid ((H ≤ 23 ∧ m ≤ 59 ∧ x ≤ 59 ∧ ¬ ((45 : UInt8) = 45 ∧ 3600 * H + 60 * m + x = 0)) → (-(3600 * H + 60 * m + x), (0 : Int)) = (v, c)) := Lib.hid (fun q => by
      have h4 : okO 45 X := by
        rw [okO, vlO, dv2, dv2, hH, hm, hx4]
        exact q
      rw [← HH, if_pos ⟨(by first | exact Or.inl (by trivial) | exact Or.inr (by trivial) | simp), Or.inr hXl, by trivial, h4⟩]
      rw [vlO, dv2, dv2, hH, hm, hx4]
      rfl)
    rw [hH] at bH0 bH1
    rw [hm] at bm0 bm1
    have V1 := Lib.hid (And.intro p1 hH)
    have V2 := Lib.hid (And.intro p2 hm)
    have F1 : Hid ((s.extract 1 3).data.toList = (X.drop 0).take 2) := Lib.hid (by rw [Lib.extract_data, HS.out]; rfl)
    have F2 : Hid ((s.extract 3 5).data.toList = (X.drop 2).take 2) := Lib.hid (by rw [Lib.extract_data, HS.out]; rfl)
    rw [hx] at bx0 bx1
    have V3 := Lib.hid (And.intro p3 hx)
    have F3 : Hid ((s.extract 5 7).data.toList = (X.drop 4).take 2) := Lib.hid (by rw [Lib.extract_data, HS.out]; rfl)
    clear hx p3 P3
    clear HH hda E1 p1 p2 hH hm hx4 hXl
    go_upto_region 3 with fail
    go_cut [4, 5, 6] (fun v1 v2 v3 wy => v1 = .int .i64 H ∧ v2 = .int .i64 m ∧ v3 = .int .i64 0 ∧ Hid (Below w.heap.size w wy))
    case first =>
      go_region_with (first
        | (go_at_call 27; (with_reducible refine (rval_v (s.extract 1 3) _ H _ F1.out V1).mono ?_); rintro e w' ⟨rfl, rfl⟩)
        | (go_at_call 27; (with_reducible refine (rval_v (s.extract 3 5) _ m _ F2.out V2).mono ?_); rintro e w' ⟨rfl, rfl⟩))
      all_goals (go_wp2_with fail; go_meet)
      all_goals exact ⟨rfl, rfl, rfl, Lib.hid (Below.refl w.heap.size w).drew⟩
    case rest =>
    obtain ⟨rfl, rfl, rfl, HW⟩ := hcut
    go_wp2_with fail
    refine (rval_v (s.extract 5 7) _ x _ F3.out V3).mono ?_
    rintro e w2 ⟨rfl, hw2⟩
    subst hw2
    by_cases k3 : 23 < H
    · have HF := Lib.hid (HN.out (fun q => by have := q.1; omega))
      go_wp2
      go_ret2
      exact ⟨fo_no HF.out, HW.out⟩
    · by_cases k4 : 59 < m
      · have HF := Lib.hid (HN.out (fun q => by have := q.2.1; omega))
        go_wp2
        go_ret2
        exact ⟨fo_no HF.out, HW.out⟩
      · by_cases k5 : 59 < x
        · have HF := Lib.hid (HN.out (fun q => by have := q.2.2.1; omega))
          go_wp2
          go_ret2
          exact ⟨fo_no HF.out, HW.out⟩
        · by_cases k6 : 3600 * H + 60 * m + x = 0
          · have HF := Lib.hid (HN.out (fun q => q.2.2.2 ⟨by trivial, k6⟩))
            have k7 : (3600 * H + 60 * m + x == 0) = true := by simp [k6]
            clear k6
            go_wp2
            go_ret2
            exact ⟨fo_no HF.out, HW.out⟩
          · have HT := Lib.hid (HY.out ⟨by omega, by omega, by omega, fun q => k6 q.2⟩)
            have k7 : (3600 * H + 60 * m + x == 0) = false := beq_eq_false_iff_ne.2 k6
            clear k6
            go_wp2
            go_ret2
            exact ⟨fo_yes HT.out, HW.out⟩
set_option maxHeartbeats 12800000 in
set_option maxRecDepth 100000 in
theorem rpo_7_43 (s : ByteArray) (X : List UInt8) (v c : Int) (w : World) (hz : s.size = 7) (HS : Hid (s.data.toList = 43 :: X)) (hl : (43 :: X : List UInt8).length = 7) (HH : (if ((43 : UInt8) = 45 ∨ (43 : UInt8) = 43) ∧ (X.length = 4 ∨ X.length = 6) ∧ X.all isDig = true ∧ okO 43 X then (if (43 : UInt8) = 45 then -vlO X else vlO X, (0 : Int)) else (0, 19)) = (v, c)) :
    Calls Tryd.prog 10 #[.string s] w fun e w' => e = .returned (.tuple #[.int .i64 v, .bool (decide (c = 0))]) ∧ Below w.heap.size w w' := by
  have h0 : 0 < s.size := by omega
  have HI : s[0]'h0 = 43 := by
    have e : s[0]'h0 = s.data.toList[0]'(by simp; omega) := by simp [ByteArray.getElem_eq_getElem_data]
    rw [e]
    exact List.getElem_of_eq HS.out _
  have y43 : (((s[0]'h0).toNat : Int) != 43) = false := by rw [HI]; rfl
  have y45 : (((s[0]'h0).toNat : Int) != 45) = true := by rw [HI]; rfl
  have e45 : (((s[0]'h0).toNat : Int) == 45) = false := by rw [HI]; rfl
  have hXl : X.length = 6 := by have h := hl; simp at h; omega
  have HXL := Lib.hid hXl
  obtain ⟨d, hd⟩ : ∃ x, Clk.okP X 4 6 = x := ⟨_, rfl⟩
  have HD := Lib.hid hd
  have hda : X.all isDig = d := by rw [← hd, Clk.okP, decide_eq_true ⟨by omega, by omega⟩, Bool.true_and]
  have E1 : Hid ((s.extract 1 7).data.toList = X) := Lib.hid (by rw [Lib.extract_data, HS.out]; exact List.take_of_length_le (by simp; omega))
  rw [hda] at HH
  clear HI hd hl
  go_enter Tryd.func10, Tryd.ntmps10
  go_wp2_with fail
  refine (rdig46 _ X d _ E1.out HD).mono ?_
  rintro e w1 ⟨rfl, hw1⟩
  subst hw1
  cases d with
  | false =>
    have HF : Hid (((0 : Int), (19 : Int)) = (v, c)) := Lib.hid (by rw [← HH, if_neg (fun e => by cases e.2.2.1)])
    clear HH
    go_wp2
    go_ret2
    exact ⟨fo_no HF.out, Below.refl _ _⟩
  | true =>
    obtain ⟨p1, p2, P3⟩ := digo hXl hda
    have p1 := p1 (by omega)
    have p2 := p2 (by omega)
    obtain ⟨H, hH⟩ : ∃ x, digVal ((X.drop 0).take 2) = x := ⟨_, rfl⟩
    obtain ⟨m, hm⟩ : ∃ x, digVal ((X.drop 2).take 2) = x := ⟨_, rfl⟩
    obtain ⟨bH0, bH1⟩ := dv_bd p1 (by rw [List.length_take]; omega)
    obtain ⟨bm0, bm1⟩ := dv_bd p2 (by rw [List.length_take]; omega)
    obtain ⟨x, hx⟩ : ∃ x, digVal ((X.drop 4).take 2) = x := ⟨_, rfl⟩
    have p3 := P3 (by omega)
    obtain ⟨bx0, bx1⟩ := dv_bd p3 (by rw [List.length_take]; omega)
    have hx4 : x4 X = x := by rw [x4, if_pos hXl, dv2, hx]
    have HN : Hid (¬ (H ≤ 23 ∧ m ≤ 59 ∧ x ≤ 59 ∧ ¬ ((43 : UInt8) = 45 ∧ 3600 * H + 60 * m + x = 0)) → ((0 : Int), (19 : Int)) = (v, c)) := Lib.hid (fun q => by
      rw [← HH, if_neg (fun e => q (by
        have h4 := e.2.2.2
        rw [okO, vlO, dv2, dv2, hH, hm, hx4] at h4
        exact h4))])
    have HY : Hid ((H ≤ 23 ∧ m ≤ 59 ∧ x ≤ 59 ∧ ¬ ((43 : UInt8) = 45 ∧ 3600 * H + 60 * m + x = 0)) → (3600 * H + 60 * m + x, (0 : Int)) = (v, c)) := Lib.hid (fun q => by
      have h4 : okO 43 X := by
        rw [okO, vlO, dv2, dv2, hH, hm, hx4]
        exact q
      rw [← HH, if_pos ⟨(by first | exact Or.inl (by trivial) | exact Or.inr (by trivial) | simp), Or.inr hXl, by trivial, h4⟩]
      rw [vlO, dv2, dv2, hH, hm, hx4]
      rfl)
    rw [hH] at bH0 bH1
    rw [hm] at bm0 bm1
    have V1 := Lib.hid (And.intro p1 hH)
    have V2 := Lib.hid (And.intro p2 hm)
    have F1 : Hid ((s.extract 1 3).data.toList = (X.drop 0).take 2) := Lib.hid (by rw [Lib.extract_data, HS.out]; rfl)
    have F2 : Hid ((s.extract 3 5).data.toList = (X.drop 2).take 2) := Lib.hid (by rw [Lib.extract_data, HS.out]; rfl)
    rw [hx] at bx0 bx1
    have V3 := Lib.hid (And.intro p3 hx)
    have F3 : Hid ((s.extract 5 7).data.toList = (X.drop 4).take 2) := Lib.hid (by rw [Lib.extract_data, HS.out]; rfl)
    clear hx p3 P3
    clear HH hda E1 p1 p2 hH hm hx4 hXl
    go_upto_region 3 with fail
    go_cut [4, 5, 6] (fun v1 v2 v3 wy => v1 = .int .i64 H ∧ v2 = .int .i64 m ∧ v3 = .int .i64 0 ∧ Hid (Below w.heap.size w wy))
    case first =>
      go_region_with (first
        | (go_at_call 27; (with_reducible refine (rval_v (s.extract 1 3) _ H _ F1.out V1).mono ?_); rintro e w' ⟨rfl, rfl⟩)
        | (go_at_call 27; (with_reducible refine (rval_v (s.extract 3 5) _ m _ F2.out V2).mono ?_); rintro e w' ⟨rfl, rfl⟩))
      all_goals (go_wp2_with fail; go_meet)
      all_goals exact ⟨rfl, rfl, rfl, Lib.hid (Below.refl w.heap.size w).drew⟩
    case rest =>
    obtain ⟨rfl, rfl, rfl, HW⟩ := hcut
    go_wp2_with fail
    refine (rval_v (s.extract 5 7) _ x _ F3.out V3).mono ?_
    rintro e w2 ⟨rfl, hw2⟩
    subst hw2
    by_cases k3 : 23 < H
    · have HF := Lib.hid (HN.out (fun q => by have := q.1; omega))
      go_wp2
      go_ret2
      exact ⟨fo_no HF.out, HW.out⟩
    · by_cases k4 : 59 < m
      · have HF := Lib.hid (HN.out (fun q => by have := q.2.1; omega))
        go_wp2
        go_ret2
        exact ⟨fo_no HF.out, HW.out⟩
      · by_cases k5 : 59 < x
        · have HF := Lib.hid (HN.out (fun q => by have := q.2.2.1; omega))
          go_wp2
          go_ret2
          exact ⟨fo_no HF.out, HW.out⟩
        · have HT := Lib.hid (HY.out ⟨by omega, by omega, by omega, fun q => by cases q.1⟩)
          go_wp2
          go_ret2
          exact ⟨fo_yes HT.out, HW.out⟩
set_option maxHeartbeats 3200000 in
set_option maxRecDepth 100000 in
theorem rpo_out (s : ByteArray) (v c : Int) (w : World) (h : s.size ≠ 5 ∧ s.size ≠ 7) (HF : Hid (((0 : Int), (19 : Int)) = (v, c))) :
    Calls Tryd.prog 10 #[.string s] w fun e w' => e = .returned (.tuple #[.int .i64 v, .bool (decide (c = 0))]) ∧ Below w.heap.size w w' := by
  have x5 : ((s.size : Int) != 5) = true := by simp [bne]; omega
  have x7 : ((s.size : Int) != 7) = true := by simp [bne]; omega
  go_enter Tryd.func10, Tryd.ntmps10
  go_wp2
  go_ret2
  exact ⟨fo_no HF.out, Below.refl _ _⟩
set_option maxHeartbeats 3200000 in
set_option maxRecDepth 100000 in
theorem rpo_sgn (s : ByteArray) (ch : UInt8) (X : List UInt8) (v c : Int) (w : World) (h57 : s.size = 5 ∨ s.size = 7) (hS : s.data.toList = ch :: X) (h45 : ch ≠ 45) (h43 : ch ≠ 43) (HF : Hid (((0 : Int), (19 : Int)) = (v, c))) :
    Calls Tryd.prog 10 #[.string s] w fun e w' => e = .returned (.tuple #[.int .i64 v, .bool (decide (c = 0))]) ∧ Below w.heap.size w w' := by
  have h0 : 0 < s.size := by omega
  have HI : s[0]'h0 = ch := by
    have e : s[0]'h0 = s.data.toList[0]'(by simp; omega) := by simp [ByteArray.getElem_eq_getElem_data]
    rw [e]
    exact List.getElem_of_eq hS _
  have y43 : (((s[0]'h0).toNat : Int) != 43) = true := bne_iff_ne.2 (fun e => h43 (by rw [← HI]; exact UInt8.toNat_inj.1 (by show _ = 43; omega)))
  have y45 : (((s[0]'h0).toNat : Int) != 45) = true := bne_iff_ne.2 (fun e => h45 (by rw [← HI]; exact UInt8.toNat_inj.1 (by show _ = 45; omega)))
  clear HI h45 h43 hS
  rcases h57 with hz | hz
  all_goals
    go_enter Tryd.func10, Tryd.ntmps10
    go_wp2
    go_ret2
    exact ⟨fo_no HF.out, Below.refl _ _⟩
theorem rpoff_to (s : ByteArray) (S : List UInt8) (v c : Int) (w : World) (hS : s.data.toList = S) (h : Hid (poP S = (v, c))) :
    Calls Tryd.prog 10 #[.string s] w fun e w' => e = .returned (.tuple #[.int .i64 v, .bool (decide (c = 0))]) ∧ Below w.heap.size w w' := by
  have hl : S.length = s.size := by rw [← hS]; rfl
  have HH := h.out
  cases S with
  | nil =>
    rw [poP_nil] at HH
    exact rpo_out s v c w ⟨by simp at hl; omega, by simp at hl; omega⟩ (Lib.hid HH)
  | cons ch X =>
    rw [poP_ref] at HH
    by_cases h57 : s.size = 5 ∨ s.size = 7
    · by_cases h45 : ch = 45
      · subst h45
        rcases h57 with hz | hz
        · exact rpo_5_45 s X v c w hz (Lib.hid hS) (by rw [hl, hz]) HH
        · exact rpo_7_45 s X v c w hz (Lib.hid hS) (by rw [hl, hz]) HH
      · by_cases h43 : ch = 43
        · subst h43
          rcases h57 with hz | hz
          · exact rpo_5_43 s X v c w hz (Lib.hid hS) (by rw [hl, hz]) HH
          · exact rpo_7_43 s X v c w hz (Lib.hid hS) (by rw [hl, hz]) HH
        · exact rpo_sgn s ch X v c w h57 hS h45 h43 (Lib.hid (by rw [← HH, if_neg (fun e => by rcases e.1 with e | e; exact h45 e; exact h43 e)]))
    · refine rpo_out s v c w ⟨fun e => h57 (Or.inl e), fun e => h57 (Or.inr e)⟩ (Lib.hid ?_)
      rw [← HH, if_neg]
      rintro ⟨_, e, _⟩
      rw [List.length_cons] at hl
      exact h57 (by omega)
end Val
end Go.Proofs.YtffbkmokjcgflaaDoor
