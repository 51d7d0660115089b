/-
  Package solsticelaw23: the waking rules: three days; the last Friday of a month.
-/
import Derived.Test.YtgaolaafjiiehaaGreatDoorBdU5
import Derived.Test.YtgaolaafjiiehaaGreatDoorBdCl
namespace Go.Proofs.YtgaolaafjiiehaaGreatDoor
open Go.RowKit
namespace Rru
open Rcv (CV LisV IntV DayV)
open Rck (ckE ckB Small)
open Ap (RowI)
open Civ (Ahead)
open Fil (spE spT spF spQ perV perE perQ ld16)
open Cel
def wkD : CV := ⟨4, 1, 3, false, 0, false, [], [], [], [], [], [], [], [], [], 1⟩
def wkM : CV := ⟨6, 1, 0, false, 0, false, [], [], [], [(0, 5)], [], [], [], [], [-1], 1⟩
theorem wkD_small : Small wkD := ⟨by decide, by decide, by decide, by decide, by decide, by decide, by decide, by decide, by decide⟩
abbrev MQ (g gd gs : Nat) (wz : World) : Prop := Hid (Cs g wz [.int .i64 6, .int .i64 1, .int .i64 0, .bool false, .int .i64 0, .bool false, .slice none 0 0, .slice none 0 0, .slice none 0 0, .slice (some ⟨gd, 0, none⟩) 1 1, .slice none 0 0, .slice none 0 0, .slice none 0 0, .slice none 0 0, .slice (some ⟨gs, 0, none⟩) 1 1, .int .i64 1]) ∧ Hid (Cs gd wz [.int .i64 0, .int .i64 5]) ∧ Hid (Cs gs wz [.int .i64 (-1)])
theorem wkM_small : Small wkM := ⟨by decide, by decide, by decide, by decide, by decide, by decide, by decide, by decide, by decide⟩
theorem wkD_lis (w : World) : LisV w wkD (.slice none 0 0) (.slice none 0 0) (.slice none 0 0) (.slice none 0 0) (.slice none 0 0) (.slice none 0 0) (.slice none 0 0) (.slice none 0 0) (.slice none 0 0) :=
  ⟨IntV.none w, IntV.none w, IntV.none w, DayV.none w, IntV.none w, IntV.none w, IntV.none w, IntV.none w, IntV.none w⟩
theorem wkM_lis {w : World} {g gs : Nat} (h : Cs g w [.int .i64 0, .int .i64 5]) (k : Cs gs w [.int .i64 (-1)]) : LisV w wkM (.slice none 0 0) (.slice none 0 0) (.slice none 0 0) (.slice (some ⟨g, 0, none⟩) 1 1) (.slice none 0 0) (.slice none 0 0) (.slice none 0 0) (.slice none 0 0) (.slice (some ⟨gs, 0, none⟩) 1 1) :=
  ⟨IntV.none w, IntV.none w, IntV.none w, Rcv.day_one h, IntV.none w, IntV.none w, IntV.none w, IntV.none w, Rcv.int_one k⟩
theorem int_cs {w : World} {g c : Nat} {L : List Int} (h : Cs g w (L.map (Value.int .i64))) : IntV w (.slice (some ⟨g, 0, none⟩) L.length c) L :=
  ⟨_, _, _, rfl, rfl, fun j hj => ⟨g, 0, rfl, h.1, by
    rw [Nat.zero_add]
    exact (h.2 j _ (by simp [hj])).1⟩⟩
theorem ints_b (v u : Value) (L M : List Int) (w : World) (hv : IntV w v L) (hu : IntV w u M) (hL : L.length ≤ 1000000) (hM : M.length ≤ 1000000) (b : Bool) (h : Hid (decide (L = M) = b)) :
    Calls Tryz.prog 11 #[v, u] w fun e w' => e = .returned (.bool b) ∧ Below w.heap.size w w' :=
  (Rcv.ints_any v u L M w hv hu hL hM).mono fun _ _ ⟨b', he, hb, m, hw⟩ => ⟨by rw [he, hb.out, h.out], by rw [hw]; exact ⟨rfl, rfl, rfl, Nat.le_refl _, fun _ _ => rfl⟩⟩
theorem srt_1 (a : Int) : srt [a] = [a] := by rw [srt, List.mergeSort_singleton]
theorem pl_m1 {n : Nat} (h : n = 4 ∨ n = 5) : plL [-1] (n : Int) = [(n : Int) - 1] := by
  rcases h with h | h <;> subst h
  · rw [plL, show plK [-1] ((4 : Nat) : Int) = [3] by decide +kernel, srt_1]; rfl
  · rw [plL, show plK [-1] ((5 : Nat) : Int) = [4] by decide +kernel, srt_1]; rfl
theorem wkM_sc : scL wkM 0 = [0] := by decide +kernel
theorem wkM_s0 : s0F wkM 0 = 0 := by decide +kernel
theorem wkM_b1 : bsL wkM 0 0 (spF wkM 23640) (spT wkM 23640) = [86400, 691200, 1296000, 1900800, 2505600] := by decide +kernel
theorem wkM_b2 : bsL wkM 0 0 (spF wkM 23641) (spT wkM 23641) = [3110400, 3715200, 4320000, 4924800] := by decide +kernel
theorem wkM_g1 : gaL wkM 0 (spF wkM 23640) (spT wkM 23640) = [2505600] := by
  rw [gaL, wkM_sc, wkM_s0, wkM_b1, tiL, if_neg (by decide), show wkM.sp = [-1] from rfl, show (([86400, 691200, 1296000, 1900800, 2505600] : List Int).length * ([0] : List Int).length) = 5 from rfl, pl_m1 (Or.inr rfl)]
  decide +kernel
theorem wkM_g2 : gaL wkM 0 (spF wkM 23641) (spT wkM 23641) = [4924800] := by
  rw [gaL, wkM_sc, wkM_s0, wkM_b2, tiL, if_neg (by decide), show wkM.sp = [-1] from rfl, show (([3110400, 3715200, 4320000, 4924800] : List Int).length * ([0] : List Int).length) = 4 from rfl, pl_m1 (Or.inl rfl)]
  decide +kernel
theorem wkD_tm : tmX wkD 0 0 4611686018427387904 100 = (0, 6, [0, 86400, 172800]) := by decide +kernel
theorem wkM_of : ofE wkM 0 23640 = 0 ∧ ofL wkM 0 23640 = [2505600] := by
  have e : ofE wkM 0 23640 = 0 := by decide +kernel
  exact ⟨e, by rw [ofL, if_pos e, wkM_g1]⟩
theorem wkM_less : tmX wkM 0 0 4611686018427387904 3 = (22, 0, []) := by decide +kernel
theorem go_round {x : CV} {st fr tt f p c d : Int} {m : Nat} {s : Int × List Int} {T : List Int} (h1 : fuB x s.1 = false) (h2 : beB x tt p = false) (h3 : 1 + ((bsL x st (s0F x st) (spF x p) (spT x p)).length : Int) * ((scL x st).length : Int) = d) (h4 : c + d ≤ f) (h5 : gaL x st (spF x p) (spT x p) = T) : goT x st fr tt f (m + 1) p c s = goT x st fr tt f m (p + x.iv) (c + d) (perS x st fr tt T s) := by
  rw [goT, if_neg (by rw [h1]; decide), if_neg (by rw [h2]; decide), h3, if_neg (by omega), h5]
theorem go_end {x : CV} {st fr tt f p c : Int} {m : Nat} {s : Int × List Int} (h1 : fuB x s.1 = false) (h2 : beB x tt p = true) : goT x st fr tt f (m + 1) p c s = some (c, s.2) := by
  rw [goT, if_neg (by rw [h1]; decide), if_pos h2]
theorem wkM_last : lsX wkM 0 3456000 2592000 100 = (2505600, true, 11, 0) := by
  have e1 : fsF wkM (perV wkM 0) 864000 = (23640, true) := by decide +kernel
  have e2 : perE wkM 0 = 0 := by decide +kernel
  have e3 : arB 864000 3456000 100 = false := by decide +kernel
  have e4 : lsF 3456000 2592000 = (864000, 3456000) := by decide +kernel
  have l1 : 1 + ((bsL wkM 0 (s0F wkM 0) (spF wkM 23640) (spT wkM 23640)).length : Int) * ((scL wkM 0).length : Int) = 6 := by rw [wkM_s0, wkM_b1, wkM_sc]; decide
  have l2 : 1 + ((bsL wkM 0 (s0F wkM 0) (spF wkM 23641) (spT wkM 23641)).length : Int) * ((scL wkM 0).length : Int) = 5 := by rw [wkM_s0, wkM_b2, wkM_sc]; decide
  rw [lsX, e4]
  show lsO (tmX wkM 0 864000 3456000 100) = _
  have e5 : goT wkM 0 864000 3456000 100 102 23640 0 (1, tkL 864000 3456000 0 []) = some (11, [2505600]) :=
    (go_round (m := 101) (by decide +kernel) (by decide +kernel) l1 (by decide) wkM_g1).trans ((go_round (m := 100) (p := 23641) (c := 6) (by decide +kernel) (by decide +kernel) l2 (by decide) wkM_g2).trans ((go_end (m := 99) (p := 23642) (c := 11) (by decide +kernel) (by decide +kernel)).trans (by decide +kernel)))
  rw [tmX, if_neg (by rw [e2]; decide), e3, if_neg (by decide), tmR, e1, if_pos rfl]
  show lsO (outX (goT wkM 0 864000 3456000 100 102 23640 0 (1, tkL 864000 3456000 0 []))) = _
  rw [e5]
  decide +kernel
set_option maxHeartbeats 12800000 in
set_option maxRecDepth 100000 in
theorem wakes23_any (w : World) (hA : Ahead w) : Calls Tryz.prog 10 #[] w fun e w' => e = .returned (.bool true) ∧ Below w.heap.size w w' := by
  have HA := Lib.hid hA
  clear hA
  go_enter Tryz.func10, Tryz.ntmps10
  go_upto_region 1 with fail
  go_cut [1, 2, 3] (fun a b c wz => ∃ lv, lv = a ∧ b = .int .i64 6 ∧ c = .int .i64 0 ∧ Hid (RowI w.heap.size wz lv [0, 86400, 172800]) ∧ Hid (Below w.heap.size w wz))
  case first =>
    go_wp2_with fail
    refine (tms_to wkD _ _ _ _ _ _ _ _ _ 0 0 4611686018427387904 100 _ _ HA (Lib.hid (by decide)) (Lib.hid (wkD_lis _)) (Lib.hid wkD_small) (Lib.hid (by decide)) (Lib.hid wkD_tm)).mono ?_
    rintro e w1 ⟨lv, rfl, R, k⟩
    go_wp2
    go_meet
    exact ⟨_, rfl, rfl, rfl, Lib.hid R, Lib.hid k⟩
  case rest =>
  obtain ⟨w1, rfl⟩ : ∃ x : World, x = wc := ⟨_, rfl⟩
  obtain ⟨lv, rfl, rfl, rfl, R1, B⟩ := hcut
  go_upto_region 2 with fail
  go_cut [4] (fun p wz => ∃ g gd gs, p = .pointer (some ⟨g, 0, none⟩) ∧ MQ g gd gs wz ∧ Hid (RowI w.heap.size wz lv [0, 86400, 172800]) ∧ Hid (Below w.heap.size w wz))
  case first =>
    go_wp2
    go_meet
    refine ⟨_, _, _, rfl, ⟨Lib.hid (cs_at (by simp) _ _), Lib.hid (((cs_at (by simp) _ _).alloc _).alloc _), Lib.hid ((cs_at (by simp) _ _).alloc _)⟩, ?_, ?_⟩
    · exact Lib.hid (R1.out.below ((((Below.refl _ _).alloc (by simp) _).alloc (by simp; try omega) _).alloc (by simp; try omega) _))
    · exact Lib.hid (bstep B.out ((((Below.refl _ _).alloc (by simp) _).alloc (by simp; try omega) _).alloc (by simp; try omega) _))
  case rest =>
  obtain ⟨w2, rfl⟩ : ∃ x : World, x = wc := ⟨_, rfl⟩
  clear R1 B
  obtain ⟨g, gd, gs, rfl, ⟨RB, DB, SB⟩, R1, B⟩ := hcut
  go_upto_region 3 with fail
  go_cut [5, 6] (fun a c wz => ∃ lv2, lv2 = a ∧ c = .int .i64 0 ∧ Hid (RowI w.heap.size wz lv2 [2505600]) ∧ MQ g gd gs wz ∧ Hid (RowI w.heap.size wz lv [0, 86400, 172800]) ∧ Hid (Below w.heap.size w wz))
  case first =>
    go_wp2_with (refine ld16 RB.out rfl (by rfl) (by rfl) (by rfl) ?_; intro K hK; go_simp)
    refine (of_to wkM _ _ _ _ _ _ _ _ _ 0 23640 _ _ _ (Lib.hid (HA.out.stays B.out)) (Lib.hid (by decide)) (Lib.hid (wkM_lis DB.out SB.out)) (Lib.hid wkM_small) (by decide) (by decide) (Lib.hid wkM_of.1) (Lib.hid wkM_of.2)).mono ?_
    rintro e w3 ⟨lv2, rfl, R, k⟩
    have RB := Lib.hid (RB.out.below k)
    have DB := Lib.hid (DB.out.below k)
    have SB := Lib.hid (SB.out.below k)
    have R1 := Lib.hid (R1.out.below k)
    have R2 : Hid (RowI w.heap.size w3 lv2 [2505600]) := Lib.hid (own_less2 R B.out.size)
    have B := Lib.hid (bstep B.out k)
    clear k R
    go_wp2
    go_meet
    exact ⟨_, rfl, rfl, R2, ⟨RB, DB, SB⟩, R1, B⟩
  case rest =>
  obtain ⟨w3, rfl⟩ : ∃ x : World, x = wc := ⟨_, rfl⟩
  clear RB DB SB R1 B
  obtain ⟨lv2, rfl, rfl, R2, ⟨RB, DB, SB⟩, R1, B⟩ := hcut
  go_upto_region 4 with fail
  go_cut [7, 8, 10] (fun a b c wz => a = .int .i64 2505600 ∧ b = .bool true ∧ c = .int .i64 0 ∧ Hid (RowI w.heap.size wz lv2 [2505600]) ∧ MQ g gd gs wz ∧ Hid (RowI w.heap.size wz lv [0, 86400, 172800]) ∧ Hid (Below w.heap.size w wz))
  case first =>
    go_wp2_with (refine ld16 RB.out rfl (by rfl) (by rfl) (by rfl) ?_; intro K hK; go_simp)
    refine (last_to wkM _ _ _ _ _ _ _ _ _ 0 3456000 2592000 100 _ _ (Lib.hid (HA.out.stays B.out)) (Lib.hid (by decide)) (Lib.hid (wkM_lis DB.out SB.out)) (Lib.hid wkM_small) (Lib.hid (by decide)) (Lib.hid wkM_last)).mono ?_
    rintro e w4 ⟨rfl, k⟩
    have RB := Lib.hid (RB.out.below k)
    have DB := Lib.hid (DB.out.below k)
    have SB := Lib.hid (SB.out.below k)
    have R1 := Lib.hid (R1.out.below k)
    have R2 := Lib.hid (R2.out.below k)
    have B := Lib.hid (bstep B.out k)
    clear k
    go_wp2
    go_meet
    exact ⟨rfl, rfl, rfl, R2, ⟨RB, DB, SB⟩, R1, B⟩
  case rest =>
  obtain ⟨w4, rfl⟩ : ∃ x : World, x = wc := ⟨_, rfl⟩
  clear RB DB SB R1 R2 B
  obtain ⟨rfl, rfl, rfl, R2, ⟨RB, DB, SB⟩, R1, B⟩ := hcut
  go_upto_region 5 with fail
  go_cut [13] (fun a wz => a = .int .i64 22 ∧ Hid (RowI w.heap.size wz lv2 [2505600]) ∧ Hid (RowI w.heap.size wz lv [0, 86400, 172800]) ∧ Hid (Below w.heap.size w wz))
  case first =>
    go_wp2_with (refine ld16 RB.out rfl (by rfl) (by rfl) (by rfl) ?_; intro K hK; go_simp)
    refine (tms_to wkM _ _ _ _ _ _ _ _ _ 0 0 4611686018427387904 3 _ _ (Lib.hid (HA.out.stays B.out)) (Lib.hid (by decide)) (Lib.hid (wkM_lis DB.out SB.out)) (Lib.hid wkM_small) (Lib.hid (by decide)) (Lib.hid wkM_less)).mono ?_
    rintro e w5 ⟨lv3, rfl, R, k⟩
    have R1 := Lib.hid (R1.out.below k)
    have R2 := Lib.hid (R2.out.below k)
    have B := Lib.hid (bstep B.out k)
    clear k R
    go_wp2
    go_meet
    exact ⟨rfl, R2, R1, B⟩
  case rest =>
  obtain ⟨w5, rfl⟩ : ∃ x : World, x = wc := ⟨_, rfl⟩
  clear RB DB SB R1 R2 B
  obtain ⟨rfl, R2, R1, B⟩ := hcut
  go_wp2_with fail
  have k0 : Below w5.heap.size w5 (w5.alloc (Obj.cells #[.int .i64 0, .int .i64 86400, .int .i64 172800] 3)) := (Below.refl _ _).alloc (Nat.le_refl _) _
  refine (ints_b _ _ [0, 86400, 172800] [0, 86400, 172800] _ (IntV.of_row (R1.out.below k0)) (int_cs (L := [0, 86400, 172800]) (Cs.new w5 _ _)) (by decide) (by decide) true (Lib.hid (by decide))).mono ?_
  rintro e w6 ⟨rfl, k⟩
  have R2 := Lib.hid (R2.out.below (bstep k0 k))
  have B := Lib.hid (bstep B.out (bstep k0 k))
  clear k k0
  go_wp2_with fail
  have k0 : Below w6.heap.size w6 (w6.alloc (Obj.cells #[.int .i64 2505600] 3)) := (Below.refl _ _).alloc (Nat.le_refl _) _
  refine (ints_b _ _ [2505600] [2505600] _ (IntV.of_row (R2.out.below k0)) (int_cs (L := [2505600]) (Cs.new w6 _ _)) (by decide) (by decide) true (Lib.hid (by decide))).mono ?_
  rintro e w7 ⟨rfl, k⟩
  have B := Lib.hid (bstep B.out (bstep k0 k))
  clear k k0
  go_wp2
  go_ret
  exact ⟨ret_b rfl, B.out⟩
end Rru
end Go.Proofs.YtgaolaafjiiehaaGreatDoor
