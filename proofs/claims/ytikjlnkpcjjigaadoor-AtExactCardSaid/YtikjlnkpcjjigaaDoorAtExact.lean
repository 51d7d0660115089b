/-
  AtExact: the law answers true at every text, every form of a time and every four numbers, in whatever world that holds the table of powers of ten.
-/
import Derived.Test.YtikjlnkpcjjigaaDoorRefAt2
import Derived.Deep.DeepCutAuto
namespace Go.Proofs.YtikjlnkpcjjigaaDoor
open Go.RowKit
namespace Atf
open Sol Clk
theorem rAt_b (n k : Int) (b : Bool) (w : World) (h : Hid (atOk n k = b)) :
    Calls Tryd.prog 23 #[.agg #[.int .i64 n, .int .i64 k]] w fun e w' => e = .returned (.bool b) ∧ Below w.heap.size w w' :=
  (rAt_to n k b w h).mono fun _ _ ⟨he, hw⟩ => ⟨he, hw ▸ (Below.refl _ _).alloc (Nat.le_refl _) _⟩
theorem acheck_b (n k c : Int) (w : World) (h : Hid (atE n k = c)) :
    Calls Tryd.prog 24 #[.agg #[.int .i64 n, .int .i64 k]] w fun e w' => e = .returned (.int .i64 c) ∧ Below w.heap.size w w' :=
  (acheck_to n k c w h).mono fun _ _ ⟨he, hw⟩ => ⟨he, hw ▸ (Below.refl _ _).alloc (Nat.le_refl _) _⟩
theorem ap_no {L : List UInt8} (h : clB (apL L) = false) : apV L = 0 ∧ apKk L = 0 ∧ apE L = 9 := by
  refine ⟨by rw [apV, h]; rfl, by rw [apKk, h]; rfl, by rw [apE, h]; rfl⟩
theorem ap_yes {L : List UInt8} (h : clB (apL L) = true) : apE L = 0 := by rw [apE, if_pos h]
theorem at_no {n k : Int} (h : atOk n k = false) : atE n k = 9 ∧ atT n k = [] := ⟨by rw [atE, h]; rfl, by rw [atT, h]; rfl⟩
theorem at_yes {n k : Int} (h : atOk n k = true) : atE n k = 0 ∧ atT n k = ctL n ++ suf k ∧ (-345600 ≤ n ∧ n ≤ 345600) ∧ (1 ≤ k ∧ k ≤ 3) := by
  have hh := h
  rw [atOk, Bool.and_eq_true] at hh
  exact ⟨by rw [atE, if_pos h], by rw [atT, if_pos h], of_decide_eq_true hh.1, of_decide_eq_true hh.2⟩

set_option maxRecDepth 100000 in
set_option maxHeartbeats 6400000 in
theorem aexact_any (s : ByteArray) (n ak l k d v : Int) (w : World) (hp : Pow w) (k1 : -9223372036854775808 ≤ k) (k2 : k ≤ 9223372036854775807) :
    Calls Tryd.prog 6 #[.string s, .agg #[.int .i64 n, .int .i64 ak], .int .i64 l, .int .i64 k, .int .i64 d, .int .i64 v] w fun e w' => e = .returned (.bool true) ∧ Below w.heap.size w w' := by
  have HP := Lib.hid hp
  clear hp
  by_cases hs : s.size ≤ 60
  · have hl := Lib.size_eq s
    obtain ⟨L, hL⟩ : ∃ L, s.data.toList = L := ⟨_, rfl⟩
    rw [hL] at hl
    have SL := Lib.hid hL
    have hl1 : L.length ≤ 1000 := by omega
    have HNo := Lib.hid (fun h => ap_no (L := L) h)
    have HYe := Lib.hid (fun h => ap_yes (L := L) h)
    obtain ⟨V, hV⟩ : ∃ x, apV L = x := ⟨_, rfl⟩
    obtain ⟨K, hK⟩ : ∃ x, apKk L = x := ⟨_, rfl⟩
    obtain ⟨E, hE⟩ : ∃ x, apE L = x := ⟨_, rfl⟩
    obtain ⟨cb, hcb⟩ : ∃ x, clB (apL L) = x := ⟨_, rfl⟩
    have PA := Lib.hid (And.intro hV (And.intro hK hE))
    have RA := Lib.hid (And.intro hV (And.intro hK hcb))
    rw [hV, hK, hE, hcb] at HNo
    rw [hE, hcb] at HYe
    obtain ⟨T, hT⟩ : ∃ x, atT n ak = x := ⟨_, rfl⟩
    obtain ⟨F, hF⟩ : ∃ x, atE n ak = x := ⟨_, rfl⟩
    have TA := Lib.hid (And.intro hT hF)
    obtain ⟨U, hU⟩ : ∃ x, utV l k d v = x := ⟨_, rfl⟩
    obtain ⟨UB, hUB⟩ : ∃ x, utB l k d v = x := ⟨_, rfl⟩
    have UA := Lib.hid (And.intro hU hUB)
    have HU0 : Hid (UB = false → U = 0) := Lib.hid (fun h => by rw [← hU, utV, hUB, h]; rfl)
    have HUD : Hid (UB = (isK k && inB l && inS d && inS v)) := Lib.hid hUB.symm
    clear hL hl hV hK hE hcb hT hF hU hUB
    go_enter Tryd.func6, Tryd.ntmps6
    go_wp2_with fail
    refine (aparse_to _ L V K E _ hl1 SL PA).mono ?_
    rintro e w1 ⟨rfl, hb1⟩
    have hB1 : Below w.heap.size w w1 := ((Below.refl _ _).alloc (Nat.le_refl _) _).trans (hb1.mono (by simp))
    have hz1 := hb1.size
    simp at hz1
    have c0 : w1.cell? ⟨w.heap.size, 0, none⟩ = some (.int .i64 n) := (hb1.cell (p := ⟨w.heap.size, 0, none⟩) (by simp)).trans (by go_simp)
    have c1 : w1.cell? ⟨w.heap.size, 1, none⟩ = some (.int .i64 ak) := (hb1.cell (p := ⟨w.heap.size, 1, none⟩) (by simp)).trans (by go_simp)
    have hlt1 : w.heap.size < w1.heap.size := by omega
    have hne1 : w.heap.size ≠ w1.heap.size := by omega
    clear hb1 hz1
    go_wp2_with fail
    refine (atext_to _ _ F T _ (HP.out.stays (hB1.alloc (by omega) _)) TA).mono ?_
    rintro e w2 ⟨rfl, hb2⟩
    have hB2 : Below w.heap.size w w2 := (hB1.alloc (by omega) _).trans (hb2.mono (by simp; omega))
    have hz2 := hb2.size
    simp at hz2
    have d0 : w2.cell? ⟨w.heap.size, 0, none⟩ = some (.int .i64 n) := (hb2.cell (p := ⟨w.heap.size, 0, none⟩) (by simp; omega)).trans (by go_simp)
    have d1 : w2.cell? ⟨w.heap.size, 1, none⟩ = some (.int .i64 ak) := (hb2.cell (p := ⟨w.heap.size, 1, none⟩) (by simp; omega)).trans (by go_simp)
    have x0 : w2.cell? ⟨w1.heap.size, 0, none⟩ = some (.int .i64 V) := (hb2.cell (p := ⟨w1.heap.size, 0, none⟩) (by simp)).trans (by go_simp)
    have x1 : w2.cell? ⟨w1.heap.size, 1, none⟩ = some (.int .i64 K) := (hb2.cell (p := ⟨w1.heap.size, 1, none⟩) (by simp)).trans (by go_simp)
    have hlt2 : w1.heap.size < w2.heap.size := by omega
    clear hb2 hz2 c0 c1
    go_wp2_with fail
    refine (utc_to _ _ _ _ U UB _ k1 k2 UA).mono ?_
    rintro e w3 ⟨rfl, rfl⟩
    go_wp2_with fail
    refine (rat_to _ L V K cb _ hl1 SL RA).mono ?_
    rintro e w3 ⟨rfl, hb3⟩
    have hB3 : Below w.heap.size w w3 := hB2.trans (hb3.mono hB2.size)
    have hz3 := hb3.size
    have y0 : w3.cell? ⟨w.heap.size, 0, none⟩ = some (.int .i64 n) := (hb3.cell (p := ⟨w.heap.size, 0, none⟩) (by show w.heap.size < _; omega)).trans d0
    have y1 : w3.cell? ⟨w.heap.size, 1, none⟩ = some (.int .i64 ak) := (hb3.cell (p := ⟨w.heap.size, 1, none⟩) (by show w.heap.size < _; omega)).trans d1
    have z0 : w3.cell? ⟨w1.heap.size, 0, none⟩ = some (.int .i64 V) := (hb3.cell (p := ⟨w1.heap.size, 0, none⟩) (by show w1.heap.size < _; omega)).trans x0
    have z1 : w3.cell? ⟨w1.heap.size, 1, none⟩ = some (.int .i64 K) := (hb3.cell (p := ⟨w1.heap.size, 1, none⟩) (by show w1.heap.size < _; omega)).trans x1
    have hlt3 : w1.heap.size < w3.heap.size := by omega
    have hlt4 : w.heap.size < w3.heap.size := by omega
    have hne3 : w1.heap.size ≠ w3.heap.size := by omega
    have hne4 : w.heap.size ≠ w3.heap.size := by omega
    clear hb3 hz3 d0 d1 x0 x1 hB1 hB2
    go_upto_region 7 with fail
    go_cut [70] (fun x wx => x = .bool false ∧ w3.alloc (Obj.cells #[.int .i64 V, .int .i64 K] 41) = wx)
    case first =>
      cases cb with
      | false =>
        obtain ⟨rfl, rfl, rfl⟩ := HNo.out rfl
        go_wp2
        go_meet
        exact ⟨rfl, rfl⟩
      | true =>
        obtain rfl := HYe.out rfl
        go_wp2
        go_meet
        exact ⟨rfl, rfl⟩
    case rest =>
    obtain ⟨rfl, hwc⟩ := hcut
    subst hwc
    clear z0 z1 hlt3 hne3 hne1 hlt1 hlt2
    go_upto_region 9 with fail
    go_cut [21] (fun x wx => x = .bool UB ∧ w3.alloc (Obj.cells #[.int .i64 V, .int .i64 K] 41) = wx)
    case first =>
      obtain ⟨ib, hib⟩ : ∃ b, inB l = b := ⟨_, rfl⟩
      obtain ⟨id', hid'⟩ : ∃ b, inS d = b := ⟨_, rfl⟩
      obtain ⟨iv, hiv⟩ : ∃ b, inS v = b := ⟨_, rfl⟩
      have D1 := Lib.hid hib
      have D2 : Hid (decide (-345600 ≤ d ∧ d ≤ 345600) = id') := Lib.hid hid'
      have D3 : Hid (decide (-345600 ≤ v ∧ v ≤ 345600) = iv) := Lib.hid hiv
      rw [hib, hid', hiv] at HUD
      clear hib hid' hiv
      by_cases hk : 1 ≤ k ∧ k ≤ 3
      · have HK : Hid (UB = (ib && id' && iv)) := Lib.hid (by rw [HUD.out, isK, decide_eq_true hk]; simp)
        obtain ⟨hk1, hk3⟩ := hk
        cases ib with
        | false =>
          have HF : Hid (UB = false) := Lib.hid (by rw [HK.out]; rfl)
          go_wp2_with fail
          refine (bnd_to _ _ _ D1).mono ?_
          rintro e w5 ⟨rfl, rfl⟩
          go_wp2
          go_meet
          exact ⟨congrArg Value.bool HF.out.symm, rfl⟩
        | true =>
          cases id' with
          | false =>
            have HF : Hid (UB = false) := Lib.hid (by rw [HK.out]; rfl)
            go_wp2_with fail
            refine (bnd_to _ _ _ D1).mono ?_
            rintro e w5 ⟨rfl, rfl⟩
            go_wp2_with fail
            refine (in_to _ _ _ _ _ D2).mono ?_
            rintro e w5 ⟨rfl, rfl⟩
            go_wp2
            go_meet
            exact ⟨congrArg Value.bool HF.out.symm, rfl⟩
          | true =>
            have HF : Hid (UB = iv) := Lib.hid (by rw [HK.out]; rfl)
            go_wp2_with fail
            refine (bnd_to _ _ _ D1).mono ?_
            rintro e w5 ⟨rfl, rfl⟩
            go_wp2_with fail
            refine (in_to _ _ _ _ _ D2).mono ?_
            rintro e w5 ⟨rfl, rfl⟩
            go_wp2_with fail
            refine (in_to _ _ _ _ _ D3).mono ?_
            rintro e w5 ⟨rfl, rfl⟩
            go_wp2
            go_meet
            exact ⟨congrArg Value.bool HF.out.symm, rfl⟩
      · have HF : Hid (UB = false) := Lib.hid (by rw [HUD.out, isK, decide_eq_false hk]; rfl)
        by_cases hk1 : k < 1
        · clear hk
          go_wp2
          go_meet
          exact ⟨congrArg Value.bool HF.out.symm, rfl⟩
        · have hk2 : 1 ≤ k := by omega
          have hk3 : 3 < k := by omega
          have hk4 : decide (k ≤ 3) = false := decide_eq_false (by omega)
          clear hk hk1
          go_wp2
          go_meet
          exact ⟨congrArg Value.bool HF.out.symm, rfl⟩
    case rest =>
    obtain ⟨rfl, hwc⟩ := hcut
    subst hwc
    go_upto_region 10 with fail
    go_cut [111] (fun x wx => x = .bool false ∧ w3.alloc (Obj.cells #[.int .i64 V, .int .i64 K] 41) = wx)
    case first =>
      cases UB with
      | false =>
        obtain rfl := HU0.out rfl
        go_wp2
        go_meet
        exact ⟨rfl, rfl⟩
      | true =>
        have hub := UA.out.2
        have UV := Lib.hid UA.out.1
        have HR := Lib.hid (fun w' => rutc_to l k d v U w' hub UV)
        clear hub
        go_wp2_with fail
        refine (HR.out _).mono ?_
        rintro e w5 ⟨rfl, rfl⟩
        go_wp2
        go_meet
        exact ⟨rfl, rfl⟩
    case rest =>
    obtain ⟨rfl, hwc⟩ := hcut
    subst hwc
    obtain ⟨ao, hao⟩ : ∃ b, atOk n ak = b := ⟨_, rfl⟩
    have AO := Lib.hid hao
    have hB4 : Below w.heap.size w (w3.alloc (Obj.cells #[.int .i64 V, .int .i64 K] 41)) := hB3.alloc (by omega) _
    cases ao with
    | false =>
      obtain ⟨g1, g2⟩ := at_no hao
      rw [TA.out.2] at g1
      rw [TA.out.1] at g2
      subst g1 g2
      have CE := Lib.hid TA.out.2
      clear hao
      go_wp2_with fail
      refine (rAt_to _ _ _ _ AO).mono ?_
      rintro e w5 ⟨rfl, rfl⟩
      go_wp2_with fail
      refine (acheck_to _ _ _ _ CE).mono ?_
      rintro e w5 ⟨rfl, rfl⟩
      go_wp2_with fail
      refine (wakes8_any _ (HP.out.stays ((hB4.alloc (by simp; omega) _).alloc (by simp; omega) _))).mono ?_
      rintro e w6 ⟨rfl, hb6⟩
      go_wp2
      go_ret
      exact ⟨rfl, ((hB4.alloc (by simp; omega) _).alloc (by simp; omega) _).trans (hb6.mono (by simp; omega))⟩
    | true =>
      obtain ⟨g1, g2, g3, g4⟩ := at_yes hao
      rw [TA.out.2] at g1
      rw [TA.out.1] at g2
      subst g1
      have CE := Lib.hid TA.out.2
      have TT := Lib.hid g2.symm
      have HR := Lib.hid (fun w' => rattext_to n ak T w' g3 g4 TT)
      clear hao g2 g3 g4
      have q0 := (((Below.refl w3.heap.size w3).alloc (Nat.le_refl _) (Obj.cells #[.int .i64 V, .int .i64 K] 41)).cell (p := ⟨w.heap.size, 0, none⟩) (by show w.heap.size < _; omega)).trans y0
      have q1 := (((Below.refl w3.heap.size w3).alloc (Nat.le_refl _) (Obj.cells #[.int .i64 V, .int .i64 K] 41)).cell (p := ⟨w.heap.size, 1, none⟩) (by show w.heap.size < _; omega)).trans y1
      obtain ⟨w4, hw4⟩ : ∃ x, w3.alloc (Obj.cells #[.int .i64 V, .int .i64 K] 41) = x := ⟨_, rfl⟩
      have hz4 : w.heap.size < w4.heap.size := by rw [← hw4]; simp; omega
      rw [hw4] at hB4 q0 q1 ⊢
      clear hw4 y0 y1 hB3 hlt4
      go_wp2_with fail
      refine (rAt_b _ _ _ _ AO).mono ?_
      rintro e w5 ⟨rfl, hb5⟩
      have hB5 := hB4.trans (hb5.mono hB4.size)
      have hz5 := hb5.size
      have r0 : w5.cell? ⟨w.heap.size, 0, none⟩ = some (.int .i64 n) := (hb5.cell (p := ⟨w.heap.size, 0, none⟩) (by show w.heap.size < _; omega)).trans q0
      have r1 : w5.cell? ⟨w.heap.size, 1, none⟩ = some (.int .i64 ak) := (hb5.cell (p := ⟨w.heap.size, 1, none⟩) (by show w.heap.size < _; omega)).trans q1
      have hlt5 : w.heap.size < w5.heap.size := by omega
      clear q0 q1 hb5 hz5 hz4
      go_wp2_with fail
      refine (acheck_b _ _ _ _ CE).mono ?_
      rintro e w6 ⟨rfl, hb6⟩
      have hB6 := hB5.trans (hb6.mono hB5.size)
      have hz6 := hb6.size
      have s0 : w6.cell? ⟨w.heap.size, 0, none⟩ = some (.int .i64 n) := (hb6.cell (p := ⟨w.heap.size, 0, none⟩) (by show w.heap.size < _; omega)).trans r0
      have s1 : w6.cell? ⟨w.heap.size, 1, none⟩ = some (.int .i64 ak) := (hb6.cell (p := ⟨w.heap.size, 1, none⟩) (by show w.heap.size < _; omega)).trans r1
      have hlt6 : w.heap.size < w6.heap.size := by omega
      clear r0 r1 hb6 hz6 hlt5
      go_wp2_with fail
      refine (HR.out _).mono ?_
      rintro e w7 ⟨rfl, hb7⟩
      have hB7 := hB6.trans (hb7.mono hB6.size)
      go_wp2_with fail
      refine (wakes8_any _ (HP.out.stays hB7)).mono ?_
      rintro e w8 ⟨rfl, hb8⟩
      go_wp2
      go_ret
      exact ⟨rfl, hB7.trans (hb8.mono hB7.size)⟩
  · have hs2 : 60 < s.size := by omega
    clear hs
    go_enter Tryd.func6, Tryd.ntmps6
    go_wp2
    go_ret
    exact ⟨rfl, (Below.refl _ _).alloc (Nat.le_refl _) _⟩
end Atf
end Go.Proofs.YtikjlnkpcjjigaaDoor
