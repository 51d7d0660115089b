/-
  Contracts of package value: ParseTime.
-/
import Derived.Test.YtbeefhmnoihmcaaGreatDoorVal
import Derived.Test.YtbeefhmnoihmcaaGreatDoorShelf
namespace Go.Proofs.YtbeefhmnoihmcaaGreatDoor
open Go.RowKit
namespace Val
open Sol Civ Wk
theorem sixty_to (s : ByteArray) (S : List UInt8) (v : Int) (b : Bool) (w : World) (hs : s.size = 6) (hS : Hid (s.data.toList = S)) (h : Hid (sxV S = v ∧ sxB S = b)) :
    Calls Tryz.prog 75 #[.string s] w fun e w' => e = .returned (.tuple #[.int .i64 v, .bool b]) ∧ w = w' :=
  (sixty_any s S w hs hS).mono fun _ _ ⟨he, hw⟩ => ⟨by rw [he, h.out.1, h.out.2], hw⟩
theorem cutsuf_to (s p : ByteArray) (S P X : List UInt8) (b : Bool) (w : World) (hs : s.size ≤ 1000000) (hS : Hid (s.data.toList = S)) (hP : Hid (p.data.toList = P)) (h : Hid (Lib.trimSuffix S P = X ∧ Lib.hasSuffix S P = b)) :
    Calls Tryz.prog 74 #[.string s, .string p] w fun e w' => e = .returned (.tuple #[.string ⟨X.toArray⟩, .bool b]) ∧ w = w' :=
  (Tryz.strings_CutSuffix s p w (by omega)).mono fun _ _ ⟨he, hw⟩ => ⟨by rw [he, hS.out, hP.out, h.out.1, h.out.2], hw.symm⟩
theorem sx_bd {S : List UInt8} : 0 ≤ sxV S ∧ sxV S < 86400 := by
  unfold sxV
  split
  · rename_i h
    rw [sxB, Bool.and_eq_true] at h
    have := of_decide_eq_true h.2
    have d1 := pv_bd (L := S.take 2) (by rw [List.length_take]; omega)
    have d2 := pv_bd (L := (S.drop 2).take 2) (by rw [List.length_take]; omega)
    have d3 := pv_bd (L := (S.drop 4).take 2) (by rw [List.length_take]; omega)
    omega
  · omega
theorem numV_bd (y m d : Int) : -1000000 ≤ numV y m d ∧ numV y m d ≤ 4000000 := by
  unfold numV
  split
  · rename_i h
    have hv : 0 ≤ y ∧ y ≤ 10000 ∧ 1 ≤ d ∧ d ≤ Cal.mlen y m := of_decide_eq_true h
    obtain ⟨m1, m2⟩ := Cal.mlen_pos (y := y) (m := m) (by omega)
    have := num_bd hv.1 hv.2.1 m1 m2 hv.2.2.1 hv.2.2.2
    omega
  · omega
/-- What stands ahead of the mark is of the right make: its parts are numbers. -/
def ptB (B : List UInt8) : Bool := parseB (B.take 4) && parseB ((B.drop 4).take 2) && parseB ((B.drop 6).take 2) && sxB (B.drop 9) && decide (1 ≤ parseV (B.take 4))
def ptP (S : List UInt8) : Int × Bool × Int :=
  if (Lib.trimSuffix S [90]).length = 15 ∧ (Lib.trimSuffix S [90])[8]? = some 84 ∧ ptB (Lib.trimSuffix S [90]) = true ∧ numE (parseV ((Lib.trimSuffix S [90]).take 4)) (parseV (((Lib.trimSuffix S [90]).drop 4).take 2)) (parseV (((Lib.trimSuffix S [90]).drop 6).take 2)) = 0
  then (numV (parseV ((Lib.trimSuffix S [90]).take 4)) (parseV (((Lib.trimSuffix S [90]).drop 4).take 2)) (parseV (((Lib.trimSuffix S [90]).drop 6).take 2)) * 86400 + sxV ((Lib.trimSuffix S [90]).drop 9), Lib.hasSuffix S [90], 0)
  else (0, false, 19)
theorem ret_ibi {a a' c c' : Int} {b b' : Bool} (h1 : a = a') (h2 : b = b') (h3 : c = c') : Ending.returned (.tuple #[.int .i64 a, .bool b, .int .i64 c]) = .returned (.tuple #[.int .i64 a', .bool b', .int .i64 c']) := by rw [h1, h2, h3]
set_option maxHeartbeats 6400000 in
set_option maxRecDepth 100000 in
theorem ptime_b (s : ByteArray) (S : List UInt8) (t c : Int) (u : Bool) (w : World) (hA : Ahead w) (hs : s.size ≤ 10000) (hS : Hid (s.data.toList = S)) (h : Hid (ptP S = (t, u, c))) :
    Calls Tryz.prog 51 #[.string s] w fun e w' => e = .returned (.tuple #[.int .i64 t, .bool u, .int .i64 c]) ∧ Below w.heap.size w w' := by
  have HA := Lib.hid hA
  clear hA
  have HH := h.out
  clear h
  obtain ⟨B, hB⟩ : ∃ x, Lib.trimSuffix S [90] = x := ⟨_, rfl⟩
  obtain ⟨b, hb⟩ : ∃ x, Lib.hasSuffix S [90] = x := ⟨_, rfl⟩
  have CS := Lib.hid (And.intro hB hb)
  rw [ptP, hB, hb] at HH
  clear hB hb
  have hbs : (⟨B.toArray⟩ : ByteArray).size = B.length := rfl
  by_cases h15 : B.length = 15
  · by_cases h8 : B[8]? = some 84
    · have hi8 : (⟨B.toArray⟩ : ByteArray)[8]'(by rw [hbs]; omega) = 84 := by
        have : B[8]'(by omega) = 84 := by rw [List.getElem?_eq_getElem (by omega)] at h8; injection h8
        exact this
      have E1 : Hid (((⟨B.toArray⟩ : ByteArray).extract 0 4).data.toList = B.take 4) := Lib.hid (by rw [Lib.extract_data]; simp)
      have E2 : Hid (((⟨B.toArray⟩ : ByteArray).extract 4 6).data.toList = (B.drop 4).take 2) := Lib.hid (by rw [Lib.extract_data])
      have E3 : Hid (((⟨B.toArray⟩ : ByteArray).extract 6 8).data.toList = (B.drop 6).take 2) := Lib.hid (by rw [Lib.extract_data])
      have E4 : Hid (((⟨B.toArray⟩ : ByteArray).extract 9 15).data.toList = B.drop 9) := Lib.hid (by rw [Lib.extract_data]; exact List.take_of_length_le (by rw [List.length_drop]; show B.length - 9 ≤ 15 - 9; omega))
      have Z1 : Hid (((⟨B.toArray⟩ : ByteArray).extract 0 4).size ≤ 1000) := Lib.hid (by rw [Lib.size_eq, E1.out, List.length_take]; omega)
      have Z2 : Hid (((⟨B.toArray⟩ : ByteArray).extract 4 6).size ≤ 1000) := Lib.hid (by rw [Lib.size_eq, E2.out, List.length_take]; omega)
      have Z3 : Hid (((⟨B.toArray⟩ : ByteArray).extract 6 8).size ≤ 1000) := Lib.hid (by rw [Lib.size_eq, E3.out, List.length_take]; omega)
      have Z4 : Hid (((⟨B.toArray⟩ : ByteArray).extract 9 15).size = 6) := Lib.hid (by rw [Lib.size_eq, E4.out, List.length_drop]; omega)
      have d1 := pv_bd (L := B.take 4) (by rw [List.length_take]; omega)
      have d2 := pv_bd (L := (B.drop 4).take 2) (by rw [List.length_take]; omega)
      have d3 := pv_bd (L := (B.drop 6).take 2) (by rw [List.length_take]; omega)
      have d4 := sx_bd (S := B.drop 9)
      have hPB : ptB B = (parseB (B.take 4) && parseB ((B.drop 4).take 2) && parseB ((B.drop 6).take 2) && sxB (B.drop 9) && decide (1 ≤ parseV (B.take 4))) := rfl
      obtain ⟨A1, h1⟩ : ∃ x, B.take 4 = x := ⟨_, rfl⟩
      obtain ⟨A2, h2⟩ : ∃ x, (B.drop 4).take 2 = x := ⟨_, rfl⟩
      obtain ⟨A3, h3⟩ : ∃ x, (B.drop 6).take 2 = x := ⟨_, rfl⟩
      obtain ⟨A4, h4⟩ : ∃ x, B.drop 9 = x := ⟨_, rfl⟩
      rw [h1] at E1 d1 HH hPB
      rw [h2] at E2 d2 HH hPB
      rw [h3] at E3 d3 HH hPB
      rw [h4] at E4 d4 HH hPB
      clear h1 h2 h3 h4
      obtain ⟨y, ha⟩ : ∃ x, parseV A1 = x := ⟨_, rfl⟩
      obtain ⟨m, hb⟩ : ∃ x, parseV A2 = x := ⟨_, rfl⟩
      obtain ⟨d, hc⟩ : ∃ x, parseV A3 = x := ⟨_, rfl⟩
      obtain ⟨z, hz⟩ : ∃ x, sxV A4 = x := ⟨_, rfl⟩
      obtain ⟨p, hp⟩ : ∃ x, parseB A1 = x := ⟨_, rfl⟩
      obtain ⟨q, hq⟩ : ∃ x, parseB A2 = x := ⟨_, rfl⟩
      obtain ⟨r, hr⟩ : ∃ x, parseB A3 = x := ⟨_, rfl⟩
      obtain ⟨g, hg⟩ : ∃ x, sxB A4 = x := ⟨_, rfl⟩
      have P1 := Lib.hid (And.intro ha hp)
      have P2 := Lib.hid (And.intro hb hq)
      have P3 := Lib.hid (And.intro hc hr)
      have P4 := Lib.hid (And.intro hz hg)
      rw [ha, hp, hq, hr, hg] at hPB
      rw [ha, hb, hc, hz] at HH
      rw [ha] at d1
      rw [hb] at d2
      rw [hc] at d3
      rw [hz] at d4
      clear ha hb hc hp hq hr hz hg
      obtain ⟨N, hN⟩ : ∃ x, numV y m d = x := ⟨_, rfl⟩
      obtain ⟨E, hE⟩ : ∃ x, numE y m d = x := ⟨_, rfl⟩
      have hNb : -1000000 ≤ N ∧ N ≤ 4000000 := by rw [← hN]; exact numV_bd y m d
      have hE2 : E = 0 ∨ (E == 0) = false := by
        by_cases h : E = 0
        · exact Or.inl h
        · exact Or.inr (beq_eq_false_iff_ne.2 h)
      have NV := Lib.hid hN
      have NE := Lib.hid hE
      rw [hN, hE] at HH
      clear hN hE
      have hcase : (p = false ∧ t = 0 ∧ u = false ∧ c = 19) ∨ (p = true ∧ q = false ∧ t = 0 ∧ u = false ∧ c = 19) ∨ (p = true ∧ q = true ∧ r = false ∧ t = 0 ∧ u = false ∧ c = 19) ∨ (p = true ∧ q = true ∧ r = true ∧ g = false ∧ t = 0 ∧ u = false ∧ c = 19) ∨
          (p = true ∧ q = true ∧ r = true ∧ g = true ∧ ((y < 1 ∧ t = 0 ∧ u = false ∧ c = 19) ∨ (1 ≤ y ∧ ((E == 0) = false ∧ t = 0 ∧ u = false ∧ c = 19 ∨ E = 0 ∧ t = N * 86400 + z ∧ u = b ∧ c = 0)))) := by
        have no : ptB B = false → t = 0 ∧ u = false ∧ c = 19 := fun h => by
          rw [h] at HH; simp at HH; exact ⟨HH.1.symm, HH.2.1, HH.2.2.symm⟩
        cases p with
        | false => exact Or.inl ⟨rfl, no (by rw [hPB]; rfl)⟩
        | true =>
          cases q with
          | false => exact Or.inr (Or.inl ⟨rfl, rfl, no (by rw [hPB]; rfl)⟩)
          | true =>
            cases r with
            | false => exact Or.inr (Or.inr (Or.inl ⟨rfl, rfl, rfl, no (by rw [hPB]; rfl)⟩))
            | true =>
              cases g with
              | false => exact Or.inr (Or.inr (Or.inr (Or.inl ⟨rfl, rfl, rfl, rfl, no (by rw [hPB]; rfl)⟩)))
              | true =>
                refine Or.inr (Or.inr (Or.inr (Or.inr ⟨rfl, rfl, rfl, rfl, ?_⟩)))
                by_cases hy : 1 ≤ y
                · right
                  refine ⟨hy, ?_⟩
                  have hyes : ptB B = true := by rw [hPB, decide_eq_true hy]; rfl
                  rcases hE2 with h0 | h0
                  · right
                    rw [if_pos ⟨h15, h8, hyes, h0⟩] at HH
                    simp at HH
                    exact ⟨h0, HH.1.symm, HH.2.1.symm, HH.2.2.symm⟩
                  · left
                    rw [if_neg (fun x => by rw [x.2.2.2] at h0; cases h0)] at HH
                    simp at HH
                    exact ⟨h0, HH.1.symm, HH.2.1, HH.2.2.symm⟩
                · left
                  exact ⟨by omega, no (by rw [hPB, decide_eq_false hy]; rfl)⟩
      obtain ⟨y0, y1⟩ := d1
      obtain ⟨m0, m1⟩ := d2
      obtain ⟨e0, e1⟩ := d3
      obtain ⟨z0, z1⟩ := d4
      obtain ⟨n0, n1⟩ := hNb
      clear HH hPB hE2
      rcases hcase with ⟨rfl, rfl, rfl, rfl⟩ | ⟨rfl, rfl, rfl, rfl, rfl⟩ | ⟨rfl, rfl, rfl, rfl, rfl, rfl⟩ | ⟨rfl, rfl, rfl, rfl, rfl, rfl, rfl⟩ | ⟨rfl, rfl, rfl, rfl, ⟨hy, rfl, rfl, rfl⟩ | ⟨hy, ⟨hE, rfl, rfl, rfl⟩ | ⟨rfl, rfl, rfl, rfl⟩⟩⟩
      all_goals
        go_enter Tryz.func51, Tryz.ntmps51
        go_wp2_with fail
        refine (cutsuf_to s _ S [90] B _ _ (by omega) hS (Lib.hid rfl) CS).mono ?_
        rintro e w1 ⟨rfl, rfl⟩
        go_wp2_with fail
        refine (parse_at _ A1 y _ _ Z1.out E1 P1).mono ?_
        rintro e w1 ⟨rfl, rfl⟩
        go_wp2_with fail
        refine (parse_at _ A2 m _ _ Z2.out E2 P2).mono ?_
        rintro e w1 ⟨rfl, rfl⟩
        go_wp2_with fail
        refine (parse_at _ A3 d _ _ Z3.out E3 P3).mono ?_
        rintro e w1 ⟨rfl, rfl⟩
        go_wp2_with fail
        refine (sixty_to _ A4 z _ _ Z4.out E4 P4).mono ?_
        rintro e w1 ⟨rfl, rfl⟩
        first
          | (go_wp2
             go_ret3
             exact ⟨rfl, Below.refl _ _⟩)
          | (go_wp2_with fail
             refine (number_at _ _ _ _ _ _ HA.out (by omega) (by omega) NV NE).mono ?_
             rintro e w1 ⟨rfl, q, rfl⟩
             go_wp2
             go_ret3
             exact ⟨rfl, below_drewN ((Below.refl _ _).alloc (Nat.le_refl _) _) q⟩)
    · have E : t = 0 ∧ u = false ∧ c = 19 := by
        rw [if_neg (fun x => h8 x.2.1)] at HH
        simp at HH
        exact ⟨HH.1.symm, HH.2.1, HH.2.2.symm⟩
      obtain ⟨rfl, rfl, rfl⟩ := E
      obtain ⟨x, hx⟩ : ∃ x, B[8]'(by omega) = x := ⟨_, rfl⟩
      have hne : ((x.toNat : Int) == 84) = false := beq_eq_false_iff_ne.2 (fun e => h8 (by rw [List.getElem?_eq_getElem (by omega), hx, UInt8.toNat_inj.1 (show x.toNat = (84 : UInt8).toNat by show x.toNat = 84; omega)]))
      have hne2 : ((x.toNat : Int) != 84) = true := by simp [bne, hne]
      have hi8 : (⟨B.toArray⟩ : ByteArray)[8]'(by rw [hbs]; omega) = x := hx
      clear HH h8 hx
      go_enter Tryz.func51, Tryz.ntmps51
      go_wp2_with fail
      refine (cutsuf_to s _ S [90] B b _ (by omega) hS (Lib.hid rfl) CS).mono ?_
      rintro e w1 ⟨rfl, rfl⟩
      go_wp2
      go_ret3
      exact ⟨rfl, Below.refl _ _⟩
  · have E : t = 0 ∧ u = false ∧ c = 19 := by
      rw [if_neg (fun x => h15 x.1)] at HH
      simp at HH
      exact ⟨HH.1.symm, HH.2.1, HH.2.2.symm⟩
    obtain ⟨rfl, rfl, rfl⟩ := E
    have hl1 : ((B.length : Int) == 15) = false := beq_eq_false_iff_ne.2 (by omega)
    have hl2 : ((B.length : Int) != 15) = true := by simp [bne, hl1]
    clear HH
    go_enter Tryz.func51, Tryz.ntmps51
    go_wp2_with fail
    refine (cutsuf_to s _ S [90] B b _ (by omega) hS (Lib.hid rfl) CS).mono ?_
    rintro e w1 ⟨rfl, rfl⟩
    go_wp2
    go_ret3
    exact ⟨rfl, Below.refl _ _⟩
theorem ptime_to (s : ByteArray) (S : List UInt8) (t c : Int) (u : Bool) (w : World) (hA : Ahead w) (hs : s.size ≤ 1000) (hS : Hid (s.data.toList = S)) (h : Hid (ptP S = (t, u, c))) :
    Calls Tryz.prog 51 #[.string s] w fun e w' => e = .returned (.tuple #[.int .i64 t, .bool u, .int .i64 c]) ∧ Below w.heap.size w w' :=
  ptime_b s S t c u w hA (by omega) hS h
end Val
end Go.Proofs.YtbeefhmnoihmcaaGreatDoor
