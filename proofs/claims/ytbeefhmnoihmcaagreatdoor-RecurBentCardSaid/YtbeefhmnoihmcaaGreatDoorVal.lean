/-
  Contracts of package value: sixty, ParseTime.
-/
import Derived.Test.YtbeefhmnoihmcaaGreatDoorBdC
import Derived.Test.YtbeefhmnoihmcaaGreatDoorBdD
namespace Go.Proofs.YtbeefhmnoihmcaaGreatDoor
open Go.RowKit
namespace Val
open Sol Civ
theorem parse_at (s : ByteArray) (L : List UInt8) (v : Int) (b : Bool) (w : World) (hs : s.size ≤ 1000) (hL : Hid (s.data.toList = L)) (h : Hid (parseV L = v ∧ parseB L = b)) :
    Calls Tryz.prog 73 #[.string s] w fun e w' => e = .returned (.tuple #[.int .i64 v, .bool b]) ∧ w = w' :=
  (parse_any s w (by unfold maxLen; omega)).mono fun _ _ ⟨he, hw⟩ => ⟨by rw [he, hL.out, h.out.1, h.out.2], hw⟩
theorem pv_bd {L : List UInt8} (h : L.length ≤ 4) : 0 ≤ parseV L ∧ parseV L < 10000 := by
  unfold parseV
  split
  · rename_i hp
    simp [parseB] at hp
    have := digVal_bd L (by simpa using hp.2)
    have h2 : (10 : Int) ^ L.length ≤ 10000 := by
      have h3 : L.length = 0 ∨ L.length = 1 ∨ L.length = 2 ∨ L.length = 3 ∨ L.length = 4 := by omega
      rcases h3 with e | e | e | e | e <;> rw [e] <;> decide
    omega
  · omega
/-- Two digits each of hours, minutes, seconds. -/
def sxB (S : List UInt8) : Bool := parseB (S.take 2) && parseB ((S.drop 2).take 2) && parseB ((S.drop 4).take 2) && decide (parseV (S.take 2) < 24 ∧ parseV ((S.drop 2).take 2) < 60 ∧ parseV ((S.drop 4).take 2) < 60)
def sxV (S : List UInt8) : Int := if sxB S = true then parseV (S.take 2) * 3600 + parseV ((S.drop 2).take 2) * 60 + parseV ((S.drop 4).take 2) else 0
theorem ret_ib' {a a' : Int} {b b' : Bool} (h : a = a') (k : b = b') : Ending.returned (.tuple #[.int .i64 a, .bool b]) = .returned (.tuple #[.int .i64 a', .bool b']) := by rw [h, k]
theorem sx_no {S : List UInt8} (h : sxB S = false) : sxV S = 0 := by rw [sxV, h]; rfl
set_option maxHeartbeats 3200000 in
set_option maxRecDepth 100000 in
theorem sixty_any (s : ByteArray) (S : List UInt8) (w : World) (hs : s.size = 6) (hS : Hid (s.data.toList = S)) :
    Calls Tryz.prog 75 #[.string s] w fun e w' => e = .returned (.tuple #[.int .i64 (sxV S), .bool (sxB S)]) ∧ w = w' := by
  have hsl : S.length = 6 := by rw [← hS.out, ← hs]; simp
  have E1 : Hid ((s.extract 0 2).data.toList = S.take 2) := Lib.hid (by rw [Lib.extract_data, hS.out]; simp)
  have E2 : Hid ((s.extract 2 4).data.toList = (S.drop 2).take 2) := Lib.hid (by rw [Lib.extract_data, hS.out])
  have E3 : Hid ((s.extract 4 6).data.toList = (S.drop 4).take 2) := Lib.hid (by rw [Lib.extract_data, hS.out])
  have z1 : (s.extract 0 2).size ≤ 1000 := by rw [Lib.size_eq, E1.out, List.length_take]; omega
  have z2 : (s.extract 2 4).size ≤ 1000 := by rw [Lib.size_eq, E2.out, List.length_take]; omega
  have z3 : (s.extract 4 6).size ≤ 1000 := by rw [Lib.size_eq, E3.out, List.length_take]; omega
  have Z1 := Lib.hid z1
  have Z2 := Lib.hid z2
  have Z3 := Lib.hid z3
  have HB : Hid (sxB S = (parseB (S.take 2) && parseB ((S.drop 2).take 2) && parseB ((S.drop 4).take 2) && decide (parseV (S.take 2) < 24 ∧ parseV ((S.drop 2).take 2) < 60 ∧ parseV ((S.drop 4).take 2) < 60))) := Lib.hid rfl
  have HV : Hid (sxB S = true → sxV S = parseV (S.take 2) * 3600 + parseV ((S.drop 2).take 2) * 60 + parseV ((S.drop 4).take 2)) := Lib.hid (fun h => by rw [sxV, if_pos h])
  have HN := Lib.hid (fun h => sx_no (S := S) h)
  have d1 := pv_bd (L := S.take 2) (by rw [List.length_take]; omega)
  have d2 := pv_bd (L := (S.drop 2).take 2) (by rw [List.length_take]; omega)
  have d3 := pv_bd (L := (S.drop 4).take 2) (by rw [List.length_take]; omega)
  clear z1 z2 z3
  obtain ⟨A1, h1⟩ : ∃ x, S.take 2 = x := ⟨_, rfl⟩
  obtain ⟨A2, h2⟩ : ∃ x, (S.drop 2).take 2 = x := ⟨_, rfl⟩
  obtain ⟨A3, h3⟩ : ∃ x, (S.drop 4).take 2 = x := ⟨_, rfl⟩
  rw [h1] at E1 HB HV d1
  rw [h2] at E2 HB HV d2
  rw [h3] at E3 HB HV d3
  clear h1 h2 h3
  obtain ⟨a, ha⟩ : ∃ x, parseV A1 = x := ⟨_, rfl⟩
  obtain ⟨b, hb⟩ : ∃ x, parseV A2 = x := ⟨_, rfl⟩
  obtain ⟨c, hc⟩ : ∃ x, parseV A3 = x := ⟨_, rfl⟩
  obtain ⟨p, hp⟩ : ∃ x, parseB A1 = x := ⟨_, rfl⟩
  obtain ⟨q, hq⟩ : ∃ x, parseB A2 = x := ⟨_, rfl⟩
  obtain ⟨r, hr⟩ : ∃ x, parseB A3 = x := ⟨_, rfl⟩
  have P1 := Lib.hid (And.intro ha hp)
  have P2 := Lib.hid (And.intro hb hq)
  have P3 := Lib.hid (And.intro hc hr)
  rw [ha, hb, hc, hp, hq, hr] at HB
  rw [ha, hb, hc] at HV
  rw [ha] at d1
  rw [hb] at d2
  rw [hc] at d3
  clear ha hb hc hp hq hr hsl
  obtain ⟨a0, a1⟩ := d1
  obtain ⟨b0, b1⟩ := d2
  obtain ⟨c0, c1⟩ := d3
  obtain ⟨y, hy⟩ : ∃ y, sxB S = y := ⟨_, rfl⟩
  rw [hy] at HB HV HN
  have HY := Lib.hid hy
  obtain ⟨z, hz⟩ : ∃ y, sxV S = y := ⟨_, rfl⟩
  rw [hz] at HV HN
  rw [hy, hz]
  clear hy hz
  have hcase : (p = false ∧ y = false) ∨ (p = true ∧ q = false ∧ y = false) ∨ (p = true ∧ q = true ∧ r = false ∧ y = false) ∨ (p = true ∧ q = true ∧ r = true ∧ ((24 ≤ a ∧ y = false) ∨ (a < 24 ∧ 60 ≤ b ∧ y = false) ∨ (a < 24 ∧ b < 60 ∧ 60 ≤ c ∧ y = false) ∨ (a < 24 ∧ b < 60 ∧ c < 60 ∧ y = true))) := by
    have h := HB.out
    cases p with
    | false => left; exact ⟨rfl, by rw [h]; rfl⟩
    | true =>
      right
      cases q with
      | false => left; exact ⟨rfl, rfl, by rw [h]; rfl⟩
      | true =>
        right
        cases r with
        | false => left; exact ⟨rfl, rfl, rfl, by rw [h]; rfl⟩
        | true =>
          right
          refine ⟨rfl, rfl, rfl, ?_⟩
          by_cases x1 : a < 24
          · by_cases x2 : b < 60
            · by_cases x3 : c < 60
              · right; right; right; exact ⟨x1, x2, x3, by rw [h, decide_eq_true ⟨x1, x2, x3⟩]; rfl⟩
              · right; right; left; exact ⟨x1, x2, by omega, by rw [h, decide_eq_false (fun x => x3 x.2.2)]; rfl⟩
            · right; left; exact ⟨x1, by omega, by rw [h, decide_eq_false (fun x => x2 x.2.1)]; rfl⟩
          · left; exact ⟨by omega, by rw [h, decide_eq_false (fun x => x1 x.1)]; rfl⟩
  clear HB
  rcases hcase with ⟨rfl, rfl⟩ | ⟨rfl, rfl, rfl⟩ | ⟨rfl, rfl, rfl, rfl⟩ | ⟨rfl, rfl, rfl, ⟨x1, rfl⟩ | ⟨x1, x2, rfl⟩ | ⟨x1, x2, x3, rfl⟩ | ⟨x1, x2, x3, rfl⟩⟩
  all_goals
    first | have HZ := Lib.hid (HN.out rfl) | have HZ := Lib.hid (HV.out rfl)
    clear HN HV
    go_enter Tryz.func75, Tryz.ntmps75
    go_wp2_with fail
    refine (parse_at _ A1 a _ _ Z1.out E1 P1).mono ?_
    rintro e w1 ⟨rfl, rfl⟩
    go_wp2_with fail
    refine (parse_at _ A2 b _ _ Z2.out E2 P2).mono ?_
    rintro e w1 ⟨rfl, rfl⟩
    go_wp2_with fail
    refine (parse_at _ A3 c _ _ Z3.out E3 P3).mono ?_
    rintro e w1 ⟨rfl, rfl⟩
    go_wp2
    go_ret2
    refine ⟨ret_ib' (Eq.symm ?_) rfl, rfl⟩
    exact HZ.out
end Val
end Go.Proofs.YtbeefhmnoihmcaaGreatDoor
