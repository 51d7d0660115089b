/-
  Contracts of package onform: dayOf, lastOf, beside, Parse, Text.
-/
import Derived.Test.YtpcnpacllkiieaaGreatDoorWords4
import Derived.Test.YtpcnpacllkiieaaGreatDoorPow
import Derived.Test.YtpcnpacllkiieaaGreatDoorWeek2
namespace Go.Proofs.YtpcnpacllkiieaaGreatDoor
open Go.RowKit
namespace Onf
open Sol Wrd
theorem parse_at (s : ByteArray) (L : List UInt8) (v : Int) (b : Bool) (w : World) (hs : s.size ≤ maxLen) (hL : Hid (s.data.toList = L)) (hv : Hid (parseV L = v)) (hb : Hid (parseB L = b)) :
    Calls Tryz.prog 109 #[.string s] w fun e w' => e = .returned (.tuple #[.int .i64 v, .bool b]) ∧ w = w' :=
  (parse_any s w hs).mono fun _ _ ⟨he, hw⟩ => ⟨by rw [he, hL.out, hv.out, hb.out], hw⟩
theorem text_at (n d : Int) (T : List UInt8) (w : World) (n1 : -9223372036854775808 ≤ n) (n2 : n ≤ 9223372036854775807) (d1 : -9223372036854775808 ≤ d) (d2 : d ≤ 9223372036854775807) (hp : Pow w) (h : Hid (textL n d = T)) :
    Calls Tryz.prog 47 #[.int .i64 n, .int .i64 d] w fun e w' => e = .returned (.string ⟨T.toArray⟩) ∧ Below w.heap.size w w' :=
  (text_any n d w n1 n2 d1 d2 hp.here).mono fun _ _ ⟨he, hw⟩ => ⟨by rw [he, h.out], hw⟩
theorem bytes_eq {s t : ByteArray} (h : s.data.toList = t.data.toList) : s = t := ByteArray.ext (Array.toList_inj.1 h)
/-- A day of a month. -/
def dayB (S : List UInt8) : Bool := parseB S && decide (S.length ≤ 2 ∧ 1 ≤ parseV S ∧ parseV S ≤ 31)
theorem day_cases {S : List UInt8} {v : Int} {b : Bool} (hv : parseV S = v) (h : dayB S = b) : (parseB S = false ∧ b = false) ∨ (parseB S = true ∧ ¬ S.length ≤ 2 ∧ b = false) ∨ (parseB S = true ∧ S.length ≤ 2 ∧ v < 1 ∧ b = false) ∨ (parseB S = true ∧ S.length ≤ 2 ∧ 1 ≤ v ∧ 31 < v ∧ b = false) ∨ (parseB S = true ∧ S.length ≤ 2 ∧ 1 ≤ v ∧ v ≤ 31 ∧ b = true) := by
  subst hv
  cases hp : parseB S with
  | false => exact Or.inl ⟨rfl, by rw [← h, dayB, hp]; rfl⟩
  | true =>
    by_cases h1 : S.length ≤ 2
    · by_cases h2 : 1 ≤ parseV S
      · by_cases h3 : parseV S ≤ 31
        · exact Or.inr (Or.inr (Or.inr (Or.inr ⟨rfl, h1, h2, h3, by rw [← h, dayB, hp, decide_eq_true ⟨h1, h2, h3⟩]; rfl⟩)))
        · exact Or.inr (Or.inr (Or.inr (Or.inl ⟨rfl, h1, h2, by omega, by rw [← h, dayB, hp, decide_eq_false (fun x => h3 x.2.2)]; rfl⟩)))
      · exact Or.inr (Or.inr (Or.inl ⟨rfl, h1, by omega, by rw [← h, dayB, hp, decide_eq_false (fun x => h2 x.2.1)]; rfl⟩))
    · exact Or.inr (Or.inl ⟨rfl, h1, by rw [← h, dayB, hp, decide_eq_false (fun x => h1 x.1)]; rfl⟩)
set_option maxHeartbeats 1600000 in
theorem dayOf_to (s : ByteArray) (S : List UInt8) (v : Int) (b : Bool) (w : World) (hs : s.size ≤ 1000) (hS : Hid (s.data.toList = S)) (h : Hid (parseV S = v ∧ dayB S = b)) :
    Calls Tryz.prog 122 #[.string s] w fun e w' => e = .returned (.tuple #[.int .i64 v, .bool b]) ∧ w = w' := by
  have hm : Hid (s.size ≤ maxLen) := Lib.hid (by unfold maxLen; omega)
  have hsl : s.size = S.length := by rw [← hS.out]; simp
  have HV := Lib.hid h.out.1
  rcases day_cases h.out.1 h.out.2 with ⟨hp, rfl⟩ | ⟨hp, h1, rfl⟩ | ⟨hp, h1, h2, rfl⟩ | ⟨hp, h1, h2, h3, rfl⟩ | ⟨hp, h1, h2, h3, rfl⟩
  · have HP := Lib.hid hp
    clear hp h hsl
    go_enter Tryz.func122, Tryz.ntmps122
    go_wp2_with fail
    refine (parse_at s S v false _ hm.out hS HV HP).mono ?_
    rintro e w1 ⟨rfl, rfl⟩
    go_wp2
    go_ret2
    exact ⟨rfl, rfl⟩
  · have HP := Lib.hid hp
    have h1' : 2 < s.size := by omega
    clear hp h hsl h1
    go_enter Tryz.func122, Tryz.ntmps122
    go_wp2_with fail
    refine (parse_at s S v true _ hm.out hS HV HP).mono ?_
    rintro e w1 ⟨rfl, rfl⟩
    go_wp2
    go_ret2
    exact ⟨rfl, rfl⟩
  all_goals
    have HP := Lib.hid hp
    have h1' : s.size ≤ 2 := by omega
    clear hp h hsl h1
    go_enter Tryz.func122, Tryz.ntmps122
    go_wp2_with fail
    refine (parse_at s S v true _ hm.out hS HV HP).mono ?_
    rintro e w1 ⟨rfl, rfl⟩
    go_wp2
    go_ret2
    exact ⟨ret_ib rfl (by first | rfl | (exact decide_eq_false (by omega)) | (exact decide_eq_true (by omega))), rfl⟩
theorem ret_a3 {a a' b b' c c' d d' : Int} (h1 : a = a') (h2 : b = b') (h3 : c = c') (h4 : d = d') : Ending.returned (.tuple #[.agg #[.int .i64 a, .int .i64 b, .int .i64 c], .int .i64 d]) = .returned (.tuple #[.agg #[.int .i64 a', .int .i64 b', .int .i64 c'], .int .i64 d']) := by rw [h1, h2, h3, h4]
/-- The form of the last weekday of a name. -/
def lastP (N : List UInt8) : Int × Int × Int × Int := if (wdP 3 N).2 = 0 then (2, (wdP 3 N).1, 0, 0) else (0, 0, 0, 8)
/-- The form of a weekday beside a day. -/
def besP (k : Int) (N D : List UInt8) : Int × Int × Int × Int := if (wdP 3 N).2 = 0 ∧ dayB D = true then (k, (wdP 3 N).1, parseV D, 0) else (0, 0, 0, 8)
theorem fgo_err (f m : Int) (S : List UInt8) (L : List (List UInt8)) (i fv cv : Int) : (fgo f m S L i fv cv).2 = 0 ∨ fgo f m S L i fv cv = (0, 7) := by
  induction L generalizing i fv cv with
  | nil => unfold fgo; split <;> simp
  | cons x xs ih =>
    unfold fgo
    split
    · exact Or.inl rfl
    · split
      · exact ih _ _ _
      · exact ih _ _ _
theorem wd_err (k : Int) (S : List UInt8) : (wdP k S).2 = 0 ∨ wdP k S = (0, 7) := fgo_err _ _ _ _ _ _ _
set_option maxHeartbeats 1600000 in
set_option maxRecDepth 100000 in
theorem lastOf_to (s : ByteArray) (S : List UInt8) (a b c e : Int) (w : World) (hs : s.size ≤ 1000) (hS : Hid (s.data.toList = S)) (h : Hid (lastP S = (a, b, c, e))) :
    Calls Tryz.prog 124 #[.string s] w fun x w' => x = .returned (.tuple #[.agg #[.int .i64 a, .int .i64 b, .int .i64 c], .int .i64 e]) ∧ Below w.heap.size w w' := by
  rcases wd_err 3 S with he | he
  · obtain ⟨v, hv⟩ : ∃ v, (wdP 3 S).1 = v := ⟨_, rfl⟩
    have HW : Hid (wdP 3 S = (v, 0)) := Lib.hid (by rw [← hv, ← he])
    have E : a = 2 ∧ b = v ∧ c = 0 ∧ e = 0 := by have := h.out; rw [lastP, if_pos he, hv] at this; simp at this; omega
    obtain ⟨rfl, rfl, rfl, rfl⟩ := E
    clear h he hv
    go_enter Tryz.func124, Tryz.ntmps124
    go_wp2_with fail
    refine (wkd_to s S b 0 _ hs hS HW).mono ?_
    rintro e w1 ⟨rfl, hb⟩
    have z0 : w1.cell? ⟨w.heap.size, 0, none⟩ = some (.int .i64 0) := (hb.cell (p := ⟨w.heap.size, 0, none⟩) (by simp)).trans (by go_simp)
    have z1 : w1.cell? ⟨w.heap.size, 1, none⟩ = some (.int .i64 0) := (hb.cell (p := ⟨w.heap.size, 1, none⟩) (by simp)).trans (by go_simp)
    have z2 : w1.cell? ⟨w.heap.size, 2, none⟩ = some (.int .i64 0) := (hb.cell (p := ⟨w.heap.size, 2, none⟩) (by simp)).trans (by go_simp)
    have f0 : w1.frozen? ⟨w.heap.size, 0, none⟩ = false := (hb.frozen (p := ⟨w.heap.size, 0, none⟩) (by simp)).trans (by go_simp)
    have f1 : w1.frozen? ⟨w.heap.size, 1, none⟩ = false := (hb.frozen (p := ⟨w.heap.size, 1, none⟩) (by simp)).trans (by go_simp)
    have f2 : w1.frozen? ⟨w.heap.size, 2, none⟩ = false := (hb.frozen (p := ⟨w.heap.size, 2, none⟩) (by simp)).trans (by go_simp)
    have hB1 : Below w.heap.size w w1 := ((Below.refl _ _).alloc (Nat.le_refl _) _).trans (hb.mono (by simp))
    clear hb
    go_wp2
    exact bodyPost_ret (v := .tuple #[.agg #[.int .i64 2, .int .i64 b, .int .i64 0], .int .i64 0]) (by simp [results, Tryz.results124, go_sem, z0, z1, z2]) rfl ⟨rfl, by repeat (first | exact hB1 | refine Below.setCell ?_ (by simp) _)⟩
  · have HW := Lib.hid he
    have E : a = 0 ∧ b = 0 ∧ c = 0 ∧ e = 8 := by have := h.out; rw [lastP, he] at this; simp at this; omega
    obtain ⟨rfl, rfl, rfl, rfl⟩ := E
    clear h he
    go_enter Tryz.func124, Tryz.ntmps124
    go_wp2_with fail
    refine (wkd_to s S 0 7 _ hs hS HW).mono ?_
    rintro e w1 ⟨rfl, hb⟩
    have z0 : w1.cell? ⟨w.heap.size, 0, none⟩ = some (.int .i64 0) := (hb.cell (p := ⟨w.heap.size, 0, none⟩) (by simp)).trans (by go_simp)
    have z1 : w1.cell? ⟨w.heap.size, 1, none⟩ = some (.int .i64 0) := (hb.cell (p := ⟨w.heap.size, 1, none⟩) (by simp)).trans (by go_simp)
    have z2 : w1.cell? ⟨w.heap.size, 2, none⟩ = some (.int .i64 0) := (hb.cell (p := ⟨w.heap.size, 2, none⟩) (by simp)).trans (by go_simp)
    have f0 : w1.frozen? ⟨w.heap.size, 0, none⟩ = false := (hb.frozen (p := ⟨w.heap.size, 0, none⟩) (by simp)).trans (by go_simp)
    have f1 : w1.frozen? ⟨w.heap.size, 1, none⟩ = false := (hb.frozen (p := ⟨w.heap.size, 1, none⟩) (by simp)).trans (by go_simp)
    have f2 : w1.frozen? ⟨w.heap.size, 2, none⟩ = false := (hb.frozen (p := ⟨w.heap.size, 2, none⟩) (by simp)).trans (by go_simp)
    have hB1 : Below w.heap.size w w1 := ((Below.refl _ _).alloc (Nat.le_refl _) _).trans (hb.mono (by simp))
    clear hb
    go_wp2
    exact bodyPost_ret (v := .tuple #[.agg #[.int .i64 0, .int .i64 0, .int .i64 0], .int .i64 8]) (by simp [results, Tryz.results124, go_sem, z0, z1, z2]) rfl ⟨rfl, by repeat (first | exact hB1 | refine Below.setCell ?_ (by simp) _)⟩
set_option maxHeartbeats 1600000 in
set_option maxRecDepth 100000 in
theorem bes_to (k : Int) (s d : ByteArray) (S D : List UInt8) (a b c e : Int) (w : World) (hs : s.size ≤ 1000) (hd : d.size ≤ 1000) (hS : Hid (s.data.toList = S)) (hD : Hid (d.data.toList = D)) (h : Hid (besP k S D = (a, b, c, e))) :
    Calls Tryz.prog 126 #[.int .i64 k, .string s, .string d] w fun x w' => x = .returned (.tuple #[.agg #[.int .i64 a, .int .i64 b, .int .i64 c], .int .i64 e]) ∧ Below w.heap.size w w' := by
  obtain ⟨dv, hdv⟩ : ∃ v, parseV D = v := ⟨_, rfl⟩
  obtain ⟨db, hdb⟩ : ∃ v, dayB D = v := ⟨_, rfl⟩
  have HD := Lib.hid (And.intro hdv hdb)
  have HH := h.out
  rw [besP, hdv, hdb] at HH
  clear hdv hdb h
  rcases wd_err 3 S with he | he
  · obtain ⟨v, hv⟩ : ∃ v, (wdP 3 S).1 = v := ⟨_, rfl⟩
    have HW : Hid (wdP 3 S = (v, 0)) := Lib.hid (by rw [← hv, ← he])
    rw [he, hv] at HH
    clear he hv
    cases db with
    | true =>
      have E : a = k ∧ b = v ∧ c = dv ∧ e = 0 := by simp at HH; omega
      obtain ⟨rfl, rfl, rfl, rfl⟩ := E
      clear HH
      go_enter Tryz.func126, Tryz.ntmps126
      go_wp2_with fail
      refine (wkd_to s S b 0 _ hs hS HW).mono ?_
      rintro e w1 ⟨rfl, hb⟩
      have z0 : w1.cell? ⟨w.heap.size, 0, none⟩ = some (.int .i64 0) := (hb.cell (p := ⟨w.heap.size, 0, none⟩) (by simp)).trans (by go_simp)
      have z1 : w1.cell? ⟨w.heap.size, 1, none⟩ = some (.int .i64 0) := (hb.cell (p := ⟨w.heap.size, 1, none⟩) (by simp)).trans (by go_simp)
      have z2 : w1.cell? ⟨w.heap.size, 2, none⟩ = some (.int .i64 0) := (hb.cell (p := ⟨w.heap.size, 2, none⟩) (by simp)).trans (by go_simp)
      have f0 : w1.frozen? ⟨w.heap.size, 0, none⟩ = false := (hb.frozen (p := ⟨w.heap.size, 0, none⟩) (by simp)).trans (by go_simp)
      have f1 : w1.frozen? ⟨w.heap.size, 1, none⟩ = false := (hb.frozen (p := ⟨w.heap.size, 1, none⟩) (by simp)).trans (by go_simp)
      have f2 : w1.frozen? ⟨w.heap.size, 2, none⟩ = false := (hb.frozen (p := ⟨w.heap.size, 2, none⟩) (by simp)).trans (by go_simp)
      have hB1 : Below w.heap.size w w1 := ((Below.refl _ _).alloc (Nat.le_refl _) _).trans (hb.mono (by simp))
      clear hb
      go_wp2_with fail
      refine (dayOf_to d D c true _ hd hD HD).mono ?_
      rintro e w2 ⟨rfl, rfl⟩
      go_wp2
      exact bodyPost_ret (v := .tuple #[.agg #[.int .i64 a, .int .i64 b, .int .i64 c], .int .i64 0]) (by simp [results, Tryz.results126, go_sem, z0, z1, z2]) rfl ⟨rfl, by repeat (first | exact hB1 | refine Below.setCell ?_ (by simp) _)⟩
    | false =>
      have E : a = 0 ∧ b = 0 ∧ c = 0 ∧ e = 8 := by simp at HH; omega
      obtain ⟨rfl, rfl, rfl, rfl⟩ := E
      clear HH
      go_enter Tryz.func126, Tryz.ntmps126
      go_wp2_with fail
      refine (wkd_to s S v 0 _ hs hS HW).mono ?_
      rintro e w1 ⟨rfl, hb⟩
      have z0 : w1.cell? ⟨w.heap.size, 0, none⟩ = some (.int .i64 0) := (hb.cell (p := ⟨w.heap.size, 0, none⟩) (by simp)).trans (by go_simp)
      have z1 : w1.cell? ⟨w.heap.size, 1, none⟩ = some (.int .i64 0) := (hb.cell (p := ⟨w.heap.size, 1, none⟩) (by simp)).trans (by go_simp)
      have z2 : w1.cell? ⟨w.heap.size, 2, none⟩ = some (.int .i64 0) := (hb.cell (p := ⟨w.heap.size, 2, none⟩) (by simp)).trans (by go_simp)
      have f0 : w1.frozen? ⟨w.heap.size, 0, none⟩ = false := (hb.frozen (p := ⟨w.heap.size, 0, none⟩) (by simp)).trans (by go_simp)
      have f1 : w1.frozen? ⟨w.heap.size, 1, none⟩ = false := (hb.frozen (p := ⟨w.heap.size, 1, none⟩) (by simp)).trans (by go_simp)
      have f2 : w1.frozen? ⟨w.heap.size, 2, none⟩ = false := (hb.frozen (p := ⟨w.heap.size, 2, none⟩) (by simp)).trans (by go_simp)
      have hB1 : Below w.heap.size w w1 := ((Below.refl _ _).alloc (Nat.le_refl _) _).trans (hb.mono (by simp))
      clear hb
      go_wp2_with fail
      refine (dayOf_to d D dv false _ hd hD HD).mono ?_
      rintro e w2 ⟨rfl, rfl⟩
      go_wp2
      exact bodyPost_ret (v := .tuple #[.agg #[.int .i64 0, .int .i64 0, .int .i64 0], .int .i64 8]) (by simp [results, Tryz.results126, go_sem, z0, z1, z2]) rfl ⟨rfl, by repeat (first | exact hB1 | refine Below.setCell ?_ (by simp) _)⟩
  · have HW := Lib.hid he
    have E : a = 0 ∧ b = 0 ∧ c = 0 ∧ e = 8 := by rw [he] at HH; simp at HH; omega
    obtain ⟨rfl, rfl, rfl, rfl⟩ := E
    clear HH he
    go_enter Tryz.func126, Tryz.ntmps126
    go_wp2_with fail
    refine (wkd_to s S 0 7 _ hs hS HW).mono ?_
    rintro e w1 ⟨rfl, hb⟩
    have z0 : w1.cell? ⟨w.heap.size, 0, none⟩ = some (.int .i64 0) := (hb.cell (p := ⟨w.heap.size, 0, none⟩) (by simp)).trans (by go_simp)
    have z1 : w1.cell? ⟨w.heap.size, 1, none⟩ = some (.int .i64 0) := (hb.cell (p := ⟨w.heap.size, 1, none⟩) (by simp)).trans (by go_simp)
    have z2 : w1.cell? ⟨w.heap.size, 2, none⟩ = some (.int .i64 0) := (hb.cell (p := ⟨w.heap.size, 2, none⟩) (by simp)).trans (by go_simp)
    have f0 : w1.frozen? ⟨w.heap.size, 0, none⟩ = false := (hb.frozen (p := ⟨w.heap.size, 0, none⟩) (by simp)).trans (by go_simp)
    have f1 : w1.frozen? ⟨w.heap.size, 1, none⟩ = false := (hb.frozen (p := ⟨w.heap.size, 1, none⟩) (by simp)).trans (by go_simp)
    have f2 : w1.frozen? ⟨w.heap.size, 2, none⟩ = false := (hb.frozen (p := ⟨w.heap.size, 2, none⟩) (by simp)).trans (by go_simp)
    have hB1 : Below w.heap.size w w1 := ((Below.refl _ _).alloc (Nat.le_refl _) _).trans (hb.mono (by simp))
    clear hb
    go_wp2_with fail
    refine (dayOf_to d D dv db _ hd hD HD).mono ?_
    rintro e w2 ⟨rfl, rfl⟩
    go_wp2
    exact bodyPost_ret (v := .tuple #[.agg #[.int .i64 0, .int .i64 0, .int .i64 0], .int .i64 8]) (by simp [results, Tryz.results126, go_sem, z0, z1, z2]) rfl ⟨rfl, by repeat (first | exact hB1 | refine Below.setCell ?_ (by simp) _)⟩
end Onf
end Go.Proofs.YtpcnpacllkiieaaGreatDoor
