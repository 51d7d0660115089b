/-
  Several texts in one (Onf, Onf2, OnBad, OnBack).
-/
import Derived.Lib.IndexMore
import Derived.Test.YthefgagmjamdkaaGreatDoorBdC
import Derived.Test.YthefgagmjamdkaaGreatDoorBdD
import Derived.Deep.DeepCutAuto
/-
  Contracts of package onform: dayOf, lastOf, beside, Parse, Text.
-/
namespace Go.Proofs.YthefgagmjamdkaaGreatDoor
open Go.RowKit
namespace Onf
open Sol Wrd
theorem parse_at (s : ByteArray) (L : List UInt8) (v : Int) (b : Bool) (w : World) (hs : s.size ≤ maxLen) (hL : Hid (s.data.toList = L)) (hv : Hid (parseV L = v)) (hb : Hid (parseB L = b)) :
    Calls Tryz.prog 51 #[.string s] w fun e w' => e = .returned (.tuple #[.int .i64 v, .bool b]) ∧ w = w' :=
  (parse_any s w hs).mono fun _ _ ⟨he, hw⟩ => ⟨by rw [he, hL.out, hv.out, hb.out], hw⟩
theorem text_at (n d : Int) (T : List UInt8) (w : World) (n1 : -9223372036854775808 ≤ n) (n2 : n ≤ 9223372036854775807) (d1 : -9223372036854775808 ≤ d) (d2 : d ≤ 9223372036854775807) (hp : Pow w) (h : Hid (textL n d = T)) :
    Calls Tryz.prog 56 #[.int .i64 n, .int .i64 d] w fun e w' => e = .returned (.string ⟨T.toArray⟩) ∧ Below w.heap.size w w' :=
  (text_any n d w n1 n2 d1 d2 hp.here).mono fun _ _ ⟨he, hw⟩ => ⟨by rw [he, h.out], hw⟩
theorem bytes_eq {s t : ByteArray} (h : s.data.toList = t.data.toList) : s = t := ByteArray.ext (Array.toList_inj.1 h)
/-- A day of a month. -/
def dayB (S : List UInt8) : Bool := parseB S && decide (S.length ≤ 2 ∧ 1 ≤ parseV S ∧ parseV S ≤ 31)
theorem day_cases {S : List UInt8} {v : Int} {b : Bool} (hv : parseV S = v) (h : dayB S = b) : (parseB S = false ∧ b = false) ∨ (parseB S = true ∧ ¬ S.length ≤ 2 ∧ b = false) ∨ (parseB S = true ∧ S.length ≤ 2 ∧ v < 1 ∧ b = false) ∨ (parseB S = true ∧ S.length ≤ 2 ∧ 1 ≤ v ∧ 31 < v ∧ b = false) ∨ (parseB S = true ∧ S.length ≤ 2 ∧ 1 ≤ v ∧ v ≤ 31 ∧ b = true) := by
  subst hv
  cases hp : parseB S with
  | false => exact Or.inl ⟨rfl, by rw [← h, dayB, hp]; rfl⟩
  | true =>
    by_cases h1 : S.length ≤ 2
    · by_cases h2 : 1 ≤ parseV S
      · by_cases h3 : parseV S ≤ 31
        · exact Or.inr (Or.inr (Or.inr (Or.inr ⟨rfl, h1, h2, h3, by rw [← h, dayB, hp, decide_eq_true ⟨h1, h2, h3⟩]; rfl⟩)))
        · exact Or.inr (Or.inr (Or.inr (Or.inl ⟨rfl, h1, h2, by omega, by rw [← h, dayB, hp, decide_eq_false (fun x => h3 x.2.2)]; rfl⟩)))
      · exact Or.inr (Or.inr (Or.inl ⟨rfl, h1, by omega, by rw [← h, dayB, hp, decide_eq_false (fun x => h2 x.2.1)]; rfl⟩))
    · exact Or.inr (Or.inl ⟨rfl, h1, by rw [← h, dayB, hp, decide_eq_false (fun x => h1 x.1)]; rfl⟩)
set_option maxHeartbeats 1600000 in
theorem dayOf_to (s : ByteArray) (S : List UInt8) (v : Int) (b : Bool) (w : World) (hs : s.size ≤ 1000) (hS : Hid (s.data.toList = S)) (h : Hid (parseV S = v ∧ dayB S = b)) :
    Calls Tryz.prog 95 #[.string s] w fun e w' => e = .returned (.tuple #[.int .i64 v, .bool b]) ∧ w = w' := by
  have hm : Hid (s.size ≤ maxLen) := Lib.hid (by unfold maxLen; omega)
  have hsl : s.size = S.length := by rw [← hS.out]; simp
  have HV := Lib.hid h.out.1
  rcases day_cases h.out.1 h.out.2 with ⟨hp, rfl⟩ | ⟨hp, h1, rfl⟩ | ⟨hp, h1, h2, rfl⟩ | ⟨hp, h1, h2, h3, rfl⟩ | ⟨hp, h1, h2, h3, rfl⟩
  · have HP := Lib.hid hp
    clear hp h hsl
    go_enter Tryz.func95, Tryz.ntmps95
    go_wp2_with fail
    refine (parse_at s S v false _ hm.out hS HV HP).mono ?_
    rintro e w1 ⟨rfl, rfl⟩
    go_wp2
    go_ret2
    exact ⟨rfl, rfl⟩
  · have HP := Lib.hid hp
    have h1' : 2 < s.size := by omega
    clear hp h hsl h1
    go_enter Tryz.func95, Tryz.ntmps95
    go_wp2_with fail
    refine (parse_at s S v true _ hm.out hS HV HP).mono ?_
    rintro e w1 ⟨rfl, rfl⟩
    go_wp2
    go_ret2
    exact ⟨rfl, rfl⟩
  all_goals
    have HP := Lib.hid hp
    have h1' : s.size ≤ 2 := by omega
    clear hp h hsl h1
    go_enter Tryz.func95, Tryz.ntmps95
    go_wp2_with fail
    refine (parse_at s S v true _ hm.out hS HV HP).mono ?_
    rintro e w1 ⟨rfl, rfl⟩
    go_wp2
    go_ret2
    exact ⟨ret_ib rfl (by first | rfl | (exact decide_eq_false (by omega)) | (exact decide_eq_true (by omega))), rfl⟩
theorem ret_a3 {a a' b b' c c' d d' : Int} (h1 : a = a') (h2 : b = b') (h3 : c = c') (h4 : d = d') : Ending.returned (.tuple #[.agg #[.int .i64 a, .int .i64 b, .int .i64 c], .int .i64 d]) = .returned (.tuple #[.agg #[.int .i64 a', .int .i64 b', .int .i64 c'], .int .i64 d']) := by rw [h1, h2, h3, h4]
/-- The form of the last weekday of a name. -/
def lastP (N : List UInt8) : Int × Int × Int × Int := if (wdP 3 N).2 = 0 then (2, (wdP 3 N).1, 0, 0) else (0, 0, 0, 8)
/-- The form of a weekday beside a day. -/
def besP (k : Int) (N D : List UInt8) : Int × Int × Int × Int := if (wdP 3 N).2 = 0 ∧ dayB D = true then (k, (wdP 3 N).1, parseV D, 0) else (0, 0, 0, 8)
theorem fgo_err (f m : Int) (S : List UInt8) (L : List (List UInt8)) (i fv cv : Int) : (fgo f m S L i fv cv).2 = 0 ∨ fgo f m S L i fv cv = (0, 7) := by
  induction L generalizing i fv cv with
  | nil => unfold fgo; split <;> simp
  | cons x xs ih =>
    unfold fgo
    split
    · exact Or.inl rfl
    · split
      · exact ih _ _ _
      · exact ih _ _ _
theorem wd_err (k : Int) (S : List UInt8) : (wdP k S).2 = 0 ∨ wdP k S = (0, 7) := fgo_err _ _ _ _ _ _ _
set_option maxHeartbeats 1600000 in
set_option maxRecDepth 100000 in
theorem lastOf_to (s : ByteArray) (S : List UInt8) (a b c e : Int) (w : World) (hs : s.size ≤ 1000) (hS : Hid (s.data.toList = S)) (h : Hid (lastP S = (a, b, c, e))) :
    Calls Tryz.prog 97 #[.string s] w fun x w' => x = .returned (.tuple #[.agg #[.int .i64 a, .int .i64 b, .int .i64 c], .int .i64 e]) ∧ Below w.heap.size w w' := by
  rcases wd_err 3 S with he | he
  · obtain ⟨v, hv⟩ : ∃ v, (wdP 3 S).1 = v := ⟨_, rfl⟩
    have HW : Hid (wdP 3 S = (v, 0)) := Lib.hid (by rw [← hv, ← he])
    have E : a = 2 ∧ b = v ∧ c = 0 ∧ e = 0 := by have := h.out; rw [lastP, if_pos he, hv] at this; simp at this; omega
    obtain ⟨rfl, rfl, rfl, rfl⟩ := E
    clear h he hv
    go_enter Tryz.func97, Tryz.ntmps97
    go_wp2_with fail
    refine (wkd_to s S b 0 _ hs hS HW).mono ?_
    rintro e w1 ⟨rfl, hb⟩
    have z0 : w1.cell? ⟨w.heap.size, 0, none⟩ = some (.int .i64 0) := (hb.cell (p := ⟨w.heap.size, 0, none⟩) (by simp)).trans (by go_simp)
    have z1 : w1.cell? ⟨w.heap.size, 1, none⟩ = some (.int .i64 0) := (hb.cell (p := ⟨w.heap.size, 1, none⟩) (by simp)).trans (by go_simp)
    have z2 : w1.cell? ⟨w.heap.size, 2, none⟩ = some (.int .i64 0) := (hb.cell (p := ⟨w.heap.size, 2, none⟩) (by simp)).trans (by go_simp)
    have f0 : w1.frozen? ⟨w.heap.size, 0, none⟩ = false := (hb.frozen (p := ⟨w.heap.size, 0, none⟩) (by simp)).trans (by go_simp)
    have f1 : w1.frozen? ⟨w.heap.size, 1, none⟩ = false := (hb.frozen (p := ⟨w.heap.size, 1, none⟩) (by simp)).trans (by go_simp)
    have f2 : w1.frozen? ⟨w.heap.size, 2, none⟩ = false := (hb.frozen (p := ⟨w.heap.size, 2, none⟩) (by simp)).trans (by go_simp)
    have hB1 : Below w.heap.size w w1 := ((Below.refl _ _).alloc (Nat.le_refl _) _).trans (hb.mono (by simp))
    clear hb
    go_wp2
    exact bodyPost_ret (v := .tuple #[.agg #[.int .i64 2, .int .i64 b, .int .i64 0], .int .i64 0]) (by simp [results, Tryz.results97, go_sem, z0, z1, z2]) rfl ⟨rfl, by repeat (first | exact hB1 | refine Below.setCell ?_ (by simp) _)⟩
  · have HW := Lib.hid he
    have E : a = 0 ∧ b = 0 ∧ c = 0 ∧ e = 8 := by have := h.out; rw [lastP, he] at this; simp at this; omega
    obtain ⟨rfl, rfl, rfl, rfl⟩ := E
    clear h he
    go_enter Tryz.func97, Tryz.ntmps97
    go_wp2_with fail
    refine (wkd_to s S 0 7 _ hs hS HW).mono ?_
    rintro e w1 ⟨rfl, hb⟩
    have z0 : w1.cell? ⟨w.heap.size, 0, none⟩ = some (.int .i64 0) := (hb.cell (p := ⟨w.heap.size, 0, none⟩) (by simp)).trans (by go_simp)
    have z1 : w1.cell? ⟨w.heap.size, 1, none⟩ = some (.int .i64 0) := (hb.cell (p := ⟨w.heap.size, 1, none⟩) (by simp)).trans (by go_simp)
    have z2 : w1.cell? ⟨w.heap.size, 2, none⟩ = some (.int .i64 0) := (hb.cell (p := ⟨w.heap.size, 2, none⟩) (by simp)).trans (by go_simp)
    have f0 : w1.frozen? ⟨w.heap.size, 0, none⟩ = false := (hb.frozen (p := ⟨w.heap.size, 0, none⟩) (by simp)).trans (by go_simp)
    have f1 : w1.frozen? ⟨w.heap.size, 1, none⟩ = false := (hb.frozen (p := ⟨w.heap.size, 1, none⟩) (by simp)).trans (by go_simp)
    have f2 : w1.frozen? ⟨w.heap.size, 2, none⟩ = false := (hb.frozen (p := ⟨w.heap.size, 2, none⟩) (by simp)).trans (by go_simp)
    have hB1 : Below w.heap.size w w1 := ((Below.refl _ _).alloc (Nat.le_refl _) _).trans (hb.mono (by simp))
    clear hb
    go_wp2
    exact bodyPost_ret (v := .tuple #[.agg #[.int .i64 0, .int .i64 0, .int .i64 0], .int .i64 8]) (by simp [results, Tryz.results97, go_sem, z0, z1, z2]) rfl ⟨rfl, by repeat (first | exact hB1 | refine Below.setCell ?_ (by simp) _)⟩
set_option maxHeartbeats 1600000 in
set_option maxRecDepth 100000 in
theorem bes_to (k : Int) (s d : ByteArray) (S D : List UInt8) (a b c e : Int) (w : World) (hs : s.size ≤ 1000) (hd : d.size ≤ 1000) (hS : Hid (s.data.toList = S)) (hD : Hid (d.data.toList = D)) (h : Hid (besP k S D = (a, b, c, e))) :
    Calls Tryz.prog 99 #[.int .i64 k, .string s, .string d] w fun x w' => x = .returned (.tuple #[.agg #[.int .i64 a, .int .i64 b, .int .i64 c], .int .i64 e]) ∧ Below w.heap.size w w' := by
  obtain ⟨dv, hdv⟩ : ∃ v, parseV D = v := ⟨_, rfl⟩
  obtain ⟨db, hdb⟩ : ∃ v, dayB D = v := ⟨_, rfl⟩
  have HD := Lib.hid (And.intro hdv hdb)
  have HH := h.out
  rw [besP, hdv, hdb] at HH
  clear hdv hdb h
  rcases wd_err 3 S with he | he
  · obtain ⟨v, hv⟩ : ∃ v, (wdP 3 S).1 = v := ⟨_, rfl⟩
    have HW : Hid (wdP 3 S = (v, 0)) := Lib.hid (by rw [← hv, ← he])
    rw [he, hv] at HH
    clear he hv
    cases db with
    | true =>
      have E : a = k ∧ b = v ∧ c = dv ∧ e = 0 := by simp at HH; omega
      obtain ⟨rfl, rfl, rfl, rfl⟩ := E
      clear HH
      go_enter Tryz.func99, Tryz.ntmps99
      go_wp2_with fail
      refine (wkd_to s S b 0 _ hs hS HW).mono ?_
      rintro e w1 ⟨rfl, hb⟩
      have z0 : w1.cell? ⟨w.heap.size, 0, none⟩ = some (.int .i64 0) := (hb.cell (p := ⟨w.heap.size, 0, none⟩) (by simp)).trans (by go_simp)
      have z1 : w1.cell? ⟨w.heap.size, 1, none⟩ = some (.int .i64 0) := (hb.cell (p := ⟨w.heap.size, 1, none⟩) (by simp)).trans (by go_simp)
      have z2 : w1.cell? ⟨w.heap.size, 2, none⟩ = some (.int .i64 0) := (hb.cell (p := ⟨w.heap.size, 2, none⟩) (by simp)).trans (by go_simp)
      have f0 : w1.frozen? ⟨w.heap.size, 0, none⟩ = false := (hb.frozen (p := ⟨w.heap.size, 0, none⟩) (by simp)).trans (by go_simp)
      have f1 : w1.frozen? ⟨w.heap.size, 1, none⟩ = false := (hb.frozen (p := ⟨w.heap.size, 1, none⟩) (by simp)).trans (by go_simp)
      have f2 : w1.frozen? ⟨w.heap.size, 2, none⟩ = false := (hb.frozen (p := ⟨w.heap.size, 2, none⟩) (by simp)).trans (by go_simp)
      have hB1 : Below w.heap.size w w1 := ((Below.refl _ _).alloc (Nat.le_refl _) _).trans (hb.mono (by simp))
      clear hb
      go_wp2_with fail
      refine (dayOf_to d D c true _ hd hD HD).mono ?_
      rintro e w2 ⟨rfl, rfl⟩
      go_wp2
      exact bodyPost_ret (v := .tuple #[.agg #[.int .i64 a, .int .i64 b, .int .i64 c], .int .i64 0]) (by simp [results, Tryz.results99, go_sem, z0, z1, z2]) rfl ⟨rfl, by repeat (first | exact hB1 | refine Below.setCell ?_ (by simp) _)⟩
    | false =>
      have E : a = 0 ∧ b = 0 ∧ c = 0 ∧ e = 8 := by simp at HH; omega
      obtain ⟨rfl, rfl, rfl, rfl⟩ := E
      clear HH
      go_enter Tryz.func99, Tryz.ntmps99
      go_wp2_with fail
      refine (wkd_to s S v 0 _ hs hS HW).mono ?_
      rintro e w1 ⟨rfl, hb⟩
      have z0 : w1.cell? ⟨w.heap.size, 0, none⟩ = some (.int .i64 0) := (hb.cell (p := ⟨w.heap.size, 0, none⟩) (by simp)).trans (by go_simp)
      have z1 : w1.cell? ⟨w.heap.size, 1, none⟩ = some (.int .i64 0) := (hb.cell (p := ⟨w.heap.size, 1, none⟩) (by simp)).trans (by go_simp)
      have z2 : w1.cell? ⟨w.heap.size, 2, none⟩ = some (.int .i64 0) := (hb.cell (p := ⟨w.heap.size, 2, none⟩) (by simp)).trans (by go_simp)
      have f0 : w1.frozen? ⟨w.heap.size, 0, none⟩ = false := (hb.frozen (p := ⟨w.heap.size, 0, none⟩) (by simp)).trans (by go_simp)
      have f1 : w1.frozen? ⟨w.heap.size, 1, none⟩ = false := (hb.frozen (p := ⟨w.heap.size, 1, none⟩) (by simp)).trans (by go_simp)
      have f2 : w1.frozen? ⟨w.heap.size, 2, none⟩ = false := (hb.frozen (p := ⟨w.heap.size, 2, none⟩) (by simp)).trans (by go_simp)
      have hB1 : Below w.heap.size w w1 := ((Below.refl _ _).alloc (Nat.le_refl _) _).trans (hb.mono (by simp))
      clear hb
      go_wp2_with fail
      refine (dayOf_to d D dv false _ hd hD HD).mono ?_
      rintro e w2 ⟨rfl, rfl⟩
      go_wp2
      exact bodyPost_ret (v := .tuple #[.agg #[.int .i64 0, .int .i64 0, .int .i64 0], .int .i64 8]) (by simp [results, Tryz.results99, go_sem, z0, z1, z2]) rfl ⟨rfl, by repeat (first | exact hB1 | refine Below.setCell ?_ (by simp) _)⟩
  · have HW := Lib.hid he
    have E : a = 0 ∧ b = 0 ∧ c = 0 ∧ e = 8 := by rw [he] at HH; simp at HH; omega
    obtain ⟨rfl, rfl, rfl, rfl⟩ := E
    clear HH he
    go_enter Tryz.func99, Tryz.ntmps99
    go_wp2_with fail
    refine (wkd_to s S 0 7 _ hs hS HW).mono ?_
    rintro e w1 ⟨rfl, hb⟩
    have z0 : w1.cell? ⟨w.heap.size, 0, none⟩ = some (.int .i64 0) := (hb.cell (p := ⟨w.heap.size, 0, none⟩) (by simp)).trans (by go_simp)
    have z1 : w1.cell? ⟨w.heap.size, 1, none⟩ = some (.int .i64 0) := (hb.cell (p := ⟨w.heap.size, 1, none⟩) (by simp)).trans (by go_simp)
    have z2 : w1.cell? ⟨w.heap.size, 2, none⟩ = some (.int .i64 0) := (hb.cell (p := ⟨w.heap.size, 2, none⟩) (by simp)).trans (by go_simp)
    have f0 : w1.frozen? ⟨w.heap.size, 0, none⟩ = false := (hb.frozen (p := ⟨w.heap.size, 0, none⟩) (by simp)).trans (by go_simp)
    have f1 : w1.frozen? ⟨w.heap.size, 1, none⟩ = false := (hb.frozen (p := ⟨w.heap.size, 1, none⟩) (by simp)).trans (by go_simp)
    have f2 : w1.frozen? ⟨w.heap.size, 2, none⟩ = false := (hb.frozen (p := ⟨w.heap.size, 2, none⟩) (by simp)).trans (by go_simp)
    have hB1 : Below w.heap.size w w1 := ((Below.refl _ _).alloc (Nat.le_refl _) _).trans (hb.mono (by simp))
    clear hb
    go_wp2_with fail
    refine (dayOf_to d D dv db _ hd hD HD).mono ?_
    rintro e w2 ⟨rfl, rfl⟩
    go_wp2
    exact bodyPost_ret (v := .tuple #[.agg #[.int .i64 0, .int .i64 0, .int .i64 0], .int .i64 8]) (by simp [results, Tryz.results99, go_sem, z0, z1, z2]) rfl ⟨rfl, by repeat (first | exact hB1 | refine Below.setCell ?_ (by simp) _)⟩
end Onf
end Go.Proofs.YthefgagmjamdkaaGreatDoor
/-
  Contracts of package onform, second part: Parse, Text.
-/
namespace Go.Proofs.YthefgagmjamdkaaGreatDoor
open Go.RowKit
namespace Onf
open Sol Wrd
def onP (S : List UInt8) : Int × Int × Int × Int :=
  if dayB S = true then (1, 0, parseV S, 0)
  else if 4 < S.length ∧ smL (S.take 4) = [108, 97, 115, 116] then lastP (S.drop 4)
  else if (Lib.cut S [62, 61]).2.2 = true then besP 3 (Lib.cut S [62, 61]).1 (Lib.cut S [62, 61]).2.1
  else if (Lib.cut S [60, 61]).2.2 = true then besP 4 (Lib.cut S [60, 61]).1 (Lib.cut S [60, 61]).2.1
  else (0, 0, 0, 8)
/-- The result's cell of a call that has made it at g: noughts still. -/
def Noughts (g : Nat) (w : World) : Prop := g < w.heap.size ∧ w.cell? ⟨g, 0, none⟩ = some (.int .i64 0) ∧ w.cell? ⟨g, 1, none⟩ = some (.int .i64 0) ∧ w.cell? ⟨g, 2, none⟩ = some (.int .i64 0) ∧ w.frozen? ⟨g, 0, none⟩ = false ∧ w.frozen? ⟨g, 1, none⟩ = false ∧ w.frozen? ⟨g, 2, none⟩ = false
theorem Noughts.new (w : World) (t : TypeId) : Noughts w.heap.size (w.alloc (Obj.cells #[.int .i64 0, .int .i64 0, .int .i64 0] t)) := by
  refine ⟨by simp, ?_, ?_, ?_, ?_, ?_, ?_⟩ <;> go_simp
theorem Noughts.below {g : Nat} {w w' : World} (h : Noughts g w) (hb : Below w.heap.size w w') : Noughts g w' := by
  obtain ⟨a0, a1, a2, a3, a4, a5, a6⟩ := h
  have c := fun i => hb.cell (p := ⟨g, i, none⟩) a0
  have f := fun i => hb.frozen (p := ⟨g, i, none⟩) a0
  exact ⟨Nat.lt_of_lt_of_le a0 hb.size, (c 0).trans a1, (c 1).trans a2, (c 2).trans a3, (f 0).trans a4, (f 1).trans a5, (f 2).trans a6⟩
theorem cut_len (S P : List UInt8) : (Lib.cut S P).1.length ≤ S.length ∧ (Lib.cut S P).2.1.length ≤ S.length := by
  unfold Lib.cut
  split
  · exact ⟨by simp; omega, by simp⟩
  · exact ⟨Nat.le_refl _, by simp⟩
theorem sm_last : smL [108, 97, 115, 116] = [108, 97, 115, 116] := by decide
set_option maxHeartbeats 3200000 in
set_option maxRecDepth 100000 in
theorem oparse_to (s : ByteArray) (S : List UInt8) (a b c e : Int) (w : World) (hm : MaxL w) (hs : s.size ≤ 1000) (hS : Hid (s.data.toList = S)) (h : Hid (onP S = (a, b, c, e))) :
    Calls Tryz.prog 79 #[.string s] w fun x w' => x = .returned (.tuple #[.agg #[.int .i64 a, .int .i64 b, .int .i64 c], .int .i64 e]) ∧ Below w.heap.size w w' := by
  have HM := Lib.hid hm
  clear hm
  have hsl : S.length = s.size := by rw [← hS.out]; simp
  have HN := Lib.hid (Noughts.new w 26)
  obtain ⟨dv, hdv⟩ : ∃ v, parseV S = v := ⟨_, rfl⟩
  obtain ⟨db, hdb⟩ : ∃ v, dayB S = v := ⟨_, rfl⟩
  have HD := Lib.hid (And.intro hdv hdb)
  have HH := h.out
  rw [onP, hdv, hdb] at HH
  clear hdv hdb h
  cases db with
  | true =>
    have E : a = 1 ∧ b = 0 ∧ c = dv ∧ e = 0 := by simp at HH; omega
    obtain ⟨rfl, rfl, rfl, rfl⟩ := E
    clear HH hsl
    go_enter Tryz.func79, Tryz.ntmps79
    go_wp2_with fail
    refine (dayOf_to s S c true _ hs hS HD).mono ?_
    rintro e w1 ⟨rfl, rfl⟩
    go_wp2
    exact bodyPost_ret (v := .tuple #[.agg #[.int .i64 1, .int .i64 0, .int .i64 c], .int .i64 0]) (by simp [results, Tryz.results79, go_sem]) rfl ⟨rfl, by repeat (first | exact Below.refl _ _ | refine Below.setCell ?_ (by simp) _ | refine Below.alloc ?_ (by simp; try omega) _)⟩
  | false =>
    rw [if_neg (by decide)] at HH
    obtain ⟨lb, hlb⟩ : ∃ r, decide (4 < S.length ∧ smL (S.take 4) = [108, 97, 115, 116]) = r := ⟨_, rfl⟩
    have HLB := Lib.hid hlb
    have HX : Hid ((lb = true ∧ lastP (S.drop 4) = (a, b, c, e)) ∨ (lb = false ∧ (if (Lib.cut S [62, 61]).2.2 = true then besP 3 (Lib.cut S [62, 61]).1 (Lib.cut S [62, 61]).2.1 else if (Lib.cut S [60, 61]).2.2 = true then besP 4 (Lib.cut S [60, 61]).1 (Lib.cut S [60, 61]).2.1 else (0, 0, 0, 8)) = (a, b, c, e))) := Lib.hid (by
      cases lb with
      | true => exact Or.inl ⟨rfl, by rw [if_pos (of_decide_eq_true hlb)] at HH; exact HH⟩
      | false => exact Or.inr ⟨rfl, by rw [if_neg (of_decide_eq_false hlb)] at HH; exact HH⟩)
    clear HH hlb
    have HSL := Lib.hid hsl
    clear hsl
    go_enter Tryz.func79, Tryz.ntmps79
    go_wp2_with fail
    refine (dayOf_to s S dv false _ hs hS HD).mono ?_
    rintro x w1 ⟨rfl, rfl⟩
    go_upto_region 4 with fail
    go_cut [27] (fun x wx => x = .bool lb ∧ Hid (Below w.heap.size w wx) ∧ Hid (Noughts w.heap.size wx))
    case first =>
      by_cases h4 : 4 < s.size
      · have HR : Hid (decide ((S.take 4).length = 4 ∧ smL (S.take 4) = [108, 97, 115, 116]) = lb) := Lib.hid (by
          rw [← HLB.out]
          have : (S.take 4).length = 4 := by rw [List.length_take, HSL.out]; omega
          rw [this]
          have h4' : 4 < S.length := by rw [HSL.out]; exact h4
          simp [h4'])
        have hE : Hid ((s.extract 0 4).data.toList = S.take 4) := Lib.hid (by rw [Lib.extract_data, hS.out]; simp)
        have hz : (s.extract 0 4).size ≤ 1000 := by have : (s.extract 0 4).size = (S.take 4).length := by rw [← hE.out]; simp
                                                    rw [this, List.length_take]; omega
        have HZ := Lib.hid hz
        clear hz
        go_wp2_with fail
        refine (same_to _ _ (S.take 4) [108, 97, 115, 116] _ [108, 97, 115, 116] lb _ HZ.out (by decide) hE (Lib.hid rfl) (Lib.hid rfl) (Lib.hid sm_last) HR).mono ?_
        rintro x w1 ⟨rfl, hb⟩
        have hB1 := Lib.hid (((Below.refl w.heap.size w).alloc (Nat.le_refl _) (Obj.cells #[.int .i64 0, .int .i64 0, .int .i64 0] 26)).trans (hb.mono (by simp)))
        have HN1 := Lib.hid (HN.out.below hb)
        clear hb
        go_wp2
        go_meet
        exact ⟨rfl, hB1, HN1⟩
      · have HR : Hid (lb = false) := Lib.hid (by rw [← HLB.out]; exact decide_eq_false (fun x => by have := x.1; rw [HSL.out] at this; exact h4 this))
        have h4' : s.size ≤ 4 := by omega
        clear h4
        go_wp2
        go_meet
        exact ⟨congrArg Value.bool HR.out.symm, Lib.hid ((Below.refl _ _).alloc (Nat.le_refl _) _), HN⟩
    case rest =>
    obtain ⟨rfl, HB, HN1⟩ := hcut
    rename_i wc
    have hB1 := HB.out
    have hgz := HN1.out.1
    rcases HX.out with ⟨rfl, hx⟩ | ⟨rfl, hx⟩
    · have HL := Lib.hid hx
      clear hx HX
      have h4 : 4 < s.size := by have := (of_decide_eq_true HLB.out).1; rw [HSL.out] at this; exact this
      have hE : Hid ((s.extract 4 s.size).data.toList = S.drop 4) := Lib.hid (by rw [Lib.extract_to_end, hS.out])
      have HZ : Hid ((s.extract 4 s.size).size ≤ 1000) := Lib.hid (by
        have : (s.extract 4 s.size).size = (S.drop 4).length := by rw [← hE.out]; simp
        rw [this, List.length_drop, HSL.out]; omega)
      clear hB1
      go_wp2_with fail
      refine (lastOf_to _ (S.drop 4) a b c e _ HZ.out hE HL).mono ?_
      rintro x w2 ⟨rfl, hb⟩
      have hB1 : Below w.heap.size w w2 := HB.out.trans (hb.mono (by omega))
      obtain ⟨_, z0, z1, z2, f0, f1, f2⟩ := HN1.out.below hb
      clear hb
      go_wp2
      exact bodyPost_ret (v := .tuple #[.agg #[.int .i64 a, .int .i64 b, .int .i64 c], .int .i64 e]) (by simp [results, Tryz.results79, go_sem, z0, z1, z2]) rfl ⟨rfl, by repeat (first | exact hB1 | refine Below.setCell ?_ (by simp) _)⟩
    · clear HX hB1
      have hln := cut_len S [62, 61]
      have hln2 := cut_len S [60, 61]
      rw [HSL.out] at hln hln2
      obtain ⟨X, hX⟩ : ∃ X, (Lib.cut S [62, 61]).1 = X := ⟨_, rfl⟩
      obtain ⟨Y, hY⟩ : ∃ X, (Lib.cut S [62, 61]).2.1 = X := ⟨_, rfl⟩
      obtain ⟨b1, hb1⟩ : ∃ X, (Lib.cut S [62, 61]).2.2 = X := ⟨_, rfl⟩
      obtain ⟨X2, hX2⟩ : ∃ X, (Lib.cut S [60, 61]).1 = X := ⟨_, rfl⟩
      obtain ⟨Y2, hY2⟩ : ∃ X, (Lib.cut S [60, 61]).2.1 = X := ⟨_, rfl⟩
      obtain ⟨b2, hb2⟩ : ∃ X, (Lib.cut S [60, 61]).2.2 = X := ⟨_, rfl⟩
      rw [hX, hY] at hln
      rw [hX2, hY2] at hln2
      rw [hX, hY, hb1, hX2, hY2, hb2] at hx
      have HC1 : Hid (Lib.cut S [62, 61] = (X, Y, b1)) := Lib.hid (by rw [← hX, ← hY, ← hb1])
      have HC2 : Hid (Lib.cut S [60, 61] = (X2, Y2, b2)) := Lib.hid (by rw [← hX2, ← hY2, ← hb2])
      have HX := Lib.hid hx
      clear hX hY hb1 hX2 hY2 hb2 hx
      have l1 : (⟨X.toArray⟩ : ByteArray).size ≤ 1000 := by show X.length ≤ 1000; omega
      have l2 : (⟨Y.toArray⟩ : ByteArray).size ≤ 1000 := by show Y.length ≤ 1000; omega
      have l3 : (⟨X2.toArray⟩ : ByteArray).size ≤ 1000 := by show X2.length ≤ 1000; omega
      have l4 : (⟨Y2.toArray⟩ : ByteArray).size ≤ 1000 := by show Y2.length ≤ 1000; omega
      have L1 := Lib.hid l1
      have L2 := Lib.hid l2
      have L3 := Lib.hid l3
      have L4 := Lib.hid l4
      clear l1 l2 l3 l4 hln hln2
      cases b1 with
      | true =>
        have HB3 : Hid (besP 3 X Y = (a, b, c, e)) := Lib.hid HX.out
        go_wp2_with fail
        refine (cut_to s _ S [62, 61] X Y true _ (HM.out.stays HB.out) (by omega) hS (Lib.hid rfl) HC1).mono ?_
        rintro x w2 ⟨rfl, q, rfl⟩
        go_wp2_with fail
        refine (bes_to 3 _ _ X Y a b c e _ L1.out L2.out (Lib.hid rfl) (Lib.hid rfl) HB3).mono ?_
        rintro x w2 ⟨rfl, hb⟩
        have hB1 : Below w.heap.size w w2 := (below_drewN HB.out q).trans (hb.mono (by simp; omega))
        obtain ⟨_, z0, z1, z2, f0, f1, f2⟩ := (show Noughts w.heap.size (wc.drewN q) from HN1.out).below hb
        clear hb
        go_wp2
        exact bodyPost_ret (v := .tuple #[.agg #[.int .i64 a, .int .i64 b, .int .i64 c], .int .i64 e]) (by simp [results, Tryz.results79, go_sem, z0, z1, z2]) rfl ⟨rfl, by repeat (first | exact hB1 | refine Below.setCell ?_ (by simp) _)⟩
      | false =>
        go_wp2_with fail
        refine (cut_to s _ S [62, 61] X Y false _ (HM.out.stays HB.out) (by omega) hS (Lib.hid rfl) HC1).mono ?_
        rintro x w2 ⟨rfl, q, rfl⟩
        go_wp2_with fail
        refine (cut_to s _ S [60, 61] X2 Y2 b2 _ (HM.out.stays (below_drewN HB.out q)) (by omega) hS (Lib.hid rfl) HC2).mono ?_
        rintro x w2 ⟨rfl, q2, rfl⟩
        cases b2 with
        | true =>
          have HB3 : Hid (besP 4 X2 Y2 = (a, b, c, e)) := Lib.hid HX.out
          go_wp2_with fail
          refine (bes_to 4 _ _ X2 Y2 a b c e _ L3.out L4.out (Lib.hid rfl) (Lib.hid rfl) HB3).mono ?_
          rintro x w2 ⟨rfl, hb⟩
          have hB1 : Below w.heap.size w w2 := (below_drewN HB.out (q + q2)).trans (hb.mono (by simp; omega))
          obtain ⟨_, z0, z1, z2, f0, f1, f2⟩ := (show Noughts w.heap.size (wc.drewN (q + q2)) from HN1.out).below hb
          clear hb
          go_wp2
          exact bodyPost_ret (v := .tuple #[.agg #[.int .i64 a, .int .i64 b, .int .i64 c], .int .i64 e]) (by simp [results, Tryz.results79, go_sem, z0, z1, z2]) rfl ⟨rfl, by repeat (first | exact hB1 | refine Below.setCell ?_ (by simp) _)⟩
        | false =>
          have E : a = 0 ∧ b = 0 ∧ c = 0 ∧ e = 8 := by have := HX.out; simp at this; omega
          obtain ⟨rfl, rfl, rfl, rfl⟩ := E
          have hB1 : Below w.heap.size w (wc.drewN (q + q2)) := below_drewN HB.out (q + q2)
          obtain ⟨_, z0, z1, z2, f0, f1, f2⟩ := HN1.out
          go_wp2
          exact bodyPost_ret (v := .tuple #[.agg #[.int .i64 0, .int .i64 0, .int .i64 0], .int .i64 8]) (by simp [results, Tryz.results79, go_sem, z0, z1, z2]) rfl ⟨rfl, by repeat (first | exact hB1 | refine Below.setCell ?_ (by simp) _)⟩
/-- A form's text, and why none. -/
def onT (k v d : Int) : List UInt8 := if Wk.onOk k v d = true then (if k = 2 then [108, 97, 115, 116] ++ (nmT 3 v).take 3 else if k = 3 then (nmT 3 v).take 3 ++ [62, 61] ++ textL d 0 else if k = 4 then (nmT 3 v).take 3 ++ [60, 61] ++ textL d 0 else textL d 0) else []
theorem nm_len : ∀ v : Nat, v < 7 → 3 ≤ (nmT 3 (v : Int)).length ∧ (nmT 3 (v : Int)).length ≤ 9 ∧ nmE 3 (v : Int) = 0 := by decide +kernel
theorem nm_len' {v : Int} (h : 0 ≤ v ∧ v ≤ 6) : 3 ≤ (nmT 3 v).length ∧ (nmT 3 v).length ≤ 9 ∧ nmE 3 v = 0 := by
  have := nm_len v.toNat (by omega)
  rwa [Int.toNat_of_nonneg h.1] at this
set_option maxHeartbeats 3200000 in
set_option maxRecDepth 100000 in
theorem otext_to (k v d c : Int) (T : List UInt8) (w : World) (hp : Pow w) (h : Hid (onT k v d = T ∧ Wk.chE k v d = c)) :
    Calls Tryz.prog 58 #[.agg #[.int .i64 k, .int .i64 v, .int .i64 d]] w fun x w' => x = .returned (.tuple #[.string ⟨T.toArray⟩, .int .i64 c]) ∧ Below w.heap.size w w' := by
  have HP := Lib.hid hp
  clear hp
  cases ho : Wk.onOk k v d with
  | false =>
    have HC : Hid (Wk.chE k v d = c) := Lib.hid h.out.2
    have E : T = [] ∧ c = 8 := ⟨by rw [← h.out.1, onT, ho]; rfl, by rw [← h.out.2]; exact Wk.chE_no ho⟩
    obtain ⟨rfl, rfl⟩ := E
    clear h ho
    go_enter Tryz.func58, Tryz.ntmps58
    go_wp2_with fail
    refine (Wk.check_at _ _ _ _ _ HC).mono ?_
    rintro e w1 ⟨rfl, rfl⟩
    go_wp2
    go_ret2
    exact ⟨rfl, by repeat (first | exact Below.refl _ _ | refine Below.alloc ?_ (by simp; try omega) _)⟩
  | true =>
    have HC : Hid (Wk.chE k v d = c) := Lib.hid h.out.2
    have E : c = 0 := by rw [← h.out.2]; exact Wk.chE_yes ho
    subst E
    obtain ⟨hv, hk, hd⟩ := Wk.onOk_v ho
    have HT : Hid (T = if k = 2 then [108, 97, 115, 116] ++ (nmT 3 v).take 3 else if k = 3 then (nmT 3 v).take 3 ++ [62, 61] ++ textL d 0 else if k = 4 then (nmT 3 v).take 3 ++ [60, 61] ++ textL d 0 else textL d 0) := Lib.hid (by rw [← h.out.1, onT, if_pos ho])
    obtain ⟨n1, n2, n3⟩ := nm_len' hv
    obtain ⟨N, hN⟩ : ∃ N, nmT 3 v = N := ⟨_, rfl⟩
    obtain ⟨D, hD⟩ : ∃ N, textL d 0 = N := ⟨_, rfl⟩
    have hDl : D.length ≤ 2 := by rw [← hD, textL, if_neg (by omega), if_pos (by decide), show (0 : Int).toNat = 0 from rfl]; have := decDigits_len (k := 1) (u := d.toNat) (by omega); simp [padL]; omega
    rw [hN, hD] at HT
    rw [hN] at n1 n2
    have HN := Lib.hid (And.intro hN n3)
    have HD := Lib.hid hD
    clear h ho hN hD n3
    have h4 : k = 1 ∨ k = 2 ∨ k = 3 ∨ k = 4 := by omega
    have s1 : 3 ≤ (⟨N.toArray⟩ : ByteArray).size := n1
    have s2 : (⟨N.toArray⟩ : ByteArray).size ≤ 9 := n2
    have s3 : (⟨D.toArray⟩ : ByteArray).size ≤ 2 := hDl
    rcases h4 with rfl | rfl | rfl | rfl
    · go_enter Tryz.func58, Tryz.ntmps58
      go_wp2_with fail
      refine (Wk.check_at _ _ _ _ _ HC).mono ?_
      rintro e w1 ⟨rfl, rfl⟩
      go_wp2_with fail
      refine (text_at d 0 D _ (by omega) (by omega) (by omega) (by omega) (HP.out.stays (by repeat (first | exact Below.refl _ _ | refine Below.alloc ?_ (by simp; try omega) _))) HD).mono ?_
      rintro e w1 ⟨rfl, hb1⟩
      have hz1 := hb1.size
      simp at hz1
      have z0 : w1.cell? ⟨w.heap.size, 0, none⟩ = some (.int .i64 1) := (hb1.cell (p := ⟨w.heap.size, 0, none⟩) (by simp; omega)).trans (by go_simp)
      have z1 : w1.cell? ⟨w.heap.size, 1, none⟩ = some (.int .i64 v) := (hb1.cell (p := ⟨w.heap.size, 1, none⟩) (by simp; omega)).trans (by go_simp)
      have hB1 : Below w.heap.size w w1 := Below.trans (by repeat (first | exact Below.refl _ _ | refine Below.alloc ?_ (by simp; try omega) _)) (hb1.mono (by simp; omega))
      clear hb1
      go_wp2_with fail
      refine (name_to 3 v N 0 _ (by omega) HN).mono ?_
      rintro e w2 ⟨rfl, hb2⟩
      have y0 : w2.cell? ⟨w.heap.size, 0, none⟩ = some (.int .i64 1) := (hb2.cell (p := ⟨w.heap.size, 0, none⟩) (by show w.heap.size < _; omega)).trans z0
      have hB2 : Below w.heap.size w w2 := hB1.trans (hb2.mono (by omega))
      clear hb2 z0 z1 hB1
      go_wp2
      go_ret2
      exact ⟨ret_si' (bytes_eq (by rw [HT.out]; simp)) rfl, hB2⟩
    · go_enter Tryz.func58, Tryz.ntmps58
      go_wp2_with fail
      refine (Wk.check_at _ _ _ _ _ HC).mono ?_
      rintro e w1 ⟨rfl, rfl⟩
      go_wp2_with fail
      refine (text_at d 0 D _ (by omega) (by omega) (by omega) (by omega) (HP.out.stays (by repeat (first | exact Below.refl _ _ | refine Below.alloc ?_ (by simp; try omega) _))) HD).mono ?_
      rintro e w1 ⟨rfl, hb1⟩
      have hz1 := hb1.size
      simp at hz1
      have z0 : w1.cell? ⟨w.heap.size, 0, none⟩ = some (.int .i64 2) := (hb1.cell (p := ⟨w.heap.size, 0, none⟩) (by simp; omega)).trans (by go_simp)
      have z1 : w1.cell? ⟨w.heap.size, 1, none⟩ = some (.int .i64 v) := (hb1.cell (p := ⟨w.heap.size, 1, none⟩) (by simp; omega)).trans (by go_simp)
      have hB1 : Below w.heap.size w w1 := Below.trans (by repeat (first | exact Below.refl _ _ | refine Below.alloc ?_ (by simp; try omega) _)) (hb1.mono (by simp; omega))
      clear hb1
      go_wp2_with fail
      refine (name_to 3 v N 0 _ (by omega) HN).mono ?_
      rintro e w2 ⟨rfl, hb2⟩
      have y0 : w2.cell? ⟨w.heap.size, 0, none⟩ = some (.int .i64 2) := (hb2.cell (p := ⟨w.heap.size, 0, none⟩) (by show w.heap.size < _; omega)).trans z0
      have hB2 : Below w.heap.size w w2 := hB1.trans (hb2.mono (by omega))
      clear hb2 z0 z1 hB1
      go_wp2
      go_ret2
      exact ⟨ret_si' (bytes_eq (by rw [HT.out]; simp)) rfl, hB2⟩
    · go_enter Tryz.func58, Tryz.ntmps58
      go_wp2_with fail
      refine (Wk.check_at _ _ _ _ _ HC).mono ?_
      rintro e w1 ⟨rfl, rfl⟩
      go_wp2_with fail
      refine (text_at d 0 D _ (by omega) (by omega) (by omega) (by omega) (HP.out.stays (by repeat (first | exact Below.refl _ _ | refine Below.alloc ?_ (by simp; try omega) _))) HD).mono ?_
      rintro e w1 ⟨rfl, hb1⟩
      have hz1 := hb1.size
      simp at hz1
      have z0 : w1.cell? ⟨w.heap.size, 0, none⟩ = some (.int .i64 3) := (hb1.cell (p := ⟨w.heap.size, 0, none⟩) (by simp; omega)).trans (by go_simp)
      have z1 : w1.cell? ⟨w.heap.size, 1, none⟩ = some (.int .i64 v) := (hb1.cell (p := ⟨w.heap.size, 1, none⟩) (by simp; omega)).trans (by go_simp)
      have hB1 : Below w.heap.size w w1 := Below.trans (by repeat (first | exact Below.refl _ _ | refine Below.alloc ?_ (by simp; try omega) _)) (hb1.mono (by simp; omega))
      clear hb1
      go_wp2_with fail
      refine (name_to 3 v N 0 _ (by omega) HN).mono ?_
      rintro e w2 ⟨rfl, hb2⟩
      have y0 : w2.cell? ⟨w.heap.size, 0, none⟩ = some (.int .i64 3) := (hb2.cell (p := ⟨w.heap.size, 0, none⟩) (by show w.heap.size < _; omega)).trans z0
      have hB2 : Below w.heap.size w w2 := hB1.trans (hb2.mono (by omega))
      clear hb2 z0 z1 hB1
      go_wp2
      go_ret2
      exact ⟨ret_si' (bytes_eq (by rw [HT.out]; simp)) rfl, hB2⟩
    · go_enter Tryz.func58, Tryz.ntmps58
      go_wp2_with fail
      refine (Wk.check_at _ _ _ _ _ HC).mono ?_
      rintro e w1 ⟨rfl, rfl⟩
      go_wp2_with fail
      refine (text_at d 0 D _ (by omega) (by omega) (by omega) (by omega) (HP.out.stays (by repeat (first | exact Below.refl _ _ | refine Below.alloc ?_ (by simp; try omega) _))) HD).mono ?_
      rintro e w1 ⟨rfl, hb1⟩
      have hz1 := hb1.size
      simp at hz1
      have z0 : w1.cell? ⟨w.heap.size, 0, none⟩ = some (.int .i64 4) := (hb1.cell (p := ⟨w.heap.size, 0, none⟩) (by simp; omega)).trans (by go_simp)
      have z1 : w1.cell? ⟨w.heap.size, 1, none⟩ = some (.int .i64 v) := (hb1.cell (p := ⟨w.heap.size, 1, none⟩) (by simp; omega)).trans (by go_simp)
      have hB1 : Below w.heap.size w w1 := Below.trans (by repeat (first | exact Below.refl _ _ | refine Below.alloc ?_ (by simp; try omega) _)) (hb1.mono (by simp; omega))
      clear hb1
      go_wp2_with fail
      refine (name_to 3 v N 0 _ (by omega) HN).mono ?_
      rintro e w2 ⟨rfl, hb2⟩
      have y0 : w2.cell? ⟨w.heap.size, 0, none⟩ = some (.int .i64 4) := (hb2.cell (p := ⟨w.heap.size, 0, none⟩) (by show w.heap.size < _; omega)).trans z0
      have hB2 : Below w.heap.size w w2 := hB1.trans (hb2.mono (by omega))
      clear hb2 z0 z1 hB1
      go_wp2
      go_ret2
      exact ⟨ret_si' (bytes_eq (by rw [HT.out]; simp)) rfl, hB2⟩
end Onf
end Go.Proofs.YthefgagmjamdkaaGreatDoor
/-
  Package onform: the waking call of its laws; OnBad: the law answers true at every number, in whatever world that holds the tables.
-/
namespace Go.Proofs.YthefgagmjamdkaaGreatDoor
open Go.RowKit
namespace Onf
open Sol Wrd
theorem wk7_1 : onP [108, 97, 115, 116, 115, 117, 110, 100, 97, 121] = (2, 0, 0, 0) := by decide +kernel
theorem wk7_3 : onP [83, 117, 110, 61, 62, 56] = (0, 0, 0, 8) := by decide +kernel
theorem wk7_2 : onT 3 6 8 = [83, 97, 116, 62, 61, 56] ∧ Wk.chE 3 6 8 = 0 := by
  refine ⟨?_, by decide +kernel⟩
  have k1 : textL 8 0 = [56] := by rw [textL, if_neg (by decide), if_pos (by decide), show (8 : Int).toNat = 8 from rfl, Lib.decDigits, dif_pos (by decide)]; rfl
  rw [onT, if_pos (by decide +kernel), if_neg (by decide), if_pos rfl, k1]
  decide +kernel
/-- A form that a call has laid at g. -/
def On3 (g : Nat) (a b c : Int) (w : World) : Prop := g < w.heap.size ∧ w.cell? ⟨g, 0, none⟩ = some (.int .i64 a) ∧ w.cell? ⟨g, 1, none⟩ = some (.int .i64 b) ∧ w.cell? ⟨g, 2, none⟩ = some (.int .i64 c)
theorem On3.new (w : World) (t : TypeId) (a b c : Int) : On3 w.heap.size a b c (w.alloc (Obj.cells #[.int .i64 a, .int .i64 b, .int .i64 c] t)) := by
  refine ⟨by simp, ?_, ?_, ?_⟩ <;> go_simp
theorem On3.below {g : Nat} {a b c : Int} {w w' : World} (h : On3 g a b c w) (hb : Below w.heap.size w w') : On3 g a b c w' := by
  obtain ⟨a0, a1, a2, a3⟩ := h
  have c := fun i => hb.cell (p := ⟨g, i, none⟩) a0
  exact ⟨Nat.lt_of_lt_of_le a0 hb.size, (c 0).trans a1, (c 1).trans a2, (c 2).trans a3⟩
def badT : Nat → List UInt8 := fun k => ([[], [48], [51, 50], [83, 117, 62, 61, 56], [108, 97, 115, 116, 83, 117], [108, 97, 115, 116], [83, 117, 110, 62, 61], [83, 117, 110, 62, 61, 48], [83, 117, 110, 62, 61, 51, 50], [83, 117, 110, 62, 56], [83, 117, 110, 60, 61, 48, 48, 56], [49, 50, 51], [45, 49], [83, 117, 110, 62, 61, 32, 56], [62, 61, 56], [108, 97, 115, 116, 83, 117, 110, 62, 61, 56], [56, 83, 117, 110]] : List (List UInt8)).getD k []
theorem bad_all : ∀ k < 17, onP (badT k) = (0, 0, 0, 8) ∧ (badT k).length ≤ 20 := by decide +kernel
theorem bad_good : onP [115, 85, 78, 100, 97, 121, 60, 61, 48, 55] = (4, 0, 7, 0) := by decide +kernel
theorem u17 (x : Int) : ∃ k : Nat, (IntKind.u64.wrap x).tmod 17 = (k : Int) ∧ k < 17 := by
  have h1 := Int.tmod_nonneg 17 (show 0 ≤ IntKind.u64.wrap x by rw [IntKind.wrap_u64]; omega)
  have h2 := Int.tmod_lt_of_pos (IntKind.u64.wrap x) (show (0 : Int) < 17 by omega)
  exact ⟨((IntKind.u64.wrap x).tmod 17).toNat, by omega, by omega⟩
end Onf
end Go.Proofs.YthefgagmjamdkaaGreatDoor
/-
  OnBack: the law answers true at every six numbers, in whatever world that holds the tables.
-/
namespace Go.Proofs.YthefgagmjamdkaaGreatDoor
open Go.RowKit
namespace Onf
open Sol Wrd
/-- The law's own Some: a right form of any numbers. -/
def smK (k : Int) : Int := 1 + (IntKind.u64.wrap k).tmod 4
def smW (k v : Int) : Int := if smK k = 1 then 0 else (IntKind.u64.wrap v).tmod 7
def smD (k d : Int) : Int := if smK k = 2 then 0 else 1 + (IntKind.u64.wrap d).tmod 31
theorem um_bd (x : Int) (m : Int) (hm : 0 < m) : 0 ≤ (IntKind.u64.wrap x).tmod m ∧ (IntKind.u64.wrap x).tmod m < m :=
  ⟨Int.tmod_nonneg m (by rw [IntKind.wrap_u64]; omega), Int.tmod_lt_of_pos _ hm⟩
theorem sm_ok (k v d : Int) : Wk.onOk (smK k) (smW k v) (smD k d) = true := by
  have h1 := um_bd k 4 (by omega)
  have h2 := um_bd v 7 (by omega)
  have h3 := um_bd d 31 (by omega)
  refine decide_eq_true ?_
  unfold smW smD smK
  split <;> split <;> omega
/-- A day's text, small. -/
def t31 (d : Nat) : List UInt8 := if d < 10 then [UInt8.ofNat (48 + d)] else [UInt8.ofNat (48 + d / 10), UInt8.ofNat (48 + d % 10)]
theorem textL_31 (d : Nat) (h : d < 100) : textL (d : Int) 0 = t31 d := by
  rw [textL, if_neg (by omega), if_pos (by decide), show (0 : Int).toNat = 0 from rfl, Int.toNat_natCast, padL, Nat.zero_sub, List.replicate_zero, List.nil_append, t31]
  by_cases h1 : d < 10
  · rw [if_pos h1, Lib.decDigits_one h1]
  · rw [if_neg h1, Lib.decDigits_two h1 h]
def onT2 (k v d : Nat) : List UInt8 := if k = 2 then [108, 97, 115, 116] ++ (nmT 3 v).take 3 else if k = 3 then (nmT 3 v).take 3 ++ [62, 61] ++ t31 d else if k = 4 then (nmT 3 v).take 3 ++ [60, 61] ++ t31 d else t31 d
theorem back_tab : ((List.range 5).all fun k => (List.range 7).all fun v => (List.range 32).all fun d => !(Wk.onOk (k : Int) (v : Int) (d : Int)) || decide (onP (onT2 k v d) = ((k : Int), (v : Int), (d : Int), (0 : Int)) ∧ (onT2 k v d).length ≤ 20)) = true := by decide +kernel
theorem back_all (k v d : Nat) (hk : k < 5) (hv : v < 7) (hd : d < 32) (h : Wk.onOk (k : Int) (v : Int) (d : Int) = true) : onP (onT2 k v d) = ((k : Int), (v : Int), (d : Int), (0 : Int)) ∧ (onT2 k v d).length ≤ 20 := by
  have a := List.all_eq_true.1 back_tab k (List.mem_range.2 hk)
  have b := List.all_eq_true.1 a v (List.mem_range.2 hv)
  have c := List.all_eq_true.1 b d (List.mem_range.2 hd)
  rw [h] at c
  exact of_decide_eq_true c
theorem on_back {k v d : Int} (h : Wk.onOk k v d = true) : onP (onT k v d) = (k, v, d, 0) ∧ (onT k v d).length ≤ 20 := by
  obtain ⟨h1, h2, h3⟩ := Wk.onOk_v h
  obtain ⟨k, rfl⟩ : ∃ n : Nat, k = n := ⟨k.toNat, by omega⟩
  obtain ⟨v, rfl⟩ : ∃ n : Nat, v = n := ⟨v.toNat, by omega⟩
  obtain ⟨d, rfl⟩ : ∃ n : Nat, d = n := ⟨d.toNat, by omega⟩
  have e : onT k v d = onT2 k v d := by
    rw [onT, if_pos h, textL_31 d (by omega), onT2]
    have e2 : ((k : Int) = 2) = (k = 2) := propext ⟨fun h => by omega, fun h => by omega⟩
    have e3 : ((k : Int) = 3) = (k = 3) := propext ⟨fun h => by omega, fun h => by omega⟩
    have e4 : ((k : Int) = 4) = (k = 4) := propext ⟨fun h => by omega, fun h => by omega⟩
    simp only [e2, e3, e4]
  rw [e]
  exact back_all k v d (by omega) (by omega) (by omega) h
theorem on_inj {k v d k2 v2 d2 : Int} (h : Wk.onOk k v d = true) (h2 : Wk.onOk k2 v2 d2 = true) (e : onT k v d = onT k2 v2 d2) : k = k2 ∧ v = v2 ∧ d = d2 := by
  have a := (on_back h).1
  rw [e, (on_back h2).1] at a
  simp at a
  omega
end Onf
end Go.Proofs.YthefgagmjamdkaaGreatDoor
