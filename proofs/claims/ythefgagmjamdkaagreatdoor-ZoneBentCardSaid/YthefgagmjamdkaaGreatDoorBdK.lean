/-
  Several texts in one (ZonA, ZonB, ZonC, ZonD).
-/
import Derived.Test.YthefgagmjamdkaaGreatDoorBdI
/-
  Contracts of package zone: belowDay, parseSaving, savingIsRight.
-/
namespace Go.Proofs.YthefgagmjamdkaaGreatDoor
open Go.RowKit
namespace Zon
open Sol Clk Cel Rul
theorem bday_to (n : Int) (b : Bool) (w : World) (h : Hid (bday n = b)) :
    Calls Tryz.prog 53 #[.int .i64 n] w fun e w' => e = .returned (.bool b) ∧ w = w' := by
  have hcs : (¬ -86400 < n ∧ b = false) ∨ (-86400 < n ∧ ¬ n < 86400 ∧ b = false) ∨ (-86400 < n ∧ n < 86400 ∧ b = true) := by
    rw [← h.out, bday]
    by_cases x : -86400 < n
    · by_cases y : n < 86400
      · exact Or.inr (Or.inr ⟨x, y, by simp [x, y]⟩)
      · exact Or.inr (Or.inl ⟨x, y, by simp [y]⟩)
    · exact Or.inl ⟨x, by simp [x]⟩
  clear h
  rcases hcs with ⟨x, rfl⟩ | ⟨x, y, rfl⟩ | ⟨x, y, rfl⟩
  · have hd : decide (-86400 < n) = false := decide_eq_false x
    go_enter Tryz.func53, Tryz.ntmps53
    go_wp2
    go_ret
    exact ⟨rfl, rfl⟩
  · have hd : decide (n < 86400) = false := decide_eq_false y
    go_enter Tryz.func53, Tryz.ntmps53
    go_wp2
    go_ret
    exact ⟨rfl, rfl⟩
  · go_enter Tryz.func53, Tryz.ntmps53
    go_wp2
    go_ret
    exact ⟨rfl, rfl⟩
theorem sv_cases {S : List UInt8} {k v : Int} {T : List UInt8} (h : svP S = (k, v, T)) :
    (S = [45] ∧ k = 1 ∧ v = 0 ∧ T = []) ∨ (S ≠ [45] ∧ clB S = true ∧ k = 2 ∧ v = clV S ∧ T = []) ∨ (S ≠ [45] ∧ clB S = false ∧ k = 3 ∧ v = 0 ∧ T = S) := by
  rw [svP] at h
  by_cases e : S = [45]
  · rw [if_pos e] at h
    obtain ⟨h1, h2⟩ := Prod.mk.inj h
    obtain ⟨h2, h3⟩ := Prod.mk.inj h2
    exact Or.inl ⟨e, h1.symm, h2.symm, h3.symm⟩
  · rw [if_neg e] at h
    cases hb : clB S with
    | true =>
      rw [if_pos hb] at h
      obtain ⟨h1, h2⟩ := Prod.mk.inj h
      obtain ⟨h2, h3⟩ := Prod.mk.inj h2
      exact Or.inr (Or.inl ⟨e, rfl, h1.symm, h2.symm, h3.symm⟩)
    | false =>
      rw [if_neg (by rw [hb]; decide)] at h
      obtain ⟨h1, h2⟩ := Prod.mk.inj h
      obtain ⟨h2, h3⟩ := Prod.mk.inj h2
      exact Or.inr (Or.inr ⟨e, rfl, h1.symm, h2.symm, h3.symm⟩)
set_option maxHeartbeats 3200000 in
set_option maxRecDepth 100000 in
theorem psv_to (S : List UInt8) (k v : Int) (T : List UInt8) (w : World) (hs : S.length ≤ 1000) (h : Hid (svP S = (k, v, T))) :
    Calls Tryz.prog 50 #[.string ⟨S.toArray⟩] w fun e w' => e = .returned (.tuple #[.int .i64 k, .int .i64 v, .string ⟨T.toArray⟩]) ∧ Below w.heap.size w w' := by
  have hm : Hid ((⟨S.toArray⟩ : ByteArray).size ≤ maxLen) := Lib.hid (by show S.length ≤ maxLen; unfold maxLen; omega)
  have hcs := sv_cases h.out
  clear h
  rcases hcs with ⟨rfl, rfl, rfl, rfl⟩ | ⟨e, hb, rfl, rfl, rfl⟩ | ⟨e, hb, rfl, rfl, rfl⟩
  · go_enter Tryz.func50, Tryz.ntmps50
    go_wp2
    go_ret3
    exact ⟨rfl, by repeat (first | with_reducible exact Below.refl _ _ | refine below_drewN ?_ _ | refine Below.drew ?_)⟩
  · have x1 : (S == [45]) = false := beq_eq_false_iff_ne.2 e
    have x2 : ((⟨S.toArray⟩ : ByteArray).toList == [45]) = false := by rw [Lib.toList_data]; exact x1
    have x3 : ¬ (⟨S.toArray⟩ : ByteArray).toList = [45] := by rw [Lib.toList_data]; exact e
    obtain ⟨V, hV⟩ : ∃ V, clV S = V := ⟨_, rfl⟩
    have HC : Hid (clV S = V ∧ clE S = 0) := Lib.hid ⟨hV, clE_yes hb⟩
    rw [hV]
    clear hV hb
    go_enter Tryz.func50, Tryz.ntmps50
    go_wp2_with fail
    refine (cparse_to _ S V 0 _ hm.out (Lib.hid rfl) HC).mono ?_
    rintro e w1 ⟨rfl, q, rfl⟩
    go_wp2
    go_ret3
    exact ⟨rfl, by repeat (first | with_reducible exact Below.refl _ _ | refine below_drewN ?_ _ | refine Below.drew ?_)⟩
  · have x1 : (T == [45]) = false := beq_eq_false_iff_ne.2 e
    have x2 : ((⟨T.toArray⟩ : ByteArray).toList == [45]) = false := by rw [Lib.toList_data]; exact x1
    have x3 : ¬ (⟨T.toArray⟩ : ByteArray).toList = [45] := by rw [Lib.toList_data]; exact e
    have HC : Hid (clV T = 0 ∧ clE T = 5) := Lib.hid (cl_no hb)
    clear hb
    go_enter Tryz.func50, Tryz.ntmps50
    go_wp2_with fail
    refine (cparse_to _ T 0 5 _ hm.out (Lib.hid rfl) HC).mono ?_
    rintro e w1 ⟨rfl, q, rfl⟩
    go_wp2
    go_ret3
    exact ⟨rfl, by repeat (first | with_reducible exact Below.refl _ _ | refine below_drewN ?_ _ | refine Below.drew ?_)⟩
end Zon
end Go.Proofs.YthefgagmjamdkaaGreatDoor
/-
  Contracts of package zone: savingIsRight. (Written by gen/gen_zonb.py.)
-/
namespace Go.Proofs.YthefgagmjamdkaaGreatDoor
open Go.RowKit
namespace Zon
open Sol Clk Cel Rul
theorem svb_cases (kd sv : Int) (ru : List UInt8) (b : Bool) (h : svB kd sv ru = b) :
    (kd = 1 ∧ (sv == 0) = false ∧ b = false) ∨ (kd = 1 ∧ sv = 0 ∧ ru ≠ [] ∧ b = false) ∨ (kd = 1 ∧ sv = 0 ∧ ru = [] ∧ b = true) ∨
    (kd = 2 ∧ Hid (bday sv = false) ∧ b = false) ∨ (kd = 2 ∧ Hid (bday sv = true) ∧ ru ≠ [] ∧ b = false) ∨ (kd = 2 ∧ Hid (bday sv = true) ∧ ru = [] ∧ b = true) ∨
    (kd = 3 ∧ (sv == 0) = false ∧ b = false) ∨ (kd = 3 ∧ sv = 0 ∧ Hid (nameB ru = b)) ∨
    ((kd == 1) = false ∧ (kd == 2) = false ∧ (kd == 3) = false ∧ b = false) := by
  rw [svB] at h
  by_cases e1 : kd = 1
  · rw [if_pos e1] at h
    by_cases e2 : sv = 0
    · by_cases e3 : ru = []
      · exact Or.inr (Or.inr (Or.inl ⟨e1, e2, e3, by rw [← h]; simp [e2, e3]⟩))
      · exact Or.inr (Or.inl ⟨e1, e2, e3, by rw [← h]; simp [e3]⟩)
    · exact Or.inl ⟨e1, beq_eq_false_iff_ne.2 e2, by rw [← h]; simp [e2]⟩
  · rw [if_neg e1] at h
    by_cases e2 : kd = 2
    · rw [if_pos e2] at h
      by_cases e4 : bday sv = true
      · by_cases e3 : ru = []
        · exact Or.inr (Or.inr (Or.inr (Or.inr (Or.inr (Or.inl ⟨e2, Lib.hid e4, e3, by rw [← h]; simp [e4, e3]⟩)))))
        · exact Or.inr (Or.inr (Or.inr (Or.inr (Or.inl ⟨e2, Lib.hid e4, e3, by rw [← h]; simp [e3]⟩))))
      · have e4 : bday sv = false := by simpa using e4
        exact Or.inr (Or.inr (Or.inr (Or.inl ⟨e2, Lib.hid e4, by rw [← h]; simp [e4]⟩)))
    · rw [if_neg e2] at h
      by_cases e3 : kd = 3
      · rw [if_pos e3] at h
        by_cases e5 : sv = 0
        · exact Or.inr (Or.inr (Or.inr (Or.inr (Or.inr (Or.inr (Or.inr (Or.inl ⟨e3, e5, Lib.hid (by rw [← h]; simp [e5])⟩)))))))
        · exact Or.inr (Or.inr (Or.inr (Or.inr (Or.inr (Or.inr (Or.inl ⟨e3, beq_eq_false_iff_ne.2 e5, by rw [← h]; simp [e5]⟩))))))
      · rw [if_neg e3] at h
        exact Or.inr (Or.inr (Or.inr (Or.inr (Or.inr (Or.inr (Or.inr (Or.inr ⟨beq_eq_false_iff_ne.2 e1, beq_eq_false_iff_ne.2 e2, beq_eq_false_iff_ne.2 e3, h.symm⟩)))))))
set_option maxHeartbeats 6400000 in
set_option maxRecDepth 100000 in
theorem svr_to (st kd sv : Int) (ru fm : List UInt8) (un : Bool) (yr mo k v d n c : Int) (b : Bool) (w : World) (hru : ru.length ≤ 1000000) (h : Hid (svB kd sv ru = b)) :
    Calls Tryz.prog 54 #[.agg #[.int .i64 st, .int .i64 kd, .int .i64 sv, .string ⟨ru.toArray⟩, .string ⟨fm.toArray⟩, .bool un, .int .i64 yr, .int .i64 mo, .int .i64 k, .int .i64 v, .int .i64 d, .int .i64 n, .int .i64 c]] w fun e w' => e = .returned (.bool b) ∧ Below w.heap.size w w' := by
  have Z : Hid ((⟨ru.toArray⟩ : ByteArray).size ≤ 1000000) := Lib.hid hru
  have hcs := svb_cases kd sv ru b h.out
  clear h hru
  rcases hcs with ⟨rfl, e, rfl⟩ | ⟨rfl, rfl, e, rfl⟩ | ⟨rfl, rfl, rfl, rfl⟩ | ⟨rfl, HB, rfl⟩ | ⟨rfl, HB, e, rfl⟩ | ⟨rfl, HB, rfl, rfl⟩ | ⟨rfl, e, rfl⟩ | ⟨rfl, rfl, HN⟩ | ⟨e1, e2, e3, rfl⟩
  · skip
    go_enter Tryz.func54, Tryz.ntmps54
    go_wp2
    go_ret
    exact ⟨rfl, by repeat (first | with_reducible exact Below.refl _ _ | with_reducible refine below_drewN ?_ _ | with_reducible refine Below.drew ?_ | refine Below.alloc ?_ (by simp; try omega) _)⟩
  · skip
    have x1 : (ru == []) = false := beq_eq_false_iff_ne.2 e
    have x2 : ru.isEmpty = false := by cases ru with | nil => exact absurd rfl e | cons _ _ => rfl
    have x3 : (⟨ru.toArray⟩ : ByteArray).toList.isEmpty = false := by rw [Lib.toList_data]; exact x2
    go_enter Tryz.func54, Tryz.ntmps54
    go_wp2
    go_ret
    exact ⟨rfl, by repeat (first | with_reducible exact Below.refl _ _ | with_reducible refine below_drewN ?_ _ | with_reducible refine Below.drew ?_ | refine Below.alloc ?_ (by simp; try omega) _)⟩
  · skip
    go_enter Tryz.func54, Tryz.ntmps54
    go_wp2
    go_ret
    exact ⟨rfl, by repeat (first | with_reducible exact Below.refl _ _ | with_reducible refine below_drewN ?_ _ | with_reducible refine Below.drew ?_ | refine Below.alloc ?_ (by simp; try omega) _)⟩
  · skip
    go_enter Tryz.func54, Tryz.ntmps54
    go_wp2_with fail
    refine (bday_to sv false _ HB).mono ?_
    rintro e w1 ⟨rfl, rfl⟩
    go_wp2
    go_ret
    exact ⟨rfl, by repeat (first | with_reducible exact Below.refl _ _ | with_reducible refine below_drewN ?_ _ | with_reducible refine Below.drew ?_ | refine Below.alloc ?_ (by simp; try omega) _)⟩
  · skip
    have x1 : (ru == []) = false := beq_eq_false_iff_ne.2 e
    have x2 : ru.isEmpty = false := by cases ru with | nil => exact absurd rfl e | cons _ _ => rfl
    have x3 : (⟨ru.toArray⟩ : ByteArray).toList.isEmpty = false := by rw [Lib.toList_data]; exact x2
    go_enter Tryz.func54, Tryz.ntmps54
    go_wp2_with fail
    refine (bday_to sv true _ HB).mono ?_
    rintro e w1 ⟨rfl, rfl⟩
    go_wp2
    go_ret
    exact ⟨rfl, by repeat (first | with_reducible exact Below.refl _ _ | with_reducible refine below_drewN ?_ _ | with_reducible refine Below.drew ?_ | refine Below.alloc ?_ (by simp; try omega) _)⟩
  · skip
    go_enter Tryz.func54, Tryz.ntmps54
    go_wp2_with fail
    refine (bday_to sv true _ HB).mono ?_
    rintro e w1 ⟨rfl, rfl⟩
    go_wp2
    go_ret
    exact ⟨rfl, by repeat (first | with_reducible exact Below.refl _ _ | with_reducible refine below_drewN ?_ _ | with_reducible refine Below.drew ?_ | refine Below.alloc ?_ (by simp; try omega) _)⟩
  · skip
    go_enter Tryz.func54, Tryz.ntmps54
    go_wp2
    go_ret
    exact ⟨rfl, by repeat (first | with_reducible exact Below.refl _ _ | with_reducible refine below_drewN ?_ _ | with_reducible refine Below.drew ?_ | refine Below.alloc ?_ (by simp; try omega) _)⟩
  · skip
    go_enter Tryz.func54, Tryz.ntmps54
    go_wp2_with fail
    refine (nam_to _ ru b _ Z.out (Lib.hid rfl) HN).mono ?_
    rintro e w1 ⟨rfl, rfl⟩
    go_wp2
    go_ret
    exact ⟨rfl, by repeat (first | with_reducible exact Below.refl _ _ | with_reducible refine below_drewN ?_ _ | with_reducible refine Below.drew ?_ | refine Below.alloc ?_ (by simp; try omega) _)⟩
  · skip
    go_enter Tryz.func54, Tryz.ntmps54
    go_wp2
    go_ret
    exact ⟨rfl, by repeat (first | with_reducible exact Below.refl _ _ | with_reducible refine below_drewN ?_ _ | with_reducible refine Below.drew ?_ | refine Below.alloc ?_ (by simp; try omega) _)⟩
end Zon
end Go.Proofs.YthefgagmjamdkaaGreatDoor
/-
  Contracts of package zone: untilIsRight. (Written by gen/gen_zonc.py.)
-/
namespace Go.Proofs.YthefgagmjamdkaaGreatDoor
open Go.RowKit
namespace Zon
open Sol Clk Cel Rul
theorem res_to (y m k v d N E : Int) (w : World) (hA : Civ.Ahead w) (h : Hid (Wk.resV y m k v d = N ∧ Wk.resE y m k v d = E)) :
    Calls Tryz.prog 81 #[.int .i64 y, .int .i64 m, .agg #[.int .i64 k, .int .i64 v, .int .i64 d]] w fun e w' => e = .returned (.tuple #[.int .i64 N, .int .i64 E]) ∧ Below w.heap.size w w' :=
  (Wk.resolve_any y m k v d w hA).mono fun _ _ ⟨he, hw⟩ => ⟨by rw [he, h.out.1, h.out.2], hw⟩
theorem unb_cases (un : Bool) (yr mo k v d n c E : Int) (b : Bool) (hE : Wk.resE yr mo k v d = E) (h : unB un yr mo k v d n c = b) :
    (un = false ∧ (yr == 0) = false ∧ b = false) ∨
    (un = false ∧ yr = 0 ∧ (mo == 0) = false ∧ b = false) ∨
    (un = false ∧ yr = 0 ∧ mo = 0 ∧ (k == 0) = false ∧ b = false) ∨
    (un = false ∧ yr = 0 ∧ mo = 0 ∧ k = 0 ∧ (v == 0) = false ∧ b = false) ∨
    (un = false ∧ yr = 0 ∧ mo = 0 ∧ k = 0 ∧ v = 0 ∧ (d == 0) = false ∧ b = false) ∨
    (un = false ∧ yr = 0 ∧ mo = 0 ∧ k = 0 ∧ v = 0 ∧ d = 0 ∧ (n == 0) = false ∧ b = false) ∨
    (un = false ∧ yr = 0 ∧ mo = 0 ∧ k = 0 ∧ v = 0 ∧ d = 0 ∧ n = 0 ∧ (c == 0) = false ∧ b = false) ∨
    (un = false ∧ yr = 0 ∧ mo = 0 ∧ k = 0 ∧ v = 0 ∧ d = 0 ∧ n = 0 ∧ c = 0 ∧ b = true) ∨
    (un = true ∧ (E == 0) = false ∧ b = false) ∨
    (un = true ∧ E = 0 ∧ Hid (Atf.atOk n c = b)) := by
  rw [unB, hE] at h
  cases un with
  | false =>
    rw [if_pos rfl] at h
    by_cases e0 : yr = 0
    case neg => exact Or.inl ⟨rfl, beq_eq_false_iff_ne.2 e0, by rw [← h]; simp [e0]⟩
    by_cases e1 : mo = 0
    case neg => exact Or.inr (Or.inl ⟨rfl, e0, beq_eq_false_iff_ne.2 e1, by rw [← h]; simp [e1]⟩)
    by_cases e2 : k = 0
    case neg => exact Or.inr (Or.inr (Or.inl ⟨rfl, e0, e1, beq_eq_false_iff_ne.2 e2, by rw [← h]; simp [e2]⟩))
    by_cases e3 : v = 0
    case neg => exact Or.inr (Or.inr (Or.inr (Or.inl ⟨rfl, e0, e1, e2, beq_eq_false_iff_ne.2 e3, by rw [← h]; simp [e3]⟩)))
    by_cases e4 : d = 0
    case neg => exact Or.inr (Or.inr (Or.inr (Or.inr (Or.inl ⟨rfl, e0, e1, e2, e3, beq_eq_false_iff_ne.2 e4, by rw [← h]; simp [e4]⟩))))
    by_cases e5 : n = 0
    case neg => exact Or.inr (Or.inr (Or.inr (Or.inr (Or.inr (Or.inl ⟨rfl, e0, e1, e2, e3, e4, beq_eq_false_iff_ne.2 e5, by rw [← h]; simp [e5]⟩)))))
    by_cases e6 : c = 0
    case neg => exact Or.inr (Or.inr (Or.inr (Or.inr (Or.inr (Or.inr (Or.inl ⟨rfl, e0, e1, e2, e3, e4, e5, beq_eq_false_iff_ne.2 e6, by rw [← h]; simp [e6]⟩))))))
    exact Or.inr (Or.inr (Or.inr (Or.inr (Or.inr (Or.inr (Or.inr (Or.inl ⟨rfl, e0, e1, e2, e3, e4, e5, e6, by rw [← h]; simp [e0, e1, e2, e3, e4, e5, e6]⟩)))))))
  | true =>
    rw [if_neg (by decide)] at h
    by_cases e : E = 0
    · exact Or.inr (Or.inr (Or.inr (Or.inr (Or.inr (Or.inr (Or.inr (Or.inr (Or.inr ⟨rfl, e, Lib.hid (by rw [← h]; simp [e])⟩))))))))
    · exact Or.inr (Or.inr (Or.inr (Or.inr (Or.inr (Or.inr (Or.inr (Or.inr (Or.inl ⟨rfl, beq_eq_false_iff_ne.2 e, by rw [← h]; simp [e]⟩))))))))
set_option maxHeartbeats 6400000 in
set_option maxRecDepth 100000 in
theorem unr_to (st kd sv : Int) (ru fm : List UInt8) (un : Bool) (yr mo k v d n c : Int) (b : Bool) (w : World) (hA : Civ.Ahead w) (h : Hid (unB un yr mo k v d n c = b)) :
    Calls Tryz.prog 55 #[.agg #[.int .i64 st, .int .i64 kd, .int .i64 sv, .string ⟨ru.toArray⟩, .string ⟨fm.toArray⟩, .bool un, .int .i64 yr, .int .i64 mo, .int .i64 k, .int .i64 v, .int .i64 d, .int .i64 n, .int .i64 c]] w fun e w' => e = .returned (.bool b) ∧ Below w.heap.size w w' := by
  have HA := Lib.hid hA
  obtain ⟨E, hE⟩ : ∃ E, Wk.resE yr mo k v d = E := ⟨_, rfl⟩
  obtain ⟨N, hN⟩ : ∃ N, Wk.resV yr mo k v d = N := ⟨_, rfl⟩
  have HE := Lib.hid (And.intro hN hE)
  have hcs := unb_cases un yr mo k v d n c E b hE h.out
  clear h hA hE hN
  rcases hcs with ⟨rfl, e, rfl⟩ | ⟨rfl, rfl, e, rfl⟩ | ⟨rfl, rfl, rfl, e, rfl⟩ | ⟨rfl, rfl, rfl, rfl, e, rfl⟩ | ⟨rfl, rfl, rfl, rfl, rfl, e, rfl⟩ | ⟨rfl, rfl, rfl, rfl, rfl, rfl, e, rfl⟩ | ⟨rfl, rfl, rfl, rfl, rfl, rfl, rfl, e, rfl⟩ | ⟨rfl, rfl, rfl, rfl, rfl, rfl, rfl, rfl, rfl⟩ | ⟨rfl, e, rfl⟩ | ⟨rfl, rfl, HN⟩
  · go_enter Tryz.func55, Tryz.ntmps55
    go_wp2
    go_ret
    exact ⟨rfl, by repeat (first | with_reducible exact Below.refl _ _ | with_reducible refine below_drewN ?_ _ | with_reducible refine Below.drew ?_ | refine Below.alloc ?_ (by simp; try omega) _)⟩
  · go_enter Tryz.func55, Tryz.ntmps55
    go_wp2
    go_ret
    exact ⟨rfl, by repeat (first | with_reducible exact Below.refl _ _ | with_reducible refine below_drewN ?_ _ | with_reducible refine Below.drew ?_ | refine Below.alloc ?_ (by simp; try omega) _)⟩
  · go_enter Tryz.func55, Tryz.ntmps55
    go_wp2
    go_ret
    exact ⟨rfl, by repeat (first | with_reducible exact Below.refl _ _ | with_reducible refine below_drewN ?_ _ | with_reducible refine Below.drew ?_ | refine Below.alloc ?_ (by simp; try omega) _)⟩
  · go_enter Tryz.func55, Tryz.ntmps55
    go_wp2
    go_ret
    exact ⟨rfl, by repeat (first | with_reducible exact Below.refl _ _ | with_reducible refine below_drewN ?_ _ | with_reducible refine Below.drew ?_ | refine Below.alloc ?_ (by simp; try omega) _)⟩
  · go_enter Tryz.func55, Tryz.ntmps55
    go_wp2
    go_ret
    exact ⟨rfl, by repeat (first | with_reducible exact Below.refl _ _ | with_reducible refine below_drewN ?_ _ | with_reducible refine Below.drew ?_ | refine Below.alloc ?_ (by simp; try omega) _)⟩
  · go_enter Tryz.func55, Tryz.ntmps55
    go_wp2
    go_ret
    exact ⟨rfl, by repeat (first | with_reducible exact Below.refl _ _ | with_reducible refine below_drewN ?_ _ | with_reducible refine Below.drew ?_ | refine Below.alloc ?_ (by simp; try omega) _)⟩
  · go_enter Tryz.func55, Tryz.ntmps55
    go_wp2
    go_ret
    exact ⟨rfl, by repeat (first | with_reducible exact Below.refl _ _ | with_reducible refine below_drewN ?_ _ | with_reducible refine Below.drew ?_ | refine Below.alloc ?_ (by simp; try omega) _)⟩
  · go_enter Tryz.func55, Tryz.ntmps55
    go_wp2
    go_ret
    exact ⟨rfl, by repeat (first | with_reducible exact Below.refl _ _ | with_reducible refine below_drewN ?_ _ | with_reducible refine Below.drew ?_ | refine Below.alloc ?_ (by simp; try omega) _)⟩
  · go_enter Tryz.func55, Tryz.ntmps55
    go_wp2_with fail
    refine (res_to yr mo k v d N E _ (HA.out.stays (by repeat (first | with_reducible exact Below.refl _ _ | with_reducible refine below_drewN ?_ _ | with_reducible refine Below.drew ?_ | refine Below.alloc ?_ (by simp; try omega) _))) HE).mono ?_
    rintro e w1 ⟨rfl, b1⟩
    have C1 := Lib.hid (Cs.below (Cs.new w [.int .i64 st, .int .i64 kd, .int .i64 sv, .string ⟨ru.toArray⟩, .string ⟨fm.toArray⟩, .bool true, .int .i64 yr, .int .i64 mo, .int .i64 k, .int .i64 v, .int .i64 d, .int .i64 n, .int .i64 c] 30) b1)
    have B1 := Lib.hid (bstep ((Below.refl w.heap.size w).alloc (Nat.le_refl _) _) b1)
    clear b1
    have z11 := (C1.out.2 11 _ rfl).1
    have z12 := (C1.out.2 12 _ rfl).1
    go_wp2
    go_ret
    exact ⟨rfl, B1.out⟩
  · go_enter Tryz.func55, Tryz.ntmps55
    go_wp2_with fail
    refine (res_to yr mo k v d N 0 _ (HA.out.stays (by repeat (first | with_reducible exact Below.refl _ _ | with_reducible refine below_drewN ?_ _ | with_reducible refine Below.drew ?_ | refine Below.alloc ?_ (by simp; try omega) _))) HE).mono ?_
    rintro e w1 ⟨rfl, b1⟩
    have C1 := Lib.hid (Cs.below (Cs.new w [.int .i64 st, .int .i64 kd, .int .i64 sv, .string ⟨ru.toArray⟩, .string ⟨fm.toArray⟩, .bool true, .int .i64 yr, .int .i64 mo, .int .i64 k, .int .i64 v, .int .i64 d, .int .i64 n, .int .i64 c] 30) b1)
    have B1 := Lib.hid (bstep ((Below.refl w.heap.size w).alloc (Nat.le_refl _) _) b1)
    clear b1
    have z11 := (C1.out.2 11 _ rfl).1
    have z12 := (C1.out.2 12 _ rfl).1
    cases b with
    | true =>
      go_wp2_with fail
      refine (Atf.acheck_to n c 0 _ (Lib.hid (by rw [Atf.atE, HN.out]; rfl))).mono ?_
      rintro e w2 ⟨rfl, rfl⟩
      go_wp2
      go_ret
      exact ⟨rfl, B1.out.alloc B1.out.size _⟩
    | false =>
      go_wp2_with fail
      refine (Atf.acheck_to n c 9 _ (Lib.hid (by rw [Atf.atE, HN.out]; rfl))).mono ?_
      rintro e w2 ⟨rfl, rfl⟩
      go_wp2
      go_ret
      exact ⟨rfl, B1.out.alloc B1.out.size _⟩
end Zon
end Go.Proofs.YthefgagmjamdkaaGreatDoor
/-
  Contracts of package zone: isRight. (Written by gen/gen_zond.py.)
-/
namespace Go.Proofs.YthefgagmjamdkaaGreatDoor
open Go.RowKit
namespace Zon
open Sol Clk Cel Rul
theorem rgb_cases (st kd sv : Int) (ru fm : List UInt8) (un : Bool) (yr mo k v d n c : Int) (b : Bool) (h : rgB ⟨st, kd, sv, ru, fm, un, yr, mo, k, v, d, n, c⟩ = b) :
    (Hid (bday st = false) ∧ b = false) ∨ (Hid (bday st = true) ∧ Hid (svB kd sv ru = false) ∧ b = false) ∨ (Hid (bday st = true) ∧ Hid (svB kd sv ru = true) ∧ Hid (Fm.fmtB fm = false) ∧ b = false) ∨
    (Hid (bday st = true) ∧ Hid (svB kd sv ru = true) ∧ Hid (Fm.fmtB fm = true) ∧ Hid (unB un yr mo k v d n c = b)) := by
  have h : (bday st && (svB kd sv ru && (Fm.fmtB fm && unB un yr mo k v d n c))) = b := h
  by_cases e1 : bday st = true
  · by_cases e2 : svB kd sv ru = true
    · by_cases e3 : Fm.fmtB fm = true
      · exact Or.inr (Or.inr (Or.inr ⟨Lib.hid e1, Lib.hid e2, Lib.hid e3, Lib.hid (by rw [← h, e1, e2, e3]; rfl)⟩))
      · have e3 : Fm.fmtB fm = false := by simpa using e3
        exact Or.inr (Or.inr (Or.inl ⟨Lib.hid e1, Lib.hid e2, Lib.hid e3, by rw [← h, e1, e2, e3]; rfl⟩))
    · have e2 : svB kd sv ru = false := by simpa using e2
      exact Or.inr (Or.inl ⟨Lib.hid e1, Lib.hid e2, by rw [← h, e1, e2]; rfl⟩)
  · have e1 : bday st = false := by simpa using e1
    exact Or.inl ⟨Lib.hid e1, by rw [← h, e1]; rfl⟩
set_option maxHeartbeats 6400000 in
set_option maxRecDepth 100000 in
theorem isr_to (st kd sv : Int) (ru fm : List UInt8) (un : Bool) (yr mo k v d n c : Int) (b : Bool) (w : World) (hA : Civ.Ahead w) (hm : Wrd.MaxL w) (hru : ru.length ≤ 1000000) (hfm : fm.length ≤ 1000000) (h : Hid (rgB ⟨st, kd, sv, ru, fm, un, yr, mo, k, v, d, n, c⟩ = b)) :
    Calls Tryz.prog 21 #[.agg #[.int .i64 st, .int .i64 kd, .int .i64 sv, .string ⟨ru.toArray⟩, .string ⟨fm.toArray⟩, .bool un, .int .i64 yr, .int .i64 mo, .int .i64 k, .int .i64 v, .int .i64 d, .int .i64 n, .int .i64 c]] w fun e w' => e = .returned (.bool b) ∧ Below w.heap.size w w' := by
  have HA := Lib.hid hA
  have HM := Lib.hid hm
  have Z1 : Hid (ru.length ≤ 1000000) := Lib.hid hru
  have Z2 : Hid ((⟨fm.toArray⟩ : ByteArray).size ≤ 1000000) := Lib.hid hfm
  have hcs := rgb_cases st kd sv ru fm un yr mo k v d n c b h.out
  clear h hA hm hru hfm
  have C0 := Lib.hid (Cs.new w [.int .i64 st, .int .i64 kd, .int .i64 sv, .string ⟨ru.toArray⟩, .string ⟨fm.toArray⟩, .bool un, .int .i64 yr, .int .i64 mo, .int .i64 k, .int .i64 v, .int .i64 d, .int .i64 n, .int .i64 c] 30)
  have B0 := Lib.hid ((Below.refl w.heap.size w).alloc (Nat.le_refl _) (Obj.cells #[.int .i64 st, .int .i64 kd, .int .i64 sv, .string ⟨ru.toArray⟩, .string ⟨fm.toArray⟩, .bool un, .int .i64 yr, .int .i64 mo, .int .i64 k, .int .i64 v, .int .i64 d, .int .i64 n, .int .i64 c] 30))
  rcases hcs with ⟨h1, rfl⟩ | ⟨h1, h2, rfl⟩ | ⟨h1, h2, h3, rfl⟩ | ⟨h1, h2, h3, h4⟩
  · go_enter Tryz.func21, Tryz.ntmps21
    go_wp2_with fail
    refine (bday_to st false _ h1).mono ?_
    rintro e w1 ⟨rfl, rfl⟩
    go_wp2
    go_ret
    exact ⟨rfl, B0.out⟩
  · go_enter Tryz.func21, Tryz.ntmps21
    go_wp2_with fail
    refine (bday_to st true _ h1).mono ?_
    rintro e w1 ⟨rfl, rfl⟩
    go_wp2_with fail
    refine (svr_to st kd sv ru fm un yr mo k v d n c false _ Z1.out h2).mono ?_
    rintro e w1 ⟨rfl, b1⟩
    have C1 := Lib.hid (C0.out.below b1)
    have B1 := Lib.hid (bstep B0.out b1)
    clear b1 C0
    have z4 := (C1.out.2 4 _ rfl).1
    go_wp2
    go_ret
    exact ⟨rfl, B1.out⟩
  · go_enter Tryz.func21, Tryz.ntmps21
    go_wp2_with fail
    refine (bday_to st true _ h1).mono ?_
    rintro e w1 ⟨rfl, rfl⟩
    go_wp2_with fail
    refine (svr_to st kd sv ru fm un yr mo k v d n c true _ Z1.out h2).mono ?_
    rintro e w1 ⟨rfl, b1⟩
    have C1 := Lib.hid (C0.out.below b1)
    have B1 := Lib.hid (bstep B0.out b1)
    clear b1 C0
    have z4 := (C1.out.2 4 _ rfl).1
    go_wp2_with fail
    refine (Fm.fmt_to _ fm false _ (HM.out.stays B1.out) Z2.out (Lib.hid rfl) h3).mono ?_
    rintro e w2 ⟨rfl, b2⟩
    have C2 := Lib.hid (C1.out.below b2)
    have B2 := Lib.hid (bstep B1.out b2)
    clear b2 C1 z4
    go_wp2
    go_ret
    exact ⟨rfl, B2.out⟩
  · go_enter Tryz.func21, Tryz.ntmps21
    go_wp2_with fail
    refine (bday_to st true _ h1).mono ?_
    rintro e w1 ⟨rfl, rfl⟩
    go_wp2_with fail
    refine (svr_to st kd sv ru fm un yr mo k v d n c true _ Z1.out h2).mono ?_
    rintro e w1 ⟨rfl, b1⟩
    have C1 := Lib.hid (C0.out.below b1)
    have B1 := Lib.hid (bstep B0.out b1)
    clear b1 C0
    have z4 := (C1.out.2 4 _ rfl).1
    go_wp2_with fail
    refine (Fm.fmt_to _ fm true _ (HM.out.stays B1.out) Z2.out (Lib.hid rfl) h3).mono ?_
    rintro e w2 ⟨rfl, b2⟩
    have C2 := Lib.hid (C1.out.below b2)
    have B2 := Lib.hid (bstep B1.out b2)
    clear b2 C1 z4
    have z0 := (C2.out.2 0 _ rfl).1
    have z1 := (C2.out.2 1 _ rfl).1
    have z2 := (C2.out.2 2 _ rfl).1
    have z3 := (C2.out.2 3 _ rfl).1
    have z4 := (C2.out.2 4 _ rfl).1
    have z5 := (C2.out.2 5 _ rfl).1
    have z6 := (C2.out.2 6 _ rfl).1
    have z7 := (C2.out.2 7 _ rfl).1
    have z8 := (C2.out.2 8 _ rfl).1
    have z9 := (C2.out.2 9 _ rfl).1
    have z10 := (C2.out.2 10 _ rfl).1
    have z11 := (C2.out.2 11 _ rfl).1
    have z12 := (C2.out.2 12 _ rfl).1
    go_wp2_with fail
    refine (unr_to st kd sv ru fm un yr mo k v d n c b _ (HA.out.stays B2.out) h4).mono ?_
    rintro e w3 ⟨rfl, b3⟩
    have B3 := Lib.hid (bstep B2.out b3)
    clear b3
    go_wp2
    go_ret
    exact ⟨rfl, B3.out⟩
end Zon
end Go.Proofs.YthefgagmjamdkaaGreatDoor
