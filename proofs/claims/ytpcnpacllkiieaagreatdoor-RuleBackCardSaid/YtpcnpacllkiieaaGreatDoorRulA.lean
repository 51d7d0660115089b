/-
  Contracts of package rule: Name, Letter, dayFits, Check. (Written by gen/gen_rula.py.)
-/
import Derived.Test.YtpcnpacllkiieaaGreatDoorRulM
import Derived.Test.YtpcnpacllkiieaaGreatDoorCel
import Derived.Lib.QuietBelow
namespace Go.Proofs.YtpcnpacllkiieaaGreatDoor
open Go.RowKit
namespace Rul
open Sol Clk Cel
theorem at_ls {s : ByteArray} {S : List UInt8} (hS : s.data.toList = S) (k : Nat) (h : k < s.size) : ∃ h2 : k < S.length, s[k] = S[k] := by
  subst hS
  exact ⟨by simpa using h, by simp [ByteArray.getElem_eq_getElem_data]⟩
set_option maxHeartbeats 3200000 in
set_option maxRecDepth 100000 in
theorem nam_to (s : ByteArray) (S : List UInt8) (b : Bool) (w : World) (hs : s.size ≤ 1000000) (hS : Hid (s.data.toList = S)) (h : Hid (nameB S = b)) :
    Calls Tryz.prog 18 #[.string s] w fun e w' => e = .returned (.bool b) ∧ w = w' := by
  have hl : s.size = S.length := by rw [← hS.out]; simp
  have HH := h.out
  clear h
  rw [nameB] at HH
  obtain ⟨on, h1⟩ : ∃ x, Fm.onlyB S [95, 43, 45, 47] = x := ⟨_, rfl⟩
  have H1 := Lib.hid h1
  rw [h1, ← hl] at HH
  clear h1
  by_cases a1 : s.size < 1
  · have : b = false := by rw [← HH, decide_eq_false (by omega)]; rfl
    subst this
    clear HH hl
    go_enter Tryz.func18, Tryz.ntmps18
    go_wp2
    go_ret
    exact ⟨rfl, rfl⟩
  by_cases a2 : 40 < s.size
  · have : b = false := by rw [← HH, decide_eq_false (by omega)]; rfl
    subst this
    clear HH hl
    go_enter Tryz.func18, Tryz.ntmps18
    go_wp2
    go_ret
    exact ⟨rfl, rfl⟩
  have a3 : 1 ≤ s.size := by omega
  have a4 : s.size ≤ 40 := by omega
  obtain ⟨h0, hx⟩ := at_ls hS.out 0 (by omega)
  obtain ⟨c, hc⟩ : ∃ c, s[0] = c := ⟨_, rfl⟩
  rw [hc] at hx
  rw [decide_eq_true ⟨a3, a4⟩, Bool.true_and] at HH
  have hd : hdBad S = (isDig c || (c == 43 || c == 45)) := by
    cases S with
    | nil => simp at h0
    | cons x T => rw [hx]; rfl
  rw [hd] at HH
  have cb := c.toNat_lt
  have hcs : (isDig c = true ∧ b = false) ∨ (isDig c = false ∧ ((c.toNat : Int) == 43) = true ∧ b = false) ∨ (isDig c = false ∧ ((c.toNat : Int) == 43) = false ∧ ((c.toNat : Int) == 45) = true ∧ b = false) ∨ (isDig c = false ∧ ((c.toNat : Int) == 43) = false ∧ ((c.toNat : Int) == 45) = false ∧ b = on) := by
    rw [← HH]
    cases hdg : isDig c with
    | true => exact Or.inl ⟨rfl, by simp⟩
    | false =>
      by_cases e1 : c = 43
      · exact Or.inr (Or.inl ⟨rfl, by rw [e1]; rfl, by simp [e1]⟩)
      · by_cases e2 : c = 45
        · exact Or.inr (Or.inr (Or.inl ⟨rfl, Esc.u8_ne (n := 43) (by decide) e1, by rw [e2]; rfl, by simp [e2]⟩))
        · refine Or.inr (Or.inr (Or.inr ⟨rfl, Esc.u8_ne (n := 43) (by decide) e1, Esc.u8_ne (n := 45) (by decide) e2, ?_⟩))
          have f1 : (c == 43) = false := beq_eq_false_iff_ne.2 e1
          have f2 : (c == 45) = false := beq_eq_false_iff_ne.2 e2
          simp [f1, f2]
  clear HH hd hx h0 hl a1 a2
  rcases hcs with ⟨hg, rfl⟩ | ⟨hg, e1, rfl⟩ | ⟨hg, e1, e2, rfl⟩ | ⟨hg, e1, e2, rfl⟩
  · have HG := Lib.hid hg
    clear hg
    go_enter Tryz.func18, Tryz.ntmps18
    go_wp2_with fail
    refine (Fm.isD_to c true _ HG).mono ?_
    rintro e w1 ⟨rfl, rfl⟩
    go_wp2
    go_ret
    exact ⟨rfl, rfl⟩
  · have HG := Lib.hid hg
    clear hg
    go_enter Tryz.func18, Tryz.ntmps18
    go_wp2_with fail
    refine (Fm.isD_to c false _ HG).mono ?_
    rintro e w1 ⟨rfl, rfl⟩
    go_wp2
    go_ret
    exact ⟨rfl, rfl⟩
  · have HG := Lib.hid hg
    clear hg
    go_enter Tryz.func18, Tryz.ntmps18
    go_wp2_with fail
    refine (Fm.isD_to c false _ HG).mono ?_
    rintro e w1 ⟨rfl, rfl⟩
    go_wp2
    go_ret
    exact ⟨rfl, rfl⟩
  · have HG := Lib.hid hg
    clear hg
    go_enter Tryz.func18, Tryz.ntmps18
    go_wp2_with fail
    refine (Fm.isD_to c false _ HG).mono ?_
    rintro e w1 ⟨rfl, rfl⟩
    go_wp2_with fail
    refine (Fm.only_to s ⟨#[95, 43, 45, 47]⟩ S [95, 43, 45, 47] _ _ hs hS (Lib.hid rfl) H1).mono ?_
    rintro e w1 ⟨rfl, rfl⟩
    go_wp2
    go_ret
    exact ⟨rfl, rfl⟩
set_option maxHeartbeats 3200000 in
set_option maxRecDepth 100000 in
theorem let2_to (s : ByteArray) (S : List UInt8) (b : Bool) (w : World) (hs : s.size ≤ 1000000) (hS : Hid (s.data.toList = S)) (h : Hid (Fm.letB S = b)) :
    Calls Tryz.prog 20 #[.string s] w fun e w' => e = .returned (.bool b) ∧ w = w' := by
  have hl : s.size = S.length := by rw [← hS.out]; simp
  have HH := h.out
  clear h
  rw [Fm.letB] at HH
  obtain ⟨on, h1⟩ : ∃ x, Fm.onlyB S [43, 45] = x := ⟨_, rfl⟩
  have H1 := Lib.hid h1
  rw [h1, ← hl] at HH
  clear h1
  have hz : (6 < s.size ∧ b = false) ∨ (s.size ≤ 6 ∧ ((S = [45] ∧ b = false) ∨ (¬ s.toList = [45] ∧ b = on))) := by
    subst HH
    by_cases a1 : s.size ≤ 6
    · refine Or.inr ⟨a1, ?_⟩
      by_cases a2 : S = [45]
      · exact Or.inl ⟨a2, by rw [decide_eq_true a1, decide_eq_true a2]; rfl⟩
      · exact Or.inr ⟨by rw [Lib.toList_data, hS.out]; exact a2, by rw [decide_eq_true a1, decide_eq_false a2]; rfl⟩
    · exact Or.inl ⟨by omega, by rw [decide_eq_false a1]; rfl⟩
  clear HH hl
  rcases hz with ⟨a1, rfl⟩ | ⟨a1, ⟨a2, rfl⟩ | ⟨a2, rfl⟩⟩
  · go_enter Tryz.func20, Tryz.ntmps20
    go_wp2
    go_ret
    exact ⟨rfl, rfl⟩
  · have a3 : s.toList = [45] := by rw [Lib.toList_data, hS.out]; exact a2
    go_enter Tryz.func20, Tryz.ntmps20
    go_wp2
    go_ret
    exact ⟨rfl, rfl⟩
  · go_enter Tryz.func20, Tryz.ntmps20
    go_wp2_with fail
    refine (Fm.only_to s ⟨#[43, 45]⟩ S [43, 45] _ _ hs hS (Lib.hid rfl) H1).mono ?_
    rintro e w1 ⟨rfl, rfl⟩
    go_wp2
    go_ret
    exact ⟨ret_b (by simp [a2]), rfl⟩
theorem len_to (y m n : Int) (w : World) (h : Hid (Cal.mlen y m = n)) :
    Calls Tryz.prog 104 #[.int .i64 y, .int .i64 m] w fun e w' => e = .returned (.int .i64 n) ∧ w = w' :=
  (Civ.len_any y m w).mono fun _ _ ⟨he, hw⟩ => ⟨by rw [he, h.out], hw⟩
theorem len_b (y m n : Int) (w : World) (h : Hid (Cal.mlen y m = n)) :
    Calls Tryz.prog 104 #[.int .i64 y, .int .i64 m] w fun e w' => e = .returned (.int .i64 n) ∧ Below w.heap.size w w' :=
  (len_to y m n w h).mono fun _ _ ⟨he, hw⟩ => ⟨he, hw ▸ Below.refl _ _⟩
set_option maxHeartbeats 3200000 in
set_option maxRecDepth 100000 in
theorem fits_to (nm lt : List UInt8) (fr tu mo k v d n c sv : Int) (b : Bool) (w : World) (h : Hid (fitB fr tu mo k d = b)) :
    Calls Tryz.prog 66 #[.agg #[.string ⟨nm.toArray⟩, .int .i64 fr, .int .i64 tu, .int .i64 mo, .int .i64 k, .int .i64 v, .int .i64 d, .int .i64 n, .int .i64 c, .int .i64 sv, .string ⟨lt.toArray⟩]] w fun e w' => e = .returned (.bool b) ∧ Below w.heap.size w w' := by
  have HH := h.out
  clear h
  rw [fitB] at HH
  obtain ⟨m, hm⟩ : ∃ m, Cal.mlen (if k = 1 ∧ fr < tu then 2001 else 2000) mo = m := ⟨_, rfl⟩
  rw [hm] at HH
  have hcs : (k = 1 ∧ fr < tu ∧ Hid (Cal.mlen 2001 mo = m) ∧ b = decide (d ≤ m)) ∨ (k = 1 ∧ ¬ fr < tu ∧ Hid (Cal.mlen 2000 mo = m) ∧ b = decide (d ≤ m)) ∨ ((k == 1) = false ∧ (k == 2) = true ∧ b = true) ∨ ((k == 1) = false ∧ (k == 2) = false ∧ Hid (Cal.mlen 2000 mo = m) ∧ b = decide (d ≤ m)) := by
    rw [← HH]
    by_cases e1 : k = 1
    · subst e1
      by_cases e2 : fr < tu
      · rw [if_pos ⟨rfl, e2⟩] at hm
        exact Or.inl ⟨rfl, e2, Lib.hid hm, by simp⟩
      · rw [if_neg (fun h => e2 h.2)] at hm
        exact Or.inr (Or.inl ⟨rfl, e2, Lib.hid hm, by simp⟩)
    · rw [if_neg (fun h => e1 h.1)] at hm
      by_cases e2 : k = 2
      · exact Or.inr (Or.inr (Or.inl ⟨beq_eq_false_iff_ne.2 e1, beq_iff_eq.2 e2, by simp [e2]⟩))
      · exact Or.inr (Or.inr (Or.inr ⟨beq_eq_false_iff_ne.2 e1, beq_eq_false_iff_ne.2 e2, Lib.hid hm, by simp [e2]⟩))
  clear HH hm
  rcases hcs with ⟨rfl, e2, HM, rfl⟩ | ⟨rfl, e2, HM, rfl⟩ | ⟨e1, e2, rfl⟩ | ⟨e1, e2, HM, rfl⟩
  · go_enter Tryz.func66, Tryz.ntmps66
    go_upto_region 4 with fail
    have C0 : Cs w.heap.size (w.alloc (Obj.cells #[.string ⟨nm.toArray⟩, .int .i64 fr, .int .i64 tu, .int .i64 mo, .int .i64 1, .int .i64 v, .int .i64 d, .int .i64 n, .int .i64 c, .int .i64 sv, .string ⟨lt.toArray⟩] 27)) [.string ⟨nm.toArray⟩, .int .i64 fr, .int .i64 tu, .int .i64 mo, .int .i64 1, .int .i64 v, .int .i64 d, .int .i64 n, .int .i64 c, .int .i64 sv, .string ⟨lt.toArray⟩] := Cs.new _ _ _
    have z3 := (C0.2 3 _ rfl).1
    have z4 := (C0.2 4 _ rfl).1
    have z6 := (C0.2 6 _ rfl).1
    have hb : Below w.heap.size w (w.alloc (Obj.cells #[.string ⟨nm.toArray⟩, .int .i64 fr, .int .i64 tu, .int .i64 mo, .int .i64 1, .int .i64 v, .int .i64 d, .int .i64 n, .int .i64 c, .int .i64 sv, .string ⟨lt.toArray⟩] 27)) := (Below.refl _ _).alloc (Nat.le_refl _) _
    clear C0
    generalize (w.alloc (Obj.cells #[.string ⟨nm.toArray⟩, .int .i64 fr, .int .i64 tu, .int .i64 mo, .int .i64 1, .int .i64 v, .int .i64 d, .int .i64 n, .int .i64 c, .int .i64 sv, .string ⟨lt.toArray⟩] 27)) = W at z3 z4 z6 hb ⊢
    have c3 := cell_regrown z3
    have c4 := cell_regrown z4
    have c6 := cell_regrown z6
    have d1 := Lib.hid (fun dd os => Calls.regrown_of (len_b 2001 mo m (Sort.grow (redrawn W dd) os) HM))
    refine wp_region_quiet_below (by kernel_rfl) (by kernel_rfl) ?_
    repeat (quiet_step (first | with_reducible exact d1.out _ _))
    refine wpQuiet_nil ?_
    intro w' hw'
    obtain ⟨⟨dq, osq⟩, rfl⟩ := hw'
    have hz := hb.trans ((below_regrown W dq osq).mono hb.size)
    go_wp2
    go_ret
    exact ⟨rfl, hz⟩
  · go_enter Tryz.func66, Tryz.ntmps66
    go_upto_region 4 with fail
    have C0 : Cs w.heap.size (w.alloc (Obj.cells #[.string ⟨nm.toArray⟩, .int .i64 fr, .int .i64 tu, .int .i64 mo, .int .i64 1, .int .i64 v, .int .i64 d, .int .i64 n, .int .i64 c, .int .i64 sv, .string ⟨lt.toArray⟩] 27)) [.string ⟨nm.toArray⟩, .int .i64 fr, .int .i64 tu, .int .i64 mo, .int .i64 1, .int .i64 v, .int .i64 d, .int .i64 n, .int .i64 c, .int .i64 sv, .string ⟨lt.toArray⟩] := Cs.new _ _ _
    have z3 := (C0.2 3 _ rfl).1
    have z4 := (C0.2 4 _ rfl).1
    have z6 := (C0.2 6 _ rfl).1
    have hb : Below w.heap.size w (w.alloc (Obj.cells #[.string ⟨nm.toArray⟩, .int .i64 fr, .int .i64 tu, .int .i64 mo, .int .i64 1, .int .i64 v, .int .i64 d, .int .i64 n, .int .i64 c, .int .i64 sv, .string ⟨lt.toArray⟩] 27)) := (Below.refl _ _).alloc (Nat.le_refl _) _
    clear C0
    generalize (w.alloc (Obj.cells #[.string ⟨nm.toArray⟩, .int .i64 fr, .int .i64 tu, .int .i64 mo, .int .i64 1, .int .i64 v, .int .i64 d, .int .i64 n, .int .i64 c, .int .i64 sv, .string ⟨lt.toArray⟩] 27)) = W at z3 z4 z6 hb ⊢
    have c3 := cell_regrown z3
    have c4 := cell_regrown z4
    have c6 := cell_regrown z6
    have d1 := Lib.hid (fun dd os => Calls.regrown_of (len_b 2000 mo m (Sort.grow (redrawn W dd) os) HM))
    refine wp_region_quiet_below (by kernel_rfl) (by kernel_rfl) ?_
    repeat (quiet_step (first | with_reducible exact d1.out _ _))
    refine wpQuiet_nil ?_
    intro w' hw'
    obtain ⟨⟨dq, osq⟩, rfl⟩ := hw'
    have hz := hb.trans ((below_regrown W dq osq).mono hb.size)
    go_wp2
    go_ret
    exact ⟨rfl, hz⟩
  · go_enter Tryz.func66, Tryz.ntmps66
    go_upto_region 4 with fail
    have C0 : Cs w.heap.size (w.alloc (Obj.cells #[.string ⟨nm.toArray⟩, .int .i64 fr, .int .i64 tu, .int .i64 mo, .int .i64 k, .int .i64 v, .int .i64 d, .int .i64 n, .int .i64 c, .int .i64 sv, .string ⟨lt.toArray⟩] 27)) [.string ⟨nm.toArray⟩, .int .i64 fr, .int .i64 tu, .int .i64 mo, .int .i64 k, .int .i64 v, .int .i64 d, .int .i64 n, .int .i64 c, .int .i64 sv, .string ⟨lt.toArray⟩] := Cs.new _ _ _
    have z3 := (C0.2 3 _ rfl).1
    have z4 := (C0.2 4 _ rfl).1
    have z6 := (C0.2 6 _ rfl).1
    have hb : Below w.heap.size w (w.alloc (Obj.cells #[.string ⟨nm.toArray⟩, .int .i64 fr, .int .i64 tu, .int .i64 mo, .int .i64 k, .int .i64 v, .int .i64 d, .int .i64 n, .int .i64 c, .int .i64 sv, .string ⟨lt.toArray⟩] 27)) := (Below.refl _ _).alloc (Nat.le_refl _) _
    clear C0
    generalize (w.alloc (Obj.cells #[.string ⟨nm.toArray⟩, .int .i64 fr, .int .i64 tu, .int .i64 mo, .int .i64 k, .int .i64 v, .int .i64 d, .int .i64 n, .int .i64 c, .int .i64 sv, .string ⟨lt.toArray⟩] 27)) = W at z3 z4 z6 hb ⊢
    have c3 := cell_regrown z3
    have c4 := cell_regrown z4
    have c6 := cell_regrown z6
    refine wp_region_quiet_below (by kernel_rfl) (by kernel_rfl) ?_
    iterate 4 (quiet_step (skip))
    refine wpQuiet_step (fun K hK => ?_)
    go_simp
    generalize hA : (Act.mk _ _) = A
    refine hK _ ?_
    clear hK K
    refine wpQuiet_step (fun K hK => ?_)
    subst hA
    go_simp
    generalize hA : (Act.mk _ _) = A
    refine hK _ ?_
    clear hK K
    refine wpQuiet_step (fun K hK => ?_)
    subst hA
    go_simp
    generalize hA : (Act.mk _ _) = A
    refine hK _ ?_
    clear hK K
    refine wpQuiet_step (fun K hK => ?_)
    subst hA
    go_simp
    generalize hA : (Act.mk _ _) = A
    refine hK _ ?_
    clear hK K
    refine wpQuiet_step (fun K hK => ?_)
    subst hA
    go_simp
    generalize hA : (Act.mk _ _) = A
    refine hK _ ?_
    clear hK K
    refine wpQuiet_step (fun K hK => ?_)
    subst hA
    go_simp
    generalize hA : (Act.mk _ _) = A
    refine hK _ ?_
    clear hK K
    refine wpQuiet_step (fun K hK => ?_)
    subst hA
    go_simp
    generalize hA : (Act.mk _ _) = A
    refine hK _ ?_
    clear hK K
    refine wpQuiet_step (fun K hK => ?_)
    subst hA
    go_simp
    generalize hA : (Act.mk _ _) = A
    refine hK _ ?_
    clear hK K
    refine wpQuiet_step (fun K hK => ?_)
    subst hA
    go_simp
    generalize hA : (Act.mk _ _) = A
    refine hK _ ?_
    clear hK K
    refine wpQuiet_step (fun K hK => ?_)
    subst hA
    go_simp
    generalize hA : (Act.mk _ _) = A
    refine hK _ ?_
    clear hK K
    refine wpQuiet_step (fun K hK => ?_)
    subst hA
    go_simp
    generalize hA : (Act.mk _ _) = A
    refine hK _ ?_
    clear hK K
    refine wpQuiet_nil ?_
    intro w' hw'
    obtain ⟨⟨dq, osq⟩, rfl⟩ := hw'
    have hz := hb.trans ((below_regrown W dq osq).mono hb.size)
    subst hA
    go_wp2
    go_ret
    exact ⟨rfl, hz⟩
  · go_enter Tryz.func66, Tryz.ntmps66
    go_upto_region 4 with fail
    have C0 : Cs w.heap.size (w.alloc (Obj.cells #[.string ⟨nm.toArray⟩, .int .i64 fr, .int .i64 tu, .int .i64 mo, .int .i64 k, .int .i64 v, .int .i64 d, .int .i64 n, .int .i64 c, .int .i64 sv, .string ⟨lt.toArray⟩] 27)) [.string ⟨nm.toArray⟩, .int .i64 fr, .int .i64 tu, .int .i64 mo, .int .i64 k, .int .i64 v, .int .i64 d, .int .i64 n, .int .i64 c, .int .i64 sv, .string ⟨lt.toArray⟩] := Cs.new _ _ _
    have z3 := (C0.2 3 _ rfl).1
    have z4 := (C0.2 4 _ rfl).1
    have z6 := (C0.2 6 _ rfl).1
    have hb : Below w.heap.size w (w.alloc (Obj.cells #[.string ⟨nm.toArray⟩, .int .i64 fr, .int .i64 tu, .int .i64 mo, .int .i64 k, .int .i64 v, .int .i64 d, .int .i64 n, .int .i64 c, .int .i64 sv, .string ⟨lt.toArray⟩] 27)) := (Below.refl _ _).alloc (Nat.le_refl _) _
    clear C0
    generalize (w.alloc (Obj.cells #[.string ⟨nm.toArray⟩, .int .i64 fr, .int .i64 tu, .int .i64 mo, .int .i64 k, .int .i64 v, .int .i64 d, .int .i64 n, .int .i64 c, .int .i64 sv, .string ⟨lt.toArray⟩] 27)) = W at z3 z4 z6 hb ⊢
    have c3 := cell_regrown z3
    have c4 := cell_regrown z4
    have c6 := cell_regrown z6
    have d1 := Lib.hid (fun dd os => Calls.regrown_of (len_b 2000 mo m (Sort.grow (redrawn W dd) os) HM))
    refine wp_region_quiet_below (by kernel_rfl) (by kernel_rfl) ?_
    repeat (quiet_step (first | with_reducible exact d1.out _ _))
    refine wpQuiet_nil ?_
    intro w' hw'
    obtain ⟨⟨dq, osq⟩, rfl⟩ := hw'
    have hz := hb.trans ((below_regrown W dq osq).mono hb.size)
    go_wp2
    go_ret
    exact ⟨rfl, hz⟩
/-- Which of a rule's conditions fails first. -/
theorem chk_cases (nm lt : List UInt8) (fr tu mo k v d n c sv : Int) (e : Int) (h : ruE ⟨nm, fr, tu, mo, k, v, d, n, c, sv, lt⟩ = e) :
    (Hid (nameB nm = false) ∧ e = 10) ∨
    (Hid (nameB nm = true) ∧ Hid (Fm.letB lt = false) ∧ e = 10) ∨
    (Hid (nameB nm = true) ∧ Hid (Fm.letB lt = true) ∧ ¬ 1 ≤ fr ∧ e = 10) ∨
    (Hid (nameB nm = true) ∧ Hid (Fm.letB lt = true) ∧ 1 ≤ fr ∧ ¬ fr ≤ tu ∧ e = 10) ∨
    (Hid (nameB nm = true) ∧ Hid (Fm.letB lt = true) ∧ 1 ≤ fr ∧ fr ≤ tu ∧ ¬ tu ≤ 9999 ∧ e = 10) ∨
    (Hid (nameB nm = true) ∧ Hid (Fm.letB lt = true) ∧ 1 ≤ fr ∧ fr ≤ tu ∧ tu ≤ 9999 ∧ ¬ 1 ≤ mo ∧ e = 10) ∨
    (Hid (nameB nm = true) ∧ Hid (Fm.letB lt = true) ∧ 1 ≤ fr ∧ fr ≤ tu ∧ tu ≤ 9999 ∧ 1 ≤ mo ∧ ¬ mo ≤ 12 ∧ e = 10) ∨
    (Hid (nameB nm = true) ∧ Hid (Fm.letB lt = true) ∧ 1 ≤ fr ∧ fr ≤ tu ∧ tu ≤ 9999 ∧ 1 ≤ mo ∧ mo ≤ 12 ∧ Hid (Wk.onOk k v d = false) ∧ e = 10) ∨
    (Hid (nameB nm = true) ∧ Hid (Fm.letB lt = true) ∧ 1 ≤ fr ∧ fr ≤ tu ∧ tu ≤ 9999 ∧ 1 ≤ mo ∧ mo ≤ 12 ∧ Hid (Wk.onOk k v d = true) ∧ Hid (fitB fr tu mo k d = false) ∧ e = 10) ∨
    (Hid (nameB nm = true) ∧ Hid (Fm.letB lt = true) ∧ 1 ≤ fr ∧ fr ≤ tu ∧ tu ≤ 9999 ∧ 1 ≤ mo ∧ mo ≤ 12 ∧ Hid (Wk.onOk k v d = true) ∧ Hid (fitB fr tu mo k d = true) ∧ Hid (Atf.atOk n c = false) ∧ e = 10) ∨
    (Hid (nameB nm = true) ∧ Hid (Fm.letB lt = true) ∧ 1 ≤ fr ∧ fr ≤ tu ∧ tu ≤ 9999 ∧ 1 ≤ mo ∧ mo ≤ 12 ∧ Hid (Wk.onOk k v d = true) ∧ Hid (fitB fr tu mo k d = true) ∧ Hid (Atf.atOk n c = true) ∧ ¬ -86400 < sv ∧ e = 10) ∨
    (Hid (nameB nm = true) ∧ Hid (Fm.letB lt = true) ∧ 1 ≤ fr ∧ fr ≤ tu ∧ tu ≤ 9999 ∧ 1 ≤ mo ∧ mo ≤ 12 ∧ Hid (Wk.onOk k v d = true) ∧ Hid (fitB fr tu mo k d = true) ∧ Hid (Atf.atOk n c = true) ∧ -86400 < sv ∧ ¬ sv < 86400 ∧ e = 10) ∨
    (Hid (nameB nm = true) ∧ Hid (Fm.letB lt = true) ∧ 1 ≤ fr ∧ fr ≤ tu ∧ tu ≤ 9999 ∧ 1 ≤ mo ∧ mo ≤ 12 ∧ Hid (Wk.onOk k v d = true) ∧ Hid (fitB fr tu mo k d = true) ∧ Hid (Atf.atOk n c = true) ∧ -86400 < sv ∧ sv < 86400 ∧ e = 0) := by
  rw [ruE, chkB] at h
  by_cases q0 : nameB nm = true
  case neg =>
    have q0 : nameB nm = false := by simpa using q0
    exact Or.inl ⟨Lib.hid q0, by rw [← h, if_neg (by simp [q0])]⟩
  by_cases q1 : Fm.letB lt = true
  case neg =>
    have q1 : Fm.letB lt = false := by simpa using q1
    exact Or.inr (Or.inl ⟨Lib.hid q0, Lib.hid q1, by rw [← h, if_neg (by simp [q0, q1])]⟩)
  by_cases q2 : 1 ≤ fr
  case neg => exact Or.inr (Or.inr (Or.inl ⟨Lib.hid q0, Lib.hid q1, q2, by rw [← h, if_neg (by simp [q0, q1, q2])]⟩))
  by_cases q3 : fr ≤ tu
  case neg => exact Or.inr (Or.inr (Or.inr (Or.inl ⟨Lib.hid q0, Lib.hid q1, q2, q3, by rw [← h, if_neg (by simp [q0, q1, q2, q3])]⟩)))
  by_cases q4 : tu ≤ 9999
  case neg => exact Or.inr (Or.inr (Or.inr (Or.inr (Or.inl ⟨Lib.hid q0, Lib.hid q1, q2, q3, q4, by rw [← h, if_neg (by simp [q0, q1, q2, q3, q4])]⟩))))
  by_cases q5 : 1 ≤ mo
  case neg => exact Or.inr (Or.inr (Or.inr (Or.inr (Or.inr (Or.inl ⟨Lib.hid q0, Lib.hid q1, q2, q3, q4, q5, by rw [← h, if_neg (by simp [q0, q1, q2, q3, q4, q5])]⟩)))))
  by_cases q6 : mo ≤ 12
  case neg => exact Or.inr (Or.inr (Or.inr (Or.inr (Or.inr (Or.inr (Or.inl ⟨Lib.hid q0, Lib.hid q1, q2, q3, q4, q5, q6, by rw [← h, if_neg (by simp [q0, q1, q2, q3, q4, q5, q6])]⟩))))))
  by_cases q7 : Wk.onOk k v d = true
  case neg =>
    have q7 : Wk.onOk k v d = false := by simpa using q7
    exact Or.inr (Or.inr (Or.inr (Or.inr (Or.inr (Or.inr (Or.inr (Or.inl ⟨Lib.hid q0, Lib.hid q1, q2, q3, q4, q5, q6, Lib.hid q7, by rw [← h, if_neg (by simp [q0, q1, q2, q3, q4, q5, q6, q7])]⟩)))))))
  by_cases q8 : fitB fr tu mo k d = true
  case neg =>
    have q8 : fitB fr tu mo k d = false := by simpa using q8
    exact Or.inr (Or.inr (Or.inr (Or.inr (Or.inr (Or.inr (Or.inr (Or.inr (Or.inl ⟨Lib.hid q0, Lib.hid q1, q2, q3, q4, q5, q6, Lib.hid q7, Lib.hid q8, by rw [← h, if_neg (by simp [q0, q1, q2, q3, q4, q5, q6, q7, q8])]⟩))))))))
  by_cases q9 : Atf.atOk n c = true
  case neg =>
    have q9 : Atf.atOk n c = false := by simpa using q9
    exact Or.inr (Or.inr (Or.inr (Or.inr (Or.inr (Or.inr (Or.inr (Or.inr (Or.inr (Or.inl ⟨Lib.hid q0, Lib.hid q1, q2, q3, q4, q5, q6, Lib.hid q7, Lib.hid q8, Lib.hid q9, by rw [← h, if_neg (by simp [q0, q1, q2, q3, q4, q5, q6, q7, q8, q9])]⟩)))))))))
  by_cases q10 : -86400 < sv
  case neg => exact Or.inr (Or.inr (Or.inr (Or.inr (Or.inr (Or.inr (Or.inr (Or.inr (Or.inr (Or.inr (Or.inl ⟨Lib.hid q0, Lib.hid q1, q2, q3, q4, q5, q6, Lib.hid q7, Lib.hid q8, Lib.hid q9, q10, by rw [← h, if_neg (by simp [q0, q1, q2, q3, q4, q5, q6, q7, q8, q9, q10])]⟩))))))))))
  by_cases q11 : sv < 86400
  case neg => exact Or.inr (Or.inr (Or.inr (Or.inr (Or.inr (Or.inr (Or.inr (Or.inr (Or.inr (Or.inr (Or.inr (Or.inl ⟨Lib.hid q0, Lib.hid q1, q2, q3, q4, q5, q6, Lib.hid q7, Lib.hid q8, Lib.hid q9, q10, q11, by rw [← h, if_neg (by simp [q0, q1, q2, q3, q4, q5, q6, q7, q8, q9, q10, q11])]⟩)))))))))))
  exact Or.inr (Or.inr (Or.inr (Or.inr (Or.inr (Or.inr (Or.inr (Or.inr (Or.inr (Or.inr (Or.inr (Or.inr (⟨Lib.hid q0, Lib.hid q1, q2, q3, q4, q5, q6, Lib.hid q7, Lib.hid q8, Lib.hid q9, q10, q11, by rw [← h, if_pos (by simp [q0, q1, q2, q3, q4, q5, q6, q7, q8, q9, q10, q11])]⟩))))))))))))
end Rul
end Go.Proofs.YtpcnpacllkiieaaGreatDoor
