/-
  Whether a format, a letter, a name is right: zone.Format, rule.Letter, format.Right. (Written by gen/gen_fmb.py.)
-/
import Derived.Test.YtpcnpacllkiieaaGreatDoorFmA
import Derived.Below
namespace Go.Proofs.YtpcnpacllkiieaaGreatDoor
open Go.RowKit
namespace Fm
/-- The library's own bound holds some number. -/
def MaxL (w : World) : Prop := ∃ m, 0 < w.heap.size ∧ w.cell? ⟨0, 0, none⟩ = some (.int .i64 m)
theorem MaxL.stays {w w' : World} (h : MaxL w) (hb : Below w.heap.size w w') : MaxL w' := by
  obtain ⟨m, h1, h2⟩ := h
  exact ⟨m, Nat.lt_of_lt_of_le h1 hb.size, (hb.cell (p := ⟨0, 0, none⟩) h1).trans h2⟩
theorem MaxL.of_shape {w : World} (h : w.ShapedOpen Tryz.prog) : MaxL w := by
  obtain ⟨m, hm⟩ := Tryz.laysM219.s1_3 w h
  refine ⟨m, ?_, hm⟩
  rcases Nat.lt_or_ge 0 w.heap.size with h | h
  · exact h
  · have e : w.cell? ⟨0, 0, none⟩ = none := by
      unfold World.cell?
      rw [Array.getElem?_eq_none h]
    have hm' : w.cell? ⟨0, 0, none⟩ = some (.int .i64 m) := hm
    rw [e] at hm'
    cases hm'
theorem MaxL.drewN {w : World} (h : MaxL w) (n : Nat) : MaxL (w.drewN n) := h.stays (below_drewN (Below.refl _ _) n)
theorem cnt_to (s : ByteArray) (S : List UInt8) (c : UInt8) (v : Int) (w : World) (hS : Hid (s.data.toList = S)) (h : Hid ((S.count c : Int) = v)) :
    Calls Tryz.prog 81 #[.string s, .string ⟨#[c]⟩] w fun e w' => e = .returned (.int .i64 v) ∧ w = w' :=
  (Tryz.strings_Count_one s c w).mono fun _ _ ⟨he, hw⟩ => ⟨by rw [he, hS.out, ← h.out]; rfl, hw.symm⟩
theorem con1_to (s : ByteArray) (S : List UInt8) (c : UInt8) (b : Bool) (w : World) (hS : Hid (s.data.toList = S)) (h : Hid (decide (0 ≤ Lib.indexByte S c) = b)) :
    Calls Tryz.prog 82 #[.string s, .string ⟨#[c]⟩] w fun e w' => e = .returned (.bool b) ∧ w = w' :=
  (Tryz.strings_Contains_one s c w).mono fun _ _ ⟨he, hw⟩ => ⟨by rw [he, hS.out, ← h.out], hw.symm⟩
theorem con_to (s p : ByteArray) (S P : List UInt8) (b : Bool) (w : World) (hm : MaxL w) (hs : s.size ≤ 1000000) (hS : Hid (s.data.toList = S)) (hP : Hid (p.data.toList = P)) (h : Hid (Lib.contains S P = b)) :
    Calls Tryz.prog 82 #[.string s, .string p] w fun e w' => e = .returned (.bool b) ∧ w = w' := by
  obtain ⟨m, _, hc⟩ := hm
  exact (Tryz.strings_Contains s p m w (by omega) hc).mono fun _ _ ⟨he, hw⟩ => ⟨by rw [he, hS.out, hP.out, ← h.out], hw.symm⟩
theorem cut_to (s p : ByteArray) (S P X Y : List UInt8) (b : Bool) (w : World) (hm : MaxL w) (hs : s.size ≤ 1000000) (hS : Hid (s.data.toList = S)) (hP : Hid (p.data.toList = P)) (h : Hid (Lib.cut S P = (X, Y, b))) :
    Calls Tryz.prog 125 #[.string s, .string p] w fun e w' => e = .returned (.tuple #[.string ⟨X.toArray⟩, .string ⟨Y.toArray⟩, .bool b]) ∧ ∃ n, w' = w.drewN n := by
  obtain ⟨m, _, hc⟩ := hm
  exact (Tryz.strings_Cut s p m w (by omega) hc).mono fun _ _ ⟨he, hw⟩ => ⟨by rw [he, hS.out, hP.out, h.out], hw⟩
/-- Whether a format is right. -/
def fmtB (S : List UInt8) : Bool := decide (1 ≤ S.length ∧ S.length ≤ 40) && (onlyB S [43, 45, 37, 47] &&
  (if decide (0 ≤ Lib.indexByte S 47) = true then decide ((S.count 37 : Int) = 0) && decide ((S.count 47 : Int) = 1)
   else decide ((S.count 37 : Int) = 0) || (decide ((S.count 37 : Int) = 1) && (Lib.contains S [37, 115] || Lib.contains S [37, 122]))))
def letB (S : List UInt8) : Bool := decide (S.length ≤ 6) && (!decide (S = [45]) && onlyB S [43, 45])
def rgtB (S : List UInt8) : Bool := decide (1 ≤ S.length ∧ S.length ≤ 40) && onlyB S [43, 45]
set_option maxHeartbeats 3200000 in
set_option maxRecDepth 100000 in
theorem fmt_to (s : ByteArray) (S : List UInt8) (b : Bool) (w : World) (hm : MaxL w) (hs : s.size ≤ 1000000) (hS : Hid (s.data.toList = S)) (h : Hid (fmtB S = b)) :
    Calls Tryz.prog 34 #[.string s] w fun e w' => e = .returned (.bool b) ∧ Below w.heap.size w w' := by
  have hl : s.size = S.length := by rw [← hS.out]; simp
  have HM := Lib.hid hm
  clear hm
  have HH := h.out
  clear h
  rw [fmtB] at HH
  obtain ⟨on, h1⟩ : ∃ x, onlyB S [43, 45, 37, 47] = x := ⟨_, rfl⟩
  obtain ⟨sl, h2⟩ : ∃ x, decide (0 ≤ Lib.indexByte S 47) = x := ⟨_, rfl⟩
  obtain ⟨m, h3⟩ : ∃ x, (S.count 37 : Int) = x := ⟨_, rfl⟩
  obtain ⟨n, h4⟩ : ∃ x, (S.count 47 : Int) = x := ⟨_, rfl⟩
  obtain ⟨cs, h5⟩ : ∃ x, Lib.contains S [37, 115] = x := ⟨_, rfl⟩
  obtain ⟨cz, h6⟩ : ∃ x, Lib.contains S [37, 122] = x := ⟨_, rfl⟩
  have H1 := Lib.hid h1
  have H2 := Lib.hid h2
  have H3 := Lib.hid h3
  have H4 := Lib.hid h4
  have H5 := Lib.hid h5
  have H6 := Lib.hid h6
  have m0 : 0 ≤ m := by omega
  have m9 : m ≤ 1000000 := by have := List.count_le_length (a := (37 : UInt8)) (l := S); omega
  have n0 : 0 ≤ n := by omega
  have n9 : n ≤ 1000000 := by have := List.count_le_length (a := (47 : UInt8)) (l := S); omega
  rw [h1, h2, h3, h4, h5, h6, ← hl] at HH
  clear h1 h2 h3 h4 h5 h6 hl
  have hz : (s.size < 1 ∧ b = false) ∨ (40 < s.size ∧ b = false) ∨ ((1 ≤ s.size ∧ s.size ≤ 40) ∧ ((on = false ∧ b = false) ∨ (on = true ∧ ((sl = true ∧ (((m == 0) = false ∧ b = false) ∨ (m = 0 ∧ n = 1 ∧ b = true) ∨ (m = 0 ∧ (n == 1) = false ∧ b = false))) ∨
      (sl = false ∧ ((m = 0 ∧ b = true) ∨ ((m == 0) = false ∧ (m == 1) = false ∧ b = false) ∨ (m = 1 ∧ cs = true ∧ b = true) ∨ (m = 1 ∧ cs = false ∧ cz = true ∧ b = true) ∨ (m = 1 ∧ cs = false ∧ cz = false ∧ b = false))))))) := by
    subst HH
    by_cases a1 : s.size < 1
    · exact Or.inl ⟨a1, by rw [decide_eq_false (by omega)]; rfl⟩
    · by_cases a2 : 40 < s.size
      · exact Or.inr (Or.inl ⟨a2, by rw [decide_eq_false (by omega)]; rfl⟩)
      · refine Or.inr (Or.inr ⟨by omega, ?_⟩)
        rw [decide_eq_true (p := 1 ≤ s.size ∧ s.size ≤ 40) (by omega)]
        cases on with
        | false => exact Or.inl ⟨rfl, rfl⟩
        | true =>
          refine Or.inr ⟨rfl, ?_⟩
          cases sl with
          | true =>
            refine Or.inl ⟨rfl, ?_⟩
            by_cases b1 : m = 0
            · by_cases b2 : n = 1
              · exact Or.inr (Or.inl ⟨b1, b2, by rw [b1, b2]; rfl⟩)
              · exact Or.inr (Or.inr ⟨b1, beq_eq_false_iff_ne.2 b2, by rw [b1, decide_eq_false b2]; rfl⟩)
            · exact Or.inl ⟨beq_eq_false_iff_ne.2 b1, by rw [decide_eq_false b1]; rfl⟩
          | false =>
            refine Or.inr ⟨rfl, ?_⟩
            by_cases b1 : m = 0
            · exact Or.inl ⟨b1, by rw [b1]; rfl⟩
            · by_cases b2 : m = 1
              · cases cs with
                | true => exact Or.inr (Or.inr (Or.inl ⟨b2, rfl, by rw [b2]; rfl⟩))
                | false =>
                  cases cz with
                  | true => exact Or.inr (Or.inr (Or.inr (Or.inl ⟨b2, rfl, rfl, by rw [b2]; rfl⟩)))
                  | false => exact Or.inr (Or.inr (Or.inr (Or.inr ⟨b2, rfl, rfl, by rw [b2]; rfl⟩)))
              · exact Or.inr (Or.inl ⟨beq_eq_false_iff_ne.2 b1, beq_eq_false_iff_ne.2 b2, by rw [decide_eq_false b1, decide_eq_false b2]; rfl⟩)
  clear HH
  rcases hz with ⟨a1, rfl⟩ | ⟨a2, rfl⟩ | ⟨⟨a1, a2⟩, ⟨rfl, rfl⟩ | ⟨rfl, ⟨rfl, ⟨m1, rfl⟩ | ⟨rfl, rfl, rfl⟩ | ⟨rfl, n1, rfl⟩⟩ | ⟨rfl, ⟨rfl, rfl⟩ | ⟨m1, m2, rfl⟩ | ⟨rfl, rfl, rfl⟩ | ⟨rfl, rfl, rfl, rfl⟩ | ⟨rfl, rfl, rfl, rfl⟩⟩⟩⟩
  · go_enter Tryz.func34, Tryz.ntmps34
    go_wp2
    go_ret
    exact ⟨rfl, by repeat (first | exact Below.refl _ _ | refine below_drewN ?_ _ | refine Below.drew ?_)⟩
  · go_enter Tryz.func34, Tryz.ntmps34
    go_wp2
    go_ret
    exact ⟨rfl, by repeat (first | exact Below.refl _ _ | refine below_drewN ?_ _ | refine Below.drew ?_)⟩
  · go_enter Tryz.func34, Tryz.ntmps34
    go_wp2_with fail
    refine (only_to s _ S _ false _ hs hS (Lib.hid rfl) H1).mono ?_
    rintro e w1 ⟨rfl, rfl⟩
    go_wp2
    go_ret
    exact ⟨rfl, by repeat (first | exact Below.refl _ _ | refine below_drewN ?_ _ | refine Below.drew ?_)⟩
  · go_enter Tryz.func34, Tryz.ntmps34
    go_wp2_with fail
    refine (only_to s _ S _ true _ hs hS (Lib.hid rfl) H1).mono ?_
    rintro e w1 ⟨rfl, rfl⟩
    go_wp2_with fail
    refine (cnt_to s S 37 _ _ hS H3).mono ?_
    rintro e w1 ⟨rfl, rfl⟩
    go_wp2_with fail
    refine (con1_to s S 47 true _ hS H2).mono ?_
    rintro e w1 ⟨rfl, rfl⟩
    go_wp2
    go_ret
    exact ⟨rfl, by repeat (first | exact Below.refl _ _ | refine below_drewN ?_ _ | refine Below.drew ?_)⟩
  · go_enter Tryz.func34, Tryz.ntmps34
    go_wp2_with fail
    refine (only_to s _ S _ true _ hs hS (Lib.hid rfl) H1).mono ?_
    rintro e w1 ⟨rfl, rfl⟩
    go_wp2_with fail
    refine (cnt_to s S 37 _ _ hS H3).mono ?_
    rintro e w1 ⟨rfl, rfl⟩
    go_wp2_with fail
    refine (con1_to s S 47 true _ hS H2).mono ?_
    rintro e w1 ⟨rfl, rfl⟩
    go_wp2_with fail
    refine (cnt_to s S 47 _ _ hS H4).mono ?_
    rintro e w1 ⟨rfl, rfl⟩
    go_wp2
    go_ret
    exact ⟨rfl, by repeat (first | exact Below.refl _ _ | refine below_drewN ?_ _ | refine Below.drew ?_)⟩
  · go_enter Tryz.func34, Tryz.ntmps34
    go_wp2_with fail
    refine (only_to s _ S _ true _ hs hS (Lib.hid rfl) H1).mono ?_
    rintro e w1 ⟨rfl, rfl⟩
    go_wp2_with fail
    refine (cnt_to s S 37 _ _ hS H3).mono ?_
    rintro e w1 ⟨rfl, rfl⟩
    go_wp2_with fail
    refine (con1_to s S 47 true _ hS H2).mono ?_
    rintro e w1 ⟨rfl, rfl⟩
    go_wp2_with fail
    refine (cnt_to s S 47 _ _ hS H4).mono ?_
    rintro e w1 ⟨rfl, rfl⟩
    go_wp2
    go_ret
    exact ⟨rfl, by repeat (first | exact Below.refl _ _ | refine below_drewN ?_ _ | refine Below.drew ?_)⟩
  · go_enter Tryz.func34, Tryz.ntmps34
    go_wp2_with fail
    refine (only_to s _ S _ true _ hs hS (Lib.hid rfl) H1).mono ?_
    rintro e w1 ⟨rfl, rfl⟩
    go_wp2_with fail
    refine (cnt_to s S 37 _ _ hS H3).mono ?_
    rintro e w1 ⟨rfl, rfl⟩
    go_wp2_with fail
    refine (con1_to s S 47 false _ hS H2).mono ?_
    rintro e w1 ⟨rfl, rfl⟩
    go_wp2
    go_ret
    exact ⟨rfl, by repeat (first | exact Below.refl _ _ | refine below_drewN ?_ _ | refine Below.drew ?_)⟩
  · go_enter Tryz.func34, Tryz.ntmps34
    go_wp2_with fail
    refine (only_to s _ S _ true _ hs hS (Lib.hid rfl) H1).mono ?_
    rintro e w1 ⟨rfl, rfl⟩
    go_wp2_with fail
    refine (cnt_to s S 37 _ _ hS H3).mono ?_
    rintro e w1 ⟨rfl, rfl⟩
    go_wp2_with fail
    refine (con1_to s S 47 false _ hS H2).mono ?_
    rintro e w1 ⟨rfl, rfl⟩
    go_wp2
    go_ret
    exact ⟨rfl, by repeat (first | exact Below.refl _ _ | refine below_drewN ?_ _ | refine Below.drew ?_)⟩
  · go_enter Tryz.func34, Tryz.ntmps34
    go_wp2_with fail
    refine (only_to s _ S _ true _ hs hS (Lib.hid rfl) H1).mono ?_
    rintro e w1 ⟨rfl, rfl⟩
    go_wp2_with fail
    refine (cnt_to s S 37 _ _ hS H3).mono ?_
    rintro e w1 ⟨rfl, rfl⟩
    go_wp2_with fail
    refine (con1_to s S 47 false _ hS H2).mono ?_
    rintro e w1 ⟨rfl, rfl⟩
    go_wp2_with fail
    refine (con_to s _ S _ true _ (HM.out.stays (by repeat (first | exact Below.refl _ _ | refine below_drewN ?_ _ | refine Below.drew ?_))) hs hS (Lib.hid rfl) H5).mono ?_
    rintro e w1 ⟨rfl, rfl⟩
    go_wp2
    go_ret
    exact ⟨rfl, by repeat (first | exact Below.refl _ _ | refine below_drewN ?_ _ | refine Below.drew ?_)⟩
  · go_enter Tryz.func34, Tryz.ntmps34
    go_wp2_with fail
    refine (only_to s _ S _ true _ hs hS (Lib.hid rfl) H1).mono ?_
    rintro e w1 ⟨rfl, rfl⟩
    go_wp2_with fail
    refine (cnt_to s S 37 _ _ hS H3).mono ?_
    rintro e w1 ⟨rfl, rfl⟩
    go_wp2_with fail
    refine (con1_to s S 47 false _ hS H2).mono ?_
    rintro e w1 ⟨rfl, rfl⟩
    go_wp2_with fail
    refine (con_to s _ S _ false _ (HM.out.stays (by repeat (first | exact Below.refl _ _ | refine below_drewN ?_ _ | refine Below.drew ?_))) hs hS (Lib.hid rfl) H5).mono ?_
    rintro e w1 ⟨rfl, rfl⟩
    go_wp2_with fail
    refine (con_to s _ S _ true _ (HM.out.stays (by repeat (first | exact Below.refl _ _ | refine below_drewN ?_ _ | refine Below.drew ?_))) hs hS (Lib.hid rfl) H6).mono ?_
    rintro e w1 ⟨rfl, rfl⟩
    go_wp2
    go_ret
    exact ⟨rfl, by repeat (first | exact Below.refl _ _ | refine below_drewN ?_ _ | refine Below.drew ?_)⟩
  · go_enter Tryz.func34, Tryz.ntmps34
    go_wp2_with fail
    refine (only_to s _ S _ true _ hs hS (Lib.hid rfl) H1).mono ?_
    rintro e w1 ⟨rfl, rfl⟩
    go_wp2_with fail
    refine (cnt_to s S 37 _ _ hS H3).mono ?_
    rintro e w1 ⟨rfl, rfl⟩
    go_wp2_with fail
    refine (con1_to s S 47 false _ hS H2).mono ?_
    rintro e w1 ⟨rfl, rfl⟩
    go_wp2_with fail
    refine (con_to s _ S _ false _ (HM.out.stays (by repeat (first | exact Below.refl _ _ | refine below_drewN ?_ _ | refine Below.drew ?_))) hs hS (Lib.hid rfl) H5).mono ?_
    rintro e w1 ⟨rfl, rfl⟩
    go_wp2_with fail
    refine (con_to s _ S _ false _ (HM.out.stays (by repeat (first | exact Below.refl _ _ | refine below_drewN ?_ _ | refine Below.drew ?_))) hs hS (Lib.hid rfl) H6).mono ?_
    rintro e w1 ⟨rfl, rfl⟩
    go_wp2
    go_ret
    exact ⟨rfl, by repeat (first | exact Below.refl _ _ | refine below_drewN ?_ _ | refine Below.drew ?_)⟩
set_option maxHeartbeats 3200000 in
set_option maxRecDepth 100000 in
theorem let_to (s : ByteArray) (S : List UInt8) (b : Bool) (w : World) (hs : s.size ≤ 1000000) (hS : Hid (s.data.toList = S)) (h : Hid (letB S = b)) :
    Calls Tryz.prog 20 #[.string s] w fun e w' => e = .returned (.bool b) ∧ Below w.heap.size w w' := by
  have hl : s.size = S.length := by rw [← hS.out]; simp
  have HH := h.out
  clear h
  rw [letB] at HH
  obtain ⟨on, h1⟩ : ∃ x, onlyB S [43, 45] = x := ⟨_, rfl⟩
  have H1 := Lib.hid h1
  rw [h1, ← hl] at HH
  clear h1
  have hz : (6 < s.size ∧ b = false) ∨ (s.size ≤ 6 ∧ ((S = [45] ∧ b = false) ∨ (¬ s.toList = [45] ∧ b = on))) := by
    subst HH
    by_cases a1 : s.size ≤ 6
    · refine Or.inr ⟨a1, ?_⟩
      by_cases a2 : S = [45]
      · exact Or.inl ⟨a2, by rw [decide_eq_true a1, decide_eq_true a2]; rfl⟩
      · exact Or.inr ⟨by rw [Lib.toList_data, hS.out]; exact a2, by rw [decide_eq_true a1, decide_eq_false a2]; rfl⟩
    · exact Or.inl ⟨by omega, by rw [decide_eq_false a1]; rfl⟩
  clear HH hl
  rcases hz with ⟨a1, rfl⟩ | ⟨a1, ⟨a2, rfl⟩ | ⟨a2, rfl⟩⟩
  · go_enter Tryz.func20, Tryz.ntmps20
    go_wp2
    go_ret
    exact ⟨rfl, by repeat (first | exact Below.refl _ _ | refine below_drewN ?_ _ | refine Below.drew ?_)⟩
  · have a3 : s.toList = [45] := by rw [Lib.toList_data, hS.out]; exact a2
    go_enter Tryz.func20, Tryz.ntmps20
    go_wp2
    go_ret
    exact ⟨rfl, by repeat (first | exact Below.refl _ _ | refine below_drewN ?_ _ | refine Below.drew ?_)⟩
  · go_enter Tryz.func20, Tryz.ntmps20
    go_wp2_with fail
    refine (only_to s _ S _ _ _ hs hS (Lib.hid rfl) H1).mono ?_
    rintro e w1 ⟨rfl, rfl⟩
    go_wp2
    go_ret
    exact ⟨ret_b (by simp [a2]), by repeat (first | exact Below.refl _ _ | refine below_drewN ?_ _ | refine Below.drew ?_)⟩
end Fm
end Go.Proofs.YtpcnpacllkiieaaGreatDoor
