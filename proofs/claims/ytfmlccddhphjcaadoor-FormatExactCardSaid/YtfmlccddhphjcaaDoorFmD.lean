/-
  Contracts of package format: fill, Name.
-/
import Derived.Test.YtfmlccddhphjcaaDoorFmC
namespace Go.Proofs.YtfmlccddhphjcaaDoor
open Go.RowKit
namespace Fm
open Sol
/-- A right format, filled. -/
def filL (S L T : List UInt8) (save : Int) : List UInt8 :=
  if (Lib.cut S [47]).2.2 = true then (if save = 0 then (Lib.cut S [47]).1 else (Lib.cut S [47]).2.1)
  else if (Lib.cut S [37, 115]).2.2 = true then (Lib.cut S [37, 115]).1 ++ L ++ (Lib.cut S [37, 115]).2.1
  else if (Lib.cut S [37, 122]).2.2 = true then (Lib.cut S [37, 122]).1 ++ T ++ (Lib.cut S [37, 122]).2.1
  else S
theorem cut_len (S P : List UInt8) : (Lib.cut S P).1.length ≤ S.length ∧ (Lib.cut S P).2.1.length ≤ S.length := by
  unfold Lib.cut
  split
  · exact ⟨by rw [List.length_take]; omega, by rw [List.length_drop]; omega⟩
  · exact ⟨Nat.le_refl _, Nat.zero_le _⟩
theorem arr_eq {s : ByteArray} {S : List UInt8} (h : s.data.toList = S) : (⟨S.toArray⟩ : ByteArray) = s := bytes_eq (by rw [h])
set_option maxHeartbeats 3200000 in
set_option maxRecDepth 100000 in
theorem fill_to (s l t : ByteArray) (S L T R : List UInt8) (save : Int) (w : World) (hm : MaxL w) (hs : s.size ≤ 1000) (hl : l.size ≤ 1000) (ht : t.size ≤ 1000) (hS : Hid (s.data.toList = S)) (hL : Hid (l.data.toList = L)) (hT : Hid (t.data.toList = T)) (h : Hid (filL S L T save = R)) :
    Calls Tryd.prog 16 #[.string s, .string l, .string t, .int .i64 save] w fun e w' => e = .returned (.string ⟨R.toArray⟩) ∧ Below w.heap.size w w' := by
  have HM := Lib.hid hm
  have HH := h.out
  clear hm h
  have hsl : S.length ≤ 1000 := by rw [← hS.out]; simpa using hs
  rw [filL] at HH
  have c1 := cut_len S [47]
  have c2 := cut_len S [37, 115]
  have c3 := cut_len S [37, 122]
  obtain ⟨a, b, f, h1⟩ : ∃ a b f, Lib.cut S [47] = (a, b, f) := ⟨_, _, _, rfl⟩
  obtain ⟨c, d, g, h2⟩ : ∃ a b f, Lib.cut S [37, 115] = (a, b, f) := ⟨_, _, _, rfl⟩
  obtain ⟨x, y, k, h3⟩ : ∃ a b f, Lib.cut S [37, 122] = (a, b, f) := ⟨_, _, _, rfl⟩
  have H1 := Lib.hid h1
  have H2 := Lib.hid h2
  have H3 := Lib.hid h3
  rw [h1, h2, h3] at HH
  rw [h2] at c2
  rw [h3] at c3
  clear h1 h2 h3 c1
  have lc : c.length ≤ 1000 := by have := c2.1; simp at this; omega
  have ld : d.length ≤ 1000 := by have := c2.2; simp at this; omega
  have lx : x.length ≤ 1000 := by have := c3.1; simp at this; omega
  have ly : y.length ≤ 1000 := by have := c3.2; simp at this; omega
  clear c2 c3 hsl
  have hz : (f = true ∧ ((save = 0 ∧ R = a) ∨ ((save == 0) = false ∧ R = b))) ∨ (f = false ∧ ((g = true ∧ R = c ++ L ++ d) ∨ (g = false ∧ ((k = true ∧ R = x ++ T ++ y) ∨ (k = false ∧ R = S))))) := by
    subst HH
    cases f with
    | true =>
      refine Or.inl ⟨rfl, ?_⟩
      by_cases h0 : save = 0
      · exact Or.inl ⟨h0, by rw [if_pos rfl, if_pos h0]⟩
      · exact Or.inr ⟨beq_eq_false_iff_ne.2 h0, by rw [if_pos rfl, if_neg h0]⟩
    | false =>
      refine Or.inr ⟨rfl, ?_⟩
      cases g with
      | true => exact Or.inl ⟨rfl, rfl⟩
      | false =>
        refine Or.inr ⟨rfl, ?_⟩
        cases k with
        | true => exact Or.inl ⟨rfl, rfl⟩
        | false => exact Or.inr ⟨rfl, rfl⟩
  clear HH
  rcases hz with ⟨rfl, ⟨rfl, hR⟩ | ⟨h0, hR⟩⟩ | ⟨rfl, ⟨rfl, hR⟩ | ⟨rfl, ⟨rfl, hR⟩ | ⟨rfl, hR⟩⟩⟩
  · have HR := Lib.hid hR
    clear hR
    go_enter Tryd.func16, Tryd.ntmps16
    go_wp2_with fail
    refine (cut_to s _ S _ a b true _ HM.out (by omega) hS (Lib.hid rfl) H1).mono ?_
    rintro e w1 ⟨rfl, n1, rfl⟩
    go_wp2
    go_ret
    exact ⟨ret_s (by rw [HR.out]), below_drewN (Below.refl _ _) _⟩
  · have HR := Lib.hid hR
    clear hR
    go_enter Tryd.func16, Tryd.ntmps16
    go_wp2_with fail
    refine (cut_to s _ S _ a b true _ HM.out (by omega) hS (Lib.hid rfl) H1).mono ?_
    rintro e w1 ⟨rfl, n1, rfl⟩
    go_wp2
    go_ret
    exact ⟨ret_s (by rw [HR.out]), below_drewN (Below.refl _ _) _⟩
  · have HR := Lib.hid hR
    clear hR
    go_enter Tryd.func16, Tryd.ntmps16
    go_wp2_with fail
    refine (cut_to s _ S _ a b false _ HM.out (by omega) hS (Lib.hid rfl) H1).mono ?_
    rintro e w1 ⟨rfl, n1, rfl⟩
    go_wp2_with fail
    refine (cut_to s _ S _ c d true _ (HM.out.drewN _) (by omega) hS (Lib.hid rfl) H2).mono ?_
    rintro e w1 ⟨rfl, n2, rfl⟩
    go_wp2
    go_ret
    exact ⟨ret_s (bytes_eq (by rw [HR.out]; simp [hL.out])), below_drewN (Below.refl _ _) _⟩
  · have HR := Lib.hid hR
    clear hR
    go_enter Tryd.func16, Tryd.ntmps16
    go_wp2_with fail
    refine (cut_to s _ S _ a b false _ HM.out (by omega) hS (Lib.hid rfl) H1).mono ?_
    rintro e w1 ⟨rfl, n1, rfl⟩
    go_wp2_with fail
    refine (cut_to s _ S _ c d false _ (HM.out.drewN _) (by omega) hS (Lib.hid rfl) H2).mono ?_
    rintro e w1 ⟨rfl, n2, rfl⟩
    go_wp2_with fail
    refine (cut_to s _ S _ x y true _ (HM.out.drewN _) (by omega) hS (Lib.hid rfl) H3).mono ?_
    rintro e w1 ⟨rfl, n3, rfl⟩
    go_wp2
    go_ret
    exact ⟨ret_s (bytes_eq (by rw [HR.out]; simp [hT.out])), below_drewN (Below.refl _ _) _⟩
  · have HR := Lib.hid hR
    clear hR
    go_enter Tryd.func16, Tryd.ntmps16
    go_wp2_with fail
    refine (cut_to s _ S _ a b false _ HM.out (by omega) hS (Lib.hid rfl) H1).mono ?_
    rintro e w1 ⟨rfl, n1, rfl⟩
    go_wp2_with fail
    refine (cut_to s _ S _ c d false _ (HM.out.drewN _) (by omega) hS (Lib.hid rfl) H2).mono ?_
    rintro e w1 ⟨rfl, n2, rfl⟩
    go_wp2_with fail
    refine (cut_to s _ S _ x y false _ (HM.out.drewN _) (by omega) hS (Lib.hid rfl) H3).mono ?_
    rintro e w1 ⟨rfl, n3, rfl⟩
    go_wp2
    go_ret
    exact ⟨ret_s (bytes_eq (by rw [HR.out]; simp [hS.out])), below_drewN (Below.refl _ _) _⟩
/-- The name of a time. -/
def nmB (S L : List UInt8) (off save : Int) : Bool := decide (shE off = 0) && (fmtB S && (letB L && rgtB (filL S L (shS off) save)))
def nmR (S L : List UInt8) (off save : Int) : List UInt8 × Int := if nmB S L off save = true then (filL S L (shS off) save, 0) else ([], 16)
theorem sh_len (o : Int) : (shS o).length ≤ 7 := by
  have hB : ∀ m : Int, 0 ≤ m → m < 172800 → (shB m).length ≤ 6 := fun m h0 h1 => by
    have a := l2 (h := m / 3600) (by omega) (by omega)
    have b := l2 (h := m / 60 % 60) (by omega) (by omega)
    have c := l2 (h := m % 60) (by omega) (by omega)
    unfold shB
    split <;> split <;> simp [a, b, c]
  unfold shS
  split
  · split
    · have := hB (-o) (by omega) (by omega); rw [List.length_cons]; omega
    · have := hB o (by omega) (by omega); rw [List.length_cons]; omega
  · simp
theorem fil_len {S L T : List UInt8} (save : Int) (h1 : S.length ≤ 40) (h2 : L.length ≤ 6) (h3 : T.length ≤ 7) : (filL S L T save).length ≤ 100 := by
  have c1 := cut_len S [47]
  have c2 := cut_len S [37, 115]
  have c3 := cut_len S [37, 122]
  unfold filL
  split
  · split <;> omega
  · split
    · rw [List.length_append, List.length_append]; omega
    · split
      · rw [List.length_append, List.length_append]; omega
      · omega
set_option maxHeartbeats 3200000 in
set_option maxRecDepth 100000 in
theorem name_to (s l : ByteArray) (S L R : List UInt8) (off save c : Int) (w : World) (hp : Pow w) (hm : MaxL w) (hs : s.size ≤ 1000) (hl : l.size ≤ 1000) (hS : Hid (s.data.toList = S)) (hL : Hid (l.data.toList = L)) (h : Hid (nmR S L off save = (R, c))) :
    Calls Tryd.prog 7 #[.string s, .string l, .int .i64 off, .int .i64 save] w fun e w' => e = .returned (.tuple #[.string ⟨R.toArray⟩, .int .i64 c]) ∧ Below w.heap.size w w' := by
  have HP := Lib.hid hp
  have HM := Lib.hid hm
  have HH := h.out
  clear hm hp h
  have FL : Hid (fmtB S = true → letB L = true → (filL S L (shS off) save).length ≤ 100) := Lib.hid (fun a b => by
    refine fil_len save ?_ ?_ (sh_len off)
    · rw [fmtB, Bool.and_eq_true] at a
      have := of_decide_eq_true a.1
      omega
    · rw [letB, Bool.and_eq_true] at b
      exact of_decide_eq_true b.1)
  have sl := sh_len off
  rw [nmR, nmB] at HH
  obtain ⟨T, h1⟩ : ∃ x, shS off = x := ⟨_, rfl⟩
  obtain ⟨E, h2⟩ : ∃ x, shE off = x := ⟨_, rfl⟩
  obtain ⟨p, h3⟩ : ∃ x, fmtB S = x := ⟨_, rfl⟩
  obtain ⟨q, h4⟩ : ∃ x, letB L = x := ⟨_, rfl⟩
  have HT := Lib.hid (And.intro h1 h2)
  have H3 := Lib.hid h3
  have H4 := Lib.hid h4
  rw [h1] at FL sl HH
  rw [h3, h4] at FL
  rw [h2, h3, h4] at HH
  obtain ⟨N, h5⟩ : ∃ x, filL S L T save = x := ⟨_, rfl⟩
  have H5 := Lib.hid h5
  rw [h5] at FL HH
  obtain ⟨r, h6⟩ : ∃ x, rgtB N = x := ⟨_, rfl⟩
  have H6 := Lib.hid h6
  rw [h6] at HH
  clear h1 h2 h3 h4 h5 h6
  have ts : (⟨T.toArray⟩ : ByteArray).size ≤ 1000 := by show T.length ≤ 1000; omega
  have TS := Lib.hid ts
  clear ts sl
  have hz : ((E != 0) = true ∧ R = [] ∧ c = 16) ∨ (E = 0 ∧ ((p = false ∧ R = [] ∧ c = 16) ∨ (p = true ∧ ((q = false ∧ R = [] ∧ c = 16) ∨ (q = true ∧ N.length ≤ 100 ∧ ((r = false ∧ R = [] ∧ c = 16) ∨ (r = true ∧ R = N ∧ c = 0))))))) := by
    by_cases hE : E = 0
    · refine Or.inr ⟨hE, ?_⟩
      rw [decide_eq_true hE] at HH
      cases p with
      | false => injection HH with a b; exact Or.inl ⟨rfl, a.symm, b.symm⟩
      | true =>
        refine Or.inr ⟨rfl, ?_⟩
        cases q with
        | false => injection HH with a b; exact Or.inl ⟨rfl, a.symm, b.symm⟩
        | true =>
          refine Or.inr ⟨rfl, FL.out rfl rfl, ?_⟩
          cases r with
          | false => injection HH with a b; exact Or.inl ⟨rfl, a.symm, b.symm⟩
          | true => injection HH with a b; exact Or.inr ⟨rfl, a.symm, b.symm⟩
    · rw [decide_eq_false hE] at HH
      injection HH with a b
      exact Or.inl ⟨bne_iff_ne.2 hE, a.symm, b.symm⟩
  clear HH FL
  rcases hz with ⟨hE, rfl, rfl⟩ | ⟨rfl, ⟨rfl, rfl, rfl⟩ | ⟨rfl, ⟨rfl, rfl, rfl⟩ | ⟨rfl, hN, ⟨rfl, hR, rfl⟩ | ⟨rfl, hR, rfl⟩⟩⟩⟩
  · have hE0 : (E == 0) = false := by simpa [bne] using hE
    have hE1 : ¬ E = 0 := beq_eq_false_iff_ne.1 hE0
    go_enter Tryd.func7, Tryd.ntmps7
    go_wp2_with fail
    refine (short_to _ T E _ HP.out HT).mono ?_
    rintro e w1 ⟨rfl, b1⟩
    go_wp2
    go_ret2
    exact ⟨rfl, b1⟩
  · go_enter Tryd.func7, Tryd.ntmps7
    go_wp2_with fail
    refine (short_to _ T 0 _ HP.out HT).mono ?_
    rintro e w1 ⟨rfl, b1⟩
    go_wp2_with fail
    refine (fmt_to s S false _ (HM.out.stays b1) (by omega) hS H3).mono ?_
    rintro e w2 ⟨rfl, d2⟩
    have b2 := b1.trans (d2.mono b1.size)
    go_wp2
    go_ret2
    exact ⟨rfl, b2⟩
  · go_enter Tryd.func7, Tryd.ntmps7
    go_wp2_with fail
    refine (short_to _ T 0 _ HP.out HT).mono ?_
    rintro e w1 ⟨rfl, b1⟩
    go_wp2_with fail
    refine (fmt_to s S true _ (HM.out.stays b1) (by omega) hS H3).mono ?_
    rintro e w2 ⟨rfl, d2⟩
    have b2 := b1.trans (d2.mono b1.size)
    go_wp2_with fail
    refine (let_to l L false _ (by omega) hL H4).mono ?_
    rintro e w3 ⟨rfl, d3⟩
    have b3 := b2.trans (d3.mono b2.size)
    go_wp2
    go_ret2
    exact ⟨rfl, b3⟩
  all_goals
    have HR := Lib.hid hR
    clear hR
    have NS : Hid ((⟨N.toArray⟩ : ByteArray).size ≤ 1000000) := Lib.hid (by show N.length ≤ 1000000; omega)
    go_enter Tryd.func7, Tryd.ntmps7
    go_wp2_with fail
    refine (short_to _ T 0 _ HP.out HT).mono ?_
    rintro e w1 ⟨rfl, b1⟩
    go_wp2_with fail
    refine (fmt_to s S true _ (HM.out.stays b1) (by omega) hS H3).mono ?_
    rintro e w2 ⟨rfl, d2⟩
    have b2 := b1.trans (d2.mono b1.size)
    go_wp2_with fail
    refine (let_to l L true _ (by omega) hL H4).mono ?_
    rintro e w3 ⟨rfl, d3⟩
    have b3 := b2.trans (d3.mono b2.size)
    clear d2 d3
    go_wp2_with fail
    refine (fill_to s l _ S L T N _ _ (HM.out.stays b3) (by omega) (by omega) TS.out hS hL (Lib.hid rfl) H5).mono ?_
    rintro e w4 ⟨rfl, d4⟩
    have b4 := b3.trans (d4.mono b3.size)
    go_wp2_with fail
    refine (rgt_to _ N _ _ NS.out (Lib.hid rfl) H6).mono ?_
    rintro e w5 ⟨rfl, d5⟩
    have b5 := b4.trans (d5.mono b4.size)
    go_wp2
    go_ret2
    exact ⟨ret_si (by rw [HR.out]) rfl, b5⟩
end Fm
end Go.Proofs.YtfmlccddhphjcaaDoor
