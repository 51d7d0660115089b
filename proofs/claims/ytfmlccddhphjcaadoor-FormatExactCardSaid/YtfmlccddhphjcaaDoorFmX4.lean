/-
  The reference's Abbr: it names a time as the program does.
-/
import Derived.Test.YtfmlccddhphjcaaDoorFmX3
import Derived.Lib.QuietBelow
namespace Go.Proofs.YtfmlccddhphjcaaDoor
open Go.RowKit
namespace Fm
open Sol
def spc (c : UInt8) : Bool := decide (c = 37 ∨ c = 47)
theorem fil_47 {A B L T : List UInt8} {save : Int} (h : ∀ x ∈ A, x ≠ 47) : filL (A ++ 47 :: B) L T save = if save = 0 then A else B := by
  have e : Lib.cut (A ++ 47 :: B) [47] = (A, B, true) := cut_hit 47 [] A B h
  rw [filL, e, if_pos rfl]
theorem n47 {A B : List UInt8} {c d : UInt8} (h1 : ∀ x ∈ A, x ≠ 47) (hc : c ≠ 47) (hd : d ≠ 47) (h2 : ∀ x ∈ B, x ≠ 47) : ∀ x ∈ A ++ c :: d :: B, x ≠ 47 := fun x hx => by
  rcases List.mem_append.1 hx with h | h
  · exact h1 x h
  · rcases List.mem_cons.1 h with h | h
    · rw [h]; exact hc
    · rcases List.mem_cons.1 h with h | h
      · rw [h]; exact hd
      · exact h2 x h
theorem fil_s {A B L T : List UInt8} {save : Int} (h1 : ∀ x ∈ A, x ≠ 47) (h2 : ∀ x ∈ B, x ≠ 47) (h3 : ∀ x ∈ A, x ≠ 37) : filL (A ++ 37 :: 115 :: B) L T save = A ++ L ++ B := by
  have e1 := cut_no _ _ (idx_no 47 [] _ (n47 h1 (c := 37) (d := 115) (by decide) (by decide) h2))
  have e2 : Lib.cut (A ++ 37 :: 115 :: B) [37, 115] = (A, B, true) := cut_hit 37 [115] A B h3
  rw [filL, e1, e2]; rfl
theorem fil_z {A B L T : List UInt8} {save : Int} (h1 : ∀ x ∈ A, x ≠ 47) (h2 : ∀ x ∈ B, x ≠ 47) (h3 : ∀ x ∈ A, x ≠ 37) (h4 : ∀ x ∈ B, x ≠ 37) : filL (A ++ 37 :: 122 :: B) L T save = A ++ T ++ B := by
  have e1 := cut_no _ _ (idx_no 47 [] _ (n47 h1 (c := 37) (d := 122) (by decide) (by decide) h2))
  have e2 : Lib.cut (A ++ 37 :: 122 :: B) [37, 115] = (A ++ 37 :: 122 :: B, [], false) := cut_no _ _ (by
    rw [idx_app 37 [115] _ A h3, if_pos]
    have hB : Lib.index (122 :: B) [37, 115] = -1 := idx_no 37 [115] _ (fun x hx => by
      rcases List.mem_cons.1 hx with h | h
      · rw [h]; decide
      · exact h4 x h)
    rw [Lib.index, hB]; simp [List.isPrefixOf])
  have e3 : Lib.cut (A ++ 37 :: 122 :: B) [37, 122] = (A, B, true) := cut_hit 37 [122] A B h3
  rw [filL, e1, e2, e3]; rfl
theorem fil_0 {S L T : List UInt8} {save : Int} (h1 : ∀ x ∈ S, x ≠ 47) (h2 : ∀ x ∈ S, x ≠ 37) : filL S L T save = S := by
  rw [filL, cut_no _ _ (idx_no 47 [] S h1), cut_no _ _ (idx_no 37 [115] S h2), cut_no _ _ (idx_no 37 [122] S h2)]; rfl
/-- A right format has one sign at most; a % goes with the sign behind it. -/
theorem sp_split {S A B : List UInt8} {c : UInt8} (h : fmtB S = true) (e : S = A ++ c :: B) (hc : spc c = true) :
    ((∀ x ∈ A, x ≠ 47) ∧ (∀ x ∈ A, x ≠ 37) ∧ (∀ x ∈ B, x ≠ 47) ∧ (∀ x ∈ B, x ≠ 37)) ∧ (c = 37 → ∃ d B', B = d :: B' ∧ (d = 115 ∨ d = 122)) := by
  rw [← rf_eq, rfB, Bool.and_eq_true, Bool.and_eq_true] at h
  obtain ⟨_, h1, h2⟩ := h
  have h2 := of_decide_eq_true h2
  have hc := of_decide_eq_true hc
  rw [e, List.count_append, List.count_append, List.count_cons, List.count_cons] at h2
  constructor
  · rcases hc with rfl | rfl
    · simp at h2
      exact ⟨cnt0 (by omega), cnt0 (by omega), cnt0 (by omega), cnt0 (by omega)⟩
    · simp at h2
      exact ⟨cnt0 (by omega), cnt0 (by omega), cnt0 (by omega), cnt0 (by omega)⟩
  · rintro rfl
    have g := gd_all h1 e
    rw [e, gd_mid, if_neg (by decide), if_pos rfl] at g
    match B with
    | [] => simp at g
    | d :: B' => exact ⟨d, B', rfl, by simpa using g⟩
def abX (S N : List UInt8) (k : Nat) : List UInt8 := if (S.take k).any spc = true then N else S
theorem ab_step {S N : List UInt8} {k : Nat} (hk : k < S.length) : abX S N (k + 1) = if spc (S[k]'hk) = true then N else abX S N k := by
  rw [abX, abX, List.take_succ_eq_append_getElem hk, List.any_append]
  cases h : spc (S[k]'hk) <;> cases h2 : (S.take k).any spc <;> simp [h]
theorem ab_end {S L T : List UInt8} {save : Int} : abX S (filL S L T save) S.length = filL S L T save := by
  rw [abX, List.take_length]
  by_cases h : S.any spc = true
  · rw [if_pos h]
  · rw [if_neg h]
    have hn : ∀ x ∈ S, spc x = false := fun x hx => by
      cases e : spc x with
      | false => rfl
      | true => exact absurd (List.any_eq_true.2 ⟨x, hx, e⟩) h
    exact (fil_0 (fun x hx e => by have := hn x hx; rw [e] at this; exact absurd this (by decide)) (fun x hx e => by have := hn x hx; rw [e] at this; exact absurd this (by decide))).symm
theorem pl_rgt (S : List UInt8) : plB S 40 = rgtB S := by
  rw [plB, rgtB]
  congr 1
  exact decide_eq_decide.2 (by omega)
set_option maxHeartbeats 6400000 in
set_option maxRecDepth 100000 in
theorem abbr_to (s l : ByteArray) (S L R : List UInt8) (off save : Int) (b : Bool) (w : World) (hs : s.size ≤ 1000) (hl : l.size ≤ 1000) (hS : Hid (s.data.toList = S)) (hL : Hid (l.data.toList = L))
    (h : Hid ((if nmB S L off save = true then (filL S L (shS off) save, true) else ([], false)) = (R, b))) :
    Calls Tryd.prog 9 #[.string s, .string l, .int .i64 off, .int .i64 save] w fun e w' => e = .returned (.tuple #[.string ⟨R.toArray⟩, .bool b]) ∧ Below w.heap.size w w' := by
  have HH := h.out
  clear h
  rw [nmB] at HH
  obtain ⟨T, hT⟩ : ∃ x, shS off = x := ⟨_, rfl⟩
  have sl := sh_len off
  rw [hT] at HH sl
  obtain ⟨N, hN⟩ : ∃ x, filL S L T save = x := ⟨_, rfl⟩
  rw [hN] at HH
  obtain ⟨p, h1⟩ : ∃ x, fmtB S = x := ⟨_, rfl⟩
  obtain ⟨q, h2⟩ : ∃ x, letB L = x := ⟨_, rfl⟩
  obtain ⟨i, h3⟩ : ∃ x, decide (-172799 ≤ off ∧ off ≤ 172799) = x := ⟨_, rfl⟩
  obtain ⟨g, h4⟩ : ∃ x, rgtB N = x := ⟨_, rfl⟩
  have he : decide (shE off = 0) = i := by
    rw [← h3, shE]
    by_cases x : -172800 < off ∧ off < 172800
    · rw [if_pos x, decide_eq_true (p := -172799 ≤ off ∧ off ≤ 172799) (by omega)]; rfl
    · rw [if_neg x, decide_eq_false (p := -172799 ≤ off ∧ off ≤ 172799) (by omega)]; rfl
  rw [he, h1, h2, h4] at HH
  have H1 : Hid (rfB S = p) := Lib.hid (by rw [rf_eq, h1])
  have H2 := Lib.hid h2
  have H3 := Lib.hid h3
  have H4 : Hid (plB N 40 = g) := Lib.hid (by rw [pl_rgt, h4])
  have HF := Lib.hid h1
  have HT := Lib.hid hT
  have HN := Lib.hid hN
  have hz : (p = false ∧ R = [] ∧ b = false) ∨ (p = true ∧ ((q = false ∧ R = [] ∧ b = false) ∨ (q = true ∧ ((i = false ∧ R = [] ∧ b = false) ∨ ((i = true ∧ -172800 < off ∧ off < 172800) ∧ N.length ≤ 100 ∧ S.length ≤ 40 ∧ ((g = false ∧ R = [] ∧ b = false) ∨ (g = true ∧ R = N ∧ b = true))))))) := by
    cases p with
    | false => cases i <;> (injection HH with x y; exact Or.inl ⟨rfl, x.symm, y.symm⟩)
    | true =>
      refine Or.inr ⟨rfl, ?_⟩
      cases q with
      | false => cases i <;> (injection HH with x y; exact Or.inl ⟨rfl, x.symm, y.symm⟩)
      | true =>
        refine Or.inr ⟨rfl, ?_⟩
        cases i with
        | false => injection HH with x y; exact Or.inl ⟨rfl, x.symm, y.symm⟩
        | true =>
          have ho := of_decide_eq_true h3
          have l1 : S.length ≤ 40 := by
            rw [fmtB, Bool.and_eq_true] at h1
            exact (of_decide_eq_true h1.1).2
          have l2 : L.length ≤ 6 := by
            rw [letB, Bool.and_eq_true] at h2
            exact of_decide_eq_true h2.1
          refine Or.inr ⟨⟨rfl, by omega, by omega⟩, by rw [← hN]; exact fil_len save l1 l2 sl, l1, ?_⟩
          cases g with
          | false => injection HH with x y; exact Or.inl ⟨rfl, x.symm, y.symm⟩
          | true => injection HH with x y; exact Or.inr ⟨rfl, x.symm, y.symm⟩
  have hls : S.length = s.size := by rw [← hS.out]; simp
  have HL := Lib.hid hls
  have zt : (⟨T.toArray⟩ : ByteArray).size ≤ 7 := sl
  clear HH h1 h2 h3 h4 he hT hN hls
  rcases hz with ⟨rfl, rfl, rfl⟩ | ⟨rfl, ⟨rfl, rfl, rfl⟩ | ⟨rfl, ⟨rfl, rfl, rfl⟩ | ⟨⟨rfl, o1, o2⟩, n1, n2, hz⟩⟩⟩
  · go_enter Tryd.func9, Tryd.ntmps9
    go_wp2_with fail
    refine (rfmt_to s S false _ hs hS H1).mono ?_
    rintro e w1 ⟨rfl, rfl⟩
    go_wp2
    go_ret2
    exact ⟨rfl, Below.refl _ _⟩
  · go_enter Tryd.func9, Tryd.ntmps9
    go_wp2_with fail
    refine (rfmt_to s S true _ hs hS H1).mono ?_
    rintro e w1 ⟨rfl, rfl⟩
    go_wp2_with fail
    refine (rlet_to l L false _ hl hL H2).mono ?_
    rintro e w1 ⟨rfl, rfl⟩
    go_wp2
    go_ret2
    exact ⟨rfl, Below.refl _ _⟩
  · go_enter Tryd.func9, Tryd.ntmps9
    go_wp2_with fail
    refine (rfmt_to s S true _ hs hS H1).mono ?_
    rintro e w1 ⟨rfl, rfl⟩
    go_wp2_with fail
    refine (rlet_to l L true _ hl hL H2).mono ?_
    rintro e w1 ⟨rfl, rfl⟩
    go_wp2_with fail
    refine (rin9_to off _ _ false _ H3).mono ?_
    rintro e w1 ⟨rfl, rfl⟩
    go_wp2
    go_ret2
    exact ⟨rfl, Below.refl _ _⟩
  have hz := Lib.hid hz
  go_enter Tryd.func9, Tryd.ntmps9
  go_wp2_with fail
  refine (rfmt_to s S true _ hs hS H1).mono ?_
  rintro e w1 ⟨rfl, rfl⟩
  go_wp2_with fail
  refine (rlet_to l L true _ hl hL H2).mono ?_
  rintro e w1 ⟨rfl, rfl⟩
  go_wp2_with fail
  refine (rin9_to off _ _ true _ H3).mono ?_
  rintro e w1 ⟨rfl, rfl⟩
  go_wp2
  go_loopw [10, 11] (fun sv iv wr => ∃ (k : Nat) (x : ByteArray), k ≤ s.size ∧ iv = .int .i64 k ∧ sv = .string x ∧ Hid (x.data.toList = abX S N k) ∧ Below w.heap.size w wr) (fun _ iv _ => s.size - (intOf iv).toNat)
  case atStart => exact ⟨0, s, Nat.zero_le _, rfl, rfl, Lib.hid (by rw [hS.out]; rfl), Below.refl _ _⟩
  case round =>
    obtain ⟨k, x, hk, rfl, rfl, hx, hb⟩ := hrel
    by_cases hlt : k < s.size
    · have hkS : k < S.length := by rw [HL.out]; exact hlt
      have he := split_at S k hkS
      have hst := ab_step (N := N) hkS
      obtain ⟨c, hc⟩ : ∃ c, S[k]'hkS = c := ⟨_, rfl⟩
      have hcc : s[k] = c := by
        have : s[k] = s.data.toList[k]'(by simpa using hlt) := by simp [ByteArray.getElem_eq_getElem_data]
        rw [this, ← hc]
        exact List.getElem_of_eq hS.out _
      rw [hc] at he hst
      have E1 : Hid ((s.extract 0 k).data.toList = S.take k) := Lib.hid (by rw [Lib.extract_data, hS.out]; simp)
      have E2 : Hid ((s.extract (k + 1) s.size).data.toList = S.drop (k + 1)) := Lib.hid (by rw [Lib.extract_data, hS.out]; exact List.take_of_length_le (by rw [List.length_drop, HL.out]; omega))
      have E3 : Hid ((s.extract (k + 2) s.size).data.toList = S.drop (k + 2)) := Lib.hid (by rw [Lib.extract_data, hS.out]; exact List.take_of_length_le (by rw [List.length_drop, HL.out]; omega))
      have z1 : (s.extract 0 k).size ≤ 1000 := by rw [Lib.size_eq, E1.out, List.length_take]; omega
      have z3 : (s.extract (k + 2) s.size).size ≤ 1000 := by rw [Lib.size_eq, E3.out, List.length_drop]; omega
      have hdS : ∀ d B', S.drop (k + 1) = d :: B' → (∃ h : k + 1 < s.size, s[k + 1] = d) ∧ S.drop (k + 2) = B' := fun d B' h => by
        have hlen : k + 1 < S.length := by
          have := congrArg List.length h
          rw [List.length_drop] at this; simp at this; omega
        have h2 : k + 1 < s.size := by rw [← HL.out]; exact hlen
        have hd := List.drop_eq_getElem_cons hlen
        rw [h] at hd
        refine ⟨⟨h2, ?_⟩, ((List.cons.inj hd).2).symm⟩
        have : s[k + 1] = s.data.toList[k + 1]'(by simpa using h2) := by simp [ByteArray.getElem_eq_getElem_data]
        rw [this, (List.cons.inj hd).1]
        exact List.getElem_of_eq hS.out _
      have hcs : (c = 47 ∧ save = 0 ∧ N = S.take k) ∨ (c = 47 ∧ (save == 0) = false ∧ N = S.drop (k + 1)) ∨ (c = 37 ∧ ∃ d, (∃ h : k + 1 < s.size, s[k + 1] = d) ∧ ((d = 115 ∧ N = S.take k ++ L ++ S.drop (k + 2)) ∨ (d = 122 ∧ N = S.take k ++ T ++ S.drop (k + 2)))) ∨
          (spc c = false ∧ ((c.toNat : Int) == 47) = false ∧ ((c.toNat : Int) == 37) = false) := by
        by_cases x1 : c = 47
        · obtain ⟨⟨a1, a2, a3, a4⟩, _⟩ := sp_split HF.out he (by rw [x1]; decide)
          have e : N = if save = 0 then S.take k else S.drop (k + 1) := by
            rw [← HN.out]
            conv => lhs; rw [he, x1]
            exact fil_47 a1
          by_cases x2 : save = 0
          · exact Or.inl ⟨x1, x2, by rw [e, if_pos x2]⟩
          · exact Or.inr (Or.inl ⟨x1, beq_eq_false_iff_ne.2 x2, by rw [e, if_neg x2]⟩)
        · by_cases x2 : c = 37
          · obtain ⟨⟨a1, a2, a3, a4⟩, a5⟩ := sp_split HF.out he (by rw [x2]; decide)
            obtain ⟨d, B', hB, hd⟩ := a5 x2
            obtain ⟨u1, u2⟩ := hdS d B' hB
            refine Or.inr (Or.inr (Or.inl ⟨x2, d, u1, ?_⟩))
            rw [hB] at a3 a4
            have b3 : ∀ x ∈ B', x ≠ 47 := fun x hx => a3 x (List.mem_cons_of_mem _ hx)
            have b4 : ∀ x ∈ B', x ≠ 37 := fun x hx => a4 x (List.mem_cons_of_mem _ hx)
            rw [u2]
            rcases hd with hd | hd
            · refine Or.inl ⟨hd, ?_⟩
              rw [← HN.out]
              conv => lhs; rw [he, x2, hB, hd]
              exact fil_s a1 b3 a2
            · refine Or.inr ⟨hd, ?_⟩
              rw [← HN.out]
              conv => lhs; rw [he, x2, hB, hd]
              exact fil_z a1 b3 a2 b4
          · refine Or.inr (Or.inr (Or.inr ⟨decide_eq_false (fun h => h.elim x2 x1), ?_, ?_⟩))
            · have := u8_ne (n := 47) (by decide) x1; simpa [bne] using this
            · have := u8_ne (n := 37) (by decide) x2; simpa [bne] using this
      have hst := Lib.hid hst
      clear he hc hdS hkS
      rcases hcs with ⟨rfl, s1, hN⟩ | ⟨rfl, s1, hN⟩ | ⟨rfl, d, ⟨k2, hd⟩, ⟨rfl, hN⟩ | ⟨rfl, hN⟩⟩ | ⟨hc, c1, c2⟩
      · have HX : Hid ((s.extract 0 k).data.toList = abX S N (k + 1)) := Lib.hid (by rw [hst.out, if_pos (by decide), E1.out, hN])
        clear hN
        subst s1
        go_wp2
        go_roundw
        case rel => exact ⟨k + 1, _, by omega, by go_num, rfl, HX, hb⟩
        case measure => simp [intOf]; omega
      · have HX : Hid ((s.extract (k + 1) s.size).data.toList = abX S N (k + 1)) := Lib.hid (by rw [hst.out, if_pos (by decide), E2.out, hN])
        clear hN
        go_wp2
        go_roundw
        case rel => exact ⟨k + 1, _, by omega, by go_num, rfl, HX, hb⟩
        case measure => simp [intOf]; omega
      · have HX : Hid ((s.extract 0 k ++ l ++ s.extract (k + 2) s.size).data.toList = abX S N (k + 1)) := Lib.hid (by rw [hst.out, if_pos (by decide), hN]; simp only [ByteArray.data_append, Array.toList_append, E1.out, E3.out, hL.out])
        clear hN
        go_wp2_with fail
        go_quiet (fail)
        go_wp2
        go_roundw
        case rel => first | exact ⟨k + 1, _, by omega, by go_num, rfl, HX, hb⟩ | exact ⟨k + 1, _, by omega, by go_num, rfl, HX, below_drewN hb _⟩
        case measure => simp [intOf]; omega
      · have HX : Hid ((s.extract 0 k ++ ⟨T.toArray⟩ ++ s.extract (k + 2) s.size).data.toList = abX S N (k + 1)) := Lib.hid (by rw [hst.out, if_pos (by decide), hN]; simp only [ByteArray.data_append, Array.toList_append, E1.out, E3.out])
        clear hN
        go_wp2_with fail
        have y1 : ¬ 9223372036854775807 < k + T.length := by have : T.length ≤ 7 := zt; omega
        have y2 : ¬ 9223372036854775807 < k + T.length + (s.size - (k + 2)) := by have : T.length ≤ 7 := zt; omega
        have y3 : IntKind.i64.wrap ((k : Int) + 2) = (k : Int) + 2 := IntWalk.i64_in _ (by omega)
        have y4 : (k : Int) + 2 ≤ (s.size : Int) := by omega
        have y5 : ((k : Int) + 2).toNat = k + 2 := by omega
        have y6 : 0 ≤ (k : Int) + 2 := by omega
        have d1 := Lib.hid (fun dd os => Calls.regrown_of (rshort_to off T (Sort.grow (redrawn wr dd) os) o1 o2 HT))
        refine wp_region_quiet_below (by kernel_rfl) (by kernel_rfl) ?_
        repeat (quiet_step (first | with_reducible exact d1.out _ _))
        refine wpQuiet_nil ?_
        intro w' hw'
        obtain ⟨⟨dq, osq⟩, rfl⟩ := hw'
        have hb2 := hb.trans ((below_regrown wr dq osq).mono hb.size)
        go_wp2
        go_roundw
        case rel => exact ⟨k + 1, _, by omega, by go_num, rfl, HX, hb2⟩
        case measure => simp [intOf]; omega
      · have HX : Hid (x.data.toList = abX S N (k + 1)) := Lib.hid (by rw [hst.out, if_neg (by rw [hc]; decide)]; exact hx.out)
        clear hc
        go_wp2
        go_roundw
        case rel => exact ⟨k + 1, _, by omega, by go_num, rfl, HX, hb⟩
        case measure => simp [intOf]; omega
    · have hk2 : k = S.length := by rw [HL.out]; omega
      have HX : Hid (x.data.toList = N) := Lib.hid (by rw [hx.out, hk2, ← HN.out]; exact ab_end)
      have zx : x.size ≤ maxLen := by rw [Lib.size_eq, HX.out]; unfold maxLen; omega
      have ZX := Lib.hid zx
      clear zx hk2
      go_wp2_with fail
      refine (rplain_to x N 40 g _ ZX.out HX H4).mono ?_
      rintro e w2 ⟨rfl, rfl⟩
      rcases hz.out with ⟨rfl, hR, rfl⟩ | ⟨rfl, hR, rfl⟩
      · subst hR
        go_wp2
        go_ret2
        exact ⟨rfl, hb⟩
      · have hxx : x = ⟨R.toArray⟩ := bytes_eq (by rw [HX.out, hR])
        have HXX := Lib.hid hxx
        clear hxx hR
        go_wp2
        go_ret2
        first | exact ⟨rfl, hb⟩ | exact ⟨by rw [HXX.out]; rfl, hb⟩
end Fm
end Go.Proofs.YtfmlccddhphjcaaDoor
