/-
  Several texts in one (FmC, FmD, FmE, FmS, FmP, FmQ, FmX1).
-/
import Derived.Test.YthefgagmjamdkaaGreatDoorBdG
import Derived.Test.YthefgagmjamdkaaGreatDoorBdC
import Derived.Test.YthefgagmjamdkaaGreatDoorBdR
/-
  Contract of format.Short. (Written by gen/gen_fmc.py.)
-/
namespace Go.Proofs.YthefgagmjamdkaaGreatDoor
open Go.RowKit
namespace Fm
open Sol
theorem text_to (n d : Int) (T : List UInt8) (w : World) (n1 : -9223372036854775808 ≤ n) (n2 : n ≤ 9223372036854775807) (d1 : -9223372036854775808 ≤ d) (d2 : d ≤ 9223372036854775807) (hp : Pow w) (h : Hid (textL n d = T)) :
    Calls Tryz.prog 56 #[.int .i64 n, .int .i64 d] w fun e w' => e = .returned (.string ⟨T.toArray⟩) ∧ Below w.heap.size w w' :=
  (text_any n d w n1 n2 d1 d2 hp.here).mono fun _ _ ⟨he, hw⟩ => ⟨by rw [he, h.out], hw⟩
theorem bytes_eq {s t : ByteArray} (h : s.data.toList = t.data.toList) : s = t := ByteArray.ext (Array.toList_inj.1 h)
theorem tx_len (h : Int) (d : Nat) (h0 : 0 ≤ h) (d1 : 1 ≤ d) (d2 : d ≤ 20) (h1 : h < 10 ^ d) : (textL h d).length = d := by
  have e : textL h d = padL d (Lib.decDigits h.toNat) := by rw [textL, if_neg (by omega), if_pos (by omega)]; rfl
  rw [e, padL_len]
  have hk : h.toNat < 10 ^ (d - 1 + 1) := by
    rw [show d - 1 + 1 = d by omega]
    have : ((h.toNat : Nat) : Int) < ((10 ^ d : Nat) : Int) := by rw [Int.toNat_of_nonneg h0]; push_cast; exact h1
    exact Int.ofNat_lt.1 this
  have := decDigits_len (k := d - 1) (u := h.toNat) hk
  omega
theorem l2 {h : Int} (h0 : 0 ≤ h) (h1 : h ≤ 99) : (textL h 2).length = 2 := tx_len h 2 h0 (by decide) (by decide) (by omega)
theorem ret_si {s s' : ByteArray} {a a' : Int} (k : s = s') (h : a = a') : Ending.returned (.tuple #[.string s, .int .i64 a]) = .returned (.tuple #[.string s', .int .i64 a']) := by rw [h, k]
/-- The short text of an offset. -/
def shB (m : Int) : List UInt8 := textL (m / 3600) 2 ++ ((if m % 3600 = 0 then [] else textL (m / 60 % 60) 2) ++ (if m % 60 = 0 then [] else textL (m % 60) 2))
def shE (o : Int) : Int := if -172800 < o ∧ o < 172800 then 0 else 5
def shS (o : Int) : List UInt8 := if -172800 < o ∧ o < 172800 then (if o < 0 then 45 :: shB (-o) else 43 :: shB o) else []
theorem sh_pos {m : Int} (h0 : 0 ≤ m) (h1 : m < 172800) : shS m = 43 :: shB m ∧ shE m = 0 := by
  rw [shS, shE, if_pos (by omega), if_neg (by omega), if_pos (by omega)]; exact ⟨rfl, rfl⟩
theorem sh_neg {m : Int} (h0 : 0 < m) (h1 : m < 172800) : shS (-m) = 45 :: shB m ∧ shE (-m) = 0 := by
  rw [shS, shE, if_pos (by omega), if_pos (by omega), if_pos (by omega), Int.neg_neg]; exact ⟨rfl, rfl⟩
end Fm
end Go.Proofs.YthefgagmjamdkaaGreatDoor
/-
  Contracts of package format: fill, Name.
-/
namespace Go.Proofs.YthefgagmjamdkaaGreatDoor
open Go.RowKit
namespace Fm
open Sol
/-- A right format, filled. -/
def filL (S L T : List UInt8) (save : Int) : List UInt8 :=
  if (Lib.cut S [47]).2.2 = true then (if save = 0 then (Lib.cut S [47]).1 else (Lib.cut S [47]).2.1)
  else if (Lib.cut S [37, 115]).2.2 = true then (Lib.cut S [37, 115]).1 ++ L ++ (Lib.cut S [37, 115]).2.1
  else if (Lib.cut S [37, 122]).2.2 = true then (Lib.cut S [37, 122]).1 ++ T ++ (Lib.cut S [37, 122]).2.1
  else S
theorem cut_len (S P : List UInt8) : (Lib.cut S P).1.length ≤ S.length ∧ (Lib.cut S P).2.1.length ≤ S.length := by
  unfold Lib.cut
  split
  · exact ⟨by rw [List.length_take]; omega, by rw [List.length_drop]; omega⟩
  · exact ⟨Nat.le_refl _, Nat.zero_le _⟩
theorem arr_eq {s : ByteArray} {S : List UInt8} (h : s.data.toList = S) : (⟨S.toArray⟩ : ByteArray) = s := bytes_eq (by rw [h])
/-- The name of a time. -/
def nmB (S L : List UInt8) (off save : Int) : Bool := decide (shE off = 0) && (fmtB S && (letB L && rgtB (filL S L (shS off) save)))
def nmR (S L : List UInt8) (off save : Int) : List UInt8 × Int := if nmB S L off save = true then (filL S L (shS off) save, 0) else ([], 16)
theorem sh_len (o : Int) : (shS o).length ≤ 7 := by
  have hB : ∀ m : Int, 0 ≤ m → m < 172800 → (shB m).length ≤ 6 := fun m h0 h1 => by
    have a := l2 (h := m / 3600) (by omega) (by omega)
    have b := l2 (h := m / 60 % 60) (by omega) (by omega)
    have c := l2 (h := m % 60) (by omega) (by omega)
    unfold shB
    split <;> split <;> simp [a, b, c]
  unfold shS
  split
  · split
    · have := hB (-o) (by omega) (by omega); rw [List.length_cons]; omega
    · have := hB o (by omega) (by omega); rw [List.length_cons]; omega
  · simp
theorem fil_len {S L T : List UInt8} (save : Int) (h1 : S.length ≤ 40) (h2 : L.length ≤ 6) (h3 : T.length ≤ 7) : (filL S L T save).length ≤ 100 := by
  have c1 := cut_len S [47]
  have c2 := cut_len S [37, 115]
  have c3 := cut_len S [37, 122]
  unfold filL
  split
  · split <;> omega
  · split
    · rw [List.length_append, List.length_append]; omega
    · split
      · rw [List.length_append, List.length_append]; omega
      · omega
end Fm
end Go.Proofs.YthefgagmjamdkaaGreatDoor
/-
  Package format: the waking call of its laws; FormatBad.
-/
namespace Go.Proofs.YthefgagmjamdkaaGreatDoor
open Go.RowKit
namespace Fm
open Sol
theorem wk_1 : nmR [67, 69, 37, 115, 84] [83] 7200 3600 = ([67, 69, 83, 84], 0) := by decide +kernel
theorem wk_2 : nmR [65, 47, 66] [] 0 0 = ([65], 0) := by decide +kernel
theorem wk_3 : shS (-5400) = [45, 48, 49, 51, 48] ∧ shE (-5400) = 0 := by decide +kernel
theorem wk_4 : nmR [37, 115] [] 0 0 = ([], 16) := by decide +kernel
theorem wk_5 : rgtB [43, 48, 51] = true := by decide +kernel
def bdL : Nat → List UInt8 := fun k => ([[], [37], [37, 120], [97, 37, 115, 37, 122], [97, 47, 98, 47, 99], [97, 47, 37, 115], [97, 32, 98], [97, 95, 98], [37, 115, 47, 98], [60, 43, 48, 51, 62]] : List (List UInt8)).getD k []
theorem bd_no : ∀ k < 10, fmtB (bdL k) = false ∧ (bdL k).length ≤ 20 := by decide +kernel
theorem nm_no {S L : List UInt8} (off save : Int) (h : fmtB S = false) : nmR S L off save = ([], 16) := by
  have e : nmB S L off save = false := by rw [nmB, h]; simp
  rw [nmR, e]; rfl
theorem nm_a0 : nmR [47, 98] [] 0 0 = ([], 16) := by decide +kernel
theorem nm_b0 : nmR [98, 47] [] 0 0 = ([98], 0) := by decide +kernel
theorem nm_a1 {save : Int} (h : save ≠ 0) : nmR [47, 98] [] 0 save = ([98], 0) := by
  have e : filL [47, 98] [] (shS 0) save = [98] := by rw [filL, if_pos (by decide +kernel), if_neg h]; decide +kernel
  rw [nmR, nmB, e]; decide +kernel
theorem nm_b1 {save : Int} (h : save ≠ 0) : nmR [98, 47] [] 0 save = ([], 16) := by
  have e : filL [98, 47] [] (shS 0) save = [] := by rw [filL, if_pos (by decide +kernel), if_neg h]; decide +kernel
  rw [nmR, nmB, e]; decide +kernel
theorem u10 (x : Int) : ∃ k : Nat, (IntKind.u64.wrap x).tmod 10 = (k : Int) ∧ (IntKind.u64.wrap x) % 10 = (k : Int) ∧ k < 10 := by
  have h0 : 0 ≤ IntKind.u64.wrap x := by rw [IntKind.wrap_u64]; omega
  have h1 := Int.tmod_nonneg 10 h0
  have h2 := Int.tmod_lt_of_pos (IntKind.u64.wrap x) (show (0 : Int) < 10 by omega)
  have h3 : (IntKind.u64.wrap x).tmod 10 = IntKind.u64.wrap x % 10 := Int.tmod_eq_emod_of_nonneg h0
  exact ⟨((IntKind.u64.wrap x).tmod 10).toNat, by omega, by omega, by omega⟩
end Fm
end Go.Proofs.YthefgagmjamdkaaGreatDoor
/-
  FormatShort: a short text has a sign, two digits of hours, and no more than is needed; unlike offsets have unlike ones.
-/
namespace Go.Proofs.YthefgagmjamdkaaGreatDoor
open Go.RowKit
namespace Fm
open Sol
theorem a2 {h : Int} (h0 : 0 ≤ h) : (textL h 2).all isDig = true ∧ digVal (textL h 2) = h := by
  have e : textL h 2 = padL 2 (Lib.decDigits h.toNat) := by rw [textL, if_neg (by omega), if_pos (by omega)]; rfl
  rw [e]
  exact ⟨padL_all _ _, by rw [padL_val]; omega⟩
theorem t2_inj {a b : Int} (ha : 0 ≤ a) (hb : 0 ≤ b) (h : textL a 2 = textL b 2) : a = b := by
  have := (a2 ha).2
  rw [h, (a2 hb).2] at this
  exact this.symm
/-- How many signs stand behind the first one. -/
def shN (m : Int) : Nat := if m % 3600 = 0 then 2 else if m % 60 = 0 then 4 else 6
theorem shB_len {m : Int} (h0 : 0 ≤ m) (h1 : m < 172800) : (shB m).length = shN m := by
  have a := l2 (h := m / 3600) (by omega) (by omega)
  have b := l2 (h := m / 60 % 60) (by omega) (by omega)
  have c := l2 (h := m % 60) (by omega) (by omega)
  unfold shB shN
  by_cases x : m % 3600 = 0
  · have y : m % 60 = 0 := by omega
    rw [if_pos x, if_pos y, if_pos x]; simp [a]
  · rw [if_neg x, if_neg x]
    by_cases y : m % 60 = 0
    · rw [if_pos y, if_pos y]; simp [a, b]
    · rw [if_neg y, if_neg y]; simp [a, b, c]
theorem shB_all {m : Int} (h0 : 0 ≤ m) : (shB m).all isDig = true := by
  have a := (a2 (h := m / 3600) (by omega)).1
  have b := (a2 (h := m / 60 % 60) (by omega)).1
  have c := (a2 (h := m % 60) (by omega)).1
  unfold shB
  split <;> split <;> simp only [List.all_append, List.all_nil, a, b, c] <;> rfl
theorem shB_inj {a b : Int} (a0 : 0 ≤ a) (a1 : a < 172800) (b0 : 0 ≤ b) (b1 : b < 172800) (h : shB a = shB b) : a = b := by
  have la := shB_len a0 a1
  have lb := shB_len b0 b1
  rw [h, lb] at la
  have p1 := l2 (h := a / 3600) (by omega) (by omega)
  have q1 := l2 (h := b / 3600) (by omega) (by omega)
  have p2 := l2 (h := a / 60 % 60) (by omega) (by omega)
  have q2 := l2 (h := b / 60 % 60) (by omega) (by omega)
  unfold shB at h
  obtain ⟨e1, h2⟩ := List.append_inj h (by rw [p1, q1])
  have k1 := t2_inj (by omega) (by omega) e1
  unfold shN at la
  by_cases x : a % 3600 = 0
  · by_cases y : b % 3600 = 0
    · omega
    · rw [if_pos x, if_neg y] at la; split at la <;> omega
  · by_cases y : b % 3600 = 0
    · rw [if_neg x, if_pos y] at la; split at la <;> omega
    · rw [if_neg x, if_neg y] at la h2
      obtain ⟨e2, h3⟩ := List.append_inj h2 (by rw [p2, q2])
      have k2 := t2_inj (by omega) (by omega) e2
      by_cases u : a % 60 = 0
      · by_cases v : b % 60 = 0
        · omega
        · rw [if_pos u, if_neg v] at la; omega
      · by_cases v : b % 60 = 0
        · rw [if_neg u, if_pos v] at la; omega
        · rw [if_neg u, if_neg v] at h3
          have k3 := t2_inj (by omega) (by omega) h3
          omega
theorem dig_ok {c : UInt8} (O : List UInt8) (h : isDig c = true) : okB O c = true := by rw [okB, h]; simp
theorem all_ok {S : List UInt8} (O : List UInt8) (h : S.all isDig = true) : onlyB S O = true :=
  List.all_eq_true.2 fun c hc => dig_ok O (List.all_eq_true.1 h c hc)
/-- What a short text is made of. -/
theorem sh_form {o : Int} (h0 : -172800 < o) (h1 : o < 172800) : ∃ c R, shS o = c :: R ∧ ((o < 0 ∧ c = 45) ∨ ((¬ o < 0 ∧ 0 ≤ o) ∧ c = 43)) ∧ R.length = shN o ∧ rgtB (shS o) = true ∧ shE o = 0 := by
  have hn : ∀ m : Int, shN (-m) = shN m := fun m => by
    unfold shN
    have e1 : ((-m) % 3600 = 0) = (m % 3600 = 0) := propext ⟨fun h => by omega, fun h => by omega⟩
    have e2 : ((-m) % 60 = 0) = (m % 60 = 0) := propext ⟨fun h => by omega, fun h => by omega⟩
    simp only [e1, e2]
  have hb : ∀ m : Int, shN m ≤ 6 := fun m => by unfold shN; split <;> (try split) <;> omega
  by_cases hz : o < 0
  · obtain ⟨m, rfl⟩ : ∃ m, o = -m := ⟨-o, by omega⟩
    obtain ⟨a, b⟩ := sh_neg (m := m) (by omega) (by omega)
    have l := shB_len (m := m) (by omega) (by omega)
    have := hb m
    refine ⟨45, shB m, a, Or.inl ⟨hz, rfl⟩, by rw [hn, l], ?_, b⟩
    rw [a, rgtB, List.length_cons, l, decide_eq_true (by omega), onlyB, List.all_cons, show okB [43, 45] 45 = true from by decide +kernel]
    exact all_ok _ (shB_all (by omega))
  · obtain ⟨a, b⟩ := sh_pos (m := o) (by omega) (by omega)
    have l := shB_len (m := o) (by omega) (by omega)
    have := hb o
    refine ⟨43, shB o, a, Or.inr ⟨⟨hz, by omega⟩, rfl⟩, l, ?_, b⟩
    rw [a, rgtB, List.length_cons, l, decide_eq_true (by omega), onlyB, List.all_cons, show okB [43, 45] 43 = true from by decide +kernel]
    exact all_ok _ (shB_all (by omega))
theorem sh_inj {a b : Int} (a0 : -172800 < a) (a1 : a < 172800) (b0 : -172800 < b) (b1 : b < 172800) (h : shS a = shS b) : a = b := by
  by_cases ha : a < 0
  · obtain ⟨m, rfl⟩ : ∃ m, a = -m := ⟨-a, by omega⟩
    by_cases hb : b < 0
    · obtain ⟨n, rfl⟩ : ∃ m, b = -m := ⟨-b, by omega⟩
      rw [(sh_neg (m := m) (by omega) (by omega)).1, (sh_neg (m := n) (by omega) (by omega)).1] at h
      have := shB_inj (a := m) (b := n) (by omega) (by omega) (by omega) (by omega) (List.cons.inj h).2
      omega
    · rw [(sh_neg (m := m) (by omega) (by omega)).1, (sh_pos (m := b) (by omega) (by omega)).1] at h
      exact absurd (List.cons.inj h).1 (by decide)
  · by_cases hb : b < 0
    · obtain ⟨n, rfl⟩ : ∃ m, b = -m := ⟨-b, by omega⟩
      rw [(sh_pos (m := a) (by omega) (by omega)).1, (sh_neg (m := n) (by omega) (by omega)).1] at h
      exact absurd (List.cons.inj h).1 (by decide)
    · rw [(sh_pos (m := a) (by omega) (by omega)).1, (sh_pos (m := b) (by omega) (by omega)).1] at h
      exact shB_inj (by omega) (by omega) (by omega) (by omega) (List.cons.inj h).2
end Fm
end Go.Proofs.YthefgagmjamdkaaGreatDoor
/-
  FormatParts, its plain words: where signs stand in a text of two names.
-/
namespace Go.Proofs.YthefgagmjamdkaaGreatDoor
open Go.RowKit
namespace Fm
open Sol
theorem idx_ge : ∀ (l s : List UInt8), -1 ≤ Lib.index l s
  | [], s => by unfold Lib.index; split <;> omega
  | b :: l, s => by
    have := idx_ge l s
    unfold Lib.index
    split
    · omega
    · split <;> omega
theorem idx_app (p : UInt8) (P R : List UInt8) : ∀ A : List UInt8, (∀ x ∈ A, x ≠ p) → Lib.index (A ++ R) (p :: P) = if Lib.index R (p :: P) = -1 then -1 else Lib.index R (p :: P) + A.length
  | [], _ => by
    rw [List.nil_append]
    split
    · rename_i h; exact h
    · simp
  | b :: A, h => by
    have ih := idx_app p P R A (fun x hx => h x (List.mem_cons_of_mem _ hx))
    have hb : b ≠ p := h b (List.mem_cons_self ..)
    have hp : (p :: P).isPrefixOf (b :: (A ++ R)) = false := by
      simp [List.isPrefixOf, Ne.symm hb]
    have hg := idx_ge R (p :: P)
    rw [List.cons_append, Lib.index, hp, ih]
    by_cases k : Lib.index R (p :: P) = -1
    · simp [k]
    · rw [if_neg k, if_neg k]
      have : (Lib.index R (p :: P) + (A.length : Int) == -1) = false := beq_eq_false_iff_ne.2 (by omega)
      rw [this, List.length_cons]
      simp; omega
theorem idx_hit (p : UInt8) (P A B : List UInt8) (h : ∀ x ∈ A, x ≠ p) : Lib.index (A ++ (p :: P ++ B)) (p :: P) = A.length := by
  have h0 : Lib.index (p :: P ++ B) (p :: P) = 0 := by
    rw [List.cons_append, Lib.index, if_pos]
    exact List.isPrefixOf_iff_prefix.2 ⟨B, rfl⟩
  rw [idx_app p P _ A h, h0]; simp
theorem idx_no (p : UInt8) (P A : List UInt8) (h : ∀ x ∈ A, x ≠ p) : Lib.index A (p :: P) = -1 := by
  have := idx_app p P [] A h
  rw [List.append_nil] at this
  rw [this, if_pos (show Lib.index [] (p :: P) = -1 from rfl)]
theorem cut_hit (p : UInt8) (P A B : List UInt8) (h : ∀ x ∈ A, x ≠ p) : Lib.cut (A ++ (p :: P ++ B)) (p :: P) = (A, B, true) := by
  unfold Lib.cut
  rw [idx_hit p P A B h, if_pos (by omega)]
  simp
theorem cut_no (S P : List UInt8) (h : Lib.index S P = -1) : Lib.cut S P = (S, [], false) := by
  unfold Lib.cut
  rw [h]; rfl
theorem ib_no (c : UInt8) : ∀ A : List UInt8, (∀ x ∈ A, x ≠ c) → Lib.indexByte A c = -1
  | [], _ => rfl
  | b :: A, h => by
    have ih := ib_no c A (fun x hx => h x (List.mem_cons_of_mem _ hx))
    have hb : (b == c) = false := beq_eq_false_iff_ne.2 (h b (List.mem_cons_self ..))
    rw [Lib.indexByte, hb, ih]; rfl
theorem ib_in (c : UInt8) : ∀ A : List UInt8, c ∈ A → 0 ≤ Lib.indexByte A c
  | [], h => by simp at h
  | b :: A, h => by
    rw [Lib.indexByte]
    by_cases e : b = c
    · rw [if_pos (by simp [e])]; omega
    · have hm : c ∈ A := by
        rcases List.mem_cons.1 h with h | h
        · exact absurd h.symm e
        · exact h
      have ih := ib_in c A hm
      rw [if_neg (by simp [e])]
      have : (Lib.indexByte A c == -1) = false := beq_eq_false_iff_ne.2 (by omega)
      rw [this]; simp; omega
/-- A text of letters, digits, + and -. -/
theorem ok_ne {c : UInt8} (h : okB [43, 45] c = true) : c ≠ 37 ∧ c ≠ 47 := by
  constructor
  · rintro rfl; exact absurd h (by decide +kernel)
  · rintro rfl; exact absurd h (by decide +kernel)
theorem only_ne {S : List UInt8} (h : onlyB S [43, 45] = true) : (∀ x ∈ S, x ≠ 37) ∧ (∀ x ∈ S, x ≠ 47) :=
  ⟨fun x hx => (ok_ne (List.all_eq_true.1 h x hx)).1, fun x hx => (ok_ne (List.all_eq_true.1 h x hx)).2⟩
theorem ok_wide {c : UInt8} (h : okB [43, 45] c = true) : okB [43, 45, 37, 47] c = true := by
  rw [okB, Bool.or_eq_true] at h ⊢
  rcases h with h | h
  · exact Or.inl h
  · right
    have h := of_decide_eq_true h
    refine decide_eq_true ?_
    by_cases e1 : c = 43
    · subst e1; decide +kernel
    · by_cases e2 : c = 45
      · subst e2; decide +kernel
      · exfalso
        have : Lib.indexByte [43, 45] c = -1 := ib_no c _ (fun x hx => by
          simp at hx
          rcases hx with rfl | rfl
          · exact fun e => e1 e.symm
          · exact fun e => e2 e.symm)
        omega
theorem only_wide {S : List UInt8} (h : onlyB S [43, 45] = true) : onlyB S [43, 45, 37, 47] = true :=
  List.all_eq_true.2 fun x hx => ok_wide (List.all_eq_true.1 h x hx)
theorem only_app (S T O : List UInt8) : onlyB (S ++ T) O = (onlyB S O && onlyB T O) := by unfold onlyB; rw [List.all_append]
theorem cnt_no {S : List UInt8} {c : UInt8} (h : ∀ x ∈ S, x ≠ c) : S.count c = 0 := List.count_eq_zero.2 (fun hm => h c hm rfl)
section
variable {A B L : List UInt8} {off save : Int} (hA : onlyB A [43, 45] = true) (hB : onlyB B [43, 45] = true) (hL : onlyB L [43, 45] = true)
  (a1 : 1 ≤ A.length) (a2 : A.length ≤ 10) (b1 : 1 ≤ B.length) (b2 : B.length ≤ 10) (k2 : L.length ≤ 6) (hl : L ≠ [45]) (o1 : -172800 < off) (o2 : off < 172800)
include hL k2 hl in
theorem let_ok : letB L = true := by rw [letB, decide_eq_true k2, decide_eq_false hl, hL]; rfl
theorem rgt_ok {S : List UInt8} (h : onlyB S [43, 45] = true) (h1 : 1 ≤ S.length) (h2 : S.length ≤ 40) : rgtB S = true := by rw [rgtB, decide_eq_true ⟨h1, h2⟩, h]; rfl
include hA hB hL a1 a2 b2 k2 hl o1 o2 in
theorem nm_s : nmR (A ++ ([37, 115] ++ B)) L off save = (A ++ L ++ B, 0) := by
  obtain ⟨x1, x2⟩ := only_ne hA
  obtain ⟨y1, y2⟩ := only_ne hB
  have f : fmtB (A ++ ([37, 115] ++ B)) = true := by
    have e1 : Lib.indexByte (A ++ ([37, 115] ++ B)) 47 = -1 := ib_no _ _ (fun x hx => by
      rcases List.mem_append.1 hx with h | h
      · exact x2 x h
      · rcases List.mem_append.1 h with h | h
        · simp at h; rcases h with rfl | rfl <;> decide
        · exact y2 x h)
    have e2 : (A ++ ([37, 115] ++ B)).count 37 = 1 := by
      rw [List.count_append, List.count_append, cnt_no x1, cnt_no y1]; decide
    have e3 : Lib.contains (A ++ ([37, 115] ++ B)) [37, 115] = true := by
      rw [Lib.contains, show ([37, 115] : List UInt8) ++ B = 37 :: [115] ++ B from rfl, idx_hit 37 [115] A B x1]
      exact decide_eq_true (by omega)
    have e4 : onlyB (A ++ ([37, 115] ++ B)) [43, 45, 37, 47] = true := by
      rw [only_app, only_app, only_wide hA, only_wide hB]; decide +kernel
    rw [fmtB, e1, e2, e3, e4, decide_eq_true (by simp; omega)]; rfl
  have g : filL (A ++ ([37, 115] ++ B)) L (shS off) save = A ++ L ++ B := by
    have e1 : Lib.cut (A ++ ([37, 115] ++ B)) [47] = (A ++ ([37, 115] ++ B), [], false) := cut_no _ _ (idx_no 47 [] _ (fun x hx => by
      rcases List.mem_append.1 hx with h | h
      · exact x2 x h
      · rcases List.mem_append.1 h with h | h
        · simp at h; rcases h with rfl | rfl <;> decide
        · exact y2 x h))
    have e2 : Lib.cut (A ++ ([37, 115] ++ B)) [37, 115] = (A, B, true) := cut_hit 37 [115] A B x1
    rw [filL, e1, e2]; rfl
  have r : rgtB (A ++ L ++ B) = true := rgt_ok (by rw [only_app, only_app, hA, hL, hB]; rfl) (by simp; omega) (by simp; omega)
  have e : shE off = 0 := by rw [shE, if_pos ⟨o1, o2⟩]
  rw [nmR, nmB, f, g, r, e, let_ok hL k2 hl]; rfl
include hA hB hL a1 a2 b1 b2 k2 hl o1 o2 in
theorem nm_sl : nmR (A ++ ([47] ++ B)) L off save = (if save = 0 then A else B, 0) := by
  obtain ⟨x1, x2⟩ := only_ne hA
  obtain ⟨y1, y2⟩ := only_ne hB
  have f : fmtB (A ++ ([47] ++ B)) = true := by
    have e1 : 0 ≤ Lib.indexByte (A ++ ([47] ++ B)) 47 := ib_in _ _ (by simp)
    have e2 : (A ++ ([47] ++ B)).count 37 = 0 := by
      rw [List.count_append, List.count_append, cnt_no x1, cnt_no y1]; decide
    have e3 : (A ++ ([47] ++ B)).count 47 = 1 := by
      rw [List.count_append, List.count_append, cnt_no x2, cnt_no y2]; decide
    have e4 : onlyB (A ++ ([47] ++ B)) [43, 45, 37, 47] = true := by
      rw [only_app, only_app, only_wide hA, only_wide hB]; decide +kernel
    rw [fmtB, e2, e3, e4, decide_eq_true e1, decide_eq_true (by simp; omega)]; rfl
  have g : filL (A ++ ([47] ++ B)) L (shS off) save = if save = 0 then A else B := by
    have e1 : Lib.cut (A ++ ([47] ++ B)) [47] = (A, B, true) := cut_hit 47 [] A B x2
    rw [filL, e1, if_pos rfl]
  have r : rgtB (if save = 0 then A else B) = true := by
    split
    · exact rgt_ok hA a1 (by omega)
    · exact rgt_ok hB b1 (by omega)
  have e : shE off = 0 := by rw [shE, if_pos ⟨o1, o2⟩]
  rw [nmR, nmB, f, g, r, e, let_ok hL k2 hl]; rfl
include hA hL a1 a2 k2 hl o1 o2 in
theorem nm_0 : nmR A L off save = (A, 0) := by
  obtain ⟨x1, x2⟩ := only_ne hA
  have f : fmtB A = true := by
    have e1 : Lib.indexByte A 47 = -1 := ib_no _ _ x2
    rw [fmtB, e1, cnt_no x1, only_wide hA, decide_eq_true (by omega)]; rfl
  have g : filL A L (shS off) save = A := by
    rw [filL, cut_no _ _ (idx_no 47 [] A x2), cut_no _ _ (idx_no 37 [115] A x1), cut_no _ _ (idx_no 37 [122] A x1)]; rfl
  have r := rgt_ok hA a1 (by omega)
  have e : shE off = 0 := by rw [shE, if_pos ⟨o1, o2⟩]
  rw [nmR, nmB, f, g, r, e, let_ok hL k2 hl]; rfl
include hA hL a1 a2 k2 hl o1 o2 in
theorem nm_z : nmR (A ++ [37, 122]) L off save = (A ++ shS off, 0) := by
  obtain ⟨x1, x2⟩ := only_ne hA
  obtain ⟨c, R, f1, _, _, f4, f5⟩ := sh_form o1 o2
  have sl := sh_len off
  have n47 : ∀ x ∈ A ++ [37, 122], x ≠ 47 := fun x hx => by
    rcases List.mem_append.1 hx with h | h
    · exact x2 x h
    · simp at h; rcases h with rfl | rfl <;> decide
  have i115 : Lib.index (A ++ [37, 122]) [37, 115] = -1 := by
    rw [idx_app 37 [115] [37, 122] A x1, if_pos (by decide +kernel)]
  have h122 := idx_hit 37 [122] A [] x1
  rw [List.append_nil] at h122
  have f : fmtB (A ++ [37, 122]) = true := by
    have e1 : Lib.indexByte (A ++ [37, 122]) 47 = -1 := ib_no _ _ n47
    have e2 : (A ++ [37, 122]).count 37 = 1 := by
      rw [List.count_append, cnt_no x1]; decide
    have e3 : Lib.contains (A ++ [37, 122]) [37, 122] = true := by
      rw [Lib.contains, h122]; exact decide_eq_true (by omega)
    have e5 : Lib.contains (A ++ [37, 122]) [37, 115] = false := by
      rw [Lib.contains, i115]; rfl
    have e4 : onlyB (A ++ [37, 122]) [43, 45, 37, 47] = true := by
      rw [only_app, only_wide hA]; decide +kernel
    rw [fmtB, e1, e2, e3, e4, e5, decide_eq_true (by simp; omega)]; rfl
  have g : filL (A ++ [37, 122]) L (shS off) save = A ++ shS off := by
    have e2 := cut_hit 37 [122] A [] x1
    rw [List.append_nil] at e2
    rw [filL, cut_no _ _ (idx_no 47 [] _ n47), cut_no _ _ i115, e2]
    simp
  have so : onlyB (shS off) [43, 45] = true := by
    rw [rgtB, Bool.and_eq_true] at f4; exact f4.2
  have r : rgtB (A ++ shS off) = true := rgt_ok (by rw [only_app, hA, so]; rfl) (by simp; omega) (by simp; omega)
  rw [nmR, nmB, f, g, r, f5, let_ok hL k2 hl]; rfl
end
end Fm
end Go.Proofs.YthefgagmjamdkaaGreatDoor
/-
  The reference's Plain; FormatParts: what stands around a sign stays around it. (Written by gen/gen_fmq.py.)
-/
namespace Go.Proofs.YthefgagmjamdkaaGreatDoor
open Go.RowKit
namespace Fm
open Sol
theorem rL_to (c : UInt8) (b : Bool) (w : World) (h : Hid (isLt c = b)) :
    Calls Tryz.prog 35 #[.int .u8 (c.toNat : Int)] w fun e w' => e = .returned (.bool b) ∧ w = w' := by
  have hb := c.toNat_lt
  have h1 : (c.toNat : Int) < 256 := by omega
  have h0 : 0 ≤ (c.toNat : Int) := by omega
  have HH := h.out
  rw [isLt] at HH
  clear h hb
  generalize (c.toNat : Int) = n at *
  have hc : n < 65 ∧ b = false ∨ (65 ≤ n ∧ n ≤ 90) ∧ b = true ∨ (90 < n ∧ n < 97) ∧ b = false ∨ (97 ≤ n ∧ n ≤ 122) ∧ b = true ∨ 122 < n ∧ b = false := by
    rw [← HH]
    by_cases x1 : n < 65
    · exact Or.inl ⟨x1, decide_eq_false (by omega)⟩
    · by_cases x2 : n ≤ 90
      · exact Or.inr (Or.inl ⟨⟨by omega, x2⟩, decide_eq_true (by omega)⟩)
      · by_cases x3 : n < 97
        · exact Or.inr (Or.inr (Or.inl ⟨⟨by omega, x3⟩, decide_eq_false (by omega)⟩))
        · by_cases x4 : n ≤ 122
          · exact Or.inr (Or.inr (Or.inr (Or.inl ⟨⟨by omega, x4⟩, decide_eq_true (by omega)⟩)))
          · exact Or.inr (Or.inr (Or.inr (Or.inr ⟨by omega, decide_eq_false (by omega)⟩)))
  clear HH
  rcases hc with ⟨x1, rfl⟩ | ⟨⟨x1, x2⟩, rfl⟩ | ⟨⟨x1, x2⟩, rfl⟩ | ⟨⟨x1, x2⟩, rfl⟩ | ⟨x1, rfl⟩
  all_goals try have y1 : ¬ 97 ≤ n := by omega
  all_goals try have y2 : ¬ 65 ≤ n := by omega
  all_goals try have y3 : ¬ n ≤ 90 := by omega
  all_goals try have y4 : ¬ n ≤ 122 := by omega
  all_goals try have y5 : 65 ≤ n := by omega
  all_goals
    go_enter Tryz.func35, Tryz.ntmps35
    go_wp2
    go_ret
    exact ⟨rfl, rfl⟩
theorem rD_to (c : UInt8) (b : Bool) (w : World) (h : Hid (Sol.isDig c = b)) :
    Calls Tryz.prog 36 #[.int .u8 (c.toNat : Int)] w fun e w' => e = .returned (.bool b) ∧ w = w' := by
  have hb := c.toNat_lt
  have h1 : (c.toNat : Int) < 256 := by omega
  have h0 : 0 ≤ (c.toNat : Int) := by omega
  have HH := h.out
  rw [Sol.isDig] at HH
  clear h hb
  generalize (c.toNat : Int) = n at *
  have hc : n < 48 ∧ b = false ∨ (48 ≤ n ∧ n ≤ 57) ∧ b = true ∨ 57 < n ∧ b = false := by
    rw [← HH]
    by_cases x1 : n < 48
    · exact Or.inl ⟨x1, decide_eq_false (by omega)⟩
    · by_cases x2 : n ≤ 57
      · exact Or.inr (Or.inl ⟨⟨by omega, x2⟩, decide_eq_true (by omega)⟩)
      · exact Or.inr (Or.inr ⟨by omega, decide_eq_false (by omega)⟩)
  clear HH
  rcases hc with ⟨x1, rfl⟩ | ⟨⟨x1, x2⟩, rfl⟩ | ⟨x1, rfl⟩
  all_goals try have y2 : ¬ 48 ≤ n := by omega
  all_goals try have y3 : ¬ n ≤ 57 := by omega
  all_goals try have y5 : 48 ≤ n := by omega
  all_goals
    go_enter Tryz.func36, Tryz.ntmps36
    go_wp2
    go_ret
    exact ⟨rfl, rfl⟩
def plB (S : List UInt8) (n : Int) : Bool := decide (1 ≤ S.length ∧ (S.length : Int) ≤ n) && onlyB S [43, 45]
theorem ok_43 (c : UInt8) : okB [43, 45] c = (isLt c || isDig c || decide (c = 43 ∨ c = 45)) := by
  have e : decide (0 ≤ Lib.indexByte [43, 45] c) = decide (c = 43 ∨ c = 45) := by
    by_cases h : c = 43 ∨ c = 45
    · rw [decide_eq_true h, decide_eq_true]
      rcases h with rfl | rfl <;> decide
    · rw [decide_eq_false h, decide_eq_false]
      have : Lib.indexByte [43, 45] c = -1 := ib_no c _ (fun x hx => by
        simp at hx
        rcases hx with rfl | rfl
        · exact fun e => h (Or.inl e.symm)
        · exact fun e => h (Or.inr e.symm))
      omega
  rw [okB, e]
theorem u8_ne {c : UInt8} {n : Nat} (hn : n < 256) (h : c ≠ UInt8.ofNat n) : ((c.toNat : Int) != (n : Int)) = true :=
  bne_iff_ne.2 (fun e => h (UInt8.toNat_inj.1 (by
    have : c.toNat = n := by omega
    rw [this, UInt8.toNat_ofNat_of_lt' hn])))
/-- What FormatParts asks of its texts. -/
def pfB (A B L : List UInt8) : Bool := plB A 10 && (plB B 10 && (plB L 6 && !decide (L = [45])))
theorem ret_bb {b b' : Bool} (k : b = b') : Ending.returned (.bool b) = .returned (.bool b') := by rw [k]
end Fm
end Go.Proofs.YthefgagmjamdkaaGreatDoor
/-
  The reference's in, Letter, Short. (Written by gen/gen_fmx1.py.)
-/
namespace Go.Proofs.YthefgagmjamdkaaGreatDoor
open Go.RowKit
namespace Fm
open Sol
theorem rtx_to (n d : Int) (T : List UInt8) (w : World) (n1 : -9223372036854775808 ≤ n) (n2 : n ≤ 9223372036854775807) (d1 : -9223372036854775808 ≤ d) (d2 : d ≤ 9223372036854775807) (h : Hid (textL n d = T)) :
    Calls Tryz.prog 45 #[.int .i64 n, .int .i64 d] w fun e w' => e = .returned (.string ⟨T.toArray⟩) ∧ Below w.heap.size w w' :=
  (RNum.rtext_any n d w n1 n2 d1 d2).mono fun _ _ ⟨he, hw⟩ => ⟨by rw [he, h.out], hw⟩
theorem rin9_to (n lo hi : Int) (b : Bool) (w : World) (h : Hid (decide (lo ≤ n ∧ n ≤ hi) = b)) :
    Calls Tryz.prog 25 #[.int .i64 n, .int .i64 lo, .int .i64 hi] w fun e w' => e = .returned (.bool b) ∧ w = w' := by
  have HH := h.out
  clear h
  have hz : (¬ lo ≤ n ∧ b = false) ∨ (lo ≤ n ∧ ¬ n ≤ hi ∧ b = false) ∨ (lo ≤ n ∧ n ≤ hi ∧ b = true) := by
    rw [← HH]
    by_cases x : lo ≤ n
    · by_cases y : n ≤ hi
      · exact Or.inr (Or.inr ⟨x, y, decide_eq_true ⟨x, y⟩⟩)
      · exact Or.inr (Or.inl ⟨x, y, decide_eq_false (fun h => y h.2)⟩)
    · exact Or.inl ⟨x, decide_eq_false (fun h => x h.1)⟩
  clear HH
  rcases hz with ⟨x, rfl⟩ | ⟨x, y, rfl⟩ | ⟨x, y, rfl⟩
  all_goals
    go_enter Tryz.func25, Tryz.ntmps25
    go_wp2
    go_ret
    first | exact ⟨rfl, rfl⟩ | exact ⟨ret_b (by simp [x]), rfl⟩ | exact ⟨ret_b (by simp [x, y]), rfl⟩ | exact ⟨ret_b (by simp; omega), rfl⟩
end Fm
end Go.Proofs.YthefgagmjamdkaaGreatDoor
