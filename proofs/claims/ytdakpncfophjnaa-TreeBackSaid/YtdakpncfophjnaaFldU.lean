/-
  The lines of a text; fold.Unfold and the reference's Unfold: both say so.
-/
import Derived.Test.YtdakpncfophjnaaFldC
namespace Go.Proofs.Ytdakpncfophjnaa
open Go.RowKit
namespace Fld
open Opn (sv TxtV)
open Rws (RowB RowS)
def fin (P : List UInt8) : List (List UInt8) := if P.length = 0 then [] else [P]
/-- The lines of what follows; the first one has begun. -/
def unfG : List UInt8 → List UInt8 → List (List UInt8)
  | P, [] => fin P
  | P, [c] => if c = 13 then fin P else if c = 10 then [P] else [P ++ [c]]
  | P, c :: d :: T => if c = 13 then unfG P (d :: T) else if c = 10 then (if d = 32 ∨ d = 9 then unfG P T else P :: unfG [] (d :: T)) else unfG (P ++ [c]) (d :: T)
def unfS (S : List UInt8) : List (List UInt8) := unfG [] S
theorem unf_nil (P : List UInt8) : unfG P [] = fin P := by rw [unfG]
theorem unf_cr (P T : List UInt8) : unfG P (13 :: T) = unfG P T := by
  cases T with
  | nil => simp [unfG]
  | cons d T => rw [unfG, if_pos rfl]
theorem fin_ne (P : List UInt8) (c : UInt8) : fin (P ++ [c]) = [P ++ [c]] := by unfold fin; rw [if_neg (by simp)]
theorem unf_any (P T : List UInt8) {c : UInt8} (h1 : c ≠ 13) (h2 : c ≠ 10) : unfG P (c :: T) = unfG (P ++ [c]) T := by
  cases T with
  | nil => rw [unf_nil, fin_ne]; simp [unfG, h1, h2]
  | cons d T => rw [unfG, if_neg h1, if_neg h2]
def blank (o : Option UInt8) : Bool := o == some 32 || o == some 9
theorem unf_lf (P T : List UInt8) (h : blank T.head? = false) : unfG P (10 :: T) = P :: unfG [] T := by
  cases T with
  | nil => simp [unfG, fin]
  | cons d T =>
    have : ¬ (d = 32 ∨ d = 9) := fun e => by
      rcases e with rfl | rfl <;> cases h
    rw [unfG, if_neg (by decide), if_pos rfl, if_neg this]
theorem unf_fold (P T : List UInt8) {d : UInt8} (h : d = 32 ∨ d = 9) : unfG P (10 :: d :: T) = unfG P T := by
  rw [unfG, if_neg (by decide), if_pos rfl, if_pos h]
/-- Each 0D has a 0A behind it. -/
def okCR : List UInt8 → Bool
  | [] => true
  | c :: T => (c != 13 || T.head? == some 10) && okCR T
theorem ok_cons (c : UInt8) (T : List UInt8) : okCR (c :: T) = ((c != 13 || T.head? == some 10) && okCR T) := rfl
theorem head_drop {S : List UInt8} {k : Nat} (h : k < S.length) : (S.drop k).head? = some (S[k]'h) := by rw [List.drop_eq_getElem_cons h]; rfl
set_option maxHeartbeats 6400000 in
set_option maxRecDepth 100000 in
theorem unf_no (s : ByteArray) (S : List UInt8) (w : World) (hs : s.size ≤ 600000) (hS : Hid (s.data.toList = S)) (h : Hid (okCR S = false)) :
    Calls Try.prog 56 #[.string s] w fun e w' => e = .returned (.tuple #[.slice none 0 0, .int .i64 18]) ∧ Below w.heap.size w w' := by
  have hl : S.length = s.size := by rw [← hS.out]; simp
  have HL := Lib.hid hl
  clear hl
  go_enter Try.func56, Try.ntmps56
  go_wp2
  go_loopw [4] (fun iv wr => ∃ k : Nat, k ≤ s.size ∧ iv = .int .i64 k ∧ Hid (okCR (S.drop k) = false) ∧ Below w.heap.size w wr) (fun iv _ => s.size - (intOf iv).toNat)
  case atStart => exact ⟨0, Nat.zero_le _, rfl, h, Below.refl _ _⟩
  case round =>
    obtain ⟨k, hk, rfl, hok, hb⟩ := hrel
    have hks : k < s.size := by
      by_cases e : k < s.size
      · exact e
      · have := hok.out
        rw [List.drop_eq_nil_of_le (by rw [HL.out]; omega)] at this
        cases this
    have hkS : k < S.length := by rw [HL.out]; exact hks
    have hok2 := hok.out
    rw [List.drop_eq_getElem_cons hkS, ok_cons] at hok2
    have hx := at_get hS.out k hks
    obtain ⟨c, hc⟩ : ∃ c, s[k] = c := ⟨_, rfl⟩
    have hcS : S[k] = c := by rw [← hc, hx, List.getD_eq_getElem?_getD, List.getElem?_eq_getElem hkS]; rfl
    rw [hcS] at hok2
    have cb := c.toNat_lt
    have hcs : (((c.toNat : Int) == 13) = false ∧ okCR (S.drop (k + 1)) = false) ∨ (c = 13 ∧ ((k + 1 = s.size) ∨ ∃ (h2 : k + 1 < s.size) (d : UInt8), s[k + 1] = d ∧ ((d = 10 ∧ okCR (S.drop (k + 1)) = false) ∨ ((d.toNat : Int) != 10) = true))) := by
      by_cases h13 : c = 13
      · refine Or.inr ⟨h13, ?_⟩
        by_cases h2 : k + 1 < s.size
        · refine Or.inr ⟨h2, s[k + 1], rfl, ?_⟩
          have hk2 : k + 1 < S.length := by rw [HL.out]; exact h2
          rw [head_drop hk2] at hok2
          have hd := at_get hS.out (k + 1) h2
          rw [List.getD_eq_getElem?_getD, List.getElem?_eq_getElem hk2] at hd
          simp only [Option.getD_some] at hd
          rw [← hd] at hok2
          by_cases h10 : s[k + 1] = 10
          · refine Or.inl ⟨h10, ?_⟩
            rw [h10] at hok2
            simpa using hok2
          · exact Or.inr (by have := Esc.u8_ne (n := 10) (by decide) h10; simpa [bne] using this)
        · exact Or.inl (by omega)
      · refine Or.inl ⟨Esc.u8_ne (n := 13) (by decide) h13, ?_⟩
        have : (c != 13) = true := by simpa [bne] using h13
        rw [this] at hok2
        simpa using hok2
    clear hok2 hx hcS hkS hok
    rcases hcs with ⟨h13, ho⟩ | ⟨rfl, hend | ⟨h2, d, hd, ⟨rfl, ho⟩ | hd10⟩⟩
    · have HO := Lib.hid ho
      clear ho
      go_wp2
      go_roundw
      case rel => exact ⟨k + 1, by omega, by go_num, HO, hb⟩
      case measure => simp [intOf]; omega
    · have he : (((k : Int) + 1) == (s.size : Int)) = true := beq_iff_eq.2 (by omega)
      go_wp2
      go_ret2
      exact ⟨rfl, hb⟩
    · have HO := Lib.hid ho
      have he : (((k : Int) + 1) == (s.size : Int)) = false := beq_eq_false_iff_ne.2 (by omega)
      clear ho
      go_wp2
      go_roundw
      case rel => exact ⟨k + 1, by omega, by go_num, HO, hb⟩
      case measure => simp [intOf]; omega
    · have he : (((k : Int) + 1) == (s.size : Int)) = false := beq_eq_false_iff_ne.2 (by omega)
      have db := d.toNat_lt
      go_wp2
      go_ret2
      exact ⟨rfl, hb⟩
/-- What stands at a place of a text whose ends are right. -/
theorem here (s : ByteArray) (S : List UInt8) (k : Nat) (hS : s.data.toList = S) (hks : k < s.size) (hok : okCR (S.drop k) = true) :
    ∃ c, s[k] = c ∧ S.drop k = c :: S.drop (k + 1) ∧ okCR (S.drop (k + 1)) = true ∧ (c = 13 → ∃ h2 : k + 1 < s.size, s[k + 1] = 10 ∧ S.drop (k + 1) = 10 :: S.drop (k + 2)) ∧
      (k + 1 = s.size ∧ S.drop (k + 1) = [] ∨ ∃ (h2 : k + 1 < s.size) (d : UInt8), s[k + 1] = d ∧ S.drop (k + 1) = d :: S.drop (k + 2)) := by
  have hl : S.length = s.size := by rw [← hS]; simp
  have hkS : k < S.length := by omega
  have g : ∀ j (h : j < s.size), s[j] = S[j]'(by omega) := fun j h => by
    have hx := at_get hS j h
    rw [hx, List.getD_eq_getElem?_getD, List.getElem?_eq_getElem (by omega)]
    rfl
  rw [List.drop_eq_getElem_cons hkS, ok_cons, Bool.and_eq_true] at hok
  refine ⟨s[k], rfl, by rw [g k hks, ← List.drop_eq_getElem_cons hkS], hok.2, fun h13 => ?_, ?_⟩
  · have h1 := hok.1
    rw [← g k hks, h13] at h1
    by_cases h2 : k + 1 < s.size
    · have h2S : k + 1 < S.length := by omega
      rw [head_drop h2S] at h1
      have e : S[k + 1] = 10 := by simpa using h1
      exact ⟨h2, by rw [g _ h2, e], by rw [List.drop_eq_getElem_cons h2S, e]⟩
    · rw [List.drop_eq_nil_of_le (by omega)] at h1
      simp at h1
  · by_cases h2 : k + 1 < s.size
    · exact Or.inr ⟨h2, s[k + 1], rfl, by rw [g _ h2, ← List.drop_eq_getElem_cons (by omega)]⟩
    · exact Or.inl ⟨by omega, List.drop_eq_nil_of_le (by omega)⟩
set_option maxHeartbeats 6400000 in
set_option maxRecDepth 100000 in
theorem unf_to (s : ByteArray) (S : List UInt8) (w : World) (hs : s.size ≤ 600000) (hS : Hid (s.data.toList = S)) (h : Hid (okCR S = true)) :
    Calls Try.prog 56 #[.string s] w fun e w' => ∃ v, e = .returned (.tuple #[v, .int .i64 0]) ∧ TxtV w' v (unfS S) ∧ Below w.heap.size w w' := by
  have hl : S.length = s.size := by rw [← hS.out]; simp
  have HL := Lib.hid hl
  clear hl
  go_enter Try.func56, Try.ntmps56
  go_wp2
  go_loopw [4] (fun iv wr => ∃ k : Nat, k ≤ s.size ∧ iv = .int .i64 k ∧ Hid (okCR (S.drop k) = true) ∧ Below w.heap.size w wr) (fun iv _ => s.size - (intOf iv).toNat)
  case atStart => exact ⟨0, Nat.zero_le _, rfl, h, Below.refl _ _⟩
  case round =>
    obtain ⟨k, hk, rfl, hok, hb⟩ := hrel
    by_cases hks : k < s.size
    · obtain ⟨c, hc, _, hok1, h13, _⟩ := here s S k hS.out hks hok.out
      have HOK := Lib.hid hok1
      have cb := c.toNat_lt
      have hcs : (((c.toNat : Int) == 13) = false) ∨ (c = 13 ∧ ∃ h2 : k + 1 < s.size, s[k + 1] = 10) := by
        by_cases e : c = 13
        · obtain ⟨h2, h3, _⟩ := h13 e
          exact Or.inr ⟨e, h2, h3⟩
        · exact Or.inl (Esc.u8_ne (n := 13) (by decide) e)
      clear hok1 h13 hok
      rcases hcs with n13 | ⟨rfl, h2, hd⟩
      · go_wp2
        go_roundw
        case rel => exact ⟨k + 1, by omega, by go_num, HOK, hb⟩
        case measure => simp [intOf]; omega
      · have he : (((k : Int) + 1) == (s.size : Int)) = false := beq_eq_false_iff_ne.2 (by omega)
        go_wp2
        go_roundw
        case rel => exact ⟨k + 1, by omega, by go_num, HOK, hb⟩
        case measure => simp [intOf]; omega
    · clear hok
      go_wp2
      obtain ⟨wo, rfl⟩ : ∃ wo : World, wo = wr := ⟨_, rfl⟩
      have hwB := hb.size
      go_loopw [5, 6, 7] (fun lv bv iv wr => ∃ (k : Nat) (L : List (List UInt8)) (P : List UInt8), k ≤ s.size ∧ iv = .int .i64 k ∧ L.length ≤ k ∧ P.length ≤ k ∧ Hid (okCR (S.drop k) = true) ∧ Hid (unfS S = L ++ unfG P (S.drop k)) ∧ RowS w.heap.size wr lv L ∧ RowB w.heap.size wr bv P ∧ Below w.heap.size w wr) (fun _ _ iv _ => s.size - (intOf iv).toNat)
      case atStart => exact ⟨0, [], [], Nat.zero_le _, rfl, Nat.le_refl _, Nat.le_refl _, h, Lib.hid rfl, RowS.nil _ _, RowB.nil _ _, hb⟩
      case round =>
        obtain ⟨k, L, P, hk, rfl, hLk, hPk, hok, hu, hl, hp, hb⟩ := hrel
        by_cases hks : k < s.size
        · obtain ⟨c, hc, hd0, hok1, h13, hnx⟩ := here s S k hS.out hks hok.out
          have HOK := Lib.hid hok1
          have cb := c.toNat_lt
          have hu1 := hu.out
          rw [hd0] at hu1
          have hcs : (c = 13 ∧ unfS S = L ++ unfG P (S.drop (k + 1))) ∨ (((c.toNat : Int) == 13) = false ∧ ((((c.toNat : Int) != 10) = true ∧ unfS S = L ++ unfG (P ++ [c]) (S.drop (k + 1))) ∨ (c = 10 ∧
              ((∃ h2 : k + 1 < s.size, (s[k + 1] = 32 ∨ s[k + 1] = 9) ∧ unfS S = L ++ unfG P (S.drop (k + 2)) ∧ okCR (S.drop (k + 2)) = true) ∨ (unfS S = (L ++ [P]) ++ unfG [] (S.drop (k + 1)) ∧ (k + 1 = s.size ∨ ∃ (h2 : k + 1 < s.size) (d : UInt8), s[k + 1] = d ∧ ((d.toNat : Int) == 32) = false ∧ ((d.toNat : Int) == 9) = false)))))) := by
            by_cases e13 : c = 13
            · exact Or.inl ⟨e13, by rw [hu1, e13, unf_cr]⟩
            · refine Or.inr ⟨Esc.u8_ne (n := 13) (by decide) e13, ?_⟩
              by_cases e10 : c = 10
              · refine Or.inr ⟨e10, ?_⟩
                rw [e10] at hu1
                rcases hnx with ⟨h1, h2⟩ | ⟨h2, d, hd, hdd⟩
                · exact Or.inr ⟨by rw [hu1, h2, unf_lf _ _ rfl]; simp, Or.inl h1⟩
                · by_cases hbl : d = 32 ∨ d = 9
                  · refine Or.inl ⟨h2, by rw [hd]; exact hbl, by rw [hu1, hdd, unf_fold _ _ hbl], ?_⟩
                    rw [hdd, ok_cons, Bool.and_eq_true] at hok1
                    exact hok1.2
                  · refine Or.inr ⟨?_, Or.inr ⟨h2, d, hd, Esc.u8_ne (n := 32) (by decide) (fun e => hbl (Or.inl e)), Esc.u8_ne (n := 9) (by decide) (fun e => hbl (Or.inr e))⟩⟩
                    rw [hu1, unf_lf _ _ (by
                      rw [hdd]
                      unfold blank
                      have a : (some d == some (32 : UInt8)) = false := by simpa using fun e => hbl (Or.inl e)
                      have b : (some d == some (9 : UInt8)) = false := by simpa using fun e => hbl (Or.inr e)
                      rw [List.head?_cons, a, b]; rfl)]
                    simp
              · exact Or.inl ⟨by have := Esc.u8_ne (n := 10) (by decide) e10; simpa [bne] using this, by rw [hu1, unf_any _ _ e13 e10]⟩
          clear hu1 hu hok1 h13 hnx hd0 hok
          rcases hcs with ⟨rfl, ho⟩ | ⟨n13, ⟨n10, ho⟩ | ⟨rfl, ⟨h2, hdd, ho, hok2⟩ | ⟨ho, hend⟩⟩⟩
          · have HO := Lib.hid ho
            clear ho
            go_wp2
            go_roundw
            case rel => exact ⟨k + 1, L, P, by omega, by go_num, by omega, by omega, HOK, HO, hl, hp, hb⟩
            case measure => simp [intOf]; omega
          · have HO := Lib.hid ho
            clear ho
            go_wp2_with (at_builtin; refine Rws.appB rfl _ _ rfl w.heap.size _ P rfl hp c rfl (by omega) hb.size ?_)
            intro w5 gg gcap r5 g5
            have hl5 : RowS w.heap.size w5 _ L := g5.other _ _ _ _ _ _ (by decide) hl
            have hb5 := g5.below _ _ (Nat.le_refl _) hb hb.size
            have HPL : Hid ((P ++ [c]).length ≤ k + 1) := Lib.hid (by rw [List.length_append]; simp; omega)
            clear g5 hl hp hb
            go_wp2
            go_roundw
            case rel => exact ⟨k + 1, L, P ++ [c], by omega, by go_num, by omega, HPL.out, HOK, HO, hl5, r5, hb5⟩
            case measure => simp [intOf]; omega
          · have HO := Lib.hid ho
            have HOK2 := Lib.hid hok2
            have hsx : (k : Int) + 1 < (s.size : Int) := by omega
            clear ho hok2 HOK
            rcases hdd with hd | hd
            all_goals
              go_wp2
              go_roundw
              case rel => exact ⟨k + 2, L, P, by omega, by first | go_num | (apply congrArg; omega), by omega, by omega, HOK2, HO, hl, hp, hb⟩
              case measure => simp [intOf]; omega
          · have HO := Lib.hid ho
            clear ho
            have HLL : Hid ((L ++ [P]).length ≤ k + 1) := Lib.hid (by rw [List.length_append]; simp; omega)
            have hcv := hp.conv
            rcases hp.cases with ⟨rfl, rfl⟩ | ⟨g, cap, rfl⟩
            all_goals
              rcases hend with hend | ⟨h2, d, hd, d1, d2⟩
              all_goals
                try have db := d.toNat_lt
                go_wp2_with (at_builtin; refine Rws.appS rfl _ _ rfl w.heap.size _ L rfl hl _ _ rfl rfl (by omega) hb.size ?_)
                intro w5 gg gcap r5 g5
                have hp5 : RowB w.heap.size w5 _ _ := g5.other _ _ _ _ _ _ (by decide) hp
                have hb5 := g5.below _ _ (Nat.le_refl _) hb hb.size
                try have hp6 := hp5.cut
                clear g5 hl hp hb hcv
                go_wp2
                go_roundw
                case rel => first | exact ⟨k + 1, L ++ [_], [], by omega, by go_num, HLL.out, Nat.zero_le _, HOK, HO, r5, hp6, hb5⟩ | exact ⟨k + 1, L ++ [_], [], by omega, by go_num, HLL.out, Nat.zero_le _, HOK, HO, r5, hp5, hb5⟩
                case measure => simp [intOf]; omega
        · have hu1 : unfS S = L ++ fin P := by rw [hu.out, List.drop_eq_nil_of_le (by rw [HL.out]; omega), unf_nil]
          clear hu hok
          by_cases hP : P.length = 0
          · have HU : Hid (unfS S = L) := Lib.hid (by rw [hu1, fin, if_pos hP]; simp)
            have hT := hl.txt
            rw [← HU.out] at hT
            have e := List.length_eq_zero_iff.1 hP
            subst e
            rcases hp.cases with ⟨rfl, _⟩ | ⟨g, cap, rfl⟩
            all_goals
              clear hu1 hl hp hP
              go_wp2
              go_ret2
              exact ⟨_, rfl, hT, hb⟩
          · have HU : Hid (unfS S = L ++ [P]) := Lib.hid (by rw [hu1, fin, if_neg hP])
            have hcv := hp.conv
            rcases hp.cases with ⟨rfl, rfl⟩ | ⟨g, cap, rfl⟩
            · exact absurd rfl hP
            · have hP0 : 0 < P.length := by omega
              clear hu1 hP
              go_wp2_with (at_builtin; refine Rws.appS rfl _ _ rfl w.heap.size _ L rfl hl _ _ rfl rfl (by omega) hb.size ?_)
              intro w5 gg gcap r5 g5
              have hb5 := g5.below _ _ (Nat.le_refl _) hb hb.size
              have hT := r5.txt
              rw [← HU.out] at hT
              clear g5 hl hp hb hcv r5
              go_wp2
              go_ret2
              exact ⟨_, rfl, hT, hb5⟩
end Fld
end Go.Proofs.Ytdakpncfophjnaa
