/-
  Contracts of package rule: the parts of a line's fields (parseFrom, parseTo, parseSave).
-/
import Derived.Test.YtpcnpacllkiieaaGreatDoorRulA
namespace Go.Proofs.YtpcnpacllkiieaaGreatDoor
open Go.RowKit
namespace Rul
open Sol Clk Cel
set_option maxHeartbeats 3200000 in
set_option maxRecDepth 100000 in
theorem pfrom_to (s : ByteArray) (S : List UInt8) (r c : Int) (w : World) (hs : s.size ≤ 1000) (hS : Hid (s.data.toList = S)) (h : Hid (fromP S = (r, c))) :
    Calls Tryz.prog 85 #[.string s] w fun e w' => e = .returned (.tuple #[.int .i64 r, .int .i64 c]) ∧ Below w.heap.size w w' := by
  have hm : s.size ≤ maxLen := by unfold maxLen; omega
  have HH := h.out
  clear h
  rw [fromP] at HH
  obtain ⟨pv, hpv⟩ : ∃ x, parseV S = x := ⟨_, rfl⟩
  obtain ⟨wv, wc, hw⟩ : ∃ a b, Wrd.wdP 4 S = (a, b) := ⟨_, _, rfl⟩
  have HPV := Lib.hid hpv
  have HW := Lib.hid hw
  rw [hpv, hw] at HH
  clear hpv hw
  by_cases hpb : parseB S = true
  · rw [if_pos hpb] at HH
    have HPB := Lib.hid hpb
    obtain ⟨rfl, rfl⟩ := Prod.mk.inj HH
    clear hpb HH
    go_enter Tryz.func85, Tryz.ntmps85
    go_wp2_with fail
    refine (Onf.parse_at s S pv true _ hm hS HPV HPB).mono ?_
    rintro e w1 ⟨rfl, rfl⟩
    go_wp2
    go_ret2
    exact ⟨rfl, Below.refl _ _⟩
  · rw [if_neg hpb] at HH
    have HPB : Hid (parseB S = false) := Lib.hid (by simpa using hpb)
    have hcs : (wc = 0 ∧ wv = 1 ∧ r = 1 ∧ c = 0) ∨ (wc = 0 ∧ wv = 2 ∧ r = 9999 ∧ c = 0) ∨ (wc = 0 ∧ (wv == 1) = false ∧ (wv == 2) = false ∧ r = 0 ∧ c = 5) ∨ ((wc == 0) = false ∧ r = 0 ∧ c = 5) := by
      by_cases e0 : wc = 0
      · subst e0
        by_cases e1 : wv = 1
        · subst e1
          rw [if_pos rfl] at HH
          obtain ⟨h1, h2⟩ := Prod.mk.inj HH
          exact Or.inl ⟨rfl, rfl, h1.symm, h2.symm⟩
        · rw [if_neg (fun h => e1 (Prod.mk.inj h).1)] at HH
          by_cases e2 : wv = 2
          · subst e2
            rw [if_pos rfl] at HH
            obtain ⟨h1, h2⟩ := Prod.mk.inj HH
            exact Or.inr (Or.inl ⟨rfl, rfl, h1.symm, h2.symm⟩)
          · rw [if_neg (fun h => e2 (Prod.mk.inj h).1)] at HH
            obtain ⟨h1, h2⟩ := Prod.mk.inj HH
            exact Or.inr (Or.inr (Or.inl ⟨rfl, beq_eq_false_iff_ne.2 e1, beq_eq_false_iff_ne.2 e2, h1.symm, h2.symm⟩))
      · rw [if_neg (fun h => e0 (Prod.mk.inj h).2), if_neg (fun h => e0 (Prod.mk.inj h).2)] at HH
        obtain ⟨h1, h2⟩ := Prod.mk.inj HH
        exact Or.inr (Or.inr (Or.inr ⟨beq_eq_false_iff_ne.2 e0, h1.symm, h2.symm⟩))
    clear HH hpb
    rcases hcs with ⟨rfl, rfl, rfl, rfl⟩ | ⟨rfl, rfl, rfl, rfl⟩ | ⟨rfl, e1, e2, rfl, rfl⟩ | ⟨e0, rfl, rfl⟩
    · go_enter Tryz.func85, Tryz.ntmps85
      go_wp2_with fail
      refine (Onf.parse_at s S pv false _ hm hS HPV HPB).mono ?_
      rintro e w1 ⟨rfl, rfl⟩
      go_wp2_with fail
      refine (Wrd.yea_to s S 1 0 _ hs hS HW).mono ?_
      rintro e w1 ⟨rfl, hb⟩
      go_wp2
      go_ret2
      exact ⟨rfl, hb⟩
    · go_enter Tryz.func85, Tryz.ntmps85
      go_wp2_with fail
      refine (Onf.parse_at s S pv false _ hm hS HPV HPB).mono ?_
      rintro e w1 ⟨rfl, rfl⟩
      go_wp2_with fail
      refine (Wrd.yea_to s S 2 0 _ hs hS HW).mono ?_
      rintro e w1 ⟨rfl, hb⟩
      go_wp2
      go_ret2
      exact ⟨rfl, hb⟩
    · go_enter Tryz.func85, Tryz.ntmps85
      go_wp2_with fail
      refine (Onf.parse_at s S pv false _ hm hS HPV HPB).mono ?_
      rintro e w1 ⟨rfl, rfl⟩
      go_wp2_with fail
      refine (Wrd.yea_to s S wv 0 _ hs hS HW).mono ?_
      rintro e w1 ⟨rfl, hb⟩
      go_wp2
      go_ret2
      exact ⟨rfl, hb⟩
    · go_enter Tryz.func85, Tryz.ntmps85
      go_wp2_with fail
      refine (Onf.parse_at s S pv false _ hm hS HPV HPB).mono ?_
      rintro e w1 ⟨rfl, rfl⟩
      go_wp2_with fail
      refine (Wrd.yea_to s S wv wc _ hs hS HW).mono ?_
      rintro e w1 ⟨rfl, hb⟩
      go_wp2
      go_ret2
      exact ⟨rfl, hb⟩
set_option maxHeartbeats 3200000 in
set_option maxRecDepth 100000 in
theorem pto_to (s : ByteArray) (S : List UInt8) (f r c : Int) (w : World) (hs : s.size ≤ 1000) (hS : Hid (s.data.toList = S)) (h : Hid (toP S f = (r, c))) :
    Calls Tryz.prog 86 #[.string s, .int .i64 f] w fun e w' => e = .returned (.tuple #[.int .i64 r, .int .i64 c]) ∧ Below w.heap.size w w' := by
  have HH := h.out
  clear h
  rw [toP] at HH
  obtain ⟨wv, wc, hw⟩ : ∃ a b, Wrd.wdP 4 S = (a, b) := ⟨_, _, rfl⟩
  have HW := Lib.hid hw
  rw [hw] at HH
  clear hw
  have hcs : (wc = 0 ∧ wv = 3 ∧ r = f ∧ c = 0) ∨ (wc = 0 ∧ (wv == 3) = false ∧ Hid (fromP S = (r, c))) ∨ ((wc == 0) = false ∧ Hid (fromP S = (r, c))) := by
    by_cases e0 : wc = 0
    · subst e0
      by_cases e1 : wv = 3
      · subst e1
        rw [if_pos rfl] at HH
        obtain ⟨h1, h2⟩ := Prod.mk.inj HH
        exact Or.inl ⟨rfl, rfl, h1.symm, h2.symm⟩
      · rw [if_neg (fun h => e1 (Prod.mk.inj h).1)] at HH
        exact Or.inr (Or.inl ⟨rfl, beq_eq_false_iff_ne.2 e1, Lib.hid HH⟩)
    · rw [if_neg (fun h => e0 (Prod.mk.inj h).2)] at HH
      exact Or.inr (Or.inr ⟨beq_eq_false_iff_ne.2 e0, Lib.hid HH⟩)
  clear HH
  rcases hcs with ⟨rfl, rfl, rfl, rfl⟩ | ⟨rfl, e1, HF⟩ | ⟨e0, HF⟩
  · go_enter Tryz.func86, Tryz.ntmps86
    go_wp2_with fail
    refine (Wrd.yea_to s S 3 0 _ hs hS HW).mono ?_
    rintro e w1 ⟨rfl, hb⟩
    go_wp2
    go_ret2
    exact ⟨rfl, hb⟩
  · go_enter Tryz.func86, Tryz.ntmps86
    go_wp2_with fail
    refine (Wrd.yea_to s S wv 0 _ hs hS HW).mono ?_
    rintro e w1 ⟨rfl, hb⟩
    go_wp2_with fail
    refine (pfrom_to s S r c _ hs hS HF).mono ?_
    rintro e w2 ⟨rfl, hb2⟩
    go_wp2
    go_ret2
    exact ⟨rfl, bstep hb hb2⟩
  · go_enter Tryz.func86, Tryz.ntmps86
    go_wp2_with fail
    refine (Wrd.yea_to s S wv wc _ hs hS HW).mono ?_
    rintro e w1 ⟨rfl, hb⟩
    go_wp2_with fail
    refine (pfrom_to s S r c _ hs hS HF).mono ?_
    rintro e w2 ⟨rfl, hb2⟩
    go_wp2
    go_ret2
    exact ⟨rfl, bstep hb hb2⟩
theorem hsuf_to (s p : ByteArray) (S P : List UInt8) (b : Bool) (w : World) (hs : s.size ≤ 1000000) (hS : Hid (s.data.toList = S)) (hP : Hid (p.data.toList = P)) (h : Hid (Lib.hasSuffix S P = b)) :
    Calls Tryz.prog 128 #[.string s, .string p] w fun e w' => e = .returned (.bool b) ∧ w = w' :=
  (Tryz.strings_HasSuffix s p w (by omega)).mono fun _ _ ⟨he, hw⟩ => ⟨by rw [he, hS.out, hP.out, h.out], hw.symm⟩
theorem suf_snoc (l : List UInt8) (x y : UInt8) : Lib.hasSuffix (l ++ [x]) [y] = (y == x) := by simp [Lib.hasSuffix, List.isSuffixOf, List.isPrefixOf]
set_option maxHeartbeats 3200000 in
set_option maxRecDepth 100000 in
theorem psave_to (s : ByteArray) (S : List UInt8) (r c : Int) (w : World) (hs : s.size ≤ 1000) (hS : Hid (s.data.toList = S)) (h : Hid (clV (svL S) = r ∧ clE (svL S) = c)) :
    Calls Tryz.prog 90 #[.string s] w fun e w' => e = .returned (.tuple #[.int .i64 r, .int .i64 c]) ∧ Below w.heap.size w w' := by
  have hm : s.size ≤ maxLen := by unfold maxLen; omega
  have hs2 : s.size ≤ 1000000 := by omega
  have hsl : s.size = S.length := by rw [← hS.out]; simp
  have key : (Hid (Lib.hasSuffix S [115] = false) ∧ Hid (Lib.hasSuffix S [100] = false) ∧ Hid (clV S = r ∧ clE S = c)) ∨ (∃ (k : Nat) (l : List UInt8), s.size = k + 1 ∧ Hid ((s.extract 0 k).data.toList = l) ∧ Hid (clV l = r ∧ clE l = c) ∧ (Hid (Lib.hasSuffix S [115] = true) ∨ (Hid (Lib.hasSuffix S [115] = false) ∧ Hid (Lib.hasSuffix S [100] = true)))) := by
    by_cases h0 : s.size = 0
    · have : S = [] := List.length_eq_zero_iff.1 (by omega)
      subst this
      exact Or.inl ⟨Lib.hid (by decide), Lib.hid (by decide), h⟩
    · obtain ⟨k, hk⟩ : ∃ k, s.size = k + 1 := ⟨s.size - 1, by omega⟩
      obtain ⟨hlt, l, e1, e2⟩ := Atf.last_str hS.out hk
      have HH := h.out
      rw [e1, sv_snoc] at HH
      by_cases x1 : s[k] = 115
      · rw [if_pos (Or.inl x1)] at HH
        exact Or.inr ⟨k, l, hk, Lib.hid (by rw [e2]), Lib.hid HH, Or.inl (Lib.hid (by rw [e1, suf_snoc, x1]; rfl))⟩
      · have f1 : Lib.hasSuffix S [115] = false := by rw [e1, suf_snoc]; exact beq_eq_false_iff_ne.2 (fun e => x1 e.symm)
        by_cases x2 : s[k] = 100
        · rw [if_pos (Or.inr x2)] at HH
          exact Or.inr ⟨k, l, hk, Lib.hid (by rw [e2]), Lib.hid HH, Or.inr ⟨Lib.hid f1, Lib.hid (by rw [e1, suf_snoc, x2]; rfl)⟩⟩
        · rw [if_neg (fun e => e.elim x1 x2), ← e1] at HH
          exact Or.inl ⟨Lib.hid f1, Lib.hid (by rw [e1, suf_snoc]; exact beq_eq_false_iff_ne.2 (fun e => x2 e.symm)), Lib.hid HH⟩
  clear h hsl
  rcases key with ⟨f1, f2, HC⟩ | ⟨k, l, hk, hl, HC, f1 | ⟨f1, f2⟩⟩
  · go_enter Tryz.func90, Tryz.ntmps90
    go_wp2_with fail
    refine (hsuf_to s ⟨#[115]⟩ S [115] false _ hs2 hS (Lib.hid rfl) f1).mono ?_
    rintro e w1 ⟨rfl, rfl⟩
    go_wp2_with fail
    refine (hsuf_to s ⟨#[100]⟩ S [100] false _ hs2 hS (Lib.hid rfl) f2).mono ?_
    rintro e w1 ⟨rfl, rfl⟩
    go_wp2_with fail
    refine (cparse_to s S r c _ hm hS HC).mono ?_
    rintro e w1 ⟨rfl, q, rfl⟩
    go_wp2
    go_ret2
    exact ⟨rfl, by repeat (first | exact Below.refl _ _ | refine below_drewN ?_ _)⟩
  · have e1 : (s.size : Int) - 1 = (k : Int) := by omega
    have k0 : k ≤ 1000 := by omega
    have k1 : k ≤ s.size := by omega
    have hmk : (s.extract 0 k).size ≤ maxLen := by simp; omega
    have HMK := Lib.hid hmk
    have HK := Lib.hid hk
    clear hmk hk
    go_enter Tryz.func90, Tryz.ntmps90
    go_wp2_with fail
    refine (hsuf_to s ⟨#[115]⟩ S [115] true _ hs2 hS (Lib.hid rfl) f1).mono ?_
    rintro e w1 ⟨rfl, rfl⟩
    go_wp2_with fail
    refine (cparse_to (s.extract 0 k) l r c _ HMK.out hl HC).mono ?_
    rintro e w1 ⟨rfl, q, rfl⟩
    go_wp2
    go_ret2
    exact ⟨rfl, by repeat (first | exact Below.refl _ _ | refine below_drewN ?_ _)⟩
  · have e1 : (s.size : Int) - 1 = (k : Int) := by omega
    have k0 : k ≤ 1000 := by omega
    have k1 : k ≤ s.size := by omega
    have hmk : (s.extract 0 k).size ≤ maxLen := by simp; omega
    have HMK := Lib.hid hmk
    have HK := Lib.hid hk
    clear hmk hk
    go_enter Tryz.func90, Tryz.ntmps90
    go_wp2_with fail
    refine (hsuf_to s ⟨#[115]⟩ S [115] false _ hs2 hS (Lib.hid rfl) f1).mono ?_
    rintro e w1 ⟨rfl, rfl⟩
    go_wp2_with fail
    refine (hsuf_to s ⟨#[100]⟩ S [100] true _ hs2 hS (Lib.hid rfl) f2).mono ?_
    rintro e w1 ⟨rfl, rfl⟩
    go_wp2_with fail
    refine (cparse_to (s.extract 0 k) l r c _ HMK.out hl HC).mono ?_
    rintro e w1 ⟨rfl, q, rfl⟩
    go_wp2
    go_ret2
    exact ⟨rfl, by repeat (first | exact Below.refl _ _ | refine below_drewN ?_ _)⟩
end Rul
end Go.Proofs.YtpcnpacllkiieaaGreatDoor
