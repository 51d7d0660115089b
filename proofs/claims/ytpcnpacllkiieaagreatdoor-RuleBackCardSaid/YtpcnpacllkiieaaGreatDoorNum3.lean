/-
  Contracts of package num, its third part: Text, for every two integers; the law's own waking call.
-/
import Derived.Test.YtpcnpacllkiieaaGreatDoorNum2
import Derived.Test.YtpcnpacllkiieaaGreatDoorShelf
import Derived.Lib.AppendIntMem
import Derived.Lib.Repeat
import Derived.Outline
namespace Go.Proofs.YtpcnpacllkiieaaGreatDoor
open Go.RowKit

theorem repeat48 (k : Nat) : Lib.repeatL [48] k = List.replicate k 48 := by
  induction k with
  | zero => rfl
  | succ k ih => rw [Lib.repeatL, ih]; rfl
theorem itoa_nn {n : Int} (h : 0 ≤ n) : Lib.itoa n = Lib.decDigits n.toNat := by rw [Lib.itoa, if_neg (by omega)]
theorem textL_neg {n d : Int} (h : n < 0) : Sol.textL n d = [] := by rw [Sol.textL, if_pos h]
theorem textL_in {n d : Int} (h : 0 ≤ n) (h1 : 0 ≤ d) (h2 : d ≤ 20) : Sol.textL n d = Sol.padL d.toNat (Lib.decDigits n.toNat) := by
  rw [Sol.textL, if_neg (by omega), if_pos ⟨h1, h2⟩]
theorem textL_out {n d : Int} (h : 0 ≤ n) (h1 : ¬ (0 ≤ d ∧ d ≤ 20)) : Sol.textL n d = Lib.decDigits n.toNat := by
  rw [Sol.textL, if_neg (by omega), if_neg h1, Sol.padL]; simp
theorem padL_short {d : Nat} {l : List UInt8} (h : d ≤ l.length) : Sol.padL d l = l := by
  rw [Sol.padL, show d - l.length = 0 by omega]; rfl
theorem ret_s {s t : ByteArray} (h : s = t) : Ending.returned (.string s) = .returned (.string t) := by rw [h]

theorem itoa_any (n : Int) (l : List UInt8) (w : World) (h0 : 0 ≤ n) (hl : Hid (l = Lib.decDigits n.toNat)) (n2 : n ≤ 9223372036854775807)
    (htab : Lib.TabIs Tryz.prog w "internal/strconv.uint64pow10" .u64 Lib.pow10Tab) :
    Calls Tryz.prog 96 #[.int .i64 n] w fun e w' => e = .returned (.string ⟨l.toArray⟩) ∧ Below w.heap.size w w' := by
  refine (Tryz.strconv_Itoa n (by omega) n2 w htab).mono ?_
  rintro e w' ⟨rfl, k, os, rfl⟩
  exact ⟨by rw [itoa_nn h0, hl.out], Lib.below_grow w.heap.size w (Nat.le_refl _) k os⟩
theorem rep_any (c : Nat) (r : List UInt8) (w : World) (hr : Hid (r = List.replicate c 48)) (hc : c ≤ 20) :
    Calls Tryz.prog 97 #[.string ⟨#[48]⟩, .int .i64 c] w fun e w' => e = .returned (.string ⟨r.toArray⟩) ∧ Below w.heap.size w w' := by
  refine (Tryz.strings_Repeat ⟨#[48]⟩ c w (by omega) (by show 1 * c ≤ _; omega)).mono ?_
  rintro e w' ⟨rfl, hb⟩
  exact ⟨by rw [hr.out, ← repeat48 c], hb⟩

theorem pad_str {d : Nat} {l r : List UInt8} (hr : r = List.replicate (d - l.length) 48) : (⟨r.toArray⟩ : ByteArray) ++ ⟨l.toArray⟩ = ⟨(Sol.padL d l).toArray⟩ := by
  rw [Sol.padL, ← hr]
  apply ByteArray.ext
  simp

set_option maxHeartbeats 400000 in
theorem text_any (n d : Int) (w : World) (_n1 : -9223372036854775808 ≤ n) (n2 : n ≤ 9223372036854775807) (_d1 : -9223372036854775808 ≤ d) (_d2 : d ≤ 9223372036854775807)
    (htab : Lib.TabIs Tryz.prog w "internal/strconv.uint64pow10" .u64 Lib.pow10Tab) :
    Calls Tryz.prog 47 #[.int .i64 n, .int .i64 d] w fun e w' => e = .returned (.string ⟨(Sol.textL n d).toArray⟩) ∧ Below w.heap.size w w' := by
  by_cases hn : n < 0
  · have H := Lib.hid (textL_neg (d := d) hn)
    clear htab
    go_enter Tryz.func47, Tryz.ntmps47
    go_wp2
    go_ret
    exact ⟨ret_s (by rw [H.out]), Below.refl _ _⟩
  · have hlen : (Lib.decDigits n.toNat).length ≤ 19 := Sol.decDigits_len (k := 18) (by omega)
    obtain ⟨l, hl⟩ : ∃ l, l = Lib.decDigits n.toNat := ⟨_, rfl⟩
    rw [← hl] at hlen
    have HL := Lib.hid hl
    have HB := Lib.hid htab
    clear htab
    by_cases hd1 : 0 ≤ d
    · by_cases hd2 : d ≤ 20
      · have HT := Lib.hid (textL_in (n := n) (d := d) (by omega) hd1 hd2)
        rw [← hl] at HT
        clear hl
        by_cases hs : (l.length : Int) < d
        · obtain ⟨r, hr⟩ : ∃ r, r = List.replicate (d.toNat - l.length) (48 : UInt8) := ⟨_, rfl⟩
          have hrl : r.length ≤ 20 := by rw [hr, List.length_replicate]; omega
          have HR := Lib.hid hr
          clear hr
          have HC : Hid (d - (l.length : Int) = ((d.toNat - l.length : Nat) : Int)) := Lib.hid (by omega)
          go_enter Tryz.func47, Tryz.ntmps47
          go_wp2_with fail
          refine (itoa_any n l _ (by omega) HL n2 HB.out).mono ?_
          rintro e w1 ⟨rfl, hb⟩
          go_wp2_with fail
          rw [HC.out]
          refine (rep_any _ r _ HR (by omega)).mono ?_
          rintro e w2 ⟨rfl, hb2⟩
          go_wp2
          go_ret
          exact ⟨ret_s (by rw [HT.out]; exact pad_str HR.out), hb.trans (hb2.mono hb.size)⟩
        · have HP := Lib.hid (padL_short (d := d.toNat) (l := l) (by omega))
          go_enter Tryz.func47, Tryz.ntmps47
          go_wp2_with fail
          refine (itoa_any n l _ (by omega) HL n2 HB.out).mono ?_
          rintro e w1 ⟨rfl, hb⟩
          go_wp2
          go_ret
          exact ⟨ret_s (by rw [HT.out, HP.out]), hb⟩
      · have HT := Lib.hid (textL_out (n := n) (d := d) (by omega) (fun h => hd2 h.2))
        rw [← hl] at HT
        clear hl
        go_enter Tryz.func47, Tryz.ntmps47
        go_wp2_with fail
        refine (itoa_any n l _ (by omega) HL n2 HB.out).mono ?_
        rintro e w1 ⟨rfl, hb⟩
        go_wp2
        go_ret
        exact ⟨ret_s (by rw [HT.out]), hb⟩
    · have HT := Lib.hid (textL_out (n := n) (d := d) (by omega) (fun h => hd1 h.1))
      rw [← hl] at HT
      clear hl
      go_enter Tryz.func47, Tryz.ntmps47
      go_wp2_with fail
      refine (itoa_any n l _ (by omega) HL n2 HB.out).mono ?_
      rintro e w1 ⟨rfl, hb⟩
      go_wp2
      go_ret
      exact ⟨ret_s (by rw [HT.out]), hb⟩
end Go.Proofs.YtpcnpacllkiieaaGreatDoor
