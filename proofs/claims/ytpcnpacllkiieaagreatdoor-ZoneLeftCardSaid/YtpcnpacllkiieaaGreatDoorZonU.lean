/-
  ZoneLeft: of an end the month, the day and the time may be left out: then it is January, the 1st, nought o'clock. (Written by gen/gen_zonl.py.)
-/
import Derived.Test.YtpcnpacllkiieaaGreatDoorZonL
namespace Go.Proofs.YtpcnpacllkiieaaGreatDoor
open Go.RowKit
namespace Zon
open Sol Clk Cel Rul
open Opn (TxtV)
def D4 (a b c d : Nat) : List UInt8 := [UInt8.ofNat (48 + a), UInt8.ofNat (48 + b), UInt8.ofNat (48 + c), UInt8.ofNat (48 + d)]
theorem d4_str (a b c d : Nat) : (⟨#[48 + UInt8.ofNat a]⟩ ++ ⟨#[48 + UInt8.ofNat b]⟩ ++ ⟨#[48 + UInt8.ofNat c]⟩ ++ ⟨#[48 + UInt8.ofNat d]⟩ : ByteArray) = ⟨(D4 a b c d).toArray⟩ := by
  rw [D4, UInt8.ofNat_add, UInt8.ofNat_add, UInt8.ofNat_add, UInt8.ofNat_add]; rfl
theorem d4_val {a b c d : Nat} (ha : a < 10) (hb : b < 10) (hc : c < 10) (hd : d < 10) : parseB (D4 a b c d) = true ∧ parseV (D4 a b c d) = 1000 * (a : Int) + 100 * b + 10 * c + d := by
  have hB : parseB (D4 a b c d) = true := parseB_yes (by simp [D4]) (by simp [D4]) (by simp only [D4, List.all_cons, List.all_nil, isDig_of ha, isDig_of hb, isDig_of hc, isDig_of hd]; rfl)
  refine ⟨hB, ?_⟩
  rw [parseV_yes hB, D4, digVal]
  simp only [List.foldl_cons, List.foldl_nil, dig_toNat ha, dig_toNat hb, dig_toNat hc, dig_toNat hd]
  push_cast
  omega
theorem left_res {y : Int} (h1 : 1 ≤ y) (h2 : y ≤ 9999) : Wk.resE y 1 1 0 1 = 0 ∧ Wk.resE y 3 1 0 1 = 0 ∧ Wk.resE y 3 3 0 8 = 0 := by
  refine ⟨?_, ?_, ?_⟩ <;> rw [Wk.resE, if_pos (by decide), if_pos ⟨h1, h2⟩, Civ.numE, if_pos (Civ.valid_mk ⟨by omega, by omega, by rw [Wk.rday, if_neg (by decide)]; decide, by rw [Wk.rday, if_neg (by decide)]; simp [Cal.mlen]⟩)]
theorem left_4 {Y : List UInt8} {y : Int} (hB : parseB Y = true) (hV : parseV Y = y) (h1 : 1 ≤ y) (h2 : y ≤ 9999) : erP [[50, 58, 48, 48], [45], [69, 69, 84], Y] = (0, ⟨7200, 1, 0, [], [69, 69, 84], true, y, 1, 1, 0, 1, 0, 1⟩) := by
  have hu : unX [] = (0, (1, (1, 0, 1), (0, 1))) := by decide +kernel
  have h0 : clE [50, 58, 48, 48] = 0 ∧ clV [50, 58, 48, 48] = 7200 := by decide +kernel
  have hs : svP [45] = (1, 0, []) := by decide +kernel
  have e : erX [[50, 58, 48, 48], [45], [69, 69, 84], Y] = (0, ⟨7200, 1, 0, [], [69, 69, 84], true, y, 1, 1, 0, 1, 0, 1⟩) := by
    rw [erX, if_neg (by simp), h0.1, if_neg (by decide), h0.2, hs]
    simp only [hB, hV, hu]
    simp
  have hg : rgB ⟨7200, 1, 0, [], [69, 69, 84], true, y, 1, 1, 0, 1, 0, 1⟩ = true := by
    have hb : unB true y 1 1 0 1 0 1 = true := by rw [unB, if_neg (by decide), (left_res h1 h2).1]; decide
    rw [rgB]
    simp only [hb]
    decide +kernel
  rw [erP, e, if_neg (by simp), if_pos hg]
theorem left_5 {Y : List UInt8} {y : Int} (hB : parseB Y = true) (hV : parseV Y = y) (h1 : 1 ≤ y) (h2 : y ≤ 9999) : erP [[50, 58, 48, 48], [45], [69, 69, 84], Y, [77, 97, 114]] = (0, ⟨7200, 1, 0, [], [69, 69, 84], true, y, 3, 1, 0, 1, 0, 1⟩) := by
  have hu : unX [[77, 97, 114]] = (0, (3, (1, 0, 1), (0, 1))) := by decide +kernel
  have h0 : clE [50, 58, 48, 48] = 0 ∧ clV [50, 58, 48, 48] = 7200 := by decide +kernel
  have hs : svP [45] = (1, 0, []) := by decide +kernel
  have e : erX [[50, 58, 48, 48], [45], [69, 69, 84], Y, [77, 97, 114]] = (0, ⟨7200, 1, 0, [], [69, 69, 84], true, y, 3, 1, 0, 1, 0, 1⟩) := by
    rw [erX, if_neg (by simp), h0.1, if_neg (by decide), h0.2, hs]
    simp only [hB, hV, hu]
    simp
  have hg : rgB ⟨7200, 1, 0, [], [69, 69, 84], true, y, 3, 1, 0, 1, 0, 1⟩ = true := by
    have hb : unB true y 3 1 0 1 0 1 = true := by rw [unB, if_neg (by decide), (left_res h1 h2).2.1]; decide
    rw [rgB]
    simp only [hb]
    decide +kernel
  rw [erP, e, if_neg (by simp), if_pos hg]
theorem left_6 {Y : List UInt8} {y : Int} (hB : parseB Y = true) (hV : parseV Y = y) (h1 : 1 ≤ y) (h2 : y ≤ 9999) : erP [[50, 58, 48, 48], [45], [69, 69, 84], Y, [77, 97, 114], [83, 117, 110, 62, 61, 56]] = (0, ⟨7200, 1, 0, [], [69, 69, 84], true, y, 3, 3, 0, 8, 0, 1⟩) := by
  have hu : unX [[77, 97, 114], [83, 117, 110, 62, 61, 56]] = (0, (3, (3, 0, 8), (0, 1))) := by decide +kernel
  have h0 : clE [50, 58, 48, 48] = 0 ∧ clV [50, 58, 48, 48] = 7200 := by decide +kernel
  have hs : svP [45] = (1, 0, []) := by decide +kernel
  have e : erX [[50, 58, 48, 48], [45], [69, 69, 84], Y, [77, 97, 114], [83, 117, 110, 62, 61, 56]] = (0, ⟨7200, 1, 0, [], [69, 69, 84], true, y, 3, 3, 0, 8, 0, 1⟩) := by
    rw [erX, if_neg (by simp), h0.1, if_neg (by decide), h0.2, hs]
    simp only [hB, hV, hu]
    simp
  have hg : rgB ⟨7200, 1, 0, [], [69, 69, 84], true, y, 3, 3, 0, 8, 0, 1⟩ = true := by
    have hb : unB true y 3 3 0 8 0 1 = true := by rw [unB, if_neg (by decide), (left_res h1 h2).2.2]; decide
    rw [rgB]
    simp only [hb]
    decide +kernel
  rw [erP, e, if_neg (by simp), if_pos hg]
theorem left_7 {Y : List UInt8} {y : Int} (hB : parseB Y = true) (hV : parseV Y = y) (h1 : 1 ≤ y) (h2 : y ≤ 9999) : erP [[50, 58, 48, 48], [45], [69, 69, 84], Y, [77, 97, 114], [83, 117, 110, 62, 61, 56], [51, 115]] = (0, ⟨7200, 1, 0, [], [69, 69, 84], true, y, 3, 3, 0, 8, 10800, 2⟩) := by
  have hu : unX [[77, 97, 114], [83, 117, 110, 62, 61, 56], [51, 115]] = (0, (3, (3, 0, 8), (10800, 2))) := by decide +kernel
  have h0 : clE [50, 58, 48, 48] = 0 ∧ clV [50, 58, 48, 48] = 7200 := by decide +kernel
  have hs : svP [45] = (1, 0, []) := by decide +kernel
  have e : erX [[50, 58, 48, 48], [45], [69, 69, 84], Y, [77, 97, 114], [83, 117, 110, 62, 61, 56], [51, 115]] = (0, ⟨7200, 1, 0, [], [69, 69, 84], true, y, 3, 3, 0, 8, 10800, 2⟩) := by
    rw [erX, if_neg (by simp), h0.1, if_neg (by decide), h0.2, hs]
    simp only [hB, hV, hu]
    simp
  have hg : rgB ⟨7200, 1, 0, [], [69, 69, 84], true, y, 3, 3, 0, 8, 10800, 2⟩ = true := by
    have hb : unB true y 3 3 0 8 10800 2 = true := by rw [unB, if_neg (by decide), (left_res h1 h2).2.2]; decide
    rw [rgB]
    simp only [hb]
    decide +kernel
  rw [erP, e, if_neg (by simp), if_pos hg]
theorem left_3 : erP [[50, 58, 48, 48], [45], [69, 69, 84]] = (0, ⟨7200, 1, 0, [], [69, 69, 84], false, 0, 0, 0, 0, 0, 0, 0⟩) := by decide +kernel
theorem left_8 (Y : List UInt8) : erP [[50, 58, 48, 48], [45], [69, 69, 84], Y, [77, 97, 114], [83, 117, 110, 62, 61, 56], [51, 115], [120]] = (6, EV.zero) := by
  have e : erX [[50, 58, 48, 48], [45], [69, 69, 84], Y, [77, 97, 114], [83, 117, 110, 62, 61, 56], [51, 115], [120]] = (6, EV.zero) := by rw [erX, if_pos (by simp)]
  rw [erP, e, if_pos (by decide)]
end Zon
end Go.Proofs.YtpcnpacllkiieaaGreatDoor
