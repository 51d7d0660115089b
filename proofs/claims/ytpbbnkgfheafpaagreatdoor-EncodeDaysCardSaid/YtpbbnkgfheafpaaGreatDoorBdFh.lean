/-
  Several texts in one (Val, Val2, Val3, Val4).
-/
import Derived.Test.YtpbbnkgfheafpaaGreatDoorBdC
import Derived.Test.YtpbbnkgfheafpaaGreatDoorBdD
import Derived.Test.YtpbbnkgfheafpaaGreatDoorShelf
import Derived.Test.YtpbbnkgfheafpaaGreatDoorBdF
import Derived.Lib.QuietBelow
/-
  Contracts of package value: sixty, ParseTime.
-/
namespace Go.Proofs.YtpbbnkgfheafpaaGreatDoor
open Go.RowKit
namespace Val
open Sol Civ
theorem pv_bd {L : List UInt8} (h : L.length ≤ 4) : 0 ≤ parseV L ∧ parseV L < 10000 := by
  unfold parseV
  split
  · rename_i hp
    simp [parseB] at hp
    have := digVal_bd L (by simpa using hp.2)
    have h2 : (10 : Int) ^ L.length ≤ 10000 := by
      have h3 : L.length = 0 ∨ L.length = 1 ∨ L.length = 2 ∨ L.length = 3 ∨ L.length = 4 := by omega
      rcases h3 with e | e | e | e | e <;> rw [e] <;> decide
    omega
  · omega
/-- Two digits each of hours, minutes, seconds. -/
def sxB (S : List UInt8) : Bool := parseB (S.take 2) && parseB ((S.drop 2).take 2) && parseB ((S.drop 4).take 2) && decide (parseV (S.take 2) < 24 ∧ parseV ((S.drop 2).take 2) < 60 ∧ parseV ((S.drop 4).take 2) < 60)
def sxV (S : List UInt8) : Int := if sxB S = true then parseV (S.take 2) * 3600 + parseV ((S.drop 2).take 2) * 60 + parseV ((S.drop 4).take 2) else 0
theorem ret_ib' {a a' : Int} {b b' : Bool} (h : a = a') (k : b = b') : Ending.returned (.tuple #[.int .i64 a, .bool b]) = .returned (.tuple #[.int .i64 a', .bool b']) := by rw [h, k]
theorem sx_no {S : List UInt8} (h : sxB S = false) : sxV S = 0 := by rw [sxV, h]; rfl
end Val
end Go.Proofs.YtpbbnkgfheafpaaGreatDoor
/-
  Contracts of package value: ParseTime.
-/
namespace Go.Proofs.YtpbbnkgfheafpaaGreatDoor
open Go.RowKit
namespace Val
open Sol Civ Wk
theorem sx_bd {S : List UInt8} : 0 ≤ sxV S ∧ sxV S < 86400 := by
  unfold sxV
  split
  · rename_i h
    rw [sxB, Bool.and_eq_true] at h
    have := of_decide_eq_true h.2
    have d1 := pv_bd (L := S.take 2) (by rw [List.length_take]; omega)
    have d2 := pv_bd (L := (S.drop 2).take 2) (by rw [List.length_take]; omega)
    have d3 := pv_bd (L := (S.drop 4).take 2) (by rw [List.length_take]; omega)
    omega
  · omega
theorem numV_bd (y m d : Int) : -1000000 ≤ numV y m d ∧ numV y m d ≤ 4000000 := by
  unfold numV
  split
  · rename_i h
    have hv : 0 ≤ y ∧ y ≤ 10000 ∧ 1 ≤ d ∧ d ≤ Cal.mlen y m := of_decide_eq_true h
    obtain ⟨m1, m2⟩ := Cal.mlen_pos (y := y) (m := m) (by omega)
    have := num_bd hv.1 hv.2.1 m1 m2 hv.2.2.1 hv.2.2.2
    omega
  · omega
/-- What stands ahead of the mark is of the right make: its parts are numbers. -/
def ptB (B : List UInt8) : Bool := parseB (B.take 4) && parseB ((B.drop 4).take 2) && parseB ((B.drop 6).take 2) && sxB (B.drop 9) && decide (1 ≤ parseV (B.take 4))
def ptP (S : List UInt8) : Int × Bool × Int :=
  if (Lib.trimSuffix S [90]).length = 15 ∧ (Lib.trimSuffix S [90])[8]? = some 84 ∧ ptB (Lib.trimSuffix S [90]) = true ∧ numE (parseV ((Lib.trimSuffix S [90]).take 4)) (parseV (((Lib.trimSuffix S [90]).drop 4).take 2)) (parseV (((Lib.trimSuffix S [90]).drop 6).take 2)) = 0
  then (numV (parseV ((Lib.trimSuffix S [90]).take 4)) (parseV (((Lib.trimSuffix S [90]).drop 4).take 2)) (parseV (((Lib.trimSuffix S [90]).drop 6).take 2)) * 86400 + sxV ((Lib.trimSuffix S [90]).drop 9), Lib.hasSuffix S [90], 0)
  else (0, false, 19)
theorem ret_ibi {a a' c c' : Int} {b b' : Bool} (h1 : a = a') (h2 : b = b') (h3 : c = c') : Ending.returned (.tuple #[.int .i64 a, .bool b, .int .i64 c]) = .returned (.tuple #[.int .i64 a', .bool b', .int .i64 c']) := by rw [h1, h2, h3]
end Val
end Go.Proofs.YtpbbnkgfheafpaaGreatDoor
/-
  Contracts of package value: ParseOffset, Offset.
-/
namespace Go.Proofs.YtpbbnkgfheafpaaGreatDoor
open Go.RowKit
namespace Val
open Sol Civ Wk
/-- The digits behind the sign; whether there is one. -/
def poX (S : List UInt8) : List UInt8 := if Lib.hasPrefix S [45] = true then Lib.trimPrefix S [45] else Lib.trimPrefix S [43]
def poS (S : List UInt8) : Bool := Lib.hasPrefix S [45] || Lib.hasPrefix S [43]
def poY (X : List UInt8) : List UInt8 := if X.length = 4 then X ++ [48, 48] else X
def poD (b : Bool) (Y : List UInt8) : Int × Int :=
  if Y.length = 6 ∧ sxB Y = true ∧ ¬ (b = true ∧ sxV Y = 0) then (if b = true then -sxV Y else sxV Y, 0) else (0, 19)
def poP (S : List UInt8) : Int × Int := if poS S = true then poD (Lib.hasPrefix S [45]) (poY (poX S)) else (0, 19)
theorem ret_ii {a a' c c' : Int} (h1 : a = a') (h3 : c = c') : Ending.returned (.tuple #[.int .i64 a, .int .i64 c]) = .returned (.tuple #[.int .i64 a', .int .i64 c']) := by rw [h1, h3]
end Val
end Go.Proofs.YtpbbnkgfheafpaaGreatDoor
/-
  Contracts of package value: Time. (Its long sum is a region that draws its order and whose calls make memory: one walk, by the library's QuietBelow.)
-/
namespace Go.Proofs.YtpbbnkgfheafpaaGreatDoor
open Go.RowKit
namespace Val
open Sol Civ Wk
theorem bytes_eq {s t : ByteArray} (h : s.data.toList = t.data.toList) : s = t := ByteArray.ext (Array.toList_inj.1 h)
theorem date_to (n Y M D c : Int) (w : World) (hA : Ahead w) (h : Hid (dY n = Y ∧ dM n = M ∧ dD n = D)) (h2 : Hid (dnE n = c)) :
    Calls Tryz.prog 43 #[.int .i64 n] w fun e w' => e = .returned (.tuple #[.agg #[.int .i64 Y, .int .i64 M, .int .i64 D], .int .i64 c]) ∧ w.alloc (Obj.cells #[.int .i64 Y, .int .i64 M, .int .i64 D] 54) = w' :=
  (date_w n w hA).mono fun _ _ ⟨he, hw⟩ => ⟨by rw [he, h.out.1, h.out.2.1, h.out.2.2, h2.out], by rw [← hw, h.out.1, h.out.2.1, h.out.2.2]⟩
theorem tx_len (h : Int) (d : Nat) (h0 : 0 ≤ h) (d1 : 1 ≤ d) (d2 : d ≤ 20) (h1 : h < 10 ^ d) : (textL h d).length = d := by
  have e : textL h d = padL d (Lib.decDigits h.toNat) := by rw [textL, if_neg (by omega), if_pos (by omega)]; rfl
  rw [e, padL_len]
  have hk : h.toNat < 10 ^ (d - 1 + 1) := by
    rw [show d - 1 + 1 = d by omega]
    have : ((h.toNat : Nat) : Int) < ((10 ^ d : Nat) : Int) := by rw [Int.toNat_of_nonneg h0]; push_cast; exact h1
    exact Int.ofNat_lt.1 this
  have := decDigits_len (k := d - 1) (u := h.toNat) hk
  omega
/-- The text of a time. -/
def tmE (t : Int) : Int := if dnE (t / 86400) = 0 ∧ 1 ≤ dY (t / 86400) ∧ dY (t / 86400) ≤ 9999 then 0 else 23
def tmT (Y M D s : Int) : List UInt8 := textL Y 4 ++ textL M 2 ++ textL D 2 ++ [84] ++ textL (s / 3600) 2 ++ textL (s / 60 % 60) 2 ++ textL (s % 60) 2
def tmL (t : Int) : List UInt8 := tmT (dY (t / 86400)) (dM (t / 86400)) (dD (t / 86400)) (t % 86400)
def tmS (t : Int) (u : Bool) : List UInt8 := if tmE t = 0 then tmL t ++ (if u = true then [90] else []) else []
theorem ret_si {s s' : ByteArray} {a a' : Int} (k : s = s') (h : a = a') : Ending.returned (.tuple #[.string s, .int .i64 a]) = .returned (.tuple #[.string s', .int .i64 a']) := by rw [h, k]
theorem dd_in {n : Int} (h : dnE n = 0) : 1 ≤ dM n ∧ dM n ≤ 12 ∧ 1 ≤ dD n ∧ dD n ≤ 31 := by
  have hr : -719528 ≤ n ∧ n ≤ 2933262 := by
    by_cases x : -719528 ≤ n ∧ n ≤ 2933262
    · exact x
    · rw [dnE, if_neg x] at h; exact absurd h (by decide)
  obtain ⟨k1, k2, k3⟩ := dd_yes hr
  obtain ⟨s1, s2, s3, s4⟩ := Cal.yr_spec hr.1 hr.2
  have ns := Cal.ny_succ (Cal.yr n)
  obtain ⟨m1, m2, m3, m4⟩ := Cal.mon_spec (y := Cal.yr n) (r := n - Cal.ny (Cal.yr n)) (by omega) (by omega)
  obtain ⟨p1, p2⟩ := Cal.mlen_bd (Cal.yr n) (Cal.mon (Cal.yr n) (n - Cal.ny (Cal.yr n)))
  rw [k2, k3]; omega
end Val
end Go.Proofs.YtpbbnkgfheafpaaGreatDoor
