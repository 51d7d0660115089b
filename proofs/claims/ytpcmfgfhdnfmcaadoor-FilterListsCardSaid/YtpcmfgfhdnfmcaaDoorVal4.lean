/-
  Contracts of package value: Time. (Its long sum is a region that draws its order and whose calls make memory: one walk, by the library's QuietBelow.)
-/
import Derived.Test.YtpcmfgfhdnfmcaaDoorVal3
import Derived.Test.YtpcmfgfhdnfmcaaDoorBdF
import Derived.Lib.QuietBelow
namespace Go.Proofs.YtpcmfgfhdnfmcaaDoor
open Go.RowKit
namespace Val
open Sol Civ Wk
theorem bytes_eq {s t : ByteArray} (h : s.data.toList = t.data.toList) : s = t := ByteArray.ext (Array.toList_inj.1 h)
theorem date_to (n Y M D c : Int) (w : World) (hA : Ahead w) (h : Hid (dY n = Y ∧ dM n = M ∧ dD n = D)) (h2 : Hid (dnE n = c)) :
    Calls Tryd.prog 28 #[.int .i64 n] w fun e w' => e = .returned (.tuple #[.agg #[.int .i64 Y, .int .i64 M, .int .i64 D], .int .i64 c]) ∧ w.alloc (Obj.cells #[.int .i64 Y, .int .i64 M, .int .i64 D] 39) = w' :=
  (date_w n w hA).mono fun _ _ ⟨he, hw⟩ => ⟨by rw [he, h.out.1, h.out.2.1, h.out.2.2, h2.out], by rw [← hw, h.out.1, h.out.2.1, h.out.2.2]⟩
theorem tx_len (h : Int) (d : Nat) (h0 : 0 ≤ h) (d1 : 1 ≤ d) (d2 : d ≤ 20) (h1 : h < 10 ^ d) : (textL h d).length = d := by
  have e : textL h d = padL d (Lib.decDigits h.toNat) := by rw [textL, if_neg (by omega), if_pos (by omega)]; rfl
  rw [e, padL_len]
  have hk : h.toNat < 10 ^ (d - 1 + 1) := by
    rw [show d - 1 + 1 = d by omega]
    have : ((h.toNat : Nat) : Int) < ((10 ^ d : Nat) : Int) := by rw [Int.toNat_of_nonneg h0]; push_cast; exact h1
    exact Int.ofNat_lt.1 this
  have := decDigits_len (k := d - 1) (u := h.toNat) hk
  omega
/-- The text of a time. -/
def tmE (t : Int) : Int := if dnE (t / 86400) = 0 ∧ 1 ≤ dY (t / 86400) ∧ dY (t / 86400) ≤ 9999 then 0 else 23
def tmT (Y M D s : Int) : List UInt8 := textL Y 4 ++ textL M 2 ++ textL D 2 ++ [84] ++ textL (s / 3600) 2 ++ textL (s / 60 % 60) 2 ++ textL (s % 60) 2
def tmL (t : Int) : List UInt8 := tmT (dY (t / 86400)) (dM (t / 86400)) (dD (t / 86400)) (t % 86400)
def tmS (t : Int) (u : Bool) : List UInt8 := if tmE t = 0 then tmL t ++ (if u = true then [90] else []) else []
theorem ret_si {s s' : ByteArray} {a a' : Int} (k : s = s') (h : a = a') : Ending.returned (.tuple #[.string s, .int .i64 a]) = .returned (.tuple #[.string s', .int .i64 a']) := by rw [h, k]
theorem dd_in {n : Int} (h : dnE n = 0) : 1 ≤ dM n ∧ dM n ≤ 12 ∧ 1 ≤ dD n ∧ dD n ≤ 31 := by
  have hr : -719528 ≤ n ∧ n ≤ 2933262 := by
    by_cases x : -719528 ≤ n ∧ n ≤ 2933262
    · exact x
    · rw [dnE, if_neg x] at h; exact absurd h (by decide)
  obtain ⟨k1, k2, k3⟩ := dd_yes hr
  obtain ⟨s1, s2, s3, s4⟩ := Cal.yr_spec hr.1 hr.2
  have ns := Cal.ny_succ (Cal.yr n)
  obtain ⟨m1, m2, m3, m4⟩ := Cal.mon_spec (y := Cal.yr n) (r := n - Cal.ny (Cal.yr n)) (by omega) (by omega)
  obtain ⟨p1, p2⟩ := Cal.mlen_bd (Cal.yr n) (Cal.mon (Cal.yr n) (n - Cal.ny (Cal.yr n)))
  rw [k2, k3]; omega
end Val
end Go.Proofs.YtpcmfgfhdnfmcaaDoor
