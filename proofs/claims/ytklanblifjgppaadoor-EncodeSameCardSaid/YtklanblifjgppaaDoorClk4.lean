/-
  Contracts of package clock, fourth part: Text; the waking call of its laws.
-/
import Derived.Test.YtklanblifjgppaaDoorClk3
namespace Go.Proofs.YtklanblifjgppaaDoor
open Go.RowKit
namespace Clk
open Sol
theorem ret_si {s s' : ByteArray} {a a' : Int} (k : s = s') (h : a = a') : Ending.returned (.tuple #[.string s, .int .i64 a]) = .returned (.tuple #[.string s', .int .i64 a']) := by rw [h, k]
def ctE (n : Int) : Int := if -345600 ≤ n ∧ n ≤ 345600 then 0 else 5
def ctS (n : Int) : List UInt8 := if -345600 ≤ n ∧ n ≤ 345600 then ctL n else []
theorem text_to (n d : Int) (T : List UInt8) (w : World) (n1 : -9223372036854775808 ≤ n) (n2 : n ≤ 9223372036854775807) (d1 : -9223372036854775808 ≤ d) (d2 : d ≤ 9223372036854775807) (hp : Pow w) (h : Hid (textL n d = T)) :
    Calls Tryd.prog 20 #[.int .i64 n, .int .i64 d] w fun e w' => e = .returned (.string ⟨T.toArray⟩) ∧ Below w.heap.size w w' :=
  (text_any n d w n1 n2 d1 d2 hp.here).mono fun _ _ ⟨he, hw⟩ => ⟨by rw [he, h.out], hw⟩
theorem bytes_eq {s t : ByteArray} (h : s.data.toList = t.data.toList) : s = t := ByteArray.ext (Array.toList_inj.1 h)
theorem ct_in {n : Int} (h : -345600 ≤ n ∧ n ≤ 345600) : ctE n = 0 ∧ ctS n = ctL n := ⟨by rw [ctE, if_pos h], by rw [ctS, if_pos h]⟩
theorem ct_out {n : Int} (h : ¬ (-345600 ≤ n ∧ n ≤ 345600)) : ctE n = 5 ∧ ctS n = [] := ⟨by rw [ctE, if_neg h], by rw [ctS, if_neg h]⟩
theorem ct_pos {m : Int} (h0 : 0 ≤ m) (h1 : m ≤ 345600) : ctE m = 0 ∧ ctS m = body m := by
  obtain ⟨a, b⟩ := ct_in (n := m) (by omega)
  exact ⟨a, by rw [b, ctL, if_neg (by omega)]⟩
theorem ct_neg {m : Int} (h0 : 0 < m) (h1 : m ≤ 345600) : ctE (-m) = 0 ∧ ctS (-m) = 45 :: body m := by
  obtain ⟨a, b⟩ := ct_in (n := -m) (by omega)
  exact ⟨a, by rw [b, ctL, if_pos (by omega), Int.neg_neg]⟩

theorem wk4_0 : (⟨#[45, 49, 58, 51, 48]⟩ : ByteArray).size ≤ maxLen := by show 5 ≤ maxLen; unfold maxLen; omega
theorem wk4_1 : clV [45, 49, 58, 51, 48] = -5400 ∧ clE [45, 49, 58, 51, 48] = 0 := by decide +kernel
theorem wk4_2 : ctS 3661 = [49, 58, 48, 49, 58, 48, 49] ∧ ctE 3661 = 0 := by
  obtain ⟨a, b⟩ := ct_pos (m := 3661) (by decide) (by decide)
  refine ⟨?_, a⟩
  have k1 : textL 1 1 = [49] := by rw [textL, if_neg (by decide), if_pos (by decide), show (1 : Int).toNat = 1 from rfl, Lib.decDigits, dif_pos (by decide)]; rfl
  have k2 : textL 1 2 = [48, 49] := by rw [textL, if_neg (by decide), if_pos (by decide), show (1 : Int).toNat = 1 from rfl, Lib.decDigits, dif_pos (by decide)]; rfl
  rw [b, body, if_neg (by decide), if_neg (by decide), show (3661 : Int) / 3600 = 1 from rfl, show (3661 : Int) / 60 % 60 = 1 from rfl, show (3661 : Int) % 60 = 1 from rfl, k1, k2]; rfl
theorem wk4_3 : jnV 1 (-1) = 86399 ∧ jnB 1 (-1) = true := by decide +kernel

end Clk
end Go.Proofs.YtklanblifjgppaaDoor
