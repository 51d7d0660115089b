/-
  Plain facts on times of a day written by hand: two digits each, a colon between.
-/
import Derived.Test.YtpcnpacllkiieaaGreatDoorClkMath
namespace Go.Proofs.YtpcnpacllkiieaaGreatDoor
namespace Clk
open Sol
def D2 (q r : Nat) : List UInt8 := [UInt8.ofNat (48 + q), UInt8.ofNat (48 + r)]
theorem d2_ok {q r : Nat} (hq : q < 10) (hr : r < 10) : (D2 q r).all isDig = true ∧ (D2 q r).length = 2 ∧ digVal (D2 q r) = 10 * (q : Int) + r := by
  have a := dig_toNat hq
  have b := dig_toNat hr
  refine ⟨by rw [D2, List.all_cons, isDig_of hq, List.all_cons, isDig_of hr]; rfl, rfl, ?_⟩
  simp only [digVal, D2, List.foldl_cons, List.foldl_nil, a, b]; omega
theorem cl_mk {l : List UInt8} {v : Int} (hne : ¬ l = [45]) (hp : Lib.hasPrefix l [45] = false) (h : readB l = true ∧ readV l = v) (hv : v ≤ 345600) : clV l = v ∧ clE l = 0 := by
  have hdg : dg l = l := by rw [dg, Lib.trimPrefix, hp]; rfl
  have hng : neg l = false := hp
  have hb : clB l = true := by rw [clB, hdg, h.1, h.2]; simp [hv]
  exact ⟨by rw [clV, if_neg hne, if_pos hb, hng, hdg, h.2]; rfl, by rw [clE, if_pos hb]⟩
theorem cl_mk_neg {l : List UInt8} {v : Int} (hne : ¬ l = []) (h : readB l = true ∧ readV l = v) (hv : v ≤ 345600) : clV (45 :: l) = -v ∧ clE (45 :: l) = 0 := by
  have hdg : dg (45 :: l) = l := by simp [dg, Lib.trimPrefix, Lib.hasPrefix]
  have hng : neg (45 :: l) = true := by simp [neg, Lib.hasPrefix]
  have hn2 : ¬ (45 :: l = [45]) := by simpa using hne
  have hb : clB (45 :: l) = true := by rw [clB, hdg, h.1, h.2]; simp [hv]
  exact ⟨by rw [clV, if_neg hn2, if_pos hb, hng, if_pos rfl, hdg, h.2], by rw [clE, if_pos hb]⟩
theorem cl_bad {l : List UInt8} (hne : ¬ l = [45]) (hp : Lib.hasPrefix l [45] = false) (h : readB l = false) : clV l = 0 ∧ clE l = 5 := by
  have hdg : dg l = l := by rw [dg, Lib.trimPrefix, hp]; rfl
  have hb : clB l = false := by rw [clB, hdg, h, decide_eq_false hne]; rfl
  exact ⟨(by rw [clV, if_neg hne, hb]; rfl), by rw [clE, hb]; rfl⟩
theorem pre_no {c : UInt8} {r : List UInt8} (hc : c ≠ 45) : ¬ (c :: r = [45]) ∧ Lib.hasPrefix (c :: r) [45] = false := by
  refine ⟨fun h => by simp at h; exact hc h.1, ?_⟩
  show ([45] : List UInt8).isPrefixOf (c :: r) = false
  rw [List.isPrefixOf, beq_eq_false_iff_ne.2 (fun e => hc e.symm)]; rfl
theorem pre_d2 {q r : Nat} (hq : q < 10) (t : List UInt8) : ¬ (D2 q r ++ t = [45]) ∧ Lib.hasPrefix (D2 q r ++ t) [45] = false := by
  have : UInt8.ofNat (48 + q) ≠ 45 := fun e => by
    have := congrArg UInt8.toNat e
    rw [dig_toNat hq] at this
    have e2 : (45 : UInt8).toNat = 45 := rfl
    omega
  exact pre_no this
section
variable {a b c d e f : Nat} (ha : a < 10) (hb : b < 10) (hc : c < 10) (hd : d < 10) (he : e < 10) (hf : f < 10)
include ha hb
theorem f0 (h1 : 10 * a + b < 96) : clV (D2 a b) = 3600 * (10 * (a : Int) + b) ∧ clE (D2 a b) = 0 := by
  obtain ⟨a1, a2, a3⟩ := d2_ok ha hb
  obtain ⟨n1, n2⟩ := pre_d2 (r := b) ha []
  rw [List.append_nil] at n1 n2
  obtain ⟨p1, p2⟩ := hd_all (digs_ne a1 58 n58)
  obtain ⟨q1, q2⟩ := read_mk p1 p2 a1 (by omega) (by omega) six_nil six_nil
  exact cl_mk n1 n2 ⟨q1, by rw [q2, a3]; omega⟩ (by omega)
theorem f7 : clV (D2 a b ++ 58 :: (D2 c d).drop 1) = 0 ∧ clE (D2 a b ++ 58 :: (D2 c d).drop 1) = 5 := by
  obtain ⟨a1, a2, a3⟩ := d2_ok ha hb
  obtain ⟨n1, n2⟩ := pre_d2 (r := b) ha (58 :: (D2 c d).drop 1)
  obtain ⟨p1, p2⟩ := hd_of (b := (D2 c d).drop 1) (digs_ne a1 58 n58)
  refine cl_bad n1 n2 ?_
  rw [readB, p1, p2]
  have : sixB (58 :: (D2 c d).drop 1) = false := by simp [sixB, D2]
  rw [this]; simp
include hc hd
theorem rd1 (h2 : 10 * c + d < 60) : readB (D2 a b ++ 58 :: D2 c d) = true ∧ readV (D2 a b ++ 58 :: D2 c d) = 3600 * (10 * (a : Int) + b) + 60 * (10 * (c : Int) + d) := by
  obtain ⟨a1, a2, a3⟩ := d2_ok ha hb
  obtain ⟨b1, b2, b3⟩ := d2_ok hc hd
  obtain ⟨p1, p2⟩ := hd_of (b := D2 c d) (digs_ne a1 58 n58)
  have s1 := six_ok (r := []) b1 b2 (by omega)
  rw [List.append_nil] at s1
  obtain ⟨q1, q2⟩ := read_mk p1 p2 a1 (by omega) (by omega) s1 six_nil
  exact ⟨q1, by rw [q2, a3, b3]; omega⟩
theorem f1 (h1 : 10 * a + b < 96) (h2 : 10 * c + d < 60) : clV (D2 a b ++ 58 :: D2 c d) = 3600 * (10 * (a : Int) + b) + 60 * (10 * (c : Int) + d) ∧ clE (D2 a b ++ 58 :: D2 c d) = 0 := by
  obtain ⟨n1, n2⟩ := pre_d2 (r := b) ha (58 :: D2 c d)
  exact cl_mk n1 n2 (rd1 ha hb hc hd h2) (by omega)
theorem f3 (h1 : 10 * a + b < 96) (h2 : 10 * c + d < 60) : clV (45 :: (D2 a b ++ 58 :: D2 c d)) = -3600 * (10 * (a : Int) + b) - 60 * (10 * (c : Int) + d) ∧ clE (45 :: (D2 a b ++ 58 :: D2 c d)) = 0 := by
  obtain ⟨k1, k2⟩ := cl_mk_neg (l := D2 a b ++ 58 :: D2 c d) (by simp [D2]) (rd1 ha hb hc hd h2) (by omega)
  exact ⟨by rw [k1]; omega, k2⟩
include he hf
theorem f2 (h1 : 10 * a + b < 96) (h2 : 10 * c + d < 60) (h3 : 10 * e + f < 60) : clV (D2 a b ++ 58 :: (D2 c d ++ 58 :: D2 e f)) = 3600 * (10 * (a : Int) + b) + 60 * (10 * (c : Int) + d) + (10 * (e : Int) + f) ∧ clE (D2 a b ++ 58 :: (D2 c d ++ 58 :: D2 e f)) = 0 := by
  obtain ⟨a1, a2, a3⟩ := d2_ok ha hb
  obtain ⟨b1, b2, b3⟩ := d2_ok hc hd
  obtain ⟨c1, c2, c3⟩ := d2_ok he hf
  obtain ⟨n1, n2⟩ := pre_d2 (r := b) ha (58 :: (D2 c d ++ 58 :: D2 e f))
  obtain ⟨p1, p2⟩ := hd_of (b := D2 c d ++ 58 :: D2 e f) (digs_ne a1 58 n58)
  have s1 := six_ok (r := 58 :: D2 e f) b1 b2 (by omega)
  have s2 := six_ok (r := []) c1 c2 (by omega)
  rw [List.append_nil] at s2
  obtain ⟨q1, q2⟩ := read_mk p1 p2 a1 (by omega) (by omega) s1 s2
  exact cl_mk n1 n2 ⟨q1, by rw [q2, a3, b3, c3]; omega⟩ (by omega)
theorem f5 (h2 : 10 * c + d < 60) (h3 : 10 * e + f < 60) : clV (D2 a b ++ 58 :: (D2 c d ++ 58 :: (D2 e f ++ [58, 48, 48]))) = 0 ∧ clE (D2 a b ++ 58 :: (D2 c d ++ 58 :: (D2 e f ++ [58, 48, 48]))) = 5 := by
  obtain ⟨a1, a2, a3⟩ := d2_ok ha hb
  obtain ⟨b1, b2, b3⟩ := d2_ok hc hd
  obtain ⟨c1, c2, c3⟩ := d2_ok he hf
  obtain ⟨n1, n2⟩ := pre_d2 (r := b) ha (58 :: (D2 c d ++ 58 :: (D2 e f ++ [58, 48, 48])))
  obtain ⟨p1, p2⟩ := hd_of (b := D2 c d ++ 58 :: (D2 e f ++ [58, 48, 48])) (digs_ne a1 58 n58)
  have s1 := six_ok (r := 58 :: (D2 e f ++ [58, 48, 48])) b1 b2 (by omega)
  have s2 := six_ok (r := [58, 48, 48]) c1 c2 (by omega)
  refine cl_bad n1 n2 ?_
  rw [readB, p1, p2, s1.2.2, s2.2.2]; simp
omit hc hd he hf
theorem f6 : clV (D2 a b ++ [58, 54, 48]) = 0 ∧ clE (D2 a b ++ [58, 54, 48]) = 5 := by
  obtain ⟨a1, a2, a3⟩ := d2_ok ha hb
  obtain ⟨n1, n2⟩ := pre_d2 (r := b) ha [58, 54, 48]
  obtain ⟨p1, p2⟩ := hd_of (b := [54, 48]) (digs_ne a1 58 n58)
  refine cl_bad n1 n2 ?_
  rw [readB, p1, p2, show sixB [58, 54, 48] = false by decide]; simp
theorem f9 : clV (43 :: D2 a b) = 0 ∧ clE (43 :: D2 a b) = 5 := by
  obtain ⟨a1, a2, a3⟩ := d2_ok ha hb
  obtain ⟨n1, n2⟩ := pre_no (c := 43) (r := D2 a b) (by decide)
  have hne : ∀ x ∈ 43 :: D2 a b, x ≠ 58 := by
    intro x hx
    rcases List.mem_cons.1 hx with rfl | h
    · decide
    · exact digs_ne a1 58 n58 x h
  obtain ⟨p1, p2⟩ := hd_all hne
  refine cl_bad n1 n2 ?_
  have : parseB (43 :: D2 a b) = false := parseB_at (k := 0) (by simp) (show isDig 43 = false by decide)
  rw [readB, p1, this]; simp
end
theorem f4 : clV [45] = 0 ∧ clE [45] = 0 := by decide +kernel
theorem f8 : clV [57, 55] = 0 ∧ clE [57, 55] = 5 := by decide +kernel
end Clk
end Go.Proofs.YtpcnpacllkiieaaGreatDoor
