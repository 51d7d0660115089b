/-
  ClockForms: the law answers true at every four integers, in whatever world that holds the table of powers of ten.
-/
import Derived.Test.YtpkknhbhliapcaaDoorClk4
import Derived.Test.YtpkknhbhliapcaaDoorClkForms
import Derived.Deep.DeepCutAuto
import Derived.IntWalk
import Derived.Deep.CutBlock
namespace Go.Proofs.YtpkknhbhliapcaaDoor
open Go.RowKit
namespace Clk
open Sol
theorem two_at {q : Nat} (h : q < 10) : (⟨#[48, 49, 50, 51, 52, 53, 54, 55, 56, 57]⟩ : ByteArray).extract q (q + 1) = ⟨#[UInt8.ofNat (48 + q)]⟩ := by
  have : q = 0 ∨ q = 1 ∨ q = 2 ∨ q = 3 ∨ q = 4 ∨ q = 5 ∨ q = 6 ∨ q = 7 ∨ q = 8 ∨ q = 9 := by omega
  rcases this with h | h | h | h | h | h | h | h | h | h <;> subst h <;> rfl
theorem d2_str (a b : Nat) : (⟨#[48 + UInt8.ofNat a]⟩ ++ ⟨#[48 + UInt8.ofNat b]⟩ : ByteArray) = ⟨(D2 a b).toArray⟩ := by
  rw [D2, UInt8.ofNat_add, UInt8.ofNat_add]; rfl
theorem cparse_l (s : ByteArray) (L : List UInt8) (v c : Int) (w : World) (hl : L.length ≤ 100) (hL : s.data.toList = L) (h : Hid (clV L = v ∧ clE L = c)) :
    Calls Tryd.prog 36 #[.string s] w fun e w' => e = .returned (.tuple #[.int .i64 v, .int .i64 c]) ∧ ∃ n, w' = w.drewN n :=
  cparse_to s L v c w (by rw [Lib.size_eq, hL]; unfold maxLen; omega) (Lib.hid hL) h
theorem nat_of_u (x : Int) (k : Int) (hk : 0 < k) : ∃ n : Nat, (IntKind.u64.wrap x).tmod k = (n : Int) ∧ (n : Int) < k := by
  have h0 : 0 ≤ (IntKind.u64.wrap x).tmod k := Int.tmod_nonneg _ (by rw [IntKind.wrap_u64]; omega)
  have h1 := Int.tmod_lt_of_pos (IntKind.u64.wrap x) hk
  exact ⟨((IntKind.u64.wrap x).tmod k).toNat, by omega, by omega⟩

set_option maxRecDepth 100000 in
set_option maxHeartbeats 3200000 in
theorem cforms_any (h0 m0 x0 how : Int) (w : World) (hp : Pow w) :
    Calls Tryd.prog 8 #[.int .i64 h0, .int .i64 m0, .int .i64 x0, .int .i64 how] w fun e w' => e = .returned (.bool true) ∧ Below w.heap.size w w' := by
  have HP := Lib.hid hp
  clear hp
  obtain ⟨hn, eh, hh⟩ := nat_of_u h0 96 (by decide)
  obtain ⟨mn, em, hm⟩ := nat_of_u m0 60 (by decide)
  obtain ⟨xn, ex, hx⟩ := nat_of_u x0 60 (by decide)
  obtain ⟨kn, ek, hk⟩ := nat_of_u how 10 (by decide)
  obtain ⟨a, b, hEhn, ha, hb⟩ : ∃ i j : Nat, hn = 10 * i + j ∧ i < 10 ∧ j < 10 := ⟨hn / 10, hn % 10, by omega, by omega, by omega⟩
  obtain ⟨c, d, hEmn, hc, hd⟩ : ∃ i j : Nat, mn = 10 * i + j ∧ i < 10 ∧ j < 10 := ⟨mn / 10, mn % 10, by omega, by omega, by omega⟩
  obtain ⟨e, f, hExn, he, hf⟩ : ∃ i j : Nat, xn = 10 * i + j ∧ i < 10 ∧ j < 10 := ⟨xn / 10, xn % 10, by omega, by omega, by omega⟩
  have HEhn := Lib.hid hEhn
  clear hEhn
  have HEmn := Lib.hid hEmn
  clear hEmn
  have HExn := Lib.hid hExn
  clear hExn
  go_enter Tryd.func8, Tryd.ntmps8
  go_upto_region 3 with fail
  go_cut [10] (fun x wx => x = .string ⟨(D2 a b).toArray⟩ ∧ ∃ q : Nat, wx = w.drewN q)
  case first =>
    have e1 : (hn : Int) / 10 = (a : Int) := by have := HEhn.out; omega
    have e2 : (hn : Int) % 10 = (b : Int) := by have := HEhn.out; omega
    have w1 : IntKind.i64.wrap ((a : Int) + 1) = (a : Int) + 1 := IntWalk.i64_in _ (by omega)
    have w2 : IntKind.i64.wrap ((b : Int) + 1) = (b : Int) + 1 := IntWalk.i64_in _ (by omega)
    have t1 : ((a : Int) + 1).toNat = a + 1 := by omega
    have t2 : ((b : Int) + 1).toNat = b + 1 := by omega
    have k1 := two_at ha
    have k2 := two_at hb
    have p1 : 0 ≤ (a : Int) + 1 := by omega
    have p2 : 0 ≤ (b : Int) + 1 := by omega
    go_quiet (fail)
    go_wp2
    go_meet
    exact ⟨congrArg Value.string (d2_str _ _), _, rfl⟩
  case rest =>
    obtain ⟨rfl, q1, rfl⟩ := hcut
    go_upto_region 4 with fail
    go_cut [11] (fun x wx => x = .string ⟨(D2 c d).toArray⟩ ∧ ∃ q : Nat, wx = w.drewN q)
    case first =>
      have e1 : (mn : Int) / 10 = (c : Int) := by have := HEmn.out; omega
      have e2 : (mn : Int) % 10 = (d : Int) := by have := HEmn.out; omega
      have w1 : IntKind.i64.wrap ((c : Int) + 1) = (c : Int) + 1 := IntWalk.i64_in _ (by omega)
      have w2 : IntKind.i64.wrap ((d : Int) + 1) = (d : Int) + 1 := IntWalk.i64_in _ (by omega)
      have t1 : ((c : Int) + 1).toNat = c + 1 := by omega
      have t2 : ((d : Int) + 1).toNat = d + 1 := by omega
      have k1 := two_at hc
      have k2 := two_at hd
      have p1 : 0 ≤ (c : Int) + 1 := by omega
      have p2 : 0 ≤ (d : Int) + 1 := by omega
      go_quiet (fail)
      go_wp2
      go_meet
      exact ⟨congrArg Value.string (d2_str _ _), _, World.drewN_drewN _ _ _⟩
    case rest =>
      obtain ⟨rfl, q2, rfl⟩ := hcut
      go_upto_region 5 with fail
      go_cut [12] (fun x wx => x = .string ⟨(D2 e f).toArray⟩ ∧ ∃ q : Nat, wx = w.drewN q)
      case first =>
        have e1 : (xn : Int) / 10 = (e : Int) := by have := HExn.out; omega
        have e2 : (xn : Int) % 10 = (f : Int) := by have := HExn.out; omega
        have w1 : IntKind.i64.wrap ((e : Int) + 1) = (e : Int) + 1 := IntWalk.i64_in _ (by omega)
        have w2 : IntKind.i64.wrap ((f : Int) + 1) = (f : Int) + 1 := IntWalk.i64_in _ (by omega)
        have t1 : ((e : Int) + 1).toNat = e + 1 := by omega
        have t2 : ((f : Int) + 1).toNat = f + 1 := by omega
        have k1 := two_at he
        have k2 := two_at hf
        have p1 : 0 ≤ (e : Int) + 1 := by omega
        have p2 : 0 ≤ (f : Int) + 1 := by omega
        go_quiet (fail)
        go_wp2
        go_meet
        exact ⟨congrArg Value.string (d2_str _ _), _, World.drewN_drewN _ _ _⟩
      case rest =>
        obtain ⟨rfl, q3, rfl⟩ := hcut
        have l1 : (D2 a b).length ≤ 2 := Nat.le_refl _
        have l0 : 1 ≤ (D2 c d).length := show 1 ≤ 2 by omega
        have l2 : (D2 c d).length ≤ 2 := Nat.le_refl _
        have l3 : (D2 e f).length ≤ 2 := Nat.le_refl _
        have hkc : kn = 0 ∨ kn = 1 ∨ kn = 2 ∨ kn = 3 ∨ kn = 4 ∨ kn = 5 ∨ kn = 6 ∨ kn = 7 ∨ kn = 8 ∨ kn = 9 := by omega
        clear hk
        rcases hkc with rfl | rfl | rfl | rfl | rfl | rfl | rfl | rfl | rfl | rfl
        · have PK : Hid (clV (D2 a b) = 3600 * (hn : Int) ∧ clE (D2 a b) = 0) := Lib.hid (by
            have x1 := HEhn.out
            have x2 := HEmn.out
            have x3 := HExn.out
            have y := f0 ha hb (by omega)
            exact ⟨by rw [y.1]; try omega, y.2⟩)
          go_wp2_with fail
          refine (cparse_l _ (D2 a b) (3600 * (hn : Int)) 0 _ ?_ ?_ PK).mono ?_
          · simp [D2]
          · simp [D2]
          · rintro e' w1 ⟨rfl, q4, rfl⟩
            go_wp2_with fail
            refine (wakes4_any _ (HP.out.drewN _)).mono ?_
            rintro e' w2 ⟨rfl, hb9⟩
            go_wp2
            go_ret
            exact ⟨rfl, (below_drewN (Below.refl w.heap.size w) _).trans hb9⟩
        · have PK : Hid (clV (D2 a b ++ 58 :: D2 c d) = 3600 * (hn : Int) + 60 * (mn : Int) ∧ clE (D2 a b ++ 58 :: D2 c d) = 0) := Lib.hid (by
            have x1 := HEhn.out
            have x2 := HEmn.out
            have x3 := HExn.out
            have y := f1 ha hb hc hd (by omega) (by omega)
            exact ⟨by rw [y.1]; try omega, y.2⟩)
          go_wp2_with fail
          refine (cparse_l _ (D2 a b ++ 58 :: D2 c d) (3600 * (hn : Int) + 60 * (mn : Int)) 0 _ ?_ ?_ PK).mono ?_
          · simp [D2]
          · simp [D2]
          · rintro e' w1 ⟨rfl, q4, rfl⟩
            go_wp2_with fail
            refine (wakes4_any _ (HP.out.drewN _)).mono ?_
            rintro e' w2 ⟨rfl, hb9⟩
            go_wp2
            go_ret
            exact ⟨rfl, (below_drewN (Below.refl w.heap.size w) _).trans hb9⟩
        · have PK : Hid (clV (D2 a b ++ 58 :: (D2 c d ++ 58 :: D2 e f)) = 3600 * (hn : Int) + 60 * (mn : Int) + (xn : Int) ∧ clE (D2 a b ++ 58 :: (D2 c d ++ 58 :: D2 e f)) = 0) := Lib.hid (by
            have x1 := HEhn.out
            have x2 := HEmn.out
            have x3 := HExn.out
            have y := f2 ha hb hc hd he hf (by omega) (by omega) (by omega)
            exact ⟨by rw [y.1]; try omega, y.2⟩)
          go_wp2_with fail
          refine (cparse_l _ (D2 a b ++ 58 :: (D2 c d ++ 58 :: D2 e f)) (3600 * (hn : Int) + 60 * (mn : Int) + (xn : Int)) 0 _ ?_ ?_ PK).mono ?_
          · simp [D2]
          · simp [D2]
          · rintro e' w1 ⟨rfl, q4, rfl⟩
            go_wp2_with fail
            refine (wakes4_any _ (HP.out.drewN _)).mono ?_
            rintro e' w2 ⟨rfl, hb9⟩
            go_wp2
            go_ret
            exact ⟨rfl, (below_drewN (Below.refl w.heap.size w) _).trans hb9⟩
        · have PK : Hid (clV (45 :: (D2 a b ++ 58 :: D2 c d)) = -3600 * (hn : Int) - 60 * (mn : Int) ∧ clE (45 :: (D2 a b ++ 58 :: D2 c d)) = 0) := Lib.hid (by
            have x1 := HEhn.out
            have x2 := HEmn.out
            have x3 := HExn.out
            have y := f3 ha hb hc hd (by omega) (by omega)
            exact ⟨by rw [y.1]; try omega, y.2⟩)
          go_wp2_with fail
          refine (cparse_l _ (45 :: (D2 a b ++ 58 :: D2 c d)) (-3600 * (hn : Int) - 60 * (mn : Int)) 0 _ ?_ ?_ PK).mono ?_
          · simp [D2]
          · simp [D2]
          · rintro e' w1 ⟨rfl, q4, rfl⟩
            go_wp2_with fail
            refine (wakes4_any _ (HP.out.drewN _)).mono ?_
            rintro e' w2 ⟨rfl, hb9⟩
            go_wp2
            go_ret
            exact ⟨rfl, (below_drewN (Below.refl w.heap.size w) _).trans hb9⟩
        · have PK : Hid (clV ([45]) = 0 ∧ clE ([45]) = 0) := Lib.hid (by
            have x1 := HEhn.out
            have x2 := HEmn.out
            have x3 := HExn.out
            have y := f4
            exact ⟨by rw [y.1]; try omega, y.2⟩)
          go_wp2_with fail
          refine (cparse_l _ ([45]) (0) 0 _ ?_ ?_ PK).mono ?_
          · simp
          · simp
          · rintro e' w1 ⟨rfl, q4, rfl⟩
            go_wp2_with fail
            refine (wakes4_any _ (HP.out.drewN _)).mono ?_
            rintro e' w2 ⟨rfl, hb9⟩
            go_wp2
            go_ret
            exact ⟨rfl, (below_drewN (Below.refl w.heap.size w) _).trans hb9⟩
        · have PK : Hid (clV (D2 a b ++ 58 :: (D2 c d ++ 58 :: (D2 e f ++ [58, 48, 48]))) = 0 ∧ clE (D2 a b ++ 58 :: (D2 c d ++ 58 :: (D2 e f ++ [58, 48, 48]))) = 5) := Lib.hid (by
            have x1 := HEhn.out
            have x2 := HEmn.out
            have x3 := HExn.out
            have y := f5 ha hb hc hd he hf (by omega) (by omega)
            exact ⟨by rw [y.1]; try omega, y.2⟩)
          go_wp2_with fail
          refine (cparse_l _ (D2 a b ++ 58 :: (D2 c d ++ 58 :: (D2 e f ++ [58, 48, 48]))) (0) 5 _ ?_ ?_ PK).mono ?_
          · simp [D2]
          · simp [D2]
          · rintro e' w1 ⟨rfl, q4, rfl⟩
            go_wp2_with fail
            refine (wakes4_any _ (HP.out.drewN _)).mono ?_
            rintro e' w2 ⟨rfl, hb9⟩
            go_wp2
            go_ret
            exact ⟨rfl, (below_drewN (Below.refl w.heap.size w) _).trans hb9⟩
        · have PK : Hid (clV (D2 a b ++ [58, 54, 48]) = 0 ∧ clE (D2 a b ++ [58, 54, 48]) = 5) := Lib.hid (by
            have x1 := HEhn.out
            have x2 := HEmn.out
            have x3 := HExn.out
            have y := f6 ha hb
            exact ⟨by rw [y.1]; try omega, y.2⟩)
          go_wp2_with fail
          refine (cparse_l _ (D2 a b ++ [58, 54, 48]) (0) 5 _ ?_ ?_ PK).mono ?_
          · simp [D2]
          · simp [D2]
          · rintro e' w1 ⟨rfl, q4, rfl⟩
            go_wp2_with fail
            refine (wakes4_any _ (HP.out.drewN _)).mono ?_
            rintro e' w2 ⟨rfl, hb9⟩
            go_wp2
            go_ret
            exact ⟨rfl, (below_drewN (Below.refl w.heap.size w) _).trans hb9⟩
        · have PK : Hid (clV (D2 a b ++ 58 :: (D2 c d).drop 1) = 0 ∧ clE (D2 a b ++ 58 :: (D2 c d).drop 1) = 5) := Lib.hid (by
            have x1 := HEhn.out
            have x2 := HEmn.out
            have x3 := HExn.out
            have y := f7 (c := c) (d := d) ha hb
            exact ⟨by rw [y.1]; try omega, y.2⟩)
          go_wp2_with fail
          refine (cparse_l _ (D2 a b ++ 58 :: (D2 c d).drop 1) (0) 5 _ ?_ ?_ PK).mono ?_
          · simp [D2]
          · simp [D2]
          · rintro e' w1 ⟨rfl, q4, rfl⟩
            go_wp2_with fail
            refine (wakes4_any _ (HP.out.drewN _)).mono ?_
            rintro e' w2 ⟨rfl, hb9⟩
            go_wp2
            go_ret
            exact ⟨rfl, (below_drewN (Below.refl w.heap.size w) _).trans hb9⟩
        · have PK : Hid (clV ([57, 55]) = 0 ∧ clE ([57, 55]) = 5) := Lib.hid (by
            have x1 := HEhn.out
            have x2 := HEmn.out
            have x3 := HExn.out
            have y := f8
            exact ⟨by rw [y.1]; try omega, y.2⟩)
          go_wp2_with fail
          refine (cparse_l _ ([57, 55]) (0) 5 _ ?_ ?_ PK).mono ?_
          · simp
          · simp
          · rintro e' w1 ⟨rfl, q4, rfl⟩
            go_wp2_with fail
            refine (wakes4_any _ (HP.out.drewN _)).mono ?_
            rintro e' w2 ⟨rfl, hb9⟩
            go_wp2
            go_ret
            exact ⟨rfl, (below_drewN (Below.refl w.heap.size w) _).trans hb9⟩
        · have PK : Hid (clV (43 :: D2 a b) = 0 ∧ clE (43 :: D2 a b) = 5) := Lib.hid (by
            have x1 := HEhn.out
            have x2 := HEmn.out
            have x3 := HExn.out
            have y := f9 ha hb
            exact ⟨by rw [y.1]; try omega, y.2⟩)
          go_wp2_with fail
          refine (cparse_l _ (43 :: D2 a b) (0) 5 _ ?_ ?_ PK).mono ?_
          · simp [D2]
          · simp [D2]
          · rintro e' w1 ⟨rfl, q4, rfl⟩
            go_wp2_with fail
            refine (wakes4_any _ (HP.out.drewN _)).mono ?_
            rintro e' w2 ⟨rfl, hb9⟩
            go_wp2
            go_ret
            exact ⟨rfl, (below_drewN (Below.refl w.heap.size w) _).trans hb9⟩
end Clk
end Go.Proofs.YtpkknhbhliapcaaDoor
