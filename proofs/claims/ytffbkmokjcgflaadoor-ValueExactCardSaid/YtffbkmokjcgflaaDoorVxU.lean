/-
  The reference's small calls: Value, Digits, Right.
-/
import Derived.Test.YtffbkmokjcgflaaDoorVxM
import Derived.Test.YtffbkmokjcgflaaDoorBdU
import Derived.Test.YtffbkmokjcgflaaDoorBdS
import Derived.Test.YtffbkmokjcgflaaDoorCel
namespace Go.Proofs.YtffbkmokjcgflaaDoor
open Go.RowKit
namespace Val
open Sol Civ Wk Cel
theorem rval_v (X : ByteArray) (p : List UInt8) (v : Int) (w : World) (hX : X.data.toList = p) (h : Hid (parseB p = true ∧ digVal p = v)) :
    Calls Tryd.prog 27 #[.string X] w fun e w' => e = .returned (.int .i64 v) ∧ w = w' := by
  subst hX
  exact (RNum.rvalue_any X w (Lib.hid h.out.1)).mono fun _ _ ⟨he, hw⟩ => ⟨by rw [he, h.out.2], hw⟩
theorem rdig8 (X : ByteArray) (p : List UInt8) (r : Bool) (w : World) (hX : X.data.toList = p) (h : Hid (Clk.okP p 8 8 = r)) :
    Calls Tryd.prog 26 #[.string X, .int .i64 8, .int .i64 8] w fun e w' => e = .returned (.bool r) ∧ w = w' :=
  (Clk.rdig_any X p 8 8 w (by decide) (Lib.hid hX)).mono fun _ _ ⟨he, hw⟩ => ⟨by rw [he, h.out], hw⟩
theorem rdig6 (X : ByteArray) (p : List UInt8) (r : Bool) (w : World) (hX : X.data.toList = p) (h : Hid (Clk.okP p 6 6 = r)) :
    Calls Tryd.prog 26 #[.string X, .int .i64 6, .int .i64 6] w fun e w' => e = .returned (.bool r) ∧ w = w' :=
  (Clk.rdig_any X p 6 6 w (by decide) (Lib.hid hX)).mono fun _ _ ⟨he, hw⟩ => ⟨by rw [he, h.out], hw⟩
theorem rdig46 (X : ByteArray) (p : List UInt8) (r : Bool) (w : World) (hX : X.data.toList = p) (h : Hid (Clk.okP p 4 6 = r)) :
    Calls Tryd.prog 26 #[.string X, .int .i64 4, .int .i64 6] w fun e w' => e = .returned (.bool r) ∧ w = w' :=
  (Clk.rdig_any X p 4 6 w (by decide) (Lib.hid hX)).mono fun _ _ ⟨he, hw⟩ => ⟨by rw [he, h.out], hw⟩
theorem rright_v (y m d : Int) (b : Bool) (w : World) (d1 : -9223372036854775808 ≤ d) (d2 : d ≤ 9223372036854775807) (h : Hid (Cal.valid y m d = b)) :
    Calls Tryd.prog 28 #[.agg #[.int .i64 y, .int .i64 m, .int .i64 d]] w fun e w' => e = .returned (.bool b) ∧ Below w.heap.size w w' :=
  (Civ.right_any y m d w d1 d2).mono fun _ _ ⟨he, q, hw⟩ => ⟨by rw [he, h.out], by rw [hw]; exact below_drewN ((Below.refl _ _).alloc (Nat.le_refl _) _) _⟩
theorem fin_no {t c : Int} {u : Bool} (h : ((0 : Int), false, (19 : Int)) = (t, u, c)) : Ending.returned (.tuple #[.int .i64 0, .bool false, .bool false]) = .returned (.tuple #[.int .i64 t, .bool u, .bool (decide (c = 0))]) := by
  injection h with h1 h2
  injection h2 with h2 h3
  subst h1 h2 h3
  rfl
theorem fin_yes {t c v : Int} {u b : Bool} (h : (v, b, (0 : Int)) = (t, u, c)) : Ending.returned (.tuple #[.int .i64 v, .bool b, .bool true]) = .returned (.tuple #[.int .i64 t, .bool u, .bool (decide (c = 0))]) := by
  injection h with h1 h2
  injection h2 with h2 h3
  subst h1 h2 h3
  rfl
theorem digs {B : List UInt8} (hl : B.length = 15) (h8 : Clk.okP (B.take 8) 8 8 = true) (h6 : Clk.okP (B.drop 9) 6 6 = true) :
    parseB (B.take 4) = true ∧ parseB ((B.drop 4).take 2) = true ∧ parseB ((B.drop 6).take 2) = true ∧ parseB ((B.drop 9).take 2) = true ∧ parseB ((B.drop 11).take 2) = true ∧ parseB ((B.drop 13).take 2) = true := by
  obtain ⟨a0, a1, a2, a3, a4, a5, a6, a7, a8, a9, b0, b1, b2, b3, b4, rfl⟩ := len15 hl
  have e8 := (Clk.okP_iff.1 h8).2
  have e6 := (Clk.okP_iff.1 h6).2
  simp only [List.take_succ_cons, List.take_zero, List.drop_succ_cons, List.drop_zero, List.all_cons, List.all_nil, Bool.and_true, Bool.and_eq_true] at e8 e6
  obtain ⟨c0, c1, c2, c3, c4, c5, c6, c7⟩ := e8
  obtain ⟨d0, d1, d2, d3, d4, d5⟩ := e6
  refine ⟨?_, ?_, ?_, ?_, ?_, ?_⟩
  · show parseB [a0, a1, a2, a3] = true
    rw [pb_all (by simp) (by simp)]; simp [c0, c1, c2, c3]
  · show parseB [a4, a5] = true
    rw [pb_all (by simp) (by simp)]; simp [c4, c5]
  · show parseB [a6, a7] = true
    rw [pb_all (by simp) (by simp)]; simp [c6, c7]
  · show parseB [a9, b0] = true
    rw [pb_all (by simp) (by simp)]; simp [d0, d1]
  · show parseB [b1, b2] = true
    rw [pb_all (by simp) (by simp)]; simp [d2, d3]
  · show parseB [b3, b4] = true
    rw [pb_all (by simp) (by simp)]; simp [d4, d5]
theorem dv_bd {p : List UInt8} (h : parseB p = true) (hl : p.length ≤ 4) : 0 ≤ digVal p ∧ digVal p < 10000 := by
  have := pv_bd hl
  rw [parseV_yes h] at this
  exact this
end Val
end Go.Proofs.YtffbkmokjcgflaaDoor
