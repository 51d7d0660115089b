/-
  recur.readPart, name by name. (Written by gen/gen_rcpe.py.)
-/
import Derived.Test.YtfdamkiocefgmaaDoorRcpD
import Derived.Test.YtfdamkiocefgmaaDoorVal2
namespace Go.Proofs.YtfdamkiocefgmaaDoor
open Go.RowKit
namespace Rcp
open Cel
open Spc
open Wrd (MaxL)
open Ap (RowI Grew)
open Civ (Ahead)
theorem rn_b (s : ByteArray) (S : List UInt8) (n : Int) (b : Bool) (w : World) (hs : s.size ≤ 1000000) (hS : Hid (s.data.toList = S)) (h : Hid (rnP S = (n, b))) :
    Calls Tryd.prog 38 #[.string s] w fun e w' => e = .returned (.tuple #[.int .i64 n, .bool b]) ∧ Below w.heap.size w w' :=
  (rn_to s S n b w hs hS h).mono fun _ _ ⟨h1, h2⟩ => ⟨h1, by rw [← h2]; exact Below.refl _ _⟩
set_option maxHeartbeats 6400000 in
set_option maxRecDepth 100000 in
theorem rp0 (nm s : ByteArray) (S : List UInt8) (g : Nat) (v0 v1 v2 v3 v4 v5 v6 v7 v8 v9 v10 v11 v12 v13 v14 v15 : Value) (w : World) (C : Hid (Cs g w [v0, v1, v2, v3, v4, v5, v6, v7, v8, v9, v10, v11, v12, v13, v14, v15])) (hs : s.size ≤ 10000) (hS : Hid (s.data.toList = S)) (n : Int) (b : Bool) (hT : FreqT w) (h : Hid (rfP S = (n, b))) (e0 : (nm.toList == [102, 114, 101, 113]) = true) :
    Calls Tryd.prog 22 #[.pointer (some ⟨g, 0, none⟩), .string nm, .string s] w fun e w' => ∃ w1, e = .returned (.bool b) ∧ Below w.heap.size w w1 ∧ w' = w1.setCell ⟨g, 0, none⟩ (.int .i64 n) := by
  go_enter Tryd.func22, Tryd.ntmps22
  go_wp2_with fail
  refine (rf_to s S n b _ hT (by omega) hS h).mono ?_
  rintro e w1 ⟨rfl, k1⟩
  have C1 := Lib.hid (C.out.below k1)
  have c0 := (C1.out.2 0 _ rfl).1
  have f0 := (C1.out.2 0 _ rfl).2
  go_wp2
  go_ret
  exact ⟨w1, rfl, k1, rfl⟩
set_option maxHeartbeats 6400000 in
set_option maxRecDepth 100000 in
theorem rp1 (nm s : ByteArray) (S : List UInt8) (g : Nat) (v0 v1 v2 v3 v4 v5 v6 v7 v8 v9 v10 v11 v12 v13 v14 v15 : Value) (w : World) (C : Hid (Cs g w [v0, v1, v2, v3, v4, v5, v6, v7, v8, v9, v10, v11, v12, v13, v14, v15])) (hs : s.size ≤ 10000) (hS : Hid (s.data.toList = S)) (n : Int) (b : Bool) (h : Hid (rnP S = (n, b))) (e0 : (nm.toList == [102, 114, 101, 113]) = false) (e1 : (nm.toList == [105, 110, 116, 101, 114, 118, 97, 108]) = true) :
    Calls Tryd.prog 22 #[.pointer (some ⟨g, 0, none⟩), .string nm, .string s] w fun e w' => ∃ w1, e = .returned (.bool b) ∧ Below w.heap.size w w1 ∧ w' = w1.setCell ⟨g, 1, none⟩ (.int .i64 n) := by
  go_enter Tryd.func22, Tryd.ntmps22
  go_wp2_with fail
  refine (rn_b s S n b _ (by omega) hS h).mono ?_
  rintro e w1 ⟨rfl, k1⟩
  have C1 := Lib.hid (C.out.below k1)
  have c1 := (C1.out.2 1 _ rfl).1
  have f1 := (C1.out.2 1 _ rfl).2
  go_wp2
  go_ret
  exact ⟨w1, rfl, k1, rfl⟩
set_option maxHeartbeats 6400000 in
set_option maxRecDepth 100000 in
theorem rp2 (nm s : ByteArray) (S : List UInt8) (g : Nat) (v0 v1 v2 v3 v4 v5 v6 v7 v8 v9 v10 v11 v12 v13 v14 v15 : Value) (w : World) (C : Hid (Cs g w [v0, v1, v2, v3, v4, v5, v6, v7, v8, v9, v10, v11, v12, v13, v14, v15])) (hs : s.size ≤ 10000) (hS : Hid (s.data.toList = S)) (n : Int) (c b : Bool) (h : Hid (rnP S = (n, c))) (hb : Hid ((c && decide (0 < n)) = b)) (e0 : (nm.toList == [102, 114, 101, 113]) = false) (e1 : (nm.toList == [105, 110, 116, 101, 114, 118, 97, 108]) = false) (e2 : (nm.toList == [99, 111, 117, 110, 116]) = true) :
    Calls Tryd.prog 22 #[.pointer (some ⟨g, 0, none⟩), .string nm, .string s] w fun e w' => ∃ w1, e = .returned (.bool b) ∧ Below w.heap.size w w1 ∧ w' = w1.setCell ⟨g, 2, none⟩ (.int .i64 n) := by
  go_enter Tryd.func22, Tryd.ntmps22
  go_wp2_with fail
  refine (rn_b s S n c _ (by omega) hS h).mono ?_
  rintro e w1 ⟨rfl, k1⟩
  have C1 := Lib.hid (C.out.below k1)
  have c2 := (C1.out.2 2 _ rfl).1
  have f2 := (C1.out.2 2 _ rfl).2
  cases c with
  | false =>
    have e : b = false := by rw [← hb.out]; rfl
    subst e
    go_wp2
    go_ret
    exact ⟨w1, rfl, k1, rfl⟩
  | true =>
    by_cases z : 0 < n
    · have e : b = true := by rw [← hb.out, decide_eq_true z]; rfl
      subst e
      go_wp2
      go_ret
      exact ⟨w1, rfl, k1, rfl⟩
    · have e : b = false := by rw [← hb.out, decide_eq_false z]; rfl
      have p : decide (0 < n) = false := decide_eq_false z
      subst e
      go_wp2
      go_ret
      exact ⟨w1, rfl, k1, rfl⟩
set_option maxHeartbeats 6400000 in
set_option maxRecDepth 100000 in
theorem rp3 (nm s : ByteArray) (S : List UInt8) (g : Nat) (v0 v1 v2 v3 v4 v5 v6 v7 v8 v9 v10 v11 v12 v13 v14 v15 : Value) (w : World) (C : Hid (Cs g w [v0, v1, v2, v3, v4, v5, v6, v7, v8, v9, v10, v11, v12, v13, v14, v15])) (hs : s.size ≤ 10000) (hS : Hid (s.data.toList = S)) (t c : Int) (u b : Bool) (hA : Ahead w) (h : Hid (Val.ptP S = (t, u, c))) (hb : Hid (decide (c = 0) = b)) (e0 : (nm.toList == [102, 114, 101, 113]) = false) (e1 : (nm.toList == [105, 110, 116, 101, 114, 118, 97, 108]) = false) (e2 : (nm.toList == [99, 111, 117, 110, 116]) = false) (e3 : (nm.toList == [117, 110, 116, 105, 108]) = true) :
    Calls Tryd.prog 22 #[.pointer (some ⟨g, 0, none⟩), .string nm, .string s] w fun e w' => ∃ w1, e = .returned (.bool b) ∧ Below w.heap.size w w1 ∧ w' = ((w1.setCell ⟨g, 4, none⟩ (.int .i64 t)).setCell ⟨g, 5, none⟩ (.bool u)).setCell ⟨g, 3, none⟩ (.bool true) := by
  go_enter Tryd.func22, Tryd.ntmps22
  go_wp2_with fail
  refine (Val.ptime_b s S t c u _ hA (by omega) hS h).mono ?_
  rintro e w1 ⟨rfl, k1⟩
  have C1 := Lib.hid (C.out.below k1)
  have c4 := (C1.out.2 4 _ rfl).1
  have f4 := (C1.out.2 4 _ rfl).2
  have c5 := (C1.out.2 5 _ rfl).1
  have f5 := (C1.out.2 5 _ rfl).2
  have c3 := (C1.out.2 3 _ rfl).1
  have f3 := (C1.out.2 3 _ rfl).2
  by_cases z : c = 0
  · have e : b = true := by rw [← hb.out, decide_eq_true z]
    subst e z
    go_wp2
    go_ret
    exact ⟨w1, rfl, k1, rfl⟩
  · have e : b = false := by rw [← hb.out, decide_eq_false z]
    have p : (c == 0) = false := beq_eq_false_iff_ne.2 z
    subst e
    go_wp2
    go_ret
    exact ⟨w1, rfl, k1, rfl⟩
set_option maxHeartbeats 6400000 in
set_option maxRecDepth 100000 in
theorem rp13 (nm s : ByteArray) (S : List UInt8) (g : Nat) (v0 v1 v2 v3 v4 v5 v6 v7 v8 v9 v10 v11 v12 v13 v14 v15 : Value) (w : World) (C : Hid (Cs g w [v0, v1, v2, v3, v4, v5, v6, v7, v8, v9, v10, v11, v12, v13, v14, v15])) (hs : s.size ≤ 10000) (hS : Hid (s.data.toList = S)) (n : Int) (b : Bool) (hT : DayT w) (h : Hid (rwP S = (n, b))) (e0 : (nm.toList == [102, 114, 101, 113]) = false) (e1 : (nm.toList == [105, 110, 116, 101, 114, 118, 97, 108]) = false) (e2 : (nm.toList == [99, 111, 117, 110, 116]) = false) (e3 : (nm.toList == [117, 110, 116, 105, 108]) = false) (e4 : (nm.toList == [98, 121, 109, 111, 110, 116, 104]) = false) (e5 : (nm.toList == [98, 121, 119, 101, 101, 107, 110, 111]) = false) (e6 : (nm.toList == [98, 121, 121, 101, 97, 114, 100, 97, 121]) = false) (e7 : (nm.toList == [98, 121, 109, 111, 110, 116, 104, 100, 97, 121]) = false) (e8 : (nm.toList == [98, 121, 100, 97, 121]) = false) (e9 : (nm.toList == [98, 121, 104, 111, 117, 114]) = false) (e10 : (nm.toList == [98, 121, 109, 105, 110, 117, 116, 101]) = false) (e11 : (nm.toList == [98, 121, 115, 101, 99, 111, 110, 100]) = false) (e12 : (nm.toList == [98, 121, 115, 101, 116, 112, 111, 115]) = false) (e13 : (nm.toList == [119, 107, 115, 116]) = true) :
    Calls Tryd.prog 22 #[.pointer (some ⟨g, 0, none⟩), .string nm, .string s] w fun e w' => ∃ w1, e = .returned (.bool b) ∧ Below w.heap.size w w1 ∧ w' = w1.setCell ⟨g, 15, none⟩ (.int .i64 n) := by
  go_enter Tryd.func22, Tryd.ntmps22
  go_wp2_with fail
  refine (rw_to s S n b _ hT (by omega) hS h).mono ?_
  rintro e w1 ⟨rfl, k1⟩
  have C1 := Lib.hid (C.out.below k1)
  have c15 := (C1.out.2 15 _ rfl).1
  have f15 := (C1.out.2 15 _ rfl).2
  go_wp2
  go_ret
  exact ⟨w1, rfl, k1, rfl⟩
set_option maxHeartbeats 6400000 in
set_option maxRecDepth 100000 in
theorem rp14 (nm s : ByteArray) (g : Nat) (w : World)  (e0 : (nm.toList == [102, 114, 101, 113]) = false) (e1 : (nm.toList == [105, 110, 116, 101, 114, 118, 97, 108]) = false) (e2 : (nm.toList == [99, 111, 117, 110, 116]) = false) (e3 : (nm.toList == [117, 110, 116, 105, 108]) = false) (e4 : (nm.toList == [98, 121, 109, 111, 110, 116, 104]) = false) (e5 : (nm.toList == [98, 121, 119, 101, 101, 107, 110, 111]) = false) (e6 : (nm.toList == [98, 121, 121, 101, 97, 114, 100, 97, 121]) = false) (e7 : (nm.toList == [98, 121, 109, 111, 110, 116, 104, 100, 97, 121]) = false) (e8 : (nm.toList == [98, 121, 100, 97, 121]) = false) (e9 : (nm.toList == [98, 121, 104, 111, 117, 114]) = false) (e10 : (nm.toList == [98, 121, 109, 105, 110, 117, 116, 101]) = false) (e11 : (nm.toList == [98, 121, 115, 101, 99, 111, 110, 100]) = false) (e12 : (nm.toList == [98, 121, 115, 101, 116, 112, 111, 115]) = false) (e13 : (nm.toList == [119, 107, 115, 116]) = false) :
    Calls Tryd.prog 22 #[.pointer (some ⟨g, 0, none⟩), .string nm, .string s] w fun e w' => e = .returned (.bool false) ∧ w = w' := by
  go_enter Tryd.func22, Tryd.ntmps22
  go_wp2
  go_ret
  exact ⟨rfl, rfl⟩
end Rcp
end Go.Proofs.YtfdamkiocefgmaaDoor
