/-
  recur.readPart, name by name. (Written by gen/gen_rcpe.py.)
-/
import Derived.Test.YtfdamkiocefgmaaDoorRcpD
namespace Go.Proofs.YtfdamkiocefgmaaDoor
open Go.RowKit
namespace Rcp
open Cel
open Spc
open Wrd (MaxL)
open Ap (RowI Grew)
open Civ (Ahead)
set_option maxHeartbeats 6400000 in
set_option maxRecDepth 100000 in
theorem rp4 (nm s : ByteArray) (S : List UInt8) (g : Nat) (v0 v1 v2 v3 v4 v5 v6 v7 v8 v9 v10 v11 v12 v13 v14 v15 : Value) (w : World) (C : Hid (Cs g w [v0, v1, v2, v3, v4, v5, v6, v7, v8, v9, v10, v11, v12, v13, v14, v15])) (hs : s.size ≤ 10000) (hS : Hid (s.data.toList = S)) (L : List Int) (b : Bool) (hM : MaxL w) (h : Hid (rlP rnP S = (L, b))) (e0 : (nm.toList == [102, 114, 101, 113]) = false) (e1 : (nm.toList == [105, 110, 116, 101, 114, 118, 97, 108]) = false) (e2 : (nm.toList == [99, 111, 117, 110, 116]) = false) (e3 : (nm.toList == [117, 110, 116, 105, 108]) = false) (e4 : (nm.toList == [98, 121, 109, 111, 110, 116, 104]) = true) :
    Calls Tryd.prog 22 #[.pointer (some ⟨g, 0, none⟩), .string nm, .string s] w fun e w' => ∃ w1 v B, e = .returned (.bool b) ∧ Hid (RowI B w1 v L) ∧ w.heap.size ≤ B ∧ Below w.heap.size w w1 ∧ w' = w1.setCell ⟨g, 13, none⟩ v := by
  go_enter Tryd.func22, Tryd.ntmps22
  go_wp2_with fail
  refine (rln_to s S L b _ hM (by omega) hS h).mono ?_
  rintro e w1 ⟨v, B, rfl, hv, hB, k1⟩
  have C1 := Lib.hid (C.out.below k1)
  have c13 := (C1.out.2 13 _ rfl).1
  have f13 := (C1.out.2 13 _ rfl).2
  obtain ⟨a, n, c, hve⟩ : ∃ a n c, v = .slice a n c := by
    rcases hv.out.2 with ⟨q, _⟩ | ⟨_, _, _, q, _⟩
    · exact ⟨_, _, _, q⟩
    · exact ⟨_, _, _, q⟩
  subst hve
  go_wp2
  go_ret
  exact ⟨w1, _, B, rfl, hv, hB, k1, rfl⟩
set_option maxHeartbeats 6400000 in
set_option maxRecDepth 100000 in
theorem rp5 (nm s : ByteArray) (S : List UInt8) (g : Nat) (v0 v1 v2 v3 v4 v5 v6 v7 v8 v9 v10 v11 v12 v13 v14 v15 : Value) (w : World) (C : Hid (Cs g w [v0, v1, v2, v3, v4, v5, v6, v7, v8, v9, v10, v11, v12, v13, v14, v15])) (hs : s.size ≤ 10000) (hS : Hid (s.data.toList = S)) (L : List Int) (b : Bool) (hM : MaxL w) (h : Hid (rlP rsP S = (L, b))) (e0 : (nm.toList == [102, 114, 101, 113]) = false) (e1 : (nm.toList == [105, 110, 116, 101, 114, 118, 97, 108]) = false) (e2 : (nm.toList == [99, 111, 117, 110, 116]) = false) (e3 : (nm.toList == [117, 110, 116, 105, 108]) = false) (e4 : (nm.toList == [98, 121, 109, 111, 110, 116, 104]) = false) (e5 : (nm.toList == [98, 121, 119, 101, 101, 107, 110, 111]) = true) :
    Calls Tryd.prog 22 #[.pointer (some ⟨g, 0, none⟩), .string nm, .string s] w fun e w' => ∃ w1 v B, e = .returned (.bool b) ∧ Hid (RowI B w1 v L) ∧ w.heap.size ≤ B ∧ Below w.heap.size w w1 ∧ w' = w1.setCell ⟨g, 12, none⟩ v := by
  go_enter Tryd.func22, Tryd.ntmps22
  go_wp2_with fail
  refine (rls_to s S L b _ hM (by omega) hS h).mono ?_
  rintro e w1 ⟨v, B, rfl, hv, hB, k1⟩
  have C1 := Lib.hid (C.out.below k1)
  have c12 := (C1.out.2 12 _ rfl).1
  have f12 := (C1.out.2 12 _ rfl).2
  obtain ⟨a, n, c, hve⟩ : ∃ a n c, v = .slice a n c := by
    rcases hv.out.2 with ⟨q, _⟩ | ⟨_, _, _, q, _⟩
    · exact ⟨_, _, _, q⟩
    · exact ⟨_, _, _, q⟩
  subst hve
  go_wp2
  go_ret
  exact ⟨w1, _, B, rfl, hv, hB, k1, rfl⟩
set_option maxHeartbeats 6400000 in
set_option maxRecDepth 100000 in
theorem rp6 (nm s : ByteArray) (S : List UInt8) (g : Nat) (v0 v1 v2 v3 v4 v5 v6 v7 v8 v9 v10 v11 v12 v13 v14 v15 : Value) (w : World) (C : Hid (Cs g w [v0, v1, v2, v3, v4, v5, v6, v7, v8, v9, v10, v11, v12, v13, v14, v15])) (hs : s.size ≤ 10000) (hS : Hid (s.data.toList = S)) (L : List Int) (b : Bool) (hM : MaxL w) (h : Hid (rlP rsP S = (L, b))) (e0 : (nm.toList == [102, 114, 101, 113]) = false) (e1 : (nm.toList == [105, 110, 116, 101, 114, 118, 97, 108]) = false) (e2 : (nm.toList == [99, 111, 117, 110, 116]) = false) (e3 : (nm.toList == [117, 110, 116, 105, 108]) = false) (e4 : (nm.toList == [98, 121, 109, 111, 110, 116, 104]) = false) (e5 : (nm.toList == [98, 121, 119, 101, 101, 107, 110, 111]) = false) (e6 : (nm.toList == [98, 121, 121, 101, 97, 114, 100, 97, 121]) = true) :
    Calls Tryd.prog 22 #[.pointer (some ⟨g, 0, none⟩), .string nm, .string s] w fun e w' => ∃ w1 v B, e = .returned (.bool b) ∧ Hid (RowI B w1 v L) ∧ w.heap.size ≤ B ∧ Below w.heap.size w w1 ∧ w' = w1.setCell ⟨g, 11, none⟩ v := by
  go_enter Tryd.func22, Tryd.ntmps22
  go_wp2_with fail
  refine (rls_to s S L b _ hM (by omega) hS h).mono ?_
  rintro e w1 ⟨v, B, rfl, hv, hB, k1⟩
  have C1 := Lib.hid (C.out.below k1)
  have c11 := (C1.out.2 11 _ rfl).1
  have f11 := (C1.out.2 11 _ rfl).2
  obtain ⟨a, n, c, hve⟩ : ∃ a n c, v = .slice a n c := by
    rcases hv.out.2 with ⟨q, _⟩ | ⟨_, _, _, q, _⟩
    · exact ⟨_, _, _, q⟩
    · exact ⟨_, _, _, q⟩
  subst hve
  go_wp2
  go_ret
  exact ⟨w1, _, B, rfl, hv, hB, k1, rfl⟩
set_option maxHeartbeats 6400000 in
set_option maxRecDepth 100000 in
theorem rp7 (nm s : ByteArray) (S : List UInt8) (g : Nat) (v0 v1 v2 v3 v4 v5 v6 v7 v8 v9 v10 v11 v12 v13 v14 v15 : Value) (w : World) (C : Hid (Cs g w [v0, v1, v2, v3, v4, v5, v6, v7, v8, v9, v10, v11, v12, v13, v14, v15])) (hs : s.size ≤ 10000) (hS : Hid (s.data.toList = S)) (L : List Int) (b : Bool) (hM : MaxL w) (h : Hid (rlP rsP S = (L, b))) (e0 : (nm.toList == [102, 114, 101, 113]) = false) (e1 : (nm.toList == [105, 110, 116, 101, 114, 118, 97, 108]) = false) (e2 : (nm.toList == [99, 111, 117, 110, 116]) = false) (e3 : (nm.toList == [117, 110, 116, 105, 108]) = false) (e4 : (nm.toList == [98, 121, 109, 111, 110, 116, 104]) = false) (e5 : (nm.toList == [98, 121, 119, 101, 101, 107, 110, 111]) = false) (e6 : (nm.toList == [98, 121, 121, 101, 97, 114, 100, 97, 121]) = false) (e7 : (nm.toList == [98, 121, 109, 111, 110, 116, 104, 100, 97, 121]) = true) :
    Calls Tryd.prog 22 #[.pointer (some ⟨g, 0, none⟩), .string nm, .string s] w fun e w' => ∃ w1 v B, e = .returned (.bool b) ∧ Hid (RowI B w1 v L) ∧ w.heap.size ≤ B ∧ Below w.heap.size w w1 ∧ w' = w1.setCell ⟨g, 10, none⟩ v := by
  go_enter Tryd.func22, Tryd.ntmps22
  go_wp2_with fail
  refine (rls_to s S L b _ hM (by omega) hS h).mono ?_
  rintro e w1 ⟨v, B, rfl, hv, hB, k1⟩
  have C1 := Lib.hid (C.out.below k1)
  have c10 := (C1.out.2 10 _ rfl).1
  have f10 := (C1.out.2 10 _ rfl).2
  obtain ⟨a, n, c, hve⟩ : ∃ a n c, v = .slice a n c := by
    rcases hv.out.2 with ⟨q, _⟩ | ⟨_, _, _, q, _⟩
    · exact ⟨_, _, _, q⟩
    · exact ⟨_, _, _, q⟩
  subst hve
  go_wp2
  go_ret
  exact ⟨w1, _, B, rfl, hv, hB, k1, rfl⟩
set_option maxHeartbeats 6400000 in
set_option maxRecDepth 100000 in
theorem rp8 (nm s : ByteArray) (S : List UInt8) (g : Nat) (v0 v1 v2 v3 v4 v5 v6 v7 v8 v9 v10 v11 v12 v13 v14 v15 : Value) (w : World) (C : Hid (Cs g w [v0, v1, v2, v3, v4, v5, v6, v7, v8, v9, v10, v11, v12, v13, v14, v15])) (hs : s.size ≤ 10000) (hS : Hid (s.data.toList = S)) (L : List (Int × Int)) (b : Bool) (hM : MaxL w) (hT : DayT w) (h : Hid (rlP rdP S = (L, b))) (e0 : (nm.toList == [102, 114, 101, 113]) = false) (e1 : (nm.toList == [105, 110, 116, 101, 114, 118, 97, 108]) = false) (e2 : (nm.toList == [99, 111, 117, 110, 116]) = false) (e3 : (nm.toList == [117, 110, 116, 105, 108]) = false) (e4 : (nm.toList == [98, 121, 109, 111, 110, 116, 104]) = false) (e5 : (nm.toList == [98, 121, 119, 101, 101, 107, 110, 111]) = false) (e6 : (nm.toList == [98, 121, 121, 101, 97, 114, 100, 97, 121]) = false) (e7 : (nm.toList == [98, 121, 109, 111, 110, 116, 104, 100, 97, 121]) = false) (e8 : (nm.toList == [98, 121, 100, 97, 121]) = true) :
    Calls Tryd.prog 22 #[.pointer (some ⟨g, 0, none⟩), .string nm, .string s] w fun e w' => ∃ w1 v B, e = .returned (.bool b) ∧ Hid (RowD B w1 v L) ∧ w.heap.size ≤ B ∧ Below w.heap.size w w1 ∧ w' = w1.setCell ⟨g, 9, none⟩ v := by
  go_enter Tryd.func22, Tryd.ntmps22
  go_wp2_with fail
  refine (rld_to s S L b _ hM hT (by omega) hS h).mono ?_
  rintro e w1 ⟨v, B, rfl, hv, hB, k1⟩
  have C1 := Lib.hid (C.out.below k1)
  have c9 := (C1.out.2 9 _ rfl).1
  have f9 := (C1.out.2 9 _ rfl).2
  obtain ⟨a, n, c, hve⟩ : ∃ a n c, v = .slice a n c := by
    rcases hv.out.2 with ⟨q, _⟩ | ⟨_, _, _, q, _⟩
    · exact ⟨_, _, _, q⟩
    · exact ⟨_, _, _, q⟩
  subst hve
  go_wp2
  go_ret
  exact ⟨w1, _, B, rfl, hv, hB, k1, rfl⟩
set_option maxHeartbeats 6400000 in
set_option maxRecDepth 100000 in
theorem rp9 (nm s : ByteArray) (S : List UInt8) (g : Nat) (v0 v1 v2 v3 v4 v5 v6 v7 v8 v9 v10 v11 v12 v13 v14 v15 : Value) (w : World) (C : Hid (Cs g w [v0, v1, v2, v3, v4, v5, v6, v7, v8, v9, v10, v11, v12, v13, v14, v15])) (hs : s.size ≤ 10000) (hS : Hid (s.data.toList = S)) (L : List Int) (b : Bool) (hM : MaxL w) (h : Hid (rlP rnP S = (L, b))) (e0 : (nm.toList == [102, 114, 101, 113]) = false) (e1 : (nm.toList == [105, 110, 116, 101, 114, 118, 97, 108]) = false) (e2 : (nm.toList == [99, 111, 117, 110, 116]) = false) (e3 : (nm.toList == [117, 110, 116, 105, 108]) = false) (e4 : (nm.toList == [98, 121, 109, 111, 110, 116, 104]) = false) (e5 : (nm.toList == [98, 121, 119, 101, 101, 107, 110, 111]) = false) (e6 : (nm.toList == [98, 121, 121, 101, 97, 114, 100, 97, 121]) = false) (e7 : (nm.toList == [98, 121, 109, 111, 110, 116, 104, 100, 97, 121]) = false) (e8 : (nm.toList == [98, 121, 100, 97, 121]) = false) (e9 : (nm.toList == [98, 121, 104, 111, 117, 114]) = true) :
    Calls Tryd.prog 22 #[.pointer (some ⟨g, 0, none⟩), .string nm, .string s] w fun e w' => ∃ w1 v B, e = .returned (.bool b) ∧ Hid (RowI B w1 v L) ∧ w.heap.size ≤ B ∧ Below w.heap.size w w1 ∧ w' = w1.setCell ⟨g, 8, none⟩ v := by
  go_enter Tryd.func22, Tryd.ntmps22
  go_wp2_with fail
  refine (rln_to s S L b _ hM (by omega) hS h).mono ?_
  rintro e w1 ⟨v, B, rfl, hv, hB, k1⟩
  have C1 := Lib.hid (C.out.below k1)
  have c8 := (C1.out.2 8 _ rfl).1
  have f8 := (C1.out.2 8 _ rfl).2
  obtain ⟨a, n, c, hve⟩ : ∃ a n c, v = .slice a n c := by
    rcases hv.out.2 with ⟨q, _⟩ | ⟨_, _, _, q, _⟩
    · exact ⟨_, _, _, q⟩
    · exact ⟨_, _, _, q⟩
  subst hve
  go_wp2
  go_ret
  exact ⟨w1, _, B, rfl, hv, hB, k1, rfl⟩
set_option maxHeartbeats 6400000 in
set_option maxRecDepth 100000 in
theorem rp10 (nm s : ByteArray) (S : List UInt8) (g : Nat) (v0 v1 v2 v3 v4 v5 v6 v7 v8 v9 v10 v11 v12 v13 v14 v15 : Value) (w : World) (C : Hid (Cs g w [v0, v1, v2, v3, v4, v5, v6, v7, v8, v9, v10, v11, v12, v13, v14, v15])) (hs : s.size ≤ 10000) (hS : Hid (s.data.toList = S)) (L : List Int) (b : Bool) (hM : MaxL w) (h : Hid (rlP rnP S = (L, b))) (e0 : (nm.toList == [102, 114, 101, 113]) = false) (e1 : (nm.toList == [105, 110, 116, 101, 114, 118, 97, 108]) = false) (e2 : (nm.toList == [99, 111, 117, 110, 116]) = false) (e3 : (nm.toList == [117, 110, 116, 105, 108]) = false) (e4 : (nm.toList == [98, 121, 109, 111, 110, 116, 104]) = false) (e5 : (nm.toList == [98, 121, 119, 101, 101, 107, 110, 111]) = false) (e6 : (nm.toList == [98, 121, 121, 101, 97, 114, 100, 97, 121]) = false) (e7 : (nm.toList == [98, 121, 109, 111, 110, 116, 104, 100, 97, 121]) = false) (e8 : (nm.toList == [98, 121, 100, 97, 121]) = false) (e9 : (nm.toList == [98, 121, 104, 111, 117, 114]) = false) (e10 : (nm.toList == [98, 121, 109, 105, 110, 117, 116, 101]) = true) :
    Calls Tryd.prog 22 #[.pointer (some ⟨g, 0, none⟩), .string nm, .string s] w fun e w' => ∃ w1 v B, e = .returned (.bool b) ∧ Hid (RowI B w1 v L) ∧ w.heap.size ≤ B ∧ Below w.heap.size w w1 ∧ w' = w1.setCell ⟨g, 7, none⟩ v := by
  go_enter Tryd.func22, Tryd.ntmps22
  go_wp2_with fail
  refine (rln_to s S L b _ hM (by omega) hS h).mono ?_
  rintro e w1 ⟨v, B, rfl, hv, hB, k1⟩
  have C1 := Lib.hid (C.out.below k1)
  have c7 := (C1.out.2 7 _ rfl).1
  have f7 := (C1.out.2 7 _ rfl).2
  obtain ⟨a, n, c, hve⟩ : ∃ a n c, v = .slice a n c := by
    rcases hv.out.2 with ⟨q, _⟩ | ⟨_, _, _, q, _⟩
    · exact ⟨_, _, _, q⟩
    · exact ⟨_, _, _, q⟩
  subst hve
  go_wp2
  go_ret
  exact ⟨w1, _, B, rfl, hv, hB, k1, rfl⟩
set_option maxHeartbeats 6400000 in
set_option maxRecDepth 100000 in
theorem rp11 (nm s : ByteArray) (S : List UInt8) (g : Nat) (v0 v1 v2 v3 v4 v5 v6 v7 v8 v9 v10 v11 v12 v13 v14 v15 : Value) (w : World) (C : Hid (Cs g w [v0, v1, v2, v3, v4, v5, v6, v7, v8, v9, v10, v11, v12, v13, v14, v15])) (hs : s.size ≤ 10000) (hS : Hid (s.data.toList = S)) (L : List Int) (b : Bool) (hM : MaxL w) (h : Hid (rlP rnP S = (L, b))) (e0 : (nm.toList == [102, 114, 101, 113]) = false) (e1 : (nm.toList == [105, 110, 116, 101, 114, 118, 97, 108]) = false) (e2 : (nm.toList == [99, 111, 117, 110, 116]) = false) (e3 : (nm.toList == [117, 110, 116, 105, 108]) = false) (e4 : (nm.toList == [98, 121, 109, 111, 110, 116, 104]) = false) (e5 : (nm.toList == [98, 121, 119, 101, 101, 107, 110, 111]) = false) (e6 : (nm.toList == [98, 121, 121, 101, 97, 114, 100, 97, 121]) = false) (e7 : (nm.toList == [98, 121, 109, 111, 110, 116, 104, 100, 97, 121]) = false) (e8 : (nm.toList == [98, 121, 100, 97, 121]) = false) (e9 : (nm.toList == [98, 121, 104, 111, 117, 114]) = false) (e10 : (nm.toList == [98, 121, 109, 105, 110, 117, 116, 101]) = false) (e11 : (nm.toList == [98, 121, 115, 101, 99, 111, 110, 100]) = true) :
    Calls Tryd.prog 22 #[.pointer (some ⟨g, 0, none⟩), .string nm, .string s] w fun e w' => ∃ w1 v B, e = .returned (.bool b) ∧ Hid (RowI B w1 v L) ∧ w.heap.size ≤ B ∧ Below w.heap.size w w1 ∧ w' = w1.setCell ⟨g, 6, none⟩ v := by
  go_enter Tryd.func22, Tryd.ntmps22
  go_wp2_with fail
  refine (rln_to s S L b _ hM (by omega) hS h).mono ?_
  rintro e w1 ⟨v, B, rfl, hv, hB, k1⟩
  have C1 := Lib.hid (C.out.below k1)
  have c6 := (C1.out.2 6 _ rfl).1
  have f6 := (C1.out.2 6 _ rfl).2
  obtain ⟨a, n, c, hve⟩ : ∃ a n c, v = .slice a n c := by
    rcases hv.out.2 with ⟨q, _⟩ | ⟨_, _, _, q, _⟩
    · exact ⟨_, _, _, q⟩
    · exact ⟨_, _, _, q⟩
  subst hve
  go_wp2
  go_ret
  exact ⟨w1, _, B, rfl, hv, hB, k1, rfl⟩
set_option maxHeartbeats 6400000 in
set_option maxRecDepth 100000 in
theorem rp12 (nm s : ByteArray) (S : List UInt8) (g : Nat) (v0 v1 v2 v3 v4 v5 v6 v7 v8 v9 v10 v11 v12 v13 v14 v15 : Value) (w : World) (C : Hid (Cs g w [v0, v1, v2, v3, v4, v5, v6, v7, v8, v9, v10, v11, v12, v13, v14, v15])) (hs : s.size ≤ 10000) (hS : Hid (s.data.toList = S)) (L : List Int) (b : Bool) (hM : MaxL w) (h : Hid (rlP rsP S = (L, b))) (e0 : (nm.toList == [102, 114, 101, 113]) = false) (e1 : (nm.toList == [105, 110, 116, 101, 114, 118, 97, 108]) = false) (e2 : (nm.toList == [99, 111, 117, 110, 116]) = false) (e3 : (nm.toList == [117, 110, 116, 105, 108]) = false) (e4 : (nm.toList == [98, 121, 109, 111, 110, 116, 104]) = false) (e5 : (nm.toList == [98, 121, 119, 101, 101, 107, 110, 111]) = false) (e6 : (nm.toList == [98, 121, 121, 101, 97, 114, 100, 97, 121]) = false) (e7 : (nm.toList == [98, 121, 109, 111, 110, 116, 104, 100, 97, 121]) = false) (e8 : (nm.toList == [98, 121, 100, 97, 121]) = false) (e9 : (nm.toList == [98, 121, 104, 111, 117, 114]) = false) (e10 : (nm.toList == [98, 121, 109, 105, 110, 117, 116, 101]) = false) (e11 : (nm.toList == [98, 121, 115, 101, 99, 111, 110, 100]) = false) (e12 : (nm.toList == [98, 121, 115, 101, 116, 112, 111, 115]) = true) :
    Calls Tryd.prog 22 #[.pointer (some ⟨g, 0, none⟩), .string nm, .string s] w fun e w' => ∃ w1 v B, e = .returned (.bool b) ∧ Hid (RowI B w1 v L) ∧ w.heap.size ≤ B ∧ Below w.heap.size w w1 ∧ w' = w1.setCell ⟨g, 14, none⟩ v := by
  go_enter Tryd.func22, Tryd.ntmps22
  go_wp2_with fail
  refine (rls_to s S L b _ hM (by omega) hS h).mono ?_
  rintro e w1 ⟨v, B, rfl, hv, hB, k1⟩
  have C1 := Lib.hid (C.out.below k1)
  have c14 := (C1.out.2 14 _ rfl).1
  have f14 := (C1.out.2 14 _ rfl).2
  obtain ⟨a, n, c, hve⟩ : ∃ a n c, v = .slice a n c := by
    rcases hv.out.2 with ⟨q, _⟩ | ⟨_, _, _, q, _⟩
    · exact ⟨_, _, _, q⟩
    · exact ⟨_, _, _, q⟩
  subst hve
  go_wp2
  go_ret
  exact ⟨w1, _, B, rfl, hv, hB, k1, rfl⟩
end Rcp
end Go.Proofs.YtfdamkiocefgmaaDoor
