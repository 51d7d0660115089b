/-
  recur.readNumber, recur.readSigned, recur.readDay.
-/
import Derived.Test.YtfdamkiocefgmaaDoorRcpA
import Derived.Test.YtfdamkiocefgmaaDoorBdC
import Derived.Test.YtfdamkiocefgmaaDoorVal3
namespace Go.Proofs.YtfdamkiocefgmaaDoor
open Go.RowKit
namespace Rcp
open Cel
def rnP (S : List UInt8) : Int × Bool := if S.length ≤ 6 then (Sol.parseV S, Sol.parseB S) else (0, false)
def rsX (S : List UInt8) : List UInt8 := if Lib.hasPrefix S [45] = true then Lib.trimPrefix S [45] else Lib.trimPrefix S [43]
def rsP (S : List UInt8) : Int × Bool := (if Lib.hasPrefix S [45] = true then -(rnP (rsX S)).1 else (rnP (rsX S)).1, (rnP (rsX S)).2)
def rdP (S : List UInt8) : (Int × Int) × Bool :=
  if S.length < 2 then ((0, 0), false)
  else if (rwP (S.drop (S.length - 2))).2 = false ∨ S.length = 2 then ((0, (rwP (S.drop (S.length - 2))).1), (rwP (S.drop (S.length - 2))).2)
  else (((rsP (S.take (S.length - 2))).1, (rwP (S.drop (S.length - 2))).1), (rsP (S.take (S.length - 2))).2 && decide ((rsP (S.take (S.length - 2))).1 ≠ 0))
theorem rn_bd (S : List UInt8) : 0 ≤ (rnP S).1 ∧ (rnP S).1 ≤ 999999 := by
  rw [rnP]
  split
  · rename_i h
    by_cases hp : Sol.parseB S = true
    · rw [Sol.parseV_yes hp]
      have hd : S.all Sol.isDig = true := by
        have := hp
        rw [Sol.parseB, Bool.and_eq_true] at this
        exact this.2
      have b := Sol.digVal_bd S hd
      refine ⟨b.1, ?_⟩
      show Sol.digVal S ≤ 999999
      have hv : S.length = 0 ∨ S.length = 1 ∨ S.length = 2 ∨ S.length = 3 ∨ S.length = 4 ∨ S.length = 5 ∨ S.length = 6 := by omega
      rcases hv with e | e | e | e | e | e | e
      all_goals
        rw [e] at b
        simp only [Int.reducePow] at b
        omega
    · rw [Sol.parseV_no (by simpa using hp)]
      exact ⟨by show (0 : Int) ≤ 0; decide, by show (0 : Int) ≤ 999999; decide⟩
  · exact ⟨by decide, by decide⟩
set_option maxHeartbeats 3200000 in
set_option maxRecDepth 100000 in
theorem rn_to (s : ByteArray) (S : List UInt8) (n : Int) (b : Bool) (w : World) (hs : s.size ≤ 1000000) (hS : Hid (s.data.toList = S)) (h : Hid (rnP S = (n, b))) :
    Calls Tryd.prog 38 #[.string s] w fun e w' => e = .returned (.tuple #[.int .i64 n, .bool b]) ∧ w = w' := by
  have hl : s.size = S.length := by rw [← hS.out]; simp
  have HP : Hid (s.size ≤ 6 → Sol.parseV s.data.toList = n ∧ Sol.parseB s.data.toList = b) := Lib.hid (fun q => by
    have e := h.out
    rw [rnP, if_pos (by omega)] at e
    rw [hS.out]; exact Prod.mk.inj e)
  have HN : Hid (6 < s.size → 0 = n ∧ false = b) := Lib.hid (fun q => by
    have e := h.out
    rw [rnP, if_neg (by omega)] at e
    exact Prod.mk.inj e)
  clear hl h hS
  by_cases c : 6 < s.size
  · obtain ⟨rfl, rfl⟩ := HN.out c
    go_enter Tryd.func38, Tryd.ntmps38
    go_wp2
    go_ret2
    exact ⟨rfl, rfl⟩
  · obtain ⟨h1, h2⟩ := HP.out (by omega)
    go_enter Tryd.func38, Tryd.ntmps38
    go_wp2_with fail
    refine (parse_any s _ (by unfold maxLen; omega)).mono ?_
    rintro e w1 ⟨rfl, rfl⟩
    rw [h1, h2]
    go_wp2
    go_ret2
    exact ⟨rfl, rfl⟩
set_option maxHeartbeats 3200000 in
set_option maxRecDepth 100000 in
theorem rs_to (s : ByteArray) (S : List UInt8) (n : Int) (b : Bool) (w : World) (hs : s.size ≤ 1000000) (hS : Hid (s.data.toList = S)) (h : Hid (rsP S = (n, b))) :
    Calls Tryd.prog 41 #[.string s] w fun e w' => e = .returned (.tuple #[.int .i64 n, .bool b]) ∧ w = w' := by
  have hl : s.size = S.length := by rw [← hS.out]; simp
  obtain ⟨m, c, hm⟩ : ∃ m c, rnP (rsX S) = (m, c) := ⟨_, _, rfl⟩
  have hb := rn_bd (rsX S)
  rw [hm] at hb
  have s1 : IntKind.i64.wrap (-m) = -m := IntWalk.i64_in _ (by simp at hb; omega)
  have HM := Lib.hid hm
  obtain ⟨X, hX⟩ : ∃ X, Lib.trimPrefix S [45] = X := ⟨_, rfl⟩
  obtain ⟨Y, hY⟩ : ∃ Y, Lib.trimPrefix S [43] = Y := ⟨_, rfl⟩
  obtain ⟨q, hq⟩ : ∃ q, Lib.hasPrefix S [45] = q := ⟨_, rfl⟩
  obtain ⟨q2, hq2⟩ : ∃ q, Lib.hasPrefix S [43] = q := ⟨_, rfl⟩
  have HX := Lib.hid (And.intro hX hq)
  have HY := Lib.hid (And.intro hY hq2)
  have HR : Hid ((if q = true then -m else m, c) = (n, b)) := Lib.hid (by have e := h.out; rw [rsP, hm, hq] at e; exact e)
  have HZ : Hid (rnP (if q = true then X else Y) = (m, c)) := Lib.hid (by rw [← hX, ← hY, ← hq]; exact hm)
  have hXl : X.length ≤ S.length := by rw [← hX]; unfold Lib.trimPrefix; split <;> simp
  have hYl : Y.length ≤ S.length := by rw [← hY]; unfold Lib.trimPrefix; split <;> simp
  have SX : Hid ((⟨X.toArray⟩ : ByteArray).size ≤ 1000000) := Lib.hid (by show X.toArray.size ≤ _; simp; omega)
  have SY : Hid ((⟨Y.toArray⟩ : ByteArray).size ≤ 1000000) := Lib.hid (by show Y.toArray.size ≤ _; simp; omega)
  clear hl h hm hb hX hY hq hq2 hXl hYl
  go_enter Tryd.func41, Tryd.ntmps41
  go_wp2_with fail
  refine (Val.cutpre_to s _ S [45] X q _ hS (Lib.hid rfl) HX).mono ?_
  rintro e w1 ⟨rfl, rfl⟩
  cases q with
  | true =>
    have hz : rnP X = (m, c) := by have e := HZ.out; rw [if_pos rfl] at e; exact e
    have HZ2 := Lib.hid hz
    have hr := HR.out
    rw [if_pos rfl] at hr
    obtain ⟨rfl, rfl⟩ := Prod.mk.inj hr
    clear hz hr HR HM
    go_wp2_with fail
    refine (rn_to _ X m c _ SX.out (Lib.hid rfl) HZ2).mono ?_
    rintro e w1 ⟨rfl, rfl⟩
    go_wp2
    go_ret2
    exact ⟨rfl, rfl⟩
  | false =>
    have hz : rnP Y = (m, c) := by have e := HZ.out; rw [if_neg (by decide)] at e; exact e
    have HZ2 := Lib.hid hz
    have hr := HR.out
    rw [if_neg (by decide)] at hr
    obtain ⟨rfl, rfl⟩ := Prod.mk.inj hr
    clear hz hr HR HM
    go_wp2_with fail
    refine (Val.cutpre_to s _ S [43] Y q2 _ hS (Lib.hid rfl) HY).mono ?_
    rintro e w1 ⟨rfl, rfl⟩
    go_wp2_with fail
    refine (rn_to _ Y m c _ SY.out (Lib.hid rfl) HZ2).mono ?_
    rintro e w1 ⟨rfl, rfl⟩
    go_wp2
    go_ret2
    exact ⟨rfl, rfl⟩
theorem res2 {P : Program} {fn : Func} {tmps : Array Value} {g : Nat} {W : World} {vs : List Value} {v : Value} (h : Cs g W vs) (k : ∀ W', Cs g W' vs → (results fn tmps).run P W' = .ok v W') : (results fn tmps).run P W = .ok v W := k W h
theorem two {g : Nat} {w : World} {v0 v1 : Value} (h : Cs g w [v0, v1]) (u0 u1 : Value) : Cs g ((w.setCell ⟨g, 0, none⟩ u0).setCell ⟨g, 1, none⟩ u1) [u0, u1] := (h.set 0 (by simp) u0).set 1 (by simp) u1
set_option maxHeartbeats 3200000 in
set_option maxRecDepth 100000 in
theorem rd_to (s : ByteArray) (S : List UInt8) (n k : Int) (b : Bool) (w : World) (hT : DayT w) (hs : s.size ≤ 1000000) (hS : Hid (s.data.toList = S)) (h : Hid (rdP S = ((n, k), b))) :
    Calls Tryd.prog 43 #[.string s] w fun e w' => e = .returned (.tuple #[.agg #[.int .i64 n, .int .i64 k], .bool b]) ∧ Below w.heap.size w w' := by
  have HT := Lib.hid hT
  have hl : s.size = S.length := by rw [← hS.out]; simp
  have hh := h.out
  rw [rdP] at hh
  clear h hT
  by_cases c : s.size < 2
  · rw [if_pos (by omega)] at hh
    obtain ⟨h1, rfl⟩ := Prod.mk.inj hh
    obtain ⟨rfl, rfl⟩ := Prod.mk.inj h1
    clear hh h1 hl
    go_enter Tryd.func43, Tryd.ntmps43
    go_wp2
    refine bodyPost_ret (v := .tuple #[.agg #[.int .i64 0, .int .i64 0], .bool false]) (by simp [results, Tryd.results43, go_sem]) rfl ⟨rfl, (Below.refl _ _).alloc (Nat.le_refl _) _⟩
  · rw [if_neg (by omega)] at hh
    obtain ⟨m, hm⟩ : ∃ m, s.size = m + 2 := ⟨s.size - 2, by omega⟩
    have s2 : IntKind.i64.wrap ((s.size : Int) - 2) = (m : Int) := by rw [IntWalk.i64_in _ (by omega)]; omega
    have s3 : (m : Int) ≤ (s.size : Int) := by omega
    have hm2 : S.length - 2 = m := by omega
    rw [hm2] at hh
    obtain ⟨k2, b2, hW⟩ : ∃ k2 b2, rwP (S.drop m) = (k2, b2) := ⟨_, _, rfl⟩
    obtain ⟨n2, c2, hR⟩ : ∃ n2 c2, rsP (S.take m) = (n2, c2) := ⟨_, _, rfl⟩
    rw [hW, hR] at hh
    have HW := Lib.hid hW
    have HR := Lib.hid hR
    have HH : Hid ((b2 = false ∨ m = 0 → (0 = n ∧ k2 = k) ∧ b2 = b) ∧ (¬ (b2 = false ∨ m = 0) → (n2 = n ∧ k2 = k) ∧ (c2 && decide (n2 ≠ 0)) = b)) := Lib.hid (by
      refine ⟨fun q => ?_, fun q => ?_⟩
      · rw [if_pos (q.imp id (fun z => by omega))] at hh
        have e := Prod.mk.inj hh
        exact ⟨Prod.mk.inj e.1, e.2⟩
      · rw [if_neg (fun z => q (z.imp id (fun z => by omega)))] at hh
        have e := Prod.mk.inj hh
        exact ⟨Prod.mk.inj e.1, e.2⟩)
    have E1 : Hid ((s.extract m s.size).data.toList = S.drop m ∧ (s.extract m s.size).size ≤ 1000000) := Lib.hid ⟨by rw [Lib.extract_data, List.take_of_length_le (by rw [List.length_drop]; simp), hS.out], by rw [ByteArray.size_extract]; omega⟩
    have E2 : Hid ((s.extract 0 m).data.toList = S.take m ∧ (s.extract 0 m).size ≤ 1000000) := Lib.hid ⟨by rw [Lib.extract_data, hS.out]; simp, by rw [ByteArray.size_extract]; omega⟩
    have HM := Lib.hid hm
    have p2 : ((s.size : Int) == 2) = decide (m = 0) := by
      by_cases z : m = 0
      · rw [decide_eq_true z, hm, z]; rfl
      · rw [decide_eq_false z]; exact beq_eq_false_iff_ne.2 (by omega)
    clear hW hR hh hl hm2 hm
    go_enter Tryd.func43, Tryd.ntmps43
    go_wp2_with fail
    refine (rw_to _ (S.drop m) k2 b2 _ (StrT.below HT.out ((Below.refl _ _).alloc (Nat.le_refl _) _)) E1.out.2 (Lib.hid E1.out.1) HW).mono ?_
    rintro e w2 ⟨rfl, q2⟩
    have D := Lib.hid ((Cs.new w [.int .i64 0, .int .i64 0] 37).below q2)
    have B := Lib.hid (bstep ((Below.refl w.heap.size w).alloc (Nat.le_refl _) (Obj.cells #[.int .i64 0, .int .i64 0] 37)) q2)
    clear q2
    have d0 := (D.out.2 0 _ rfl).1
    have d1 := (D.out.2 1 _ rfl).1
    have f0 := (D.out.2 0 _ rfl).2
    have f1 := (D.out.2 1 _ rfl).2
    cases b2 with
    | false =>
      obtain ⟨⟨rfl, rfl⟩, rfl⟩ := HH.out.1 (Or.inl rfl)
      clear HH
      go_wp2
      exact bodyPost_ret (v := .tuple #[.agg #[.int .i64 0, .int .i64 k2], .bool false]) (res2 (two D.out _ _) (fun W h => by have t0 := (h.2 0 _ rfl).1; have t1 := (h.2 1 _ rfl).1; simp [results, Tryd.results43, go_sem, t0, t1])) rfl ⟨rfl, (B.out.setCell (Nat.le_refl _) _).setCell (Nat.le_refl _) _⟩
    | true =>
      by_cases z : m = 0
      · obtain ⟨⟨rfl, rfl⟩, rfl⟩ := HH.out.1 (Or.inr z)
        rw [decide_eq_true z] at p2
        clear HH z
        go_wp2
        exact bodyPost_ret (v := .tuple #[.agg #[.int .i64 0, .int .i64 k2], .bool true]) (res2 (two D.out _ _) (fun W h => by have t0 := (h.2 0 _ rfl).1; have t1 := (h.2 1 _ rfl).1; simp [results, Tryd.results43, go_sem, t0, t1])) rfl ⟨rfl, (B.out.setCell (Nat.le_refl _) _).setCell (Nat.le_refl _) _⟩
      · obtain ⟨⟨rfl, rfl⟩, hb⟩ := HH.out.2 (by rintro (q | q); cases q; exact z q)
        have HB := Lib.hid hb
        rw [decide_eq_false z] at p2
        clear HH z hb
        go_wp2_with fail
        refine (rs_to _ (S.take m) n2 c2 _ E2.out.2 (Lib.hid E2.out.1) HR).mono ?_
        rintro e w3 ⟨rfl, rfl⟩
        cases c2 with
        | false =>
          have e : b = false := by rw [← HB.out]; rfl
          subst e
          clear HB
          go_wp2
          exact bodyPost_ret (v := .tuple #[.agg #[.int .i64 n2, .int .i64 k2], .bool false]) (res2 (two D.out _ _) (fun W h => by have t0 := (h.2 0 _ rfl).1; have t1 := (h.2 1 _ rfl).1; simp [results, Tryd.results43, go_sem, t0, t1])) rfl ⟨rfl, (B.out.setCell (Nat.le_refl _) _).setCell (Nat.le_refl _) _⟩
        | true =>
          have e : b = (n2 != 0) := by rw [← HB.out]; by_cases z : n2 = 0 <;> simp [z]
          subst e
          clear HB
          go_wp2
          exact bodyPost_ret (v := .tuple #[.agg #[.int .i64 n2, .int .i64 k2], .bool (n2 != 0)]) (res2 (two D.out _ _) (fun W h => by have t0 := (h.2 0 _ rfl).1; have t1 := (h.2 1 _ rfl).1; simp [results, Tryd.results43, go_sem, t0, t1])) rfl ⟨rfl, (B.out.setCell (Nat.le_refl _) _).setCell (Nat.le_refl _) _⟩
end Rcp
end Go.Proofs.YtfdamkiocefgmaaDoor
