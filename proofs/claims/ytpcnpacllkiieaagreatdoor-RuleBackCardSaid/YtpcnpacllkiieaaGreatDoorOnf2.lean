/-
  Contracts of package onform, second part: Parse, Text.
-/
import Derived.Test.YtpcnpacllkiieaaGreatDoorOnf
import Derived.Deep.DeepCutAuto
namespace Go.Proofs.YtpcnpacllkiieaaGreatDoor
open Go.RowKit
namespace Onf
open Sol Wrd
def onP (S : List UInt8) : Int × Int × Int × Int :=
  if dayB S = true then (1, 0, parseV S, 0)
  else if 4 < S.length ∧ smL (S.take 4) = [108, 97, 115, 116] then lastP (S.drop 4)
  else if (Lib.cut S [62, 61]).2.2 = true then besP 3 (Lib.cut S [62, 61]).1 (Lib.cut S [62, 61]).2.1
  else if (Lib.cut S [60, 61]).2.2 = true then besP 4 (Lib.cut S [60, 61]).1 (Lib.cut S [60, 61]).2.1
  else (0, 0, 0, 8)
/-- The result's cell of a call that has made it at g: noughts still. -/
def Noughts (g : Nat) (w : World) : Prop := g < w.heap.size ∧ w.cell? ⟨g, 0, none⟩ = some (.int .i64 0) ∧ w.cell? ⟨g, 1, none⟩ = some (.int .i64 0) ∧ w.cell? ⟨g, 2, none⟩ = some (.int .i64 0) ∧ w.frozen? ⟨g, 0, none⟩ = false ∧ w.frozen? ⟨g, 1, none⟩ = false ∧ w.frozen? ⟨g, 2, none⟩ = false
theorem Noughts.new (w : World) (t : TypeId) : Noughts w.heap.size (w.alloc (Obj.cells #[.int .i64 0, .int .i64 0, .int .i64 0] t)) := by
  refine ⟨by simp, ?_, ?_, ?_, ?_, ?_, ?_⟩ <;> go_simp
theorem Noughts.below {g : Nat} {w w' : World} (h : Noughts g w) (hb : Below w.heap.size w w') : Noughts g w' := by
  obtain ⟨a0, a1, a2, a3, a4, a5, a6⟩ := h
  have c := fun i => hb.cell (p := ⟨g, i, none⟩) a0
  have f := fun i => hb.frozen (p := ⟨g, i, none⟩) a0
  exact ⟨Nat.lt_of_lt_of_le a0 hb.size, (c 0).trans a1, (c 1).trans a2, (c 2).trans a3, (f 0).trans a4, (f 1).trans a5, (f 2).trans a6⟩
theorem cut_len (S P : List UInt8) : (Lib.cut S P).1.length ≤ S.length ∧ (Lib.cut S P).2.1.length ≤ S.length := by
  unfold Lib.cut
  split
  · exact ⟨by simp; omega, by simp⟩
  · exact ⟨Nat.le_refl _, by simp⟩
theorem sm_last : smL [108, 97, 115, 116] = [108, 97, 115, 116] := by decide
set_option maxHeartbeats 3200000 in
set_option maxRecDepth 100000 in
theorem oparse_to (s : ByteArray) (S : List UInt8) (a b c e : Int) (w : World) (hm : MaxL w) (hs : s.size ≤ 1000) (hS : Hid (s.data.toList = S)) (h : Hid (onP S = (a, b, c, e))) :
    Calls Tryz.prog 88 #[.string s] w fun x w' => x = .returned (.tuple #[.agg #[.int .i64 a, .int .i64 b, .int .i64 c], .int .i64 e]) ∧ Below w.heap.size w w' := by
  have HM := Lib.hid hm
  clear hm
  have hsl : S.length = s.size := by rw [← hS.out]; simp
  have HN := Lib.hid (Noughts.new w 23)
  obtain ⟨dv, hdv⟩ : ∃ v, parseV S = v := ⟨_, rfl⟩
  obtain ⟨db, hdb⟩ : ∃ v, dayB S = v := ⟨_, rfl⟩
  have HD := Lib.hid (And.intro hdv hdb)
  have HH := h.out
  rw [onP, hdv, hdb] at HH
  clear hdv hdb h
  cases db with
  | true =>
    have E : a = 1 ∧ b = 0 ∧ c = dv ∧ e = 0 := by simp at HH; omega
    obtain ⟨rfl, rfl, rfl, rfl⟩ := E
    clear HH hsl
    go_enter Tryz.func88, Tryz.ntmps88
    go_wp2_with fail
    refine (dayOf_to s S c true _ hs hS HD).mono ?_
    rintro e w1 ⟨rfl, rfl⟩
    go_wp2
    exact bodyPost_ret (v := .tuple #[.agg #[.int .i64 1, .int .i64 0, .int .i64 c], .int .i64 0]) (by simp [results, Tryz.results88, go_sem]) rfl ⟨rfl, by repeat (first | exact Below.refl _ _ | refine Below.setCell ?_ (by simp) _ | refine Below.alloc ?_ (by simp; try omega) _)⟩
  | false =>
    rw [if_neg (by decide)] at HH
    obtain ⟨lb, hlb⟩ : ∃ r, decide (4 < S.length ∧ smL (S.take 4) = [108, 97, 115, 116]) = r := ⟨_, rfl⟩
    have HLB := Lib.hid hlb
    have HX : Hid ((lb = true ∧ lastP (S.drop 4) = (a, b, c, e)) ∨ (lb = false ∧ (if (Lib.cut S [62, 61]).2.2 = true then besP 3 (Lib.cut S [62, 61]).1 (Lib.cut S [62, 61]).2.1 else if (Lib.cut S [60, 61]).2.2 = true then besP 4 (Lib.cut S [60, 61]).1 (Lib.cut S [60, 61]).2.1 else (0, 0, 0, 8)) = (a, b, c, e))) := Lib.hid (by
      cases lb with
      | true => exact Or.inl ⟨rfl, by rw [if_pos (of_decide_eq_true hlb)] at HH; exact HH⟩
      | false => exact Or.inr ⟨rfl, by rw [if_neg (of_decide_eq_false hlb)] at HH; exact HH⟩)
    clear HH hlb
    have HSL := Lib.hid hsl
    clear hsl
    go_enter Tryz.func88, Tryz.ntmps88
    go_wp2_with fail
    refine (dayOf_to s S dv false _ hs hS HD).mono ?_
    rintro x w1 ⟨rfl, rfl⟩
    go_upto_region 4 with fail
    go_cut [27] (fun x wx => x = .bool lb ∧ Hid (Below w.heap.size w wx) ∧ Hid (Noughts w.heap.size wx))
    case first =>
      by_cases h4 : 4 < s.size
      · have HR : Hid (decide ((S.take 4).length = 4 ∧ smL (S.take 4) = [108, 97, 115, 116]) = lb) := Lib.hid (by
          rw [← HLB.out]
          have : (S.take 4).length = 4 := by rw [List.length_take, HSL.out]; omega
          rw [this]
          have h4' : 4 < S.length := by rw [HSL.out]; exact h4
          simp [h4'])
        have hE : Hid ((s.extract 0 4).data.toList = S.take 4) := Lib.hid (by rw [Lib.extract_data, hS.out]; simp)
        have hz : (s.extract 0 4).size ≤ 1000 := by have : (s.extract 0 4).size = (S.take 4).length := by rw [← hE.out]; simp
                                                    rw [this, List.length_take]; omega
        have HZ := Lib.hid hz
        clear hz
        go_wp2_with fail
        refine (same_to _ _ (S.take 4) [108, 97, 115, 116] _ [108, 97, 115, 116] lb _ HZ.out (by decide) hE (Lib.hid rfl) (Lib.hid rfl) (Lib.hid sm_last) HR).mono ?_
        rintro x w1 ⟨rfl, hb⟩
        have hB1 := Lib.hid (((Below.refl w.heap.size w).alloc (Nat.le_refl _) (Obj.cells #[.int .i64 0, .int .i64 0, .int .i64 0] 23)).trans (hb.mono (by simp)))
        have HN1 := Lib.hid (HN.out.below hb)
        clear hb
        go_wp2
        go_meet
        exact ⟨rfl, hB1, HN1⟩
      · have HR : Hid (lb = false) := Lib.hid (by rw [← HLB.out]; exact decide_eq_false (fun x => by have := x.1; rw [HSL.out] at this; exact h4 this))
        have h4' : s.size ≤ 4 := by omega
        clear h4
        go_wp2
        go_meet
        exact ⟨congrArg Value.bool HR.out.symm, Lib.hid ((Below.refl _ _).alloc (Nat.le_refl _) _), HN⟩
    case rest =>
    obtain ⟨rfl, HB, HN1⟩ := hcut
    rename_i wc
    have hB1 := HB.out
    have hgz := HN1.out.1
    rcases HX.out with ⟨rfl, hx⟩ | ⟨rfl, hx⟩
    · have HL := Lib.hid hx
      clear hx HX
      have h4 : 4 < s.size := by have := (of_decide_eq_true HLB.out).1; rw [HSL.out] at this; exact this
      have hE : Hid ((s.extract 4 s.size).data.toList = S.drop 4) := Lib.hid (by rw [Lib.extract_to_end, hS.out])
      have HZ : Hid ((s.extract 4 s.size).size ≤ 1000) := Lib.hid (by
        have : (s.extract 4 s.size).size = (S.drop 4).length := by rw [← hE.out]; simp
        rw [this, List.length_drop, HSL.out]; omega)
      clear hB1
      go_wp2_with fail
      refine (lastOf_to _ (S.drop 4) a b c e _ HZ.out hE HL).mono ?_
      rintro x w2 ⟨rfl, hb⟩
      have hB1 : Below w.heap.size w w2 := HB.out.trans (hb.mono (by omega))
      obtain ⟨_, z0, z1, z2, f0, f1, f2⟩ := HN1.out.below hb
      clear hb
      go_wp2
      exact bodyPost_ret (v := .tuple #[.agg #[.int .i64 a, .int .i64 b, .int .i64 c], .int .i64 e]) (by simp [results, Tryz.results88, go_sem, z0, z1, z2]) rfl ⟨rfl, by repeat (first | exact hB1 | refine Below.setCell ?_ (by simp) _)⟩
    · clear HX hB1
      have hln := cut_len S [62, 61]
      have hln2 := cut_len S [60, 61]
      rw [HSL.out] at hln hln2
      obtain ⟨X, hX⟩ : ∃ X, (Lib.cut S [62, 61]).1 = X := ⟨_, rfl⟩
      obtain ⟨Y, hY⟩ : ∃ X, (Lib.cut S [62, 61]).2.1 = X := ⟨_, rfl⟩
      obtain ⟨b1, hb1⟩ : ∃ X, (Lib.cut S [62, 61]).2.2 = X := ⟨_, rfl⟩
      obtain ⟨X2, hX2⟩ : ∃ X, (Lib.cut S [60, 61]).1 = X := ⟨_, rfl⟩
      obtain ⟨Y2, hY2⟩ : ∃ X, (Lib.cut S [60, 61]).2.1 = X := ⟨_, rfl⟩
      obtain ⟨b2, hb2⟩ : ∃ X, (Lib.cut S [60, 61]).2.2 = X := ⟨_, rfl⟩
      rw [hX, hY] at hln
      rw [hX2, hY2] at hln2
      rw [hX, hY, hb1, hX2, hY2, hb2] at hx
      have HC1 : Hid (Lib.cut S [62, 61] = (X, Y, b1)) := Lib.hid (by rw [← hX, ← hY, ← hb1])
      have HC2 : Hid (Lib.cut S [60, 61] = (X2, Y2, b2)) := Lib.hid (by rw [← hX2, ← hY2, ← hb2])
      have HX := Lib.hid hx
      clear hX hY hb1 hX2 hY2 hb2 hx
      have l1 : (⟨X.toArray⟩ : ByteArray).size ≤ 1000 := by show X.length ≤ 1000; omega
      have l2 : (⟨Y.toArray⟩ : ByteArray).size ≤ 1000 := by show Y.length ≤ 1000; omega
      have l3 : (⟨X2.toArray⟩ : ByteArray).size ≤ 1000 := by show X2.length ≤ 1000; omega
      have l4 : (⟨Y2.toArray⟩ : ByteArray).size ≤ 1000 := by show Y2.length ≤ 1000; omega
      have L1 := Lib.hid l1
      have L2 := Lib.hid l2
      have L3 := Lib.hid l3
      have L4 := Lib.hid l4
      clear l1 l2 l3 l4 hln hln2
      cases b1 with
      | true =>
        have HB3 : Hid (besP 3 X Y = (a, b, c, e)) := Lib.hid HX.out
        go_wp2_with fail
        refine (cut_to s _ S [62, 61] X Y true _ (HM.out.stays HB.out) (by omega) hS (Lib.hid rfl) HC1).mono ?_
        rintro x w2 ⟨rfl, q, rfl⟩
        go_wp2_with fail
        refine (bes_to 3 _ _ X Y a b c e _ L1.out L2.out (Lib.hid rfl) (Lib.hid rfl) HB3).mono ?_
        rintro x w2 ⟨rfl, hb⟩
        have hB1 : Below w.heap.size w w2 := (below_drewN HB.out q).trans (hb.mono (by simp; omega))
        obtain ⟨_, z0, z1, z2, f0, f1, f2⟩ := (show Noughts w.heap.size (wc.drewN q) from HN1.out).below hb
        clear hb
        go_wp2
        exact bodyPost_ret (v := .tuple #[.agg #[.int .i64 a, .int .i64 b, .int .i64 c], .int .i64 e]) (by simp [results, Tryz.results88, go_sem, z0, z1, z2]) rfl ⟨rfl, by repeat (first | exact hB1 | refine Below.setCell ?_ (by simp) _)⟩
      | false =>
        go_wp2_with fail
        refine (cut_to s _ S [62, 61] X Y false _ (HM.out.stays HB.out) (by omega) hS (Lib.hid rfl) HC1).mono ?_
        rintro x w2 ⟨rfl, q, rfl⟩
        go_wp2_with fail
        refine (cut_to s _ S [60, 61] X2 Y2 b2 _ (HM.out.stays (below_drewN HB.out q)) (by omega) hS (Lib.hid rfl) HC2).mono ?_
        rintro x w2 ⟨rfl, q2, rfl⟩
        cases b2 with
        | true =>
          have HB3 : Hid (besP 4 X2 Y2 = (a, b, c, e)) := Lib.hid HX.out
          go_wp2_with fail
          refine (bes_to 4 _ _ X2 Y2 a b c e _ L3.out L4.out (Lib.hid rfl) (Lib.hid rfl) HB3).mono ?_
          rintro x w2 ⟨rfl, hb⟩
          have hB1 : Below w.heap.size w w2 := (below_drewN HB.out (q + q2)).trans (hb.mono (by simp; omega))
          obtain ⟨_, z0, z1, z2, f0, f1, f2⟩ := (show Noughts w.heap.size (wc.drewN (q + q2)) from HN1.out).below hb
          clear hb
          go_wp2
          exact bodyPost_ret (v := .tuple #[.agg #[.int .i64 a, .int .i64 b, .int .i64 c], .int .i64 e]) (by simp [results, Tryz.results88, go_sem, z0, z1, z2]) rfl ⟨rfl, by repeat (first | exact hB1 | refine Below.setCell ?_ (by simp) _)⟩
        | false =>
          have E : a = 0 ∧ b = 0 ∧ c = 0 ∧ e = 8 := by have := HX.out; simp at this; omega
          obtain ⟨rfl, rfl, rfl, rfl⟩ := E
          have hB1 : Below w.heap.size w (wc.drewN (q + q2)) := below_drewN HB.out (q + q2)
          obtain ⟨_, z0, z1, z2, f0, f1, f2⟩ := HN1.out
          go_wp2
          exact bodyPost_ret (v := .tuple #[.agg #[.int .i64 0, .int .i64 0, .int .i64 0], .int .i64 8]) (by simp [results, Tryz.results88, go_sem, z0, z1, z2]) rfl ⟨rfl, by repeat (first | exact hB1 | refine Below.setCell ?_ (by simp) _)⟩
/-- A form's text, and why none. -/
def onT (k v d : Int) : List UInt8 := if Wk.onOk k v d = true then (if k = 2 then [108, 97, 115, 116] ++ (nmT 3 v).take 3 else if k = 3 then (nmT 3 v).take 3 ++ [62, 61] ++ textL d 0 else if k = 4 then (nmT 3 v).take 3 ++ [60, 61] ++ textL d 0 else textL d 0) else []
theorem nm_len : ∀ v : Nat, v < 7 → 3 ≤ (nmT 3 (v : Int)).length ∧ (nmT 3 (v : Int)).length ≤ 9 ∧ nmE 3 (v : Int) = 0 := by decide +kernel
theorem nm_len' {v : Int} (h : 0 ≤ v ∧ v ≤ 6) : 3 ≤ (nmT 3 v).length ∧ (nmT 3 v).length ≤ 9 ∧ nmE 3 v = 0 := by
  have := nm_len v.toNat (by omega)
  rwa [Int.toNat_of_nonneg h.1] at this
set_option maxHeartbeats 3200000 in
set_option maxRecDepth 100000 in
theorem otext_to (k v d c : Int) (T : List UInt8) (w : World) (hp : Pow w) (h : Hid (onT k v d = T ∧ Wk.chE k v d = c)) :
    Calls Tryz.prog 43 #[.agg #[.int .i64 k, .int .i64 v, .int .i64 d]] w fun x w' => x = .returned (.tuple #[.string ⟨T.toArray⟩, .int .i64 c]) ∧ Below w.heap.size w w' := by
  have HP := Lib.hid hp
  clear hp
  cases ho : Wk.onOk k v d with
  | false =>
    have HC : Hid (Wk.chE k v d = c) := Lib.hid h.out.2
    have E : T = [] ∧ c = 8 := ⟨by rw [← h.out.1, onT, ho]; rfl, by rw [← h.out.2]; exact Wk.chE_no ho⟩
    obtain ⟨rfl, rfl⟩ := E
    clear h ho
    go_enter Tryz.func43, Tryz.ntmps43
    go_wp2_with fail
    refine (Wk.check_at _ _ _ _ _ HC).mono ?_
    rintro e w1 ⟨rfl, rfl⟩
    go_wp2
    go_ret2
    exact ⟨rfl, by repeat (first | exact Below.refl _ _ | refine Below.alloc ?_ (by simp; try omega) _)⟩
  | true =>
    have HC : Hid (Wk.chE k v d = c) := Lib.hid h.out.2
    have E : c = 0 := by rw [← h.out.2]; exact Wk.chE_yes ho
    subst E
    obtain ⟨hv, hk, hd⟩ := Wk.onOk_v ho
    have HT : Hid (T = if k = 2 then [108, 97, 115, 116] ++ (nmT 3 v).take 3 else if k = 3 then (nmT 3 v).take 3 ++ [62, 61] ++ textL d 0 else if k = 4 then (nmT 3 v).take 3 ++ [60, 61] ++ textL d 0 else textL d 0) := Lib.hid (by rw [← h.out.1, onT, if_pos ho])
    obtain ⟨n1, n2, n3⟩ := nm_len' hv
    obtain ⟨N, hN⟩ : ∃ N, nmT 3 v = N := ⟨_, rfl⟩
    obtain ⟨D, hD⟩ : ∃ N, textL d 0 = N := ⟨_, rfl⟩
    have hDl : D.length ≤ 2 := by rw [← hD, textL, if_neg (by omega), if_pos (by decide), show (0 : Int).toNat = 0 from rfl]; have := decDigits_len (k := 1) (u := d.toNat) (by omega); simp [padL]; omega
    rw [hN, hD] at HT
    rw [hN] at n1 n2
    have HN := Lib.hid (And.intro hN n3)
    have HD := Lib.hid hD
    clear h ho hN hD n3
    have h4 : k = 1 ∨ k = 2 ∨ k = 3 ∨ k = 4 := by omega
    have s1 : 3 ≤ (⟨N.toArray⟩ : ByteArray).size := n1
    have s2 : (⟨N.toArray⟩ : ByteArray).size ≤ 9 := n2
    have s3 : (⟨D.toArray⟩ : ByteArray).size ≤ 2 := hDl
    rcases h4 with rfl | rfl | rfl | rfl
    · go_enter Tryz.func43, Tryz.ntmps43
      go_wp2_with fail
      refine (Wk.check_at _ _ _ _ _ HC).mono ?_
      rintro e w1 ⟨rfl, rfl⟩
      go_wp2_with fail
      refine (text_at d 0 D _ (by omega) (by omega) (by omega) (by omega) (HP.out.stays (by repeat (first | exact Below.refl _ _ | refine Below.alloc ?_ (by simp; try omega) _))) HD).mono ?_
      rintro e w1 ⟨rfl, hb1⟩
      have hz1 := hb1.size
      simp at hz1
      have z0 : w1.cell? ⟨w.heap.size, 0, none⟩ = some (.int .i64 1) := (hb1.cell (p := ⟨w.heap.size, 0, none⟩) (by simp; omega)).trans (by go_simp)
      have z1 : w1.cell? ⟨w.heap.size, 1, none⟩ = some (.int .i64 v) := (hb1.cell (p := ⟨w.heap.size, 1, none⟩) (by simp; omega)).trans (by go_simp)
      have hB1 : Below w.heap.size w w1 := Below.trans (by repeat (first | exact Below.refl _ _ | refine Below.alloc ?_ (by simp; try omega) _)) (hb1.mono (by simp; omega))
      clear hb1
      go_wp2_with fail
      refine (name_to 3 v N 0 _ (by omega) HN).mono ?_
      rintro e w2 ⟨rfl, hb2⟩
      have y0 : w2.cell? ⟨w.heap.size, 0, none⟩ = some (.int .i64 1) := (hb2.cell (p := ⟨w.heap.size, 0, none⟩) (by show w.heap.size < _; omega)).trans z0
      have hB2 : Below w.heap.size w w2 := hB1.trans (hb2.mono (by omega))
      clear hb2 z0 z1 hB1
      go_wp2
      go_ret2
      exact ⟨ret_si' (bytes_eq (by rw [HT.out]; simp)) rfl, hB2⟩
    · go_enter Tryz.func43, Tryz.ntmps43
      go_wp2_with fail
      refine (Wk.check_at _ _ _ _ _ HC).mono ?_
      rintro e w1 ⟨rfl, rfl⟩
      go_wp2_with fail
      refine (text_at d 0 D _ (by omega) (by omega) (by omega) (by omega) (HP.out.stays (by repeat (first | exact Below.refl _ _ | refine Below.alloc ?_ (by simp; try omega) _))) HD).mono ?_
      rintro e w1 ⟨rfl, hb1⟩
      have hz1 := hb1.size
      simp at hz1
      have z0 : w1.cell? ⟨w.heap.size, 0, none⟩ = some (.int .i64 2) := (hb1.cell (p := ⟨w.heap.size, 0, none⟩) (by simp; omega)).trans (by go_simp)
      have z1 : w1.cell? ⟨w.heap.size, 1, none⟩ = some (.int .i64 v) := (hb1.cell (p := ⟨w.heap.size, 1, none⟩) (by simp; omega)).trans (by go_simp)
      have hB1 : Below w.heap.size w w1 := Below.trans (by repeat (first | exact Below.refl _ _ | refine Below.alloc ?_ (by simp; try omega) _)) (hb1.mono (by simp; omega))
      clear hb1
      go_wp2_with fail
      refine (name_to 3 v N 0 _ (by omega) HN).mono ?_
      rintro e w2 ⟨rfl, hb2⟩
      have y0 : w2.cell? ⟨w.heap.size, 0, none⟩ = some (.int .i64 2) := (hb2.cell (p := ⟨w.heap.size, 0, none⟩) (by show w.heap.size < _; omega)).trans z0
      have hB2 : Below w.heap.size w w2 := hB1.trans (hb2.mono (by omega))
      clear hb2 z0 z1 hB1
      go_wp2
      go_ret2
      exact ⟨ret_si' (bytes_eq (by rw [HT.out]; simp)) rfl, hB2⟩
    · go_enter Tryz.func43, Tryz.ntmps43
      go_wp2_with fail
      refine (Wk.check_at _ _ _ _ _ HC).mono ?_
      rintro e w1 ⟨rfl, rfl⟩
      go_wp2_with fail
      refine (text_at d 0 D _ (by omega) (by omega) (by omega) (by omega) (HP.out.stays (by repeat (first | exact Below.refl _ _ | refine Below.alloc ?_ (by simp; try omega) _))) HD).mono ?_
      rintro e w1 ⟨rfl, hb1⟩
      have hz1 := hb1.size
      simp at hz1
      have z0 : w1.cell? ⟨w.heap.size, 0, none⟩ = some (.int .i64 3) := (hb1.cell (p := ⟨w.heap.size, 0, none⟩) (by simp; omega)).trans (by go_simp)
      have z1 : w1.cell? ⟨w.heap.size, 1, none⟩ = some (.int .i64 v) := (hb1.cell (p := ⟨w.heap.size, 1, none⟩) (by simp; omega)).trans (by go_simp)
      have hB1 : Below w.heap.size w w1 := Below.trans (by repeat (first | exact Below.refl _ _ | refine Below.alloc ?_ (by simp; try omega) _)) (hb1.mono (by simp; omega))
      clear hb1
      go_wp2_with fail
      refine (name_to 3 v N 0 _ (by omega) HN).mono ?_
      rintro e w2 ⟨rfl, hb2⟩
      have y0 : w2.cell? ⟨w.heap.size, 0, none⟩ = some (.int .i64 3) := (hb2.cell (p := ⟨w.heap.size, 0, none⟩) (by show w.heap.size < _; omega)).trans z0
      have hB2 : Below w.heap.size w w2 := hB1.trans (hb2.mono (by omega))
      clear hb2 z0 z1 hB1
      go_wp2
      go_ret2
      exact ⟨ret_si' (bytes_eq (by rw [HT.out]; simp)) rfl, hB2⟩
    · go_enter Tryz.func43, Tryz.ntmps43
      go_wp2_with fail
      refine (Wk.check_at _ _ _ _ _ HC).mono ?_
      rintro e w1 ⟨rfl, rfl⟩
      go_wp2_with fail
      refine (text_at d 0 D _ (by omega) (by omega) (by omega) (by omega) (HP.out.stays (by repeat (first | exact Below.refl _ _ | refine Below.alloc ?_ (by simp; try omega) _))) HD).mono ?_
      rintro e w1 ⟨rfl, hb1⟩
      have hz1 := hb1.size
      simp at hz1
      have z0 : w1.cell? ⟨w.heap.size, 0, none⟩ = some (.int .i64 4) := (hb1.cell (p := ⟨w.heap.size, 0, none⟩) (by simp; omega)).trans (by go_simp)
      have z1 : w1.cell? ⟨w.heap.size, 1, none⟩ = some (.int .i64 v) := (hb1.cell (p := ⟨w.heap.size, 1, none⟩) (by simp; omega)).trans (by go_simp)
      have hB1 : Below w.heap.size w w1 := Below.trans (by repeat (first | exact Below.refl _ _ | refine Below.alloc ?_ (by simp; try omega) _)) (hb1.mono (by simp; omega))
      clear hb1
      go_wp2_with fail
      refine (name_to 3 v N 0 _ (by omega) HN).mono ?_
      rintro e w2 ⟨rfl, hb2⟩
      have y0 : w2.cell? ⟨w.heap.size, 0, none⟩ = some (.int .i64 4) := (hb2.cell (p := ⟨w.heap.size, 0, none⟩) (by show w.heap.size < _; omega)).trans z0
      have hB2 : Below w.heap.size w w2 := hB1.trans (hb2.mono (by omega))
      clear hb2 z0 z1 hB1
      go_wp2
      go_ret2
      exact ⟨ret_si' (bytes_eq (by rw [HT.out]; simp)) rfl, hB2⟩
end Onf
end Go.Proofs.YtpcnpacllkiieaaGreatDoor
