/-
  Contract of the reference's OnText.
-/
import Derived.Test.YtopmcelfmkeamaaGreatDoorRefOn
namespace Go.Proofs.YtopmcelfmkeamaaGreatDoor
open Go.RowKit
attribute [local go_sem ↓] Go.wp_at_zero Go.wp_at_succ
namespace Onf
open Sol Wrd Clk Wk
theorem ret_s {s s' : ByteArray} (k : s = s') : Ending.returned (.string s) = .returned (.string s') := by rw [k]
theorem rtx_to (n d : Int) (T : List UInt8) (w : World) (hn : 0 ≤ n ∧ n ≤ 1000) (hd : 0 ≤ d ∧ d ≤ 20) (h : Hid (textL n d = T)) :
    Calls Tryz.prog 60 #[.int .i64 n, .int .i64 d] w fun e w' => e = .returned (.string ⟨T.toArray⟩) ∧ Below w.heap.size w w' :=
  (RNum.rtext_any n d w (by omega) (by omega) (by omega) (by omega)).mono fun _ _ ⟨he, hw⟩ => ⟨by rw [he, h.out], hw⟩
theorem acell2 {W w1 : World} (hb : Below W.heap.size W w1) : ∀ b o, b < W.heap.size → w1.cell? ⟨b, o, none⟩ = W.cell? ⟨b, o, none⟩ := fun b o h => hb.cell (p := ⟨b, o, none⟩) h
/-- The weekdays' row, and the V-th of it. -/
def Wd3 (V : Nat) (N : List UInt8) (w : World) (e : Ending) (w' : World) : Prop := ∃ g, e = .returned (.slice (some ⟨g, 0, none⟩) 7 7) ∧ Below w.heap.size w w' ∧ g < w'.heap.size ∧ w'.cell? ⟨g, V, none⟩ = some (.string ⟨N.toArray⟩)
theorem rwd3_to (V : Nat) (hV : V < 7) (N : List UInt8) (w : World) (hN : Hid (nmT 3 V = N)) :
    Calls Tryz.prog 61 #[.int .i64 3] w (Wd3 V N w) :=
  (rwordsg_to 3 7 wds3 w (Lib.hid (WK_of (by omega)).1) (by omega)).mono fun _ _ ⟨g, he, hb, _, hg, hc⟩ => by
    refine ⟨g, he, hb, hg, ?_⟩
    have e : wds3[V]'hV = N := by
      rw [← hN.out, nmT, show fstV 3 = 0 from rfl, if_pos (by constructor; omega; show (V : Int) - 0 < 7; omega), Int.sub_zero, Int.toNat_natCast, show wds 3 = wds3 from rfl, List.getElem?_eq_getElem hV]; rfl
    rw [← e]
    exact hc.out V hV
set_option maxHeartbeats 3200000 in
set_option maxRecDepth 100000 in
theorem rontext_1 (v d : Int) (T : List UInt8) (w : World) (hv : 0 ≤ v ∧ v ≤ 6) (hd : 0 ≤ d ∧ d ≤ 31) (HT : Hid (T = textL d 0)) :
    Calls Tryz.prog 62 #[.agg #[.int .i64 1, .int .i64 v, .int .i64 d]] w fun x w' => x = .returned (.string ⟨T.toArray⟩) ∧ Below w.heap.size w w' := by
  obtain ⟨n1, n2, _⟩ := nm_len' hv
  obtain ⟨V, rfl⟩ : ∃ V : Nat, v = V := ⟨v.toNat, by omega⟩
  obtain ⟨N, hN⟩ : ∃ N, nmT 3 (V : Int) = N := ⟨_, rfl⟩
  obtain ⟨D, hD⟩ : ∃ N, textL d 0 = N := ⟨_, rfl⟩
  have hDl : D.length ≤ 2 := by rw [← hD, textL, if_neg (by omega), if_pos (by decide), show (0 : Int).toNat = 0 from rfl]; have := decDigits_len (k := 1) (u := d.toNat) (by omega); simp [padL]; omega
  rw [hD] at HT
  rw [hN] at n1 n2
  have HN := Lib.hid hN
  have HD := Lib.hid hD
  have hV : V < 7 := by omega
  have hV0 : (0 : Int) ≤ (V : Int) := by omega
  have hV7 : (V : Int) < 7 := by omega
  have d0 : 0 ≤ d := hd.1
  have d1 : d ≤ 31 := hd.2
  have s1 : 3 ≤ (⟨N.toArray⟩ : ByteArray).size := n1
  have s2 : (⟨N.toArray⟩ : ByteArray).size ≤ 9 := n2
  have s3 : (⟨D.toArray⟩ : ByteArray).size ≤ 2 := hDl
  clear hN hD hv hd
  go_enter Tryz.func62, Tryz.ntmps62
  go_wp2_with fail
  refine (rtx_to d 0 D _ (by omega) (by omega) HD).mono ?_
  rintro e w2 ⟨rfl, hb2⟩
  go_wp2
  go_ret
  exact ⟨ret_s (bytes_eq (by rw [HT.out])), ((Below.refl _ _).alloc (Nat.le_refl _) _).trans (hb2.mono (by simp))⟩
set_option maxHeartbeats 3200000 in
set_option maxRecDepth 100000 in
theorem rontext_2 (v d : Int) (T : List UInt8) (w : World) (hv : 0 ≤ v ∧ v ≤ 6) (hd : 0 ≤ d ∧ d ≤ 31) (HT : Hid (T = [108, 97, 115, 116] ++ (nmT 3 v).take 3)) :
    Calls Tryz.prog 62 #[.agg #[.int .i64 2, .int .i64 v, .int .i64 d]] w fun x w' => x = .returned (.string ⟨T.toArray⟩) ∧ Below w.heap.size w w' := by
  obtain ⟨n1, n2, _⟩ := nm_len' hv
  obtain ⟨V, rfl⟩ : ∃ V : Nat, v = V := ⟨v.toNat, by omega⟩
  obtain ⟨N, hN⟩ : ∃ N, nmT 3 (V : Int) = N := ⟨_, rfl⟩
  obtain ⟨D, hD⟩ : ∃ N, textL d 0 = N := ⟨_, rfl⟩
  have hDl : D.length ≤ 2 := by rw [← hD, textL, if_neg (by omega), if_pos (by decide), show (0 : Int).toNat = 0 from rfl]; have := decDigits_len (k := 1) (u := d.toNat) (by omega); simp [padL]; omega
  rw [hN] at HT
  rw [hN] at n1 n2
  have HN := Lib.hid hN
  have HD := Lib.hid hD
  have hV : V < 7 := by omega
  have hV0 : (0 : Int) ≤ (V : Int) := by omega
  have hV7 : (V : Int) < 7 := by omega
  have d0 : 0 ≤ d := hd.1
  have d1 : d ≤ 31 := hd.2
  have s1 : 3 ≤ (⟨N.toArray⟩ : ByteArray).size := n1
  have s2 : (⟨N.toArray⟩ : ByteArray).size ≤ 9 := n2
  have s3 : (⟨D.toArray⟩ : ByteArray).size ≤ 2 := hDl
  clear hN hD hv hd
  go_enter Tryz.func62, Tryz.ntmps62
  go_wp2_with fail
  go_region_with ((go_at_call 61; (with_reducible refine (rwd3_to V hV N _ HN).mono ?_); rintro e w1 ⟨g, rfl, hb1, hg, cw⟩; have hcc1 := acell2 hb1; have hz1 := hb1.size; try simp at hz1; have zz : w.heap.size < w1.heap.size := (by omega)))
  all_goals go_wp2
  all_goals go_ret
  all_goals exact ⟨ret_s (bytes_eq (by rw [HT.out]; simp)), (((Below.refl _ _).alloc (Nat.le_refl _) _).drew).trans (hb1.mono (by simp))⟩
set_option maxHeartbeats 3200000 in
set_option maxRecDepth 100000 in
theorem rontext_3 (v d : Int) (T : List UInt8) (w : World) (hv : 0 ≤ v ∧ v ≤ 6) (hd : 0 ≤ d ∧ d ≤ 31) (HT : Hid (T = (nmT 3 v).take 3 ++ [62, 61] ++ textL d 0)) :
    Calls Tryz.prog 62 #[.agg #[.int .i64 3, .int .i64 v, .int .i64 d]] w fun x w' => x = .returned (.string ⟨T.toArray⟩) ∧ Below w.heap.size w w' := by
  obtain ⟨n1, n2, _⟩ := nm_len' hv
  obtain ⟨V, rfl⟩ : ∃ V : Nat, v = V := ⟨v.toNat, by omega⟩
  obtain ⟨N, hN⟩ : ∃ N, nmT 3 (V : Int) = N := ⟨_, rfl⟩
  obtain ⟨D, hD⟩ : ∃ N, textL d 0 = N := ⟨_, rfl⟩
  have hDl : D.length ≤ 2 := by rw [← hD, textL, if_neg (by omega), if_pos (by decide), show (0 : Int).toNat = 0 from rfl]; have := decDigits_len (k := 1) (u := d.toNat) (by omega); simp [padL]; omega
  rw [hN, hD] at HT
  rw [hN] at n1 n2
  have HN := Lib.hid hN
  have HD := Lib.hid hD
  have hV : V < 7 := by omega
  have hV0 : (0 : Int) ≤ (V : Int) := by omega
  have hV7 : (V : Int) < 7 := by omega
  have d0 : 0 ≤ d := hd.1
  have d1 : d ≤ 31 := hd.2
  have s1 : 3 ≤ (⟨N.toArray⟩ : ByteArray).size := n1
  have s2 : (⟨N.toArray⟩ : ByteArray).size ≤ 9 := n2
  have s3 : (⟨D.toArray⟩ : ByteArray).size ≤ 2 := hDl
  clear hN hD hv hd
  go_enter Tryz.func62, Tryz.ntmps62
  go_wp2_with fail
  go_region_with (first | (go_at_call 61; (with_reducible refine (rwd3_to V hV N _ HN).mono ?_); rintro e w1 ⟨g, rfl, hb1, hg, cw⟩; have hcc1 := acell2 hb1; have hz1 := hb1.size; try simp at hz1; have zz : w.heap.size < w1.heap.size := (by omega)) | (go_at_call 60; (with_reducible refine (rtx_to d 0 D _ (by omega) (by omega) HD).mono ?_); rintro e w2 ⟨rfl, hb2⟩; have hcc2 := acell2 hb2; have hz2 := hb2.size; try simp at hz2; have yy : w.heap.size < w2.heap.size := (by omega)))
  all_goals go_wp2
  all_goals go_ret
  all_goals first
    | exact ⟨ret_s (bytes_eq (by rw [HT.out]; simp)), ((((Below.refl _ _).alloc (Nat.le_refl _) _).drew).trans (hb1.mono (by simp))).trans (hb2.mono (by omega))⟩
    | exact ⟨ret_s (bytes_eq (by rw [HT.out]; simp)), ((((Below.refl _ _).alloc (Nat.le_refl _) _).drew).trans (hb2.mono (by simp))).trans (hb1.mono (by omega))⟩
set_option maxHeartbeats 3200000 in
set_option maxRecDepth 100000 in
theorem rontext_4 (v d : Int) (T : List UInt8) (w : World) (hv : 0 ≤ v ∧ v ≤ 6) (hd : 0 ≤ d ∧ d ≤ 31) (HT : Hid (T = (nmT 3 v).take 3 ++ [60, 61] ++ textL d 0)) :
    Calls Tryz.prog 62 #[.agg #[.int .i64 4, .int .i64 v, .int .i64 d]] w fun x w' => x = .returned (.string ⟨T.toArray⟩) ∧ Below w.heap.size w w' := by
  obtain ⟨n1, n2, _⟩ := nm_len' hv
  obtain ⟨V, rfl⟩ : ∃ V : Nat, v = V := ⟨v.toNat, by omega⟩
  obtain ⟨N, hN⟩ : ∃ N, nmT 3 (V : Int) = N := ⟨_, rfl⟩
  obtain ⟨D, hD⟩ : ∃ N, textL d 0 = N := ⟨_, rfl⟩
  have hDl : D.length ≤ 2 := by rw [← hD, textL, if_neg (by omega), if_pos (by decide), show (0 : Int).toNat = 0 from rfl]; have := decDigits_len (k := 1) (u := d.toNat) (by omega); simp [padL]; omega
  rw [hN, hD] at HT
  rw [hN] at n1 n2
  have HN := Lib.hid hN
  have HD := Lib.hid hD
  have hV : V < 7 := by omega
  have hV0 : (0 : Int) ≤ (V : Int) := by omega
  have hV7 : (V : Int) < 7 := by omega
  have d0 : 0 ≤ d := hd.1
  have d1 : d ≤ 31 := hd.2
  have s1 : 3 ≤ (⟨N.toArray⟩ : ByteArray).size := n1
  have s2 : (⟨N.toArray⟩ : ByteArray).size ≤ 9 := n2
  have s3 : (⟨D.toArray⟩ : ByteArray).size ≤ 2 := hDl
  clear hN hD hv hd
  go_enter Tryz.func62, Tryz.ntmps62
  go_wp2_with fail
  go_region_with (first | (go_at_call 61; (with_reducible refine (rwd3_to V hV N _ HN).mono ?_); rintro e w1 ⟨g, rfl, hb1, hg, cw⟩; have hcc1 := acell2 hb1; have hz1 := hb1.size; try simp at hz1; have zz : w.heap.size < w1.heap.size := (by omega)) | (go_at_call 60; (with_reducible refine (rtx_to d 0 D _ (by omega) (by omega) HD).mono ?_); rintro e w2 ⟨rfl, hb2⟩; have hcc2 := acell2 hb2; have hz2 := hb2.size; try simp at hz2; have yy : w.heap.size < w2.heap.size := (by omega)))
  all_goals go_wp2
  all_goals go_ret
  all_goals first
    | exact ⟨ret_s (bytes_eq (by rw [HT.out]; simp)), ((((Below.refl _ _).alloc (Nat.le_refl _) _).drew).trans (hb1.mono (by simp))).trans (hb2.mono (by omega))⟩
    | exact ⟨ret_s (bytes_eq (by rw [HT.out]; simp)), ((((Below.refl _ _).alloc (Nat.le_refl _) _).drew).trans (hb2.mono (by simp))).trans (hb1.mono (by omega))⟩
theorem rontext_to (k v d : Int) (T : List UInt8) (w : World) (ho : onOk k v d = true) (h : Hid (onT k v d = T)) :
    Calls Tryz.prog 62 #[.agg #[.int .i64 k, .int .i64 v, .int .i64 d]] w fun x w' => x = .returned (.string ⟨T.toArray⟩) ∧ Below w.heap.size w w' := by
  obtain ⟨hv, hk, hd⟩ := onOk_v ho
  have HT : T = if k = 2 then [108, 97, 115, 116] ++ (nmT 3 v).take 3 else if k = 3 then (nmT 3 v).take 3 ++ [62, 61] ++ textL d 0 else if k = 4 then (nmT 3 v).take 3 ++ [60, 61] ++ textL d 0 else textL d 0 := by rw [← h.out, onT, if_pos ho]
  have h4 : k = 1 ∨ k = 2 ∨ k = 3 ∨ k = 4 := by omega
  rcases h4 with rfl | rfl | rfl | rfl
  · exact rontext_1 v d T w hv hd (Lib.hid HT)
  · exact rontext_2 v d T w hv hd (Lib.hid HT)
  · exact rontext_3 v d T w hv hd (Lib.hid HT)
  · exact rontext_4 v d T w hv hd (Lib.hid HT)
end Onf
end Go.Proofs.YtopmcelfmkeamaaGreatDoor
