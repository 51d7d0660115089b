/-
  Contract of the reference's OnForm.
-/
import Derived.Test.YtopmcelfmkeamaaGreatDoorRefOn
namespace Go.Proofs.YtopmcelfmkeamaaGreatDoor
open Go.RowKit
attribute [local go_sem ↓] Go.wp_at_zero Go.wp_at_succ
namespace Onf
open Sol Wrd Clk Wk
theorem ron_b (k v d : Int) (r : Bool) (w : World) (h : Hid (onOk k v d = r)) :
    Calls Tryz.prog 52 #[.agg #[.int .i64 k, .int .i64 v, .int .i64 d]] w fun e w' => e = .returned (.bool r) ∧ Below w.heap.size w w' :=
  (ron_any k v d w).mono fun _ _ ⟨he, hw⟩ => ⟨by rw [he, h.out], by rw [← hw]; exact (Below.refl _ _).alloc (Nat.le_refl _) _⟩
theorem rdig_at (s : ByteArray) (L : List UInt8) (r : Bool) (w : World) (hL : Hid (s.data.toList = L)) (h : Hid (okP L 1 2 = r)) :
    Calls Tryz.prog 69 #[.string s, .int .i64 1, .int .i64 2] w fun e w' => e = .returned (.bool r) ∧ w = w' :=
  (rdig_any s L 1 2 w (by omega) hL).mono fun _ _ ⟨he, hw⟩ => ⟨by rw [he, h.out], hw⟩
theorem rval_at (s : ByteArray) (L : List UInt8) (v : Int) (w : World) (hL : Hid (s.data.toList = L)) (h : Hid (parseB L = true ∧ digVal L = v)) :
    Calls Tryz.prog 70 #[.string s] w fun e w' => e = .returned (.int .i64 v) ∧ w = w' :=
  (RNum.rvalue_any s w (Lib.hid (by rw [hL.out]; exact h.out.1))).mono fun _ _ ⟨he, hw⟩ => ⟨by rw [he, hL.out, h.out.2], hw⟩
theorem bcellF {W w1 : World} (hb : Below W.heap.size W w1) : (∀ b o, b < W.heap.size → w1.cell? ⟨b, o, none⟩ = W.cell? ⟨b, o, none⟩) ∧ (∀ b o, b < W.heap.size → w1.frozen? ⟨b, o, none⟩ = W.frozen? ⟨b, o, none⟩) :=
  ⟨fun b o h => hb.cell (p := ⟨b, o, none⟩) h, fun b o h => hb.frozen (p := ⟨b, o, none⟩) h⟩
theorem bg_last {S : List UInt8} (h : 4 < S.length) : bgB [108, 97, 115, 116] (S.take 4) = decide (lastQ S) := by
  have e : smL [108, 97, 115, 116] = [108, 97, 115, 116] := by decide
  have hl : (smL (S.take 4)).length = 4 := by rw [smL_len, List.length_take]; omega
  rw [bgB, e]
  by_cases hq : smL (S.take 4) = [108, 97, 115, 116]
  · rw [decide_eq_true (show lastQ S from ⟨h, hq⟩), hq]; decide
  · rw [decide_eq_false (fun x => hq x.2)]
    cases hb : List.isPrefixOf [108, 97, 115, 116] (smL (S.take 4)) with
    | false => rfl
    | true =>
      obtain ⟨t, ht⟩ := List.isPrefixOf_iff_prefix.1 hb
      have : t = [] := List.eq_nil_of_length_eq_zero (by have := congrArg List.length ht; simp at this; rw [hl] at this; omega)
      subst this
      exact absurd ht.symm hq
def RonQ (S : List UInt8) (w : World) (e : Ending) (w' : World) : Prop := ∃ a b c r, e = .returned (.tuple #[.agg #[.int .i64 a, .int .i64 b, .int .i64 c], .bool r]) ∧ Hid (OnRel S a b c r) ∧ Below w.heap.size w w'
set_option maxHeartbeats 3200000 in
set_option maxRecDepth 100000 in
theorem ronform_any (s : ByteArray) (S : List UInt8) (w : World) (hs : s.size ≤ 1000) (hS : Hid (s.data.toList = S)) :
    Calls Tryz.prog 42 #[.string s] w (RonQ S w) := by
  have hsl : S.length = s.size := by rw [← hS.out]; simp
  have HSL := Lib.hid hsl
  clear hsl
  cases hd : okP S 1 2 with
  | true =>
    have HD := Lib.hid hd
    obtain ⟨hp, _, _⟩ := day_of_okP hd
    have HR := Lib.hid (on_day hd)
    obtain ⟨v, hv⟩ : ∃ v, digVal S = v := ⟨_, rfl⟩
    have HV := Lib.hid (And.intro hp hv)
    rw [hv] at HR
    obtain ⟨r, hr⟩ : ∃ r, onOk 1 0 v = r := ⟨_, rfl⟩
    have HO := Lib.hid hr
    rw [hr] at HR
    clear hd hp hv hr
    go_enter Tryz.func42, Tryz.ntmps42
    go_wp2_with fail
    refine (rdig_at s S true _ hS HD).mono ?_
    rintro e w1 ⟨rfl, rfl⟩
    go_wp2_with fail
    refine (rval_at s S v _ hS HV).mono ?_
    rintro e w1 ⟨rfl, rfl⟩
    go_wp2_with fail
    have hz0 : w.heap.size < w.heap.size + 1 := by omega
    have hz1 : w.heap.size < w.heap.size + 1 + 1 := by omega
    have hz2 : w.heap.size + 1 < w.heap.size + 1 + 1 := by omega
    go_region_with ((go_at_call 52; (with_reducible refine (ron_b _ _ _ _ _ HO).mono ?_); rintro e w1 ⟨rfl, hb1⟩; obtain ⟨hcc, hff⟩ := bcellF hb1; have hzz := hb1.size; try simp at hzz; have hzw : w.heap.size < w1.heap.size := (by omega); have y0 : w1.cell? ⟨w.heap.size, 0, none⟩ = some (.int .i64 0) := (hcc _ _ (by simp; try omega)).trans (by go_simp); have y1 : w1.cell? ⟨w.heap.size, 1, none⟩ = some (.int .i64 0) := (hcc _ _ (by simp; try omega)).trans (by go_simp); have y2 : w1.cell? ⟨w.heap.size, 2, none⟩ = some (.int .i64 0) := (hcc _ _ (by simp; try omega)).trans (by go_simp)))
    all_goals go_wp2
    all_goals exact bodyPost_ret (v := .tuple #[.agg #[.int .i64 1, .int .i64 0, .int .i64 v], .bool r]) (by simp [results, Tryz.results42, go_sem, y0, y1, y2]) rfl ⟨1, 0, v, r, rfl, HR, by repeat (first | exact Below.trans (by repeat (first | exact Below.refl _ _ | refine Below.drew ?_ | refine Below.setCell ?_ (by simp) _ | refine Below.alloc ?_ (by simp; try omega) _)) (hb1.mono (by simp; try omega)) | refine Below.setCell ?_ (by simp) _)⟩
  | false =>
    have HD := Lib.hid hd
    have HLQ : Hid (4 < S.length ∧ smL (S.take 4) = [108, 97, 115, 116] ↔ lastQ S) := Lib.hid Iff.rfl
    obtain ⟨lb, hlb⟩ : ∃ b, decide (lastQ S) = b := ⟨_, rfl⟩
    have HLB := Lib.hid hlb
    clear hlb
    go_enter Tryz.func42, Tryz.ntmps42
    go_wp2_with fail
    refine (rdig_at s S false _ hS HD).mono ?_
    rintro e w1 ⟨rfl, rfl⟩
    go_upto_region 4 with fail
    go_cut [24] (fun x wx => x = .bool lb ∧ Hid (Below w.heap.size w wx) ∧ Hid (Noughts w.heap.size wx))
    case first =>
      by_cases h4 : 4 < s.size
      · have HR : Hid (bgB [108, 97, 115, 116] (S.take 4) = lb) := Lib.hid (by rw [← HLB.out]; exact bg_last (by rw [HSL.out]; exact h4))
        have hE : Hid ((s.extract 0 4).data.toList = S.take 4) := Lib.hid (by rw [Lib.extract_data, hS.out]; simp)
        have HZ : Hid ((s.extract 0 4).size ≤ 1000000) := Lib.hid (by
          have : (s.extract 0 4).size = (S.take 4).length := by rw [← hE.out]; simp
          rw [this, List.length_take]; omega)
        have HN0 := Lib.hid (Noughts.new w 23)
        go_wp2_with fail
        refine (begins_to _ _ [108, 97, 115, 116] (S.take 4) lb _ HZ.out (Lib.hid rfl) hE HR).mono ?_
        rintro x w1 ⟨rfl, q, rfl⟩
        go_wp2
        go_meet
        exact ⟨rfl, Lib.hid (below_drewN ((Below.refl _ _).alloc (Nat.le_refl _) _) q), Lib.hid (show Noughts w.heap.size (w.alloc (Obj.cells #[.int .i64 0, .int .i64 0, .int .i64 0] 23)) from HN0.out)⟩
      · have HR : Hid (lb = false) := Lib.hid (by rw [← HLB.out]; exact decide_eq_false (fun x => by have := x.1; rw [HSL.out] at this; exact h4 this))
        have h4' : s.size ≤ 4 := by omega
        clear h4
        go_wp2
        go_meet
        exact ⟨congrArg Value.bool HR.out.symm, Lib.hid ((Below.refl _ _).alloc (Nat.le_refl _) _), Lib.hid (Noughts.new w 23)⟩
    case rest =>
    obtain ⟨rfl, HB, HN1⟩ := hcut
    rename_i wc
    clear HLQ
    go_upto_if 24 with fail
    go_cut [] (fun wx => Hid (Below w.heap.size w wx) ∧ Hid (Noughts w.heap.size wx) ∧ Hid (lastQ S → onP S = (0, 0, 0, 8)))
    case first =>
      cases lb with
      | false =>
        have H8 : Hid (lastQ S → onP S = (0, 0, 0, 8)) := Lib.hid (fun h => absurd h (of_decide_eq_false HLB.out))
        go_wp2
        go_meet
        exact ⟨HB, HN1, H8⟩
      | true =>
        have hq := of_decide_eq_true HLB.out
        have h4 : 4 < s.size := by have := hq.1; rw [HSL.out] at this; exact this
        have HL := Lib.hid (on_last HD.out hq)
        have hE : Hid ((s.extract 4 s.size).data.toList = S.drop 4) := Lib.hid (by rw [Lib.extract_to_end, hS.out])
        have HZ : Hid ((s.extract 4 s.size).size ≤ 1000) := Lib.hid (by
          have : (s.extract 4 s.size).size = (S.drop 4).length := by rw [← hE.out]; simp
          rw [this, List.length_drop, HSL.out]; omega)
        obtain ⟨v, hv⟩ : ∃ v, rwP 3 (S.drop 4) = v := ⟨_, rfl⟩
        have HV := Lib.hid hv
        rw [hv] at HL
        clear hv hq
        by_cases hv0 : 0 ≤ v
        · have HR : Hid (OnRel S 2 v 0 true) := Lib.hid (by
            rcases HL.out with ⟨h1, _⟩ | ⟨_, h2⟩
            · omega
            · exact h2)
          clear HL
          go_wp2_with fail
          refine (rword_to 3 _ (S.drop 4) v _ (by omega) HZ.out hE HV).mono ?_
          rintro x w2 ⟨rfl, hb⟩
          have hB1 : Below w.heap.size w w2 := HB.out.trans (hb.mono (by have := HN1.out.1; omega))
          obtain ⟨_, z0, z1, z2, f0, f1, f2⟩ := HN1.out.below hb
          clear hb
          go_wp2
          exact bodyPost_ret (v := .tuple #[.agg #[.int .i64 2, .int .i64 v, .int .i64 0], .bool true]) (by simp [results, Tryz.results42, go_sem, z0, z1, z2]) rfl ⟨2, v, 0, true, rfl, HR, by repeat (first | exact hB1 | refine Below.setCell ?_ (by simp) _)⟩
        · have H8 : Hid (lastQ S → onP S = (0, 0, 0, 8)) := Lib.hid (fun _ => by
            rcases HL.out with ⟨_, h1⟩ | ⟨h2, _⟩
            · exact h1
            · exact absurd h2 hv0)
          have hv1 : v < 0 := by omega
          clear HL hv0
          go_wp2_with fail
          refine (rword_to 3 _ (S.drop 4) v _ (by omega) HZ.out hE HV).mono ?_
          rintro x w2 ⟨rfl, hb⟩
          have HB2 := Lib.hid (HB.out.trans (hb.mono (by have := HN1.out.1; omega)))
          have HN2 := Lib.hid (HN1.out.below hb)
          clear hb
          go_wp2
          go_meet
          exact ⟨HB2, HN2, H8⟩
    case rest =>
    obtain ⟨HB2, HN2, H8⟩ := hcut
    rename_i wd
    clear HB HN1
    go_wp2_with fail
    go_loop [6] (fun i => ∃ j : Nat, j ≤ s.size ∧ i = .int .i64 j ∧ Hid (∀ q, q < j → ¬ hitAt S q)) (fun i => s.size - (intOf i).toNat)
    case atStart => exact ⟨0, Nat.zero_le _, rfl, Lib.hid (fun q hq => by omega)⟩
    case round =>
      obtain ⟨j, hj, rfl, HJ⟩ := hrel
      by_cases hlt : j + 1 < s.size
      · have l0 : j < S.length := by rw [HSL.out]; omega
        have l1 : j + 1 < S.length := by rw [HSL.out]; omega
        have hj0 : j < s.size := by omega
        obtain ⟨a, ha⟩ : ∃ x, s[j] = x := ⟨_, rfl⟩
        obtain ⟨c, hc⟩ : ∃ x, s[j + 1] = x := ⟨_, rfl⟩
        have HA : Hid (S[j]? = some a) := Lib.hid (by rw [← hS.out, ← ha]; simp [hj0]; rfl)
        have HC : Hid (S[j + 1]? = some c) := Lib.hid (by rw [← hS.out, ← hc]; simp [hlt]; rfl)
        have i0 : (0 : Int) ≤ (j : Int) := by omega
        have i1 : (j : Int) + 1 < (s.size : Int) := by omega
        by_cases hit : c = 61 ∧ (a = 62 ∨ a = 60)
        · obtain ⟨rfl, hit2⟩ := hit
          have hE1 : Hid ((s.extract 0 j).data.toList = S.take j) := Lib.hid (by rw [Lib.extract_data, hS.out]; simp)
          have hE2 : Hid ((s.extract (j + 2) s.size).data.toList = S.drop (j + 2)) := Lib.hid (by rw [Lib.extract_to_end, hS.out])
          have HZ1 : Hid ((s.extract 0 j).size ≤ 1000) := Lib.hid (by
            have : (s.extract 0 j).size = (S.take j).length := by rw [← hE1.out]; simp
            rw [this, List.length_take]; omega)
          rcases hit2 with rfl | rfl
          · have HK : Hid (((62 : UInt8) = 62 ∧ (3 : Int) = 3) ∨ ((62 : UInt8) = 60 ∧ (3 : Int) = 4)) := Lib.hid (by decide)
            have HH := Lib.hid (on_hit HD.out H8.out HJ.out HA.out HC.out HK.out)
            obtain ⟨v, hv⟩ : ∃ v, rwP 3 (S.take j) = v := ⟨_, rfl⟩
            obtain ⟨bd, hb⟩ : ∃ v, okP (S.drop (j + 2)) 1 2 = v := ⟨_, rfl⟩
            obtain ⟨d, hdv⟩ : ∃ v, digVal (S.drop (j + 2)) = v := ⟨_, rfl⟩
            have HV := Lib.hid hv
            have HBB := Lib.hid hb
            rw [hv, hb, hdv] at HH
            have HDV := Lib.hid hdv
            clear hv hb hdv
            by_cases hv0 : v < 0
            · have HR : Hid (OnRel S 0 0 0 false) := Lib.hid (Or.inr ⟨rfl, HH.out.1 (Or.inl hv0)⟩)
              clear HH
              go_wp2_with fail
              refine (rword_to 3 _ (S.take j) v _ (by omega) HZ1.out hE1 HV).mono ?_
              rintro x w2 ⟨rfl, hbw⟩
              have hB1 : Below w.heap.size w w2 := HB2.out.trans (hbw.mono (by have := HN2.out.1; omega))
              obtain ⟨_, z0, z1, z2, f0, f1, f2⟩ := HN2.out.below hbw
              clear hbw
              go_wp2
              exact bodyPost_ret (v := .tuple #[.agg #[.int .i64 0, .int .i64 0, .int .i64 0], .bool false]) (by simp [results, Tryz.results42, go_sem, z0, z1, z2]) rfl ⟨0, 0, 0, false, rfl, HR, by repeat (first | exact hB1 | refine Below.setCell ?_ (by simp) _)⟩
            · have hv1 : 0 ≤ v := by omega
              cases bd with
              | false =>
                have HR : Hid (OnRel S 0 0 0 false) := Lib.hid (Or.inr ⟨rfl, HH.out.1 (Or.inr rfl)⟩)
                clear HH hv0
                go_wp2_with fail
                refine (rword_to 3 _ (S.take j) v _ (by omega) HZ1.out hE1 HV).mono ?_
                rintro x w2 ⟨rfl, hbw⟩
                have hB1 : Below w.heap.size w w2 := HB2.out.trans (hbw.mono (by have := HN2.out.1; omega))
                obtain ⟨_, z0, z1, z2, f0, f1, f2⟩ := HN2.out.below hbw
                clear hbw
                go_wp2_with fail
                refine (rdig_at _ (S.drop (j + 2)) false _ hE2 HBB).mono ?_
                rintro x w3 ⟨rfl, rfl⟩
                go_wp2
                exact bodyPost_ret (v := .tuple #[.agg #[.int .i64 0, .int .i64 0, .int .i64 0], .bool false]) (by simp [results, Tryz.results42, go_sem, z0, z1, z2]) rfl ⟨0, 0, 0, false, rfl, HR, by repeat (first | exact hB1 | refine Below.setCell ?_ (by simp) _)⟩
              | true =>
                have HR := Lib.hid (HH.out.2 hv1 rfl)
                have HPV := Lib.hid (And.intro (day_of_okP HBB.out).1 HDV.out)
                obtain ⟨r, hr⟩ : ∃ r, onOk 3 v d = r := ⟨_, rfl⟩
                have HO := Lib.hid hr
                rw [hr] at HR
                clear HH hv0 hr
                go_wp2_with fail
                refine (rword_to 3 _ (S.take j) v _ (by omega) HZ1.out hE1 HV).mono ?_
                rintro x w2 ⟨rfl, hbw⟩
                have hB1 : Below w.heap.size w w2 := HB2.out.trans (hbw.mono (by have := HN2.out.1; omega))
                obtain ⟨hlt2, z0, z1, z2, f0, f1, f2⟩ := HN2.out.below hbw
                have hne2 : w.heap.size ≠ w2.heap.size := by omega
                clear hbw
                go_wp2_with fail
                refine (rdig_at _ (S.drop (j + 2)) true _ hE2 HBB).mono ?_
                rintro x w3 ⟨rfl, rfl⟩
                go_wp2_with fail
                refine (rval_at _ (S.drop (j + 2)) d _ hE2 HPV).mono ?_
                rintro x w3 ⟨rfl, rfl⟩
                go_wp2_with fail
                have hz1 : w2.heap.size < w2.heap.size + 1 := by omega
                have hz2 : w.heap.size < w2.heap.size + 1 := by omega
                go_region_with ((go_at_call 52; (with_reducible refine (ron_b _ _ _ _ _ HO).mono ?_); rintro e w3 ⟨rfl, hb3⟩; obtain ⟨hcc, hff⟩ := bcellF hb3; have hzz := hb3.size; try simp at hzz; have hzw : w2.heap.size < w3.heap.size := (by omega); have hzv : w.heap.size < w3.heap.size := (by omega); have y0 : w3.cell? ⟨w.heap.size, 0, none⟩ = some (.int .i64 0) := (hcc _ _ (by simp; omega)).trans (by go_simp); have y1 : w3.cell? ⟨w.heap.size, 1, none⟩ = some (.int .i64 0) := (hcc _ _ (by simp; omega)).trans (by go_simp); have y2 : w3.cell? ⟨w.heap.size, 2, none⟩ = some (.int .i64 0) := (hcc _ _ (by simp; omega)).trans (by go_simp)))
                all_goals go_wp2
                all_goals exact bodyPost_ret (v := .tuple #[.agg #[.int .i64 3, .int .i64 v, .int .i64 d], .bool r]) (by simp [results, Tryz.results42, go_sem, y0, y1, y2]) rfl ⟨3, v, d, r, rfl, HR, by repeat (first | exact Below.trans (hB1.alloc (by omega) _).drew (hb3.mono (by simp; omega)) | exact Below.trans (hB1.alloc (by omega) _) (hb3.mono (by simp; omega)) | refine Below.setCell ?_ (by simp) _)⟩
          · have HK : Hid (((60 : UInt8) = 62 ∧ (4 : Int) = 3) ∨ ((60 : UInt8) = 60 ∧ (4 : Int) = 4)) := Lib.hid (by decide)
            have HH := Lib.hid (on_hit HD.out H8.out HJ.out HA.out HC.out HK.out)
            obtain ⟨v, hv⟩ : ∃ v, rwP 3 (S.take j) = v := ⟨_, rfl⟩
            obtain ⟨bd, hb⟩ : ∃ v, okP (S.drop (j + 2)) 1 2 = v := ⟨_, rfl⟩
            obtain ⟨d, hdv⟩ : ∃ v, digVal (S.drop (j + 2)) = v := ⟨_, rfl⟩
            have HV := Lib.hid hv
            have HBB := Lib.hid hb
            rw [hv, hb, hdv] at HH
            have HDV := Lib.hid hdv
            clear hv hb hdv
            by_cases hv0 : v < 0
            · have HR : Hid (OnRel S 0 0 0 false) := Lib.hid (Or.inr ⟨rfl, HH.out.1 (Or.inl hv0)⟩)
              clear HH
              go_wp2_with fail
              refine (rword_to 3 _ (S.take j) v _ (by omega) HZ1.out hE1 HV).mono ?_
              rintro x w2 ⟨rfl, hbw⟩
              have hB1 : Below w.heap.size w w2 := HB2.out.trans (hbw.mono (by have := HN2.out.1; omega))
              obtain ⟨_, z0, z1, z2, f0, f1, f2⟩ := HN2.out.below hbw
              clear hbw
              go_wp2
              exact bodyPost_ret (v := .tuple #[.agg #[.int .i64 0, .int .i64 0, .int .i64 0], .bool false]) (by simp [results, Tryz.results42, go_sem, z0, z1, z2]) rfl ⟨0, 0, 0, false, rfl, HR, by repeat (first | exact hB1 | refine Below.setCell ?_ (by simp) _)⟩
            · have hv1 : 0 ≤ v := by omega
              cases bd with
              | false =>
                have HR : Hid (OnRel S 0 0 0 false) := Lib.hid (Or.inr ⟨rfl, HH.out.1 (Or.inr rfl)⟩)
                clear HH hv0
                go_wp2_with fail
                refine (rword_to 3 _ (S.take j) v _ (by omega) HZ1.out hE1 HV).mono ?_
                rintro x w2 ⟨rfl, hbw⟩
                have hB1 : Below w.heap.size w w2 := HB2.out.trans (hbw.mono (by have := HN2.out.1; omega))
                obtain ⟨_, z0, z1, z2, f0, f1, f2⟩ := HN2.out.below hbw
                clear hbw
                go_wp2_with fail
                refine (rdig_at _ (S.drop (j + 2)) false _ hE2 HBB).mono ?_
                rintro x w3 ⟨rfl, rfl⟩
                go_wp2
                exact bodyPost_ret (v := .tuple #[.agg #[.int .i64 0, .int .i64 0, .int .i64 0], .bool false]) (by simp [results, Tryz.results42, go_sem, z0, z1, z2]) rfl ⟨0, 0, 0, false, rfl, HR, by repeat (first | exact hB1 | refine Below.setCell ?_ (by simp) _)⟩
              | true =>
                have HR := Lib.hid (HH.out.2 hv1 rfl)
                have HPV := Lib.hid (And.intro (day_of_okP HBB.out).1 HDV.out)
                obtain ⟨r, hr⟩ : ∃ r, onOk 4 v d = r := ⟨_, rfl⟩
                have HO := Lib.hid hr
                rw [hr] at HR
                clear HH hv0 hr
                go_wp2_with fail
                refine (rword_to 3 _ (S.take j) v _ (by omega) HZ1.out hE1 HV).mono ?_
                rintro x w2 ⟨rfl, hbw⟩
                have hB1 : Below w.heap.size w w2 := HB2.out.trans (hbw.mono (by have := HN2.out.1; omega))
                obtain ⟨hlt2, z0, z1, z2, f0, f1, f2⟩ := HN2.out.below hbw
                have hne2 : w.heap.size ≠ w2.heap.size := by omega
                clear hbw
                go_wp2_with fail
                refine (rdig_at _ (S.drop (j + 2)) true _ hE2 HBB).mono ?_
                rintro x w3 ⟨rfl, rfl⟩
                go_wp2_with fail
                refine (rval_at _ (S.drop (j + 2)) d _ hE2 HPV).mono ?_
                rintro x w3 ⟨rfl, rfl⟩
                go_wp2_with fail
                have hz1 : w2.heap.size < w2.heap.size + 1 := by omega
                have hz2 : w.heap.size < w2.heap.size + 1 := by omega
                go_region_with ((go_at_call 52; (with_reducible refine (ron_b _ _ _ _ _ HO).mono ?_); rintro e w3 ⟨rfl, hb3⟩; obtain ⟨hcc, hff⟩ := bcellF hb3; have hzz := hb3.size; try simp at hzz; have hzw : w2.heap.size < w3.heap.size := (by omega); have hzv : w.heap.size < w3.heap.size := (by omega); have y0 : w3.cell? ⟨w.heap.size, 0, none⟩ = some (.int .i64 0) := (hcc _ _ (by simp; omega)).trans (by go_simp); have y1 : w3.cell? ⟨w.heap.size, 1, none⟩ = some (.int .i64 0) := (hcc _ _ (by simp; omega)).trans (by go_simp); have y2 : w3.cell? ⟨w.heap.size, 2, none⟩ = some (.int .i64 0) := (hcc _ _ (by simp; omega)).trans (by go_simp)))
                all_goals go_wp2
                all_goals exact bodyPost_ret (v := .tuple #[.agg #[.int .i64 4, .int .i64 v, .int .i64 d], .bool r]) (by simp [results, Tryz.results42, go_sem, y0, y1, y2]) rfl ⟨4, v, d, r, rfl, HR, by repeat (first | exact Below.trans (hB1.alloc (by omega) _).drew (hb3.mono (by simp; omega)) | exact Below.trans (hB1.alloc (by omega) _) (hb3.mono (by simp; omega)) | refine Below.setCell ?_ (by simp) _)⟩
        · have HN : Hid (∀ q, q < j + 1 → ¬ hitAt S q) := Lib.hid (fun q hq => by
            by_cases hqj : q < j
            · exact HJ.out q hqj
            · obtain rfl : q = j := by omega
              rintro ⟨x, h1, h2, h3⟩
              rw [HA.out] at h1
              rw [HC.out] at h3
              injection h1 with h1
              injection h3 with h3
              subst h1; subst h3
              exact hit ⟨rfl, h2⟩)
          by_cases hc61 : c = 61
          · subst hc61
            have a62 : ((a.toNat : Int) == 62) = false := beq_eq_false_iff_ne.2 (fun e => hit ⟨rfl, Or.inl (UInt8.toNat_inj.1 (by show a.toNat = 62; omega))⟩)
            have a60 : ((a.toNat : Int) == 60) = false := beq_eq_false_iff_ne.2 (fun e => hit ⟨rfl, Or.inr (UInt8.toNat_inj.1 (by show a.toNat = 60; omega))⟩)
            have b62 : ((a.toNat : Int) != 62) = true := by simp [bne, a62]
            have b60 : ((a.toNat : Int) != 60) = true := by simp [bne, a60]
            clear hit
            go_wp2
            go_round
            case rel => exact ⟨j + 1, by omega, by go_num, HN⟩
            case measure => simp [intOf]; omega
          · have c61 : ((c.toNat : Int) == 61) = false := beq_eq_false_iff_ne.2 (fun e => hc61 (UInt8.toNat_inj.1 (by show c.toNat = 61; omega)))
            have b61 : ((c.toNat : Int) != 61) = true := by simp [bne, c61]
            clear hit hc61
            go_wp2
            go_round
            case rel => exact ⟨j + 1, by omega, by go_num, HN⟩
            case measure => simp [intOf]; omega
      · have hj9 : j ≤ 1000 := by omega
        have HE8 : Hid (OnRel S 0 0 0 false) := Lib.hid (Or.inr ⟨rfl, on_nohit HD.out H8.out (fun q => by
          by_cases hq : q < j
          · exact HJ.out q hq
          · rintro ⟨x, _, _, h3⟩
            have := (List.getElem?_eq_some_iff.1 h3).1
            rw [HSL.out] at this
            omega)⟩)
        obtain ⟨_, z0, z1, z2, f0, f1, f2⟩ := HN2.out
        have hB1 := HB2.out
        have hlt' : (s.size : Int) ≤ (j : Int) + 1 := by omega
        clear hlt
        go_wp2
        exact bodyPost_ret (v := .tuple #[.agg #[.int .i64 0, .int .i64 0, .int .i64 0], .bool false]) (by simp [results, Tryz.results42, go_sem, z0, z1, z2]) rfl ⟨0, 0, 0, false, rfl, HE8, by repeat (first | exact hB1 | refine Below.setCell ?_ (by simp) _)⟩
end Onf
end Go.Proofs.YtopmcelfmkeamaaGreatDoor
