/-
  The reference's Fold; what the lines of a text are; fold.Unfold and the reference's: both say so.
-/
import Derived.Test.YtdakpncfophjnaaFldB
namespace Go.Proofs.Ytdakpncfophjnaa
open Go.RowKit
namespace Fld
open Opn (sv TxtV)
open Rws (RowB RowS)
theorem ret_s {a b : ByteArray} (h : a = b) : Ending.returned (.string a) = .returned (.string b) := by rw [h]
set_option maxHeartbeats 6400000 in
set_option maxRecDepth 100000 in
theorem rfold_to (s : ByteArray) (S : List UInt8) (w : World) (hs : s.size ≤ 60000) (hS : Hid (s.data.toList = S)) :
    Calls Try.prog 60 #[.string s] w fun e w' => e = .returned (.string ⟨(foldL S).toArray⟩) ∧ Below w.heap.size w w' := by
  go_enter Try.func60, Try.ntmps60
  go_wp2
  go_loopw [0, 3, 4] (fun sv ov rv wr => ∃ (t : ByteArray) (room : Nat) (D : List UInt8), sv = .string t ∧ ov = .string ⟨D.toArray⟩ ∧ rv = .int .i64 room ∧ (74 ≤ room ∧ room ≤ 75) ∧ D.length + 4 * t.size ≤ 4 * s.size ∧ Hid (foldL S = D ++ foldR t.data.toList room) ∧ Below w.heap.size w wr) (fun sv _ _ _ => szOf sv)
  case atStart => exact ⟨s, 75, [], rfl, rfl, rfl, ⟨by omega, by omega⟩, by simp, Lib.hid (by rw [hS.out]; rfl), Below.refl _ _⟩
  case round =>
    obtain ⟨t, room, D, rfl, rfl, rfl, ⟨hr1, hr2⟩, hD, hP, hb⟩ := hrel
    have htl : t.data.toList.length = t.size := by simp
    by_cases hlt : room < t.size
    · obtain ⟨T, hT⟩ : ∃ T, t.data.toList = T := ⟨_, rfl⟩
      have HT := Lib.hid hT
      rw [hT] at hP htl
      clear hT
      obtain ⟨wo, hwo⟩ : ∃ wo : World, wo = wr := ⟨_, rfl⟩
      rw [← hwo] at hb ⊢
      clear hwo
      go_wp2_with fail
      go_loopw [6] (fun bv wx => ∃ k : Nat, k ≤ 3 ∧ bv = .int .i64 k ∧ Hid (∀ j, j < k → tailAt T (room - j) = true) ∧ wo = wx) (fun bv _ => 3 - (intOf bv).toNat)
      case atStart => exact ⟨0, Nat.zero_le _, rfl, Lib.hid (fun j hj => by omega), rfl⟩
      case round =>
        obtain ⟨k, hk, rfl, hall, rfl⟩ := hrel
        have hsub : (room : Int) - (k : Int) = ((room - k : Nat) : Int) := by omega
        obtain ⟨m, hm⟩ : ∃ m, room - k = m := ⟨_, rfl⟩
        have hms : m < t.size := by omega
        have hm0 : 0 < m := by omega
        have HMM := Lib.hid hm
        rw [hm] at hsub
        have hx := at_get HT.out m hms
        obtain ⟨c, hc⟩ : ∃ c, t[m] = c := ⟨_, rfl⟩
        rw [hc] at hx
        by_cases hgo : k < 3 ∧ isT c = true
        · have HB := Lib.hid hgo.2
          have hk3 := hgo.1
          have HN : Hid (∀ j, j < k + 1 → tailAt T (room - j) = true) := Lib.hid (fun j hj => by
            by_cases e : j = k
            · rw [e, hm, tailAt, ← hx]; exact HB.out
            · exact hall.out j (by omega))
          clear hgo hx hall hm
          go_wp2_with fail
          refine (goe_to c true _ HB).mono ?_
          rintro e w2 ⟨rfl, rfl⟩
          go_wp2
          go_roundw
          case rel => exact ⟨k + 1, by omega, by go_num, HN, trivial⟩
          case measure => simp [intOf]; omega
        · have hres : Hid (∃ n, cutN T room = n ∧ ((isT c = true ∨ k = 0) → n = room) ∧ ((isT c = false ∧ 0 < k) → n = m)) := Lib.hid (by
            by_cases hb : isT c = true
            · have hk3 : k = 3 := by
                by_cases h : k < 3
                · exact absurd ⟨h, hb⟩ hgo
                · omega
              refine ⟨room, cutN_none (fun j hj => ?_), fun _ => rfl, fun h => by rw [hb] at h; cases h.1⟩
              by_cases e : j = k
              · rw [e, hm, tailAt, ← hx]; exact hb
              · exact hall.out j (by omega)
            · have hbf : isT c = false := by simpa using hb
              have hcn := cutN_at hk hall.out (by rw [hm, tailAt, ← hx]; exact hbf)
              rw [hm] at hcn
              refine ⟨m, hcn, fun h => ?_, fun _ => rfl⟩
              rcases h with h | h
              · rw [hbf] at h; cases h
              · omega)
          obtain ⟨n, hn, hn1, hn2⟩ := hres.out
          have hcb := cutN_bd T room (by omega)
          have HM : Hid (foldL S = D ++ T.take n ++ [13, 10, 32] ++ foldR (T.drop n) 74) := Lib.hid (by rw [hP.out, foldR_more (by omega) (by omega), hn]; simp)
          rw [hn] at hcb
          have HN1 := Lib.hid hn1
          have HN2 := Lib.hid hn2
          clear hres hn hn1 hn2 hall hP hx hm
          have hfin : ∀ v : Nat, v = n → Hid ((⟨D.toArray⟩ ++ t.extract 0 v ++ ⟨#[13, 10, 32]⟩ : ByteArray) = ⟨(D ++ T.take n ++ [13, 10, 32]).toArray⟩) := fun v hv => Lib.hid (by
            subst hv
            apply Rws.ba_eq
            rw [Rws.cat_data, Rws.cat_data, dt0, HT.out])
          have HFIN := Lib.hid hfin
          have HTS := fun v => Lib.hid (dtS t v)
          have HTE := fun v => Lib.hid (dtE t v)
          have HTS2 := Lib.hid HTS
          have HTE2 := Lib.hid HTE
          clear hfin HTS HTE
          cases hb : isT c with
          | true =>
            have hnr : n = room := HN1.out (Or.inl hb)
            have hk3 : ¬ k < 3 := fun h => hgo ⟨h, hb⟩
            have HB := Lib.hid hb
            subst hnr
            have HF := Lib.hid ((HFIN.out n rfl).out)
            clear hgo hb HN1 HN2 HFIN
            go_wp2_with fail
            refine (goe_to c true _ HB).mono ?_
            rintro e w2 ⟨rfl, rfl⟩
            go_wp2
            go_roundw
            case rel => exact ⟨t.extract n t.size, 74, D ++ T.take n ++ [13, 10, 32], rfl, by rw [HF.out], rfl, ⟨by omega, by omega⟩, by rw [(HTS2.out n).out, List.length_append, List.length_append, List.length_take]; simp; omega, Lib.hid (by rw [(HTE2.out n).out, HT.out, HM.out]), hb⟩
            case measure => simp only [szOf]; rw [(HTS2.out n).out]; omega
          | false =>
            have HB := Lib.hid hb
            by_cases hk0 : k = 0
            · have hnr : n = room := HN1.out (Or.inr hk0)
              have hmn : m = n := by have := HMM.out; omega
              subst hk0
              subst hmn
              subst hnr
              have HF := Lib.hid ((HFIN.out m rfl).out)
              clear hgo hb HN1 HN2 HFIN
              go_wp2_with fail
              refine (goe_to c false _ HB).mono ?_
              rintro e w2 ⟨rfl, rfl⟩
              go_wp2
              go_roundw
              case rel => exact ⟨t.extract m t.size, 74, D ++ T.take m ++ [13, 10, 32], rfl, by rw [HF.out], rfl, ⟨by omega, by omega⟩, by rw [(HTS2.out m).out, List.length_append, List.length_append, List.length_take]; simp; omega, Lib.hid (by rw [(HTE2.out m).out, HT.out, HM.out]), hb⟩
              case measure => simp only [szOf]; rw [(HTS2.out m).out]; omega
            · have hnm : n = m := HN2.out ⟨hb, by omega⟩
              have hkp : 0 < k := by omega
              subst hnm
              have HF := Lib.hid ((HFIN.out n rfl).out)
              clear hgo hb HN1 HN2 HFIN hk0
              by_cases hk3 : k < 3
              all_goals
                go_wp2_with fail
                first
                  | (refine (goe_to c false _ HB).mono ?_
                     rintro e w2 ⟨rfl, rfl⟩
                     go_wp2_with fail
                     refine (goe_to c false _ HB).mono ?_)
                  | (refine (goe_to c false _ HB).mono ?_)
                rintro e w2 ⟨rfl, rfl⟩
                go_wp2
                go_roundw
                case rel => exact ⟨t.extract n t.size, 74, D ++ T.take n ++ [13, 10, 32], rfl, by rw [HF.out], rfl, ⟨by omega, by omega⟩, by rw [(HTS2.out n).out, List.length_append, List.length_append, List.length_take]; simp; omega, Lib.hid (by rw [(HTE2.out n).out, HT.out, HM.out]), hb⟩
                case measure => simp only [szOf]; rw [(HTS2.out n).out]; omega
    · have HM : Hid ((⟨D.toArray⟩ ++ t ++ ⟨#[13, 10]⟩ : ByteArray) = ⟨(foldL S).toArray⟩) := Lib.hid (by
        apply Rws.ba_eq
        rw [Rws.cat_data, Rws.cat_data, hP.out, foldR_last (by omega)]
        simp)
      clear hP htl
      go_wp2
      go_ret
      exact ⟨ret_s HM.out, hb⟩
end Fld
end Go.Proofs.Ytdakpncfophjnaa
