/-
  Contracts of the reference's calls on forms of a time: small, AtForm, Utc, At.
-/
import Derived.Test.YtikjlnkpcjjigaaDoorAt2
import Derived.Test.YtikjlnkpcjjigaaDoorRefClk3
import Derived.Deep.DeepCutAuto
namespace Go.Proofs.YtikjlnkpcjjigaaDoor
open Go.RowKit
namespace Atf
open Sol Clk
def smI (c : UInt8) : Int := if 65 ≤ (c.toNat : Int) ∧ (c.toNat : Int) ≤ 90 then (c.toNat : Int) + 32 else (c.toNat : Int)
theorem ret_u8 {a a' : Int} (h : a = a') : Ending.returned (.int .u8 a) = .returned (.int .u8 a') := by rw [h]
theorem small_to (c : UInt8) (v : Int) (w : World) (h : Hid (smI c = v)) :
    Calls Tryd.prog 46 #[.int .u8 (c.toNat : Int)] w fun e w' => e = .returned (.int .u8 v) ∧ w = w' := by
  have hb := c.toNat_lt
  by_cases h1 : 65 ≤ (c.toNat : Int)
  · by_cases h2 : (c.toNat : Int) ≤ 90
    · have H : Hid (v = (c.toNat : Int) + 32) := Lib.hid (by rw [← h.out, smI, if_pos ⟨h1, h2⟩])
      go_enter Tryd.func46, Tryd.ntmps46
      go_wp2
      go_ret
      exact ⟨ret_u8 H.out.symm, rfl⟩
    · have H : Hid (v = (c.toNat : Int)) := Lib.hid (by rw [← h.out, smI, if_neg (fun x => h2 x.2)])
      go_enter Tryd.func46, Tryd.ntmps46
      go_wp2
      go_ret
      exact ⟨ret_u8 H.out.symm, rfl⟩
  · have H : Hid (v = (c.toNat : Int)) := Lib.hid (by rw [← h.out, smI, if_neg (fun x => h1 x.1)])
    go_enter Tryd.func46, Tryd.ntmps46
    go_wp2
    go_ret
    exact ⟨ret_u8 H.out.symm, rfl⟩
theorem sm_yes {c : UInt8} (h : ltB c = true) : (smI c = 119 ∧ ltV c = 1) ∨ (smI c = 115 ∧ ltV c = 2) ∨ (smI c = 117 ∧ ltV c = 3) ∨ (smI c = 103 ∧ ltV c = 3) ∨ (smI c = 122 ∧ ltV c = 3) := by
  have hc : c = 119 ∨ c = 87 ∨ c = 115 ∨ c = 83 ∨ c = 117 ∨ c = 85 ∨ c = 103 ∨ c = 71 ∨ c = 122 ∨ c = 90 := of_decide_eq_true h
  rcases hc with rfl | rfl | rfl | rfl | rfl | rfl | rfl | rfl | rfl | rfl <;> decide
theorem sm_no {c : UInt8} (h : ltB c = false) : (smI c ≠ 119 ∧ smI c ≠ 115 ∧ smI c ≠ 117 ∧ smI c ≠ 103 ∧ smI c ≠ 122) ∧ ltV c = 1 := by
  have hn : ¬ (c = 119 ∨ c = 87 ∨ c = 115 ∨ c = 83 ∨ c = 117 ∨ c = 85 ∨ c = 103 ∨ c = 71 ∨ c = 122 ∨ c = 90) := of_decide_eq_false h
  have key : ∀ k : UInt8, c ≠ k → (c.toNat : Int) ≠ (k.toNat : Int) := fun k hk e => hk (UInt8.toNat_inj.1 (by omega))
  have a1 : (c.toNat : Int) ≠ 119 := key 119 (fun e => hn (by simp [e]))
  have a2 : (c.toNat : Int) ≠ 87 := key 87 (fun e => hn (by simp [e]))
  have a3 : (c.toNat : Int) ≠ 115 := key 115 (fun e => hn (by simp [e]))
  have a4 : (c.toNat : Int) ≠ 83 := key 83 (fun e => hn (by simp [e]))
  have a5 : (c.toNat : Int) ≠ 117 := key 117 (fun e => hn (by simp [e]))
  have a6 : (c.toNat : Int) ≠ 85 := key 85 (fun e => hn (by simp [e]))
  have a7 : (c.toNat : Int) ≠ 103 := key 103 (fun e => hn (by simp [e]))
  have a8 : (c.toNat : Int) ≠ 71 := key 71 (fun e => hn (by simp [e]))
  have a9 : (c.toNat : Int) ≠ 122 := key 122 (fun e => hn (by simp [e]))
  have a10 : (c.toNat : Int) ≠ 90 := key 90 (fun e => hn (by simp [e]))
  refine ⟨?_, ?_⟩
  · unfold smI
    split <;> omega
  · rw [ltV, if_neg (fun e => hn (by rcases e with e | e <;> simp [e])), if_neg (fun e => hn (by rcases e with e | e <;> simp [e])), if_neg (fun e => hn (by rcases e with e | e | e | e | e | e <;> simp [e]))]
theorem ret_ab {a a' b b' : Int} {c c' : Bool} (h : a = a') (h2 : b = b') (h3 : c = c') : Ending.returned (.tuple #[.agg #[.int .i64 a, .int .i64 b], .bool c]) = .returned (.tuple #[.agg #[.int .i64 a', .int .i64 b'], .bool c']) := by rw [h, h2, h3]
theorem rclock_l (s : ByteArray) (L : List UInt8) (v : Int) (b : Bool) (w : World) (hl : L.length ≤ 1000) (hL : Hid (s.data.toList = L)) (h : Hid (clV L = v ∧ clB L = b)) :
    Calls Tryd.prog 47 #[.string s] w fun e w' => e = .returned (.tuple #[.int .i64 v, .bool b]) ∧ Below w.heap.size w w' :=
  (rclock_any s L w (by rw [Lib.size_eq, hL.out]; exact hl) hL).mono fun _ _ ⟨he, hw⟩ => ⟨by rw [he, h.out.1, h.out.2], hw⟩

set_option maxRecDepth 100000 in
set_option maxHeartbeats 3200000 in
theorem rat_any (s : ByteArray) (L : List UInt8) (w : World) (hs : s.size ≤ 1000) (hL : Hid (s.data.toList = L)) :
    Calls Tryd.prog 19 #[.string s] w fun e w' => e = .returned (.tuple #[.agg #[.int .i64 (apV L), .int .i64 (apKk L)], .bool (clB (apL L))]) ∧ Below w.heap.size w w' := by
  have hl := Lib.size_eq s
  rw [hL.out] at hl
  have HV : Hid (apV L = if clB (apL L) then clV (apL L) else 0) := Lib.hid rfl
  have HKk : Hid (apKk L = if clB (apL L) then apK L else 0) := Lib.hid rfl
  have hsn : (s.size = 0 ∧ apL L = L ∧ apK L = 1) ∨ ∃ (k : Nat) (c : UInt8) (l : List UInt8), s.size = k + 1 ∧ (∃ h : k < s.size, s[k] = c) ∧ s.extract 0 k = ⟨l.toArray⟩ ∧ apL L = (if ltB c then l else L) ∧ apK L = ltV c := by
    by_cases h0 : s.size = 0
    · left
      have : L = [] := by rw [← List.length_eq_zero_iff, ← hl]; exact h0
      subst this
      exact ⟨h0, rfl, rfl⟩
    · right
      obtain ⟨k, hk⟩ : ∃ k, s.size = k + 1 := ⟨s.size - 1, by omega⟩
      obtain ⟨h, l, e1, e2⟩ := last_str hL.out hk
      obtain ⟨p1, p2⟩ := ap_snoc l s[k]
      rw [← e1] at p1 p2
      exact ⟨k, s[k], l, hk, ⟨h, rfl⟩, e2, p1, p2⟩
  have hal : (apL L).length ≤ 1000 := by
    rcases hsn with ⟨_, h, _⟩ | ⟨k, c, l, hk, _, he, h, _⟩
    · rw [h]; omega
    · rw [h]
      split
      · have h2 : (s.extract 0 k).size = l.length := by rw [he]; rfl
        simp at h2; omega
      · omega
  obtain ⟨B, hB⟩ : ∃ B, apL L = B := ⟨_, rfl⟩
  obtain ⟨K, hK⟩ : ∃ K, apK L = K := ⟨_, rfl⟩
  rw [hB] at HV HKk hsn hal ⊢
  rw [hK] at HKk hsn
  clear hB hK
  obtain ⟨v, hv⟩ : ∃ x, clV B = x := ⟨_, rfl⟩
  have HN := Lib.hid (fun h => cl_no (l := B) h)
  obtain ⟨cb, hcb⟩ : ∃ x, clB B = x := ⟨_, rfl⟩
  have PB := Lib.hid (And.intro hv hcb)
  rw [hcb] at HV HKk HN ⊢
  rw [hv] at HV HN
  have HL := Lib.hid hl
  clear hl hv hcb
  go_enter Tryd.func19, Tryd.ntmps19
  go_upto_if 10 with fail
  go_cut [4, 0] (fun x y wx => x = .int .i64 K ∧ y = .string ⟨B.toArray⟩ ∧ w.alloc (Obj.cells #[.int .i64 0, .int .i64 0] 41) = wx)
  case first =>
    rcases hsn with ⟨h0, rfl, rfl⟩ | ⟨k, ch, l, hk, ⟨hlt, hch⟩, he, h1, h2⟩
    · have HS : Hid (s = ⟨B.toArray⟩) := Lib.hid (by rw [← hL.out, Lib.mk_data])
      go_wp2
      go_meet
      exact ⟨rfl, congrArg Value.string HS.out, rfl⟩
    · have hz : 0 < s.size := by omega
      have e1 : (s.size : Int) - 1 = (k : Int) := by omega
      have k0 : k ≤ 1000 := by omega
      have k1 : k ≤ s.size := by omega
      cases hlb : ltB ch with
      | true =>
        rw [hlb, if_pos rfl] at h1
        have HHE : Hid (s.extract 0 k = ⟨B.toArray⟩) := Lib.hid (by rw [h1]; exact he)
        have hsm := sm_yes hlb
        rw [← h2] at hsm
        obtain ⟨sv, hsv⟩ : ∃ x, smI ch = x := ⟨_, rfl⟩
        rw [hsv] at hsm
        have HSV := Lib.hid hsv
        clear he hk h1 h2 hlb hsv
        subst hch
        rcases hsm with ⟨rfl, rfl⟩ | ⟨rfl, rfl⟩ | ⟨rfl, rfl⟩ | ⟨rfl, rfl⟩ | ⟨rfl, rfl⟩
        all_goals
          go_wp2_with fail
          refine (small_to _ _ _ HSV).mono ?_
          rintro e w1 ⟨rfl, rfl⟩
          go_wp2
          go_meet
          exact ⟨rfl, congrArg Value.string HHE.out, rfl⟩
      | false =>
        rw [hlb, if_neg (by decide)] at h1
        have HS : Hid (s = ⟨B.toArray⟩) := Lib.hid (by rw [h1, ← hL.out, Lib.mk_data])
        obtain ⟨⟨n1, n2, n3, n4, n5⟩, hsm⟩ := sm_no hlb
        rw [← h2] at hsm
        obtain ⟨sv, hsv⟩ : ∃ x, smI ch = x := ⟨_, rfl⟩
        rw [hsv] at n1 n2 n3 n4 n5
        have HSV := Lib.hid hsv
        have d1 : (sv == 119) = false := beq_eq_false_iff_ne.2 n1
        have d2 : (sv == 115) = false := beq_eq_false_iff_ne.2 n2
        have d3 : (sv == 117) = false := beq_eq_false_iff_ne.2 n3
        have d4 : (sv == 103) = false := beq_eq_false_iff_ne.2 n4
        have d5 : (sv == 122) = false := beq_eq_false_iff_ne.2 n5
        clear he hk h1 h2 hlb hsv n1 n2 n3 n4 n5
        subst hch hsm
        go_wp2_with fail
        refine (small_to _ _ _ HSV).mono ?_
        rintro e w1 ⟨rfl, rfl⟩
        go_wp2
        go_meet
        exact ⟨rfl, congrArg Value.string HS.out, rfl⟩
  case rest =>
  obtain ⟨rfl, rfl, hwc⟩ := hcut
  subst hwc
  clear hsn
  go_wp2_with fail
  refine (rclock_l _ B v cb _ hal (Lib.hid rfl) PB).mono ?_
  rintro e w1 ⟨rfl, hb⟩
  have hb0 : Below w.heap.size w w1 := ((Below.refl _ _).alloc (Nat.le_refl _) _).trans (hb.mono (by simp))
  have hz := hb.size
  simp at hz
  have c0 : w1.cell? ⟨w.heap.size, 0, none⟩ = some (.int .i64 0) := (hb.cell (p := ⟨w.heap.size, 0, none⟩) (by simp)).trans (by go_simp)
  have c1 : w1.cell? ⟨w.heap.size, 1, none⟩ = some (.int .i64 0) := (hb.cell (p := ⟨w.heap.size, 1, none⟩) (by simp)).trans (by go_simp)
  have e0 : w1.frozen? ⟨w.heap.size, 0, none⟩ = false := (hb.frozen (p := ⟨w.heap.size, 0, none⟩) (by simp)).trans (by go_simp)
  have e1 : w1.frozen? ⟨w.heap.size, 1, none⟩ = false := (hb.frozen (p := ⟨w.heap.size, 1, none⟩) (by simp)).trans (by go_simp)
  clear hb
  cases cb with
  | false =>
    go_wp2
    exact bodyPost_ret (v := .tuple #[.agg #[.int .i64 0, .int .i64 0], .bool false]) (by simp [results, Tryd.results19, go_sem, c0, c1]) rfl ⟨ret_ab HV.out.symm HKk.out.symm rfl, (hb0.setCell (by simp) _).setCell (by simp) _⟩
  | true =>
    go_wp2
    exact bodyPost_ret (v := .tuple #[.agg #[.int .i64 v, .int .i64 K], .bool true]) (by simp [results, Tryd.results19, go_sem, c0, c1]) rfl ⟨ret_ab HV.out.symm HKk.out.symm rfl, (hb0.setCell (by simp) _).setCell (by simp) _⟩
theorem rat_to (s : ByteArray) (L : List UInt8) (v k : Int) (b : Bool) (w : World) (hl : L.length ≤ 1000) (hL : Hid (s.data.toList = L)) (h : Hid (apV L = v ∧ apKk L = k ∧ clB (apL L) = b)) :
    Calls Tryd.prog 19 #[.string s] w fun e w' => e = .returned (.tuple #[.agg #[.int .i64 v, .int .i64 k], .bool b]) ∧ Below w.heap.size w w' :=
  (rat_any s L w (by rw [Lib.size_eq, hL.out]; exact hl) hL).mono fun _ _ ⟨he, hw⟩ => ⟨by rw [he, h.out.1, h.out.2.1, h.out.2.2], hw⟩

theorem rutc_to (l k d s v : Int) (w : World) (hb : utB l k d s = true) (h : Hid (utV l k d s = v)) :
    Calls Tryd.prog 22 #[.int .i64 l, .int .i64 k, .int .i64 d, .int .i64 s] w fun e w' => e = .returned (.int .i64 v) ∧ w = w' := by
  have HX : Hid (v = if k = 1 then l - d - s else if k = 2 then l - d else l) := Lib.hid (by rw [← h.out, utV, if_pos hb])
  have hh := hb
  simp only [utB, Bool.and_eq_true] at hh
  obtain ⟨⟨⟨h1, h2⟩, h3⟩, h4⟩ := hh
  have hk : 1 ≤ k ∧ k ≤ 3 := of_decide_eq_true h1
  have b1 := (inB_iff l).1 h2
  have b2 : -345600 ≤ d ∧ d ≤ 345600 := of_decide_eq_true h3
  have b3 : -345600 ≤ s ∧ s ≤ 345600 := of_decide_eq_true h4
  have hk3 : k = 1 ∨ k = 2 ∨ k = 3 := by omega
  clear hb h1 h2 h3 h4 hk
  rcases hk3 with rfl | rfl | rfl
  all_goals
    go_enter Tryd.func22, Tryd.ntmps22
    go_wp2
    go_ret
    exact ⟨ret_i (by rw [HX.out]; rfl), rfl⟩

set_option maxHeartbeats 800000 in
theorem rAt_to (n k : Int) (b : Bool) (w : World) (h : Hid (atOk n k = b)) :
    Calls Tryd.prog 23 #[.agg #[.int .i64 n, .int .i64 k]] w fun e w' => e = .returned (.bool b) ∧ w.alloc (Obj.cells #[.int .i64 n, .int .i64 k] 41) = w' := by
  have HO : Hid (b = (inS n && isK k)) := Lib.hid h.out.symm
  have D1 : Hid (decide (-345600 ≤ n ∧ n ≤ 345600) = inS n) := Lib.hid rfl
  have D2 : Hid (decide (1 ≤ k ∧ k ≤ 3) = isK k) := Lib.hid rfl
  cases h1 : inS n with
  | false =>
    rw [h1] at D1
    have H : Hid (b = false) := Lib.hid (by rw [HO.out, h1]; rfl)
    clear h1
    go_enter Tryd.func23, Tryd.ntmps23
    go_wp2_with fail
    refine (in_to _ _ _ _ _ D1).mono ?_
    rintro e w1 ⟨rfl, rfl⟩
    go_wp2
    go_ret
    exact ⟨ret_b H.out.symm, rfl⟩
  | true =>
    rw [h1] at D1
    have H : Hid (b = isK k) := Lib.hid (by rw [HO.out, h1]; rfl)
    clear h1
    go_enter Tryd.func23, Tryd.ntmps23
    go_wp2_with fail
    refine (in_to _ _ _ _ _ D1).mono ?_
    rintro e w1 ⟨rfl, rfl⟩
    go_wp2_with fail
    refine (in_to _ _ _ _ _ D2).mono ?_
    rintro e w1 ⟨rfl, rfl⟩
    go_wp2
    go_ret
    exact ⟨ret_b H.out.symm, rfl⟩
end Atf
end Go.Proofs.YtikjlnkpcjjigaaDoor
