/-
  Contract of the reference's Clock.
-/
import Derived.Test.YtikjlnkpcjjigaaDoorRefClk
namespace Go.Proofs.YtikjlnkpcjjigaaDoor
open Go.RowKit
namespace Clk
open Sol
theorem infoStr : (Tryd.prog.info? 9).map (fun i => (i.zero, i.size, i.bytes)) = some (some (.string ByteArray.empty), 1, 16) := by kernel_rfl
def strs (ps : List (List UInt8)) : List Value := ps.map fun p => Value.string ⟨p.toArray⟩
theorem strs_snoc (ps : List (List UInt8)) (p : List UInt8) : strs (ps ++ [p]) = strs ps ++ [.string ⟨p.toArray⟩] := by simp [strs]
/-- The value of the first k + 1 pieces. -/
def pv (d : List UInt8) (rest : List (List UInt8)) (k : Nat) : Int := 3600 * digVal d + (if 2 ≤ k then 60 * digVal (rest.getD 0 []) else 0) + (if 3 ≤ k then digVal (rest.getD 1 []) else 0)
theorem pv_1 (d : List UInt8) (rest : List (List UInt8)) : pv d rest 1 = 3600 * digVal d := by simp [pv]
theorem pv_2 (d : List UInt8) (rest : List (List UInt8)) : pv d rest 2 = pv d rest 1 + 60 * digVal (rest.getD 0 []) := by simp [pv]
theorem pv_3 (d : List UInt8) (rest : List (List UInt8)) : pv d rest 3 = pv d rest 2 + digVal (rest.getD 1 []) := by simp [pv]
theorem pv_ref {d : List UInt8} {rest : List (List UInt8)} (h : rest.length ≤ 2) : refV (d :: rest) = pv d rest (rest.length + 1) := by
  match rest, h with
  | [], _ => simp [refV, pv]; omega
  | [e], _ => simp [refV, pv]; omega
  | [e, g], _ => simp [refV, pv]; omega
theorem ok2_bd {p : List UInt8} (h : okP p 2 2 = true) : parseB p = true ∧ 0 ≤ digVal p ∧ digVal p < 100 := by
  obtain ⟨⟨h1, h2⟩, h3⟩ := okP_iff.1 h
  have := digVal_bd p h3
  have e : p.length = 2 := by omega
  rw [e] at this
  exact ⟨okP_parse (by omega) (by omega) h, this.1, by have := this.2; omega⟩
theorem ok13_bd {p : List UInt8} (h : okP p 1 3 = true) : parseB p = true ∧ 0 ≤ digVal p ∧ digVal p < 1000 := by
  have h2 := p13 p
  rw [h] at h2
  simp only [Bool.and_eq_true, decide_eq_true_eq] at h2
  have := digs3 h2.1 h2.2
  rw [parseV_yes h2.1] at this
  exact ⟨h2.1, this⟩
theorem add0 (g j : Nat) : (⟨g, 0, none⟩ : Addr).add j = ⟨g, j, none⟩ := by unfold Addr.add; split <;> simp_all
theorem pv_bd {d : List UInt8} {rest : List (List UInt8)} {k : Nat} (hd : 0 ≤ digVal d ∧ digVal d < 1000) (hk : k ≤ 3) (h : (rest.take (k - 1)).all ok2 = true) : 0 ≤ pv d rest k ∧ pv d rest k ≤ 3700000 := by
  have key : ∀ j, j < k - 1 → 0 ≤ digVal (rest.getD j []) ∧ digVal (rest.getD j []) < 100 := by
    intro j hj
    by_cases hl : j < rest.length
    · have hm : rest[j] ∈ rest.take (k - 1) := by
        rw [List.mem_take_iff_getElem]
        exact ⟨j, by omega, rfl⟩
      have ho := List.all_eq_true.1 h _ hm
      obtain ⟨o1, o2, o3⟩ := ok2_iff.1 ho
      have := digVal_bd rest[j] o2
      rw [List.getD_eq_getElem?_getD, List.getElem?_eq_getElem hl]
      exact ⟨this.1, by show digVal rest[j] < 100; omega⟩
    · rw [List.getD_eq_getElem?_getD, List.getElem?_eq_none (by omega)]; decide
  unfold pv
  by_cases h2 : 2 ≤ k
  · have k0 := key 0 (by omega)
    rw [if_pos h2]
    by_cases h3 : 3 ≤ k
    · have k1 := key 1 (by omega)
      rw [if_pos h3]; omega
    · rw [if_neg h3]; omega
  · rw [if_neg h2, if_neg (by omega)]; omega
theorem rdig_13 (p : List UInt8) (r : Bool) (w : World) (h : Hid (okP p 1 3 = r)) :
    Calls Tryd.prog 35 #[.string ⟨p.toArray⟩, .int .i64 1, .int .i64 3] w fun e w' => e = .returned (.bool r) ∧ w = w' := rdig_to p 1 3 r w (by omega) h
theorem rdig_22 (p : List UInt8) (r : Bool) (w : World) (h : Hid (okP p 2 2 = r)) :
    Calls Tryd.prog 35 #[.string ⟨p.toArray⟩, .int .i64 2, .int .i64 2] w fun e w' => e = .returned (.bool r) ∧ w = w' := rdig_to p 2 2 r w (by omega) h
theorem sg_cases (L : List UInt8) : (neg L = true ∧ ∃ r, L = 45 :: r ∧ dg L = r) ∨ (neg L = false ∧ dg L = L ∧ (∀ c r, L = c :: r → c ≠ 45)) := by
  cases L with
  | nil => exact Or.inr ⟨rfl, rfl, fun c r h => by cases h⟩
  | cons c r =>
    by_cases h : c = 45
    · subst h
      exact Or.inl ⟨by simp [neg, Lib.hasPrefix], r, rfl, by simp [dg, Lib.trimPrefix, Lib.hasPrefix]⟩
    · obtain ⟨_, h2⟩ := pre_no' h (r := r)
      exact Or.inr ⟨h2, by rw [dg, Lib.trimPrefix, h2]; rfl, fun c' r' e => by cases e; exact h⟩

set_option maxRecDepth 100000 in
set_option maxHeartbeats 6400000 in
theorem rclock_any (s : ByteArray) (L : List UInt8) (w : World) (hs : s.size ≤ 1000) (hL : Hid (s.data.toList = L)) :
    Calls Tryd.prog 47 #[.string s] w fun e w' => e = .returned (.tuple #[.int .i64 (clV L), .bool (clB L)]) ∧ Below w.heap.size w w' := by
  by_cases h1 : L = [45]
  · subst h1
    have he : s.toList = [45] := by rw [Lib.toList_data]; exact hL.out
    go_enter Tryd.func47, Tryd.ntmps47
    go_wp2
    go_ret2
    exact ⟨ret_ib cl_dash.2.1.symm cl_dash.1.symm, Below.refl _ _⟩
  · have he : (s.toList == [45]) = false := beq_eq_false_iff_ne.2 (by rw [Lib.toList_data, hL.out]; exact h1)
    have hl := Lib.size_eq s
    rw [hL.out] at hl
    have hdl := dg_len L
    have HB : Hid (clB L = (readB (dg L) && decide (readV (dg L) ≤ 345600))) := Lib.hid (by rw [clB, decide_eq_false h1, Bool.false_or])
    have HV : Hid (clV L = if clB L then (if neg L then -readV (dg L) else readV (dg L)) else 0) := Lib.hid (by rw [clV, if_neg h1])
    have HN := Lib.hid (fun h => (cl_no (l := L) h).1)
    have hsg := sg_cases L
    obtain ⟨D, hD⟩ : ∃ D, dg L = D := ⟨_, rfl⟩
    obtain ⟨ng, hng⟩ : ∃ b, neg L = b := ⟨_, rfl⟩
    rw [hD] at HB HV hdl hsg
    rw [hng] at HV hsg
    obtain ⟨sg, hsgv⟩ : ∃ x : Int, (if ng then -1 else 1) = x := ⟨_, rfl⟩
    have SG := Lib.hid hsgv
    clear hD hng h1 hsgv
    have HL := Lib.hid hl
    have hDl : D.length ≤ 1000 := by omega
    obtain ⟨i0, hi, hz0, hz1, hz2⟩ := info_parts infoStr
    have HI := Lib.hid (And.intro hi (And.intro hz0 (And.intro hz1 hz2)))
    clear hi hz0 hz1 hz2
    go_enter Tryd.func47, Tryd.ntmps47
    go_upto_region 4 with fail
    go_cut [19] (fun x wx => x = .bool ng ∧ w = wx)
    case first =>
      rcases hsg with ⟨rfl, r, rfl, rfl⟩ | ⟨rfl, rfl, hc⟩
      · have hz : 0 < s.size := by rw [hl]; simp
        have hc : s[0] = 45 := by
          have := head_str s hz
          rw [hL.out] at this
          exact (Option.some.inj this).symm
        clear hl
        go_wp2
        go_meet
        exact ⟨rfl, rfl⟩
      · by_cases hz : s.size = 0
        · clear hl
          go_wp2
          go_meet
          exact ⟨rfl, rfl⟩
        · have hz1 : 0 < s.size := by omega
          have hne : s[0] ≠ 45 := by
            have := head_str s hz1
            rw [hL.out] at this
            cases D with
            | nil => simp at this
            | cons c r => simp at this; rw [← this]; exact hc c r rfl
          have hc2 : (((s[0]).toNat : Int) == 45) = false := beq_eq_false_iff_ne.2 (fun e => hne (UInt8.toNat_inj.1 (by have : (45 : UInt8).toNat = 45 := rfl; omega)))
          clear hl hne hz
          go_wp2
          go_meet
          exact ⟨rfl, rfl⟩
    case rest =>
    obtain ⟨rfl, hwc⟩ := hcut
    subst hwc
    go_upto_if 19 with fail
    go_cut [4, 0] (fun x y wx => x = .int .i64 sg ∧ y = .string ⟨D.toArray⟩ ∧ ∃ q : Nat, wx = w.drewN q)
    case first =>
      rcases hsg with ⟨rfl, r, rfl, rfl⟩ | ⟨rfl, rfl, hc⟩
      · have h1 : 1 ≤ s.size := by rw [hl]; simp
        have HE : Hid (s.extract 1 s.size = ⟨D.toArray⟩) := Lib.hid (by rw [drop_str, hL.out]; rfl)
        clear hl
        go_wp2_with fail
        go_quiet (fail)
        go_wp2
        go_meet
        exact ⟨by rw [← SG.out]; rfl, congrArg Value.string HE.out, _, rfl⟩
      · have HE : Hid (s = ⟨D.toArray⟩) := Lib.hid (by rw [← hL.out, Lib.mk_data])
        clear hl
        go_wp2
        go_meet
        exact ⟨by rw [← SG.out]; rfl, congrArg Value.string HE.out, 0, rfl⟩
    case rest =>
      obtain ⟨rfl, rfl, q0, rfl⟩ := hcut
      clear hsg hl he
      obtain ⟨S, hS⟩ : ∃ S : ByteArray, S = ⟨D.toArray⟩ := ⟨_, rfl⟩
      rw [← hS]
      have hSz : S.size = D.length := by rw [hS]; rfl
      have hSd : S.data.toList = D := by rw [hS]
      have HSz := Lib.hid hSz
      have HSd := Lib.hid hSd
      have hSl : S.size ≤ 1000 := by omega
      clear hS hSz hSd
      go_wp2_with fail
      go_loopw [5, 6, 7] (fun v f i wr => ∃ (ps : List (List UInt8)) (k fr : Nat) (ao : Option Addr) (cv : Nat), k ≤ S.size + 1 ∧ ps.length ≤ k ∧ i = .int .i64 k ∧ f = .int .i64 fr ∧ fr ≤ k ∧ v = .slice ao ps.length cv ∧ Hid (LP D k ps fr) ∧ wr.ownsRow w.heap.size 9 1 v ps.length (strs ps) ∧ Below w.heap.size w wr) (fun _ _ i _ => S.size + 1 - (intOf i).toNat)
      case atStart => exact ⟨[], 0, 0, none, 0, by omega, Nat.le_refl _, rfl, rfl, Nat.le_refl _, rfl, Lib.hid (lp_start D), World.ownsRow_nil _ _ _ _, below_drewN (Below.refl _ _) _⟩
      case round =>
        obtain ⟨ps, k, fr, ao, cv, hk, hpk, rfl, rfl, hfr, rfl, HP, hown, hnx⟩ := hrel
        have hsize := hnx.size
        by_cases hkA : k ≤ S.size
        · obtain ⟨cur, hcur, hfk, hsp⟩ := lp_cur (l := D) (by rw [← HSz.out]; exact hkA) HP.out
          have HE : Hid (S.extract fr k = ⟨cur.toArray⟩) := Lib.hid (bytes_eq (by rw [Lib.extract_data, HSd.out, hcur]))
          have HSP := Lib.hid hsp
          have HPH := Lib.hid HP.out
          clear hcur hsp
          by_cases hkB : k = S.size
          · subst hkB
            have HNX : Hid (LP D (S.size + 1) (ps ++ [cur]) (S.size + 1)) := Lib.hid (by
              have := HSP.out
              rw [HSz.out] at this ⊢
              exact lp_last this _)
            go_wp2_with (at_builtin; refine wpList_append_own _ rfl _ _ 37 rfl w.heap.size 9 i0 (.string ByteArray.empty) 1 16 Tryd.underlying37 HI.out.1 HI.out.2.1 HI.out.2.2.1 HI.out.2.2.2 rfl (by decide) _ _ _ rfl (hown.alloc _) ⟨wr.heap.size, 0, none⟩ 1 1 [.string (S.extract fr S.size)] rfl rfl (cell_one_new _ _ _) (fun x hx => by simp at hx; subst hx; rfl) (by unfold maxLen; omega) (by omega) (by simp; omega) ?_; intro v' w3 hown' hgrow3 hnil3)
            go_roundw
            case rel =>
              obtain ⟨g3, cap3, hv3⟩ : ∃ g3 cap3, v' = .slice (some ⟨g3, 0, none⟩) (ps.length + 1) cap3 := by
                rcases hown'.2 with ⟨_, h⟩ | ⟨g3, cap3, _, h, _⟩
                · omega
                · exact ⟨g3, cap3, h⟩
              have R : S.size + 1 ≤ S.size + 1 ∧ (ps ++ [cur]).length ≤ S.size + 1 ∧ Value.int .i64 ((S.size : Int) + 1) = .int .i64 ((S.size + 1 : Nat) : Int) ∧ Value.int .i64 ((S.size : Int) + 1) = .int .i64 ((S.size + 1 : Nat) : Int) ∧ S.size + 1 ≤ S.size + 1 ∧ v' = .slice (some ⟨g3, 0, none⟩) (ps ++ [cur]).length cap3 ∧ Hid (LP D (S.size + 1) (ps ++ [cur]) (S.size + 1)) ∧ w3.ownsRow w.heap.size 9 1 v' (ps ++ [cur]).length (strs (ps ++ [cur])) ∧ Below w.heap.size w w3 :=
                ⟨by omega, by rw [List.length_append]; simp; omega, by go_num, by go_num, Nat.le_refl _, by rw [hv3, List.length_append]; rfl, HNX, by rw [strs_snoc, List.length_append, ← HE.out]; exact hown', (hnx.alloc hsize _).grown hgrow3 (by simp; omega) (fun q hq => (hown.lt q hq).1)⟩
              first | exact ⟨ps ++ [cur], S.size + 1, S.size + 1, some ⟨g3, 0, none⟩, cap3, R⟩ | ((repeat apply Exists.intro); exact ⟨⟨ps ++ [cur], S.size + 1, S.size + 1, some ⟨g3, 0, none⟩, cap3, R⟩, rfl⟩)
            case measure => simp [intOf]; try omega
          · have hlt : k < S.size := by omega
            have hne : ((k : Int) == (S.size : Int)) = false := beq_eq_false_iff_ne.2 (by omega)
            have HG : Hid (∀ h : k < D.length, D[k] = S[k]) := Lib.hid (fun h => by
              have e := HSd.out
              subst e
              rfl)
            clear hkB
            by_cases hc : S[k] = 58
            · have HNX : Hid (LP D (k + 1) (ps ++ [cur]) (k + 1)) := Lib.hid (lp_colon (by rw [← HSz.out]; exact hlt) HSP.out (by rw [HG.out]; exact hc))
              go_wp2_with (at_builtin; refine wpList_append_own _ rfl _ _ 37 rfl w.heap.size 9 i0 (.string ByteArray.empty) 1 16 Tryd.underlying37 HI.out.1 HI.out.2.1 HI.out.2.2.1 HI.out.2.2.2 rfl (by decide) _ _ _ rfl (hown.alloc _) ⟨wr.heap.size, 0, none⟩ 1 1 [.string (S.extract fr k)] rfl rfl (cell_one_new _ _ _) (fun x hx => by simp at hx; subst hx; rfl) (by unfold maxLen; omega) (by omega) (by simp; omega) ?_; intro v' w3 hown' hgrow3 hnil3)
              go_roundw
              case rel =>
                obtain ⟨g3, cap3, hv3⟩ : ∃ g3 cap3, v' = .slice (some ⟨g3, 0, none⟩) (ps.length + 1) cap3 := by
                  rcases hown'.2 with ⟨_, h⟩ | ⟨g3, cap3, _, h, _⟩
                  · omega
                  · exact ⟨g3, cap3, h⟩
                have R : k + 1 ≤ S.size + 1 ∧ (ps ++ [cur]).length ≤ k + 1 ∧ Value.int .i64 ((k : Int) + 1) = .int .i64 ((k + 1 : Nat) : Int) ∧ Value.int .i64 ((k : Int) + 1) = .int .i64 ((k + 1 : Nat) : Int) ∧ k + 1 ≤ k + 1 ∧ v' = .slice (some ⟨g3, 0, none⟩) (ps ++ [cur]).length cap3 ∧ Hid (LP D (k + 1) (ps ++ [cur]) (k + 1)) ∧ w3.ownsRow w.heap.size 9 1 v' (ps ++ [cur]).length (strs (ps ++ [cur])) ∧ Below w.heap.size w w3 :=
                  ⟨by omega, by rw [List.length_append]; simp; omega, by go_num, by go_num, Nat.le_refl _, by rw [hv3, List.length_append]; rfl, HNX, by rw [strs_snoc, List.length_append, ← HE.out]; exact hown', (hnx.alloc hsize _).grown hgrow3 (by simp; omega) (fun q hq => (hown.lt q hq).1)⟩
                first | exact ⟨ps ++ [cur], k + 1, k + 1, some ⟨g3, 0, none⟩, cap3, R⟩ | ((repeat apply Exists.intro); exact ⟨⟨ps ++ [cur], k + 1, k + 1, some ⟨g3, 0, none⟩, cap3, R⟩, rfl⟩)
              case measure => simp [intOf]; try omega
            · have HNX : Hid (LP D (k + 1) ps fr) := Lib.hid (lp_char (by rw [← HSz.out]; exact hlt) HPH.out (by rw [HG.out]; exact hc))
              have hc2 : (((S[k]).toNat : Int) == 58) = false := beq_eq_false_iff_ne.2 (fun e => hc (UInt8.toNat_inj.1 (by have : (58 : UInt8).toNat = 58 := rfl; omega)))
              clear hc
              go_wp2
              go_roundw
              case rel => exact ⟨ps, k + 1, fr, ao, cv, by omega, by omega, by go_num, rfl, by omega, rfl, HNX, hown, hnx⟩
              case measure => simp [intOf]; try omega
        · obtain rfl : k = S.size + 1 := by omega
          obtain ⟨r1, r2, r3, r4⟩ := lp_end (l := D) (fr := fr) (ps := ps) (by have := HP.out; rw [HSz.out] at this; exact this)
          rcases hown.2 with ⟨_, h0⟩ | ⟨g, cap, cu, hv, _, _⟩
          · omega
          · obtain ⟨rfl, rfl⟩ : ao = some ⟨g, 0, none⟩ ∧ cv = cap := by cases hv; exact ⟨rfl, rfl⟩
            have hcells := hown.cells (g := g) rfl
            obtain ⟨d, rest, rfl⟩ : ∃ d rest, ps = d :: rest := by
              cases ps with
              | nil => simp at r3
              | cons d rest => exact ⟨d, rest, rfl⟩
            have HC : Hid (∀ (j : Nat) (p : List UInt8), (d :: rest)[j]? = some p → wr.cell? ⟨g, j, none⟩ = some (.string ⟨p.toArray⟩)) := Lib.hid (fun j p h => by
              have := hcells j (.string ⟨p.toArray⟩) (by rw [strs, List.getElem?_map, h]; rfl)
              rwa [add0] at this)
            have HR1 : Hid (readB D = (decide (rest.length ≤ 2) && okP d 1 3 && rest.all ok2)) := Lib.hid r1
            have HR2 := Lib.hid r2
            clear hcells hown hv HP r1 r2 r3 r4
            by_cases hr : rest.length ≤ 2
            · have c0 := HC.out 0 d rfl
              have hn3 : rest.length + 1 ≤ 3 := by omega
              cases hd : okP d 1 3 with
              | false =>
                have H : Hid (clB L = false) := Lib.hid (by rw [HB.out, HR1.out, hd]; simp)
                have HD := Lib.hid hd
                clear hd
                go_wp2_with fail
                refine (rdig_13 d false _ HD).mono ?_
                rintro e' w1 ⟨rfl, rfl⟩
                go_wp2
                go_ret2
                exact ⟨ret_ib (HN.out H.out).symm H.out.symm, hnx⟩
              | true =>
                have HD := Lib.hid hd
                obtain ⟨b1, b2, b3⟩ := ok13_bd hd
                have PB := Lib.hid (fun k h1 h2 => pv_bd (d := d) (rest := rest) (k := k) ⟨b2, b3⟩ h1 h2)
                have HP1 : Hid (pv d rest 1 = 3600 * digVal d) := Lib.hid (pv_1 d rest)
                obtain ⟨dv, hdv⟩ : ∃ x, digVal d = x := ⟨_, rfl⟩
                rw [hdv] at b2 b3 HP1
                have DV := Lib.hid (And.intro b1 hdv)
                clear hd hdv b1
                go_wp2_with fail
                refine (rdig_13 d true _ HD).mono ?_
                rintro e' w1 ⟨rfl, rfl⟩
                go_wp2_with fail
                refine (rval_to d dv _ DV).mono ?_
                rintro e' w1 ⟨rfl, rfl⟩
                go_wp2_with fail
                go_loop [8, 9] (fun n i => ∃ k : Nat, 1 ≤ k ∧ k ≤ rest.length + 1 ∧ i = .int .i64 k ∧ n = .int .i64 (pv d rest k) ∧ Hid ((rest.take (k - 1)).all ok2 = true)) (fun _ i => rest.length + 1 - (intOf i).toNat)
                case atStart => exact ⟨1, Nat.le_refl _, by omega, rfl, by rw [HP1.out], Lib.hid rfl⟩
                case round =>
                  clear c0
                  obtain ⟨k, k1, k2, rfl, rfl, HA⟩ := hrel
                  obtain ⟨v0, v1⟩ := PB.out k (by omega) HA.out
                  by_cases hk : k ≤ rest.length
                  · obtain ⟨p, hp⟩ : ∃ p, rest[k - 1]? = some p := ⟨rest[k - 1]'(by omega), by rw [List.getElem?_eq_getElem (by omega)]⟩
                    have ck := HC.out k p (by rw [← hp]; obtain ⟨j, rfl⟩ : ∃ j, k = j + 1 := ⟨k - 1, by omega⟩; rfl)
                    have HPE := Lib.hid hp
                    have HMem : Hid (ok2 p = false → clB L = false) := Lib.hid (fun h => by
                      rw [HB.out, HR1.out]
                      have : rest.all ok2 = false := by
                        rw [List.all_eq_false]
                        exact ⟨p, List.mem_of_getElem? HPE.out, by rw [h]; decide⟩
                      rw [this]; simp)
                    have HSn : Hid (ok2 p = true → (rest.take (k + 1 - 1)).all ok2 = true) := Lib.hid (fun h => by
                      have e : k + 1 - 1 = (k - 1) + 1 := by omega
                      have hlt : k - 1 < rest.length := by omega
                      have hpe := HPE.out
                      rw [List.getElem?_eq_getElem hlt] at hpe
                      rw [e, List.take_succ_eq_append_getElem hlt, List.all_append, HA.out, Option.some.inj hpe]; simp [h])
                    clear hp
                    cases h2 : okP p 2 2 with
                    | false =>
                      have H : Hid (clB L = false) := Lib.hid (HMem.out (by rw [ok2, h2]; rfl))
                      have H2 := Lib.hid h2
                      clear h2
                      go_wp2_with fail
                      refine (rdig_22 p false _ H2).mono ?_
                      rintro e' w1 ⟨rfl, rfl⟩
                      go_wp2
                      go_ret2
                      exact ⟨ret_ib (HN.out H.out).symm H.out.symm, hnx⟩
                    | true =>
                      obtain ⟨q1, q2, q3⟩ := ok2_bd h2
                      by_cases hv : digVal p ≤ 59
                      · have HO : Hid (ok2 p = true) := Lib.hid (by rw [ok2, h2, decide_eq_true hv]; rfl)
                        have HNX := Lib.hid (HSn.out HO.out)
                        have HQ2 : Hid (k = 1 → pv d rest (1 + 1) = pv d rest 1 + 60 * digVal p) := Lib.hid (fun e => by
                          subst e
                          have h := HPE.out
                          rw [pv_2, List.getD_eq_getElem?_getD, h]; rfl)
                        have HQ3 : Hid (k = 2 → pv d rest (2 + 1) = pv d rest 2 + digVal p) := Lib.hid (fun e => by
                          subst e
                          have h := HPE.out
                          rw [pv_3, List.getD_eq_getElem?_getD, h]; rfl)
                        obtain ⟨x, hx⟩ : ∃ x, digVal p = x := ⟨_, rfl⟩
                        rw [hx] at q2 q3 hv HQ2 HQ3
                        have DVP := Lib.hid (And.intro q1 hx)
                        have H2 := Lib.hid h2
                        clear h2 hx q1
                        have hk12 : k = 1 ∨ k = 2 := by omega
                        rcases hk12 with rfl | rfl
                        · have HE := Lib.hid (HQ2.out rfl)
                          go_wp2_with fail
                          refine (rdig_22 p true _ H2).mono ?_
                          rintro e' w1 ⟨rfl, rfl⟩
                          go_wp2_with fail
                          refine (rval_to p x _ DVP).mono ?_
                          rintro e' w1 ⟨rfl, rfl⟩
                          go_wp2_with fail
                          refine (rval_to p x _ DVP).mono ?_
                          rintro e' w1 ⟨rfl, rfl⟩
                          go_wp2
                          go_round
                          case rel => exact ⟨2, by omega, by omega, rfl, by rw [HE.out], HNX⟩
                          case measure => simp [intOf]; try omega
                        · have HE := Lib.hid (HQ3.out rfl)
                          go_wp2_with fail
                          refine (rdig_22 p true _ H2).mono ?_
                          rintro e' w1 ⟨rfl, rfl⟩
                          go_wp2_with fail
                          refine (rval_to p x _ DVP).mono ?_
                          rintro e' w1 ⟨rfl, rfl⟩
                          go_wp2_with fail
                          refine (rval_to p x _ DVP).mono ?_
                          rintro e' w1 ⟨rfl, rfl⟩
                          go_wp2
                          go_round
                          case rel => exact ⟨3, by omega, by omega, rfl, by rw [HE.out], HNX⟩
                          case measure => simp [intOf]; try omega
                      · have H : Hid (clB L = false) := Lib.hid (HMem.out (by rw [ok2, decide_eq_false hv]; simp))
                        have hv2 : 59 < digVal p := by omega
                        obtain ⟨x, hx⟩ : ∃ x, digVal p = x := ⟨_, rfl⟩
                        rw [hx] at q2 q3 hv2
                        have DVP := Lib.hid (And.intro q1 hx)
                        have H2 := Lib.hid h2
                        clear h2 hx q1 hv
                        go_wp2_with fail
                        refine (rdig_22 p true _ H2).mono ?_
                        rintro e' w1 ⟨rfl, rfl⟩
                        go_wp2_with fail
                        refine (rval_to p x _ DVP).mono ?_
                        rintro e' w1 ⟨rfl, rfl⟩
                        go_wp2
                        go_ret2
                        exact ⟨ret_ib (HN.out H.out).symm H.out.symm, hnx⟩
                  · obtain rfl : k = rest.length + 1 := by omega
                    have HRB : Hid (readB D = true) := Lib.hid (by
                      have h := HA.out
                      rw [Nat.add_sub_cancel, List.take_length] at h
                      rw [HR1.out, h, HD.out, decide_eq_true hr]; rfl)
                    have HRV : Hid (readV D = pv d rest (rest.length + 1)) := Lib.hid (by rw [HR2.out HRB.out, pv_ref hr])
                    obtain ⟨x, hx⟩ : ∃ x, pv d rest (rest.length + 1) = x := ⟨_, rfl⟩
                    rw [hx] at v0 v1 HRV ⊢
                    clear hx
                    by_cases h3 : x ≤ 345600
                    · have H : Hid (clB L = true) := Lib.hid (by rw [HB.out, HRB.out, HRV.out, decide_eq_true h3]; rfl)
                      cases ng with
                      | true =>
                        obtain rfl : sg = -1 := SG.out.symm
                        have HW : Hid (clV L = -x) := Lib.hid (by rw [HV.out, if_pos H.out, if_pos rfl, HRV.out])
                        go_wp2
                        go_ret2
                        exact ⟨ret_ib HW.out.symm H.out.symm, hnx⟩
                      | false =>
                        obtain rfl : sg = 1 := SG.out.symm
                        have HW : Hid (clV L = x) := Lib.hid (by rw [HV.out, if_pos H.out, HRV.out]; rfl)
                        go_wp2
                        go_ret2
                        exact ⟨ret_ib HW.out.symm H.out.symm, hnx⟩
                    · have H : Hid (clB L = false) := Lib.hid (by rw [HB.out, HRV.out, decide_eq_false h3]; simp)
                      have h4 : 345600 < x := by omega
                      clear h3
                      go_wp2
                      go_ret2
                      exact ⟨ret_ib (HN.out H.out).symm H.out.symm, hnx⟩
            · have H : Hid (clB L = false) := Lib.hid (by rw [HB.out, HR1.out, decide_eq_false hr]; rfl)
              have hn3 : 3 < rest.length + 1 := by omega
              go_wp2
              go_ret2
              exact ⟨ret_ib (HN.out H.out).symm H.out.symm, hnx⟩
end Clk
end Go.Proofs.YtikjlnkpcjjigaaDoor
