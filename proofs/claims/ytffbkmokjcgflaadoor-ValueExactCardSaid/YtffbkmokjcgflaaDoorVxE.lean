/-
  ValueExact: package value against the reference.
-/
import Derived.Test.YtffbkmokjcgflaaDoorVxO
import Derived.Test.YtffbkmokjcgflaaDoorVxT
import Derived.Test.YtffbkmokjcgflaaDoorVxQ
import Derived.Test.YtffbkmokjcgflaaDoorVxS
import Derived.Test.YtffbkmokjcgflaaDoorVTr
import Derived.Test.YtffbkmokjcgflaaDoorVal9
import Derived.Deep.DeepCutAuto
namespace Go.Proofs.YtffbkmokjcgflaaDoor
open Go.RowKit
namespace Val
open Sol Civ Wk Cel
theorem ptG_code (B : List UInt8) (u : Bool) : (ptG B u).2.2 = 0 ∨ ptG B u = (0, false, 19) := by
  rw [ptG]; split
  · exact Or.inl rfl
  · exact Or.inr rfl
theorem pt_code {S : List UInt8} {t c : Int} {u : Bool} (h : ptP S = (t, u, c)) : (c = 0) ∨ (c = 19 ∧ t = 0 ∧ u = false) := by
  have key : (ptP S).2.2 = 0 ∨ ptP S = (0, false, 19) := by
    rw [ptP_ref]; split
    · exact ptG_code _ _
    · exact ptG_code _ _
  rw [h] at key
  rcases key with e | e
  · exact Or.inl e
  · injection e with e1 e2
    injection e2 with e2 e3
    exact Or.inr ⟨e3, e1, e2⟩
theorem po_code {S : List UInt8} {v c : Int} (h : poP S = (v, c)) : (c = 0) ∨ (c = 19 ∧ v = 0) := by
  have key : (poP S).2 = 0 ∨ poP S = (0, 19) := by
    cases S with
    | nil => rw [poP_nil]; exact Or.inr rfl
    | cons a X =>
      rw [poP_ref]; split
      · exact Or.inl rfl
      · exact Or.inr rfl
  rw [h] at key
  rcases key with e | e
  · exact Or.inl e
  · injection e with e1 e2
    exact Or.inr ⟨e2, e1⟩
theorem tms_len : ∀ (P : List (List UInt8)) (f u : Bool) (x : List Int × Bool), tmsG f u P = some x → x.1.length = P.length
  | [], f, u, x, h => by rw [tmsG] at h; injection h with h; subst h; rfl
  | p :: ps, f, u, x, h => by
    rw [tmsG] at h
    split at h
    · cases h
    · cases hq : tmsG false (ptP p).2.1 ps with
      | none => rw [hq] at h; cases h
      | some y =>
        rw [hq] at h
        injection h with h
        subst h
        have := tms_len ps _ _ y hq
        simp [this]
theorem tr_code {S L : List _} {u : Bool} {c : Int} (h : timesR S = (L, u, c)) : ((c = 0) ∨ (c = 19 ∧ u = false)) ∧ L.length ≤ S.length + 1 := by
  rw [timesR] at h
  cases hq : tmsG true false (cmG [] S) with
  | none =>
    rw [hq] at h
    injection h with h1 h2
    injection h2 with h2 h3
    exact ⟨Or.inr ⟨h3.symm, h2.symm⟩, by rw [← h1]; simp⟩
  | some x =>
    rw [hq] at h
    injection h with h1 h2
    injection h2 with h2 h3
    have e := tms_len _ _ _ _ hq
    have e2 := cm_len S []
    exact ⟨Or.inl h3.symm, by rw [← h1, e]; exact e2⟩
theorem rpo_c (s : ByteArray) (S : List UInt8) (v c : Int) (ok : Bool) (w : World) (hS : s.data.toList = S) (h : Hid (poP S = (v, c))) (hok : Hid (decide (c = 0) = ok)) :
    Calls Tryd.prog 10 #[.string s] w fun e w' => e = .returned (.tuple #[.int .i64 v, .bool ok]) ∧ Below w.heap.size w w' := by
  rw [← hok.out]
  exact rpoff_to s S v c w hS h
theorem rtm_c (s : ByteArray) (S : List UInt8) (L : List Int) (u : Bool) (c : Int) (ok : Bool) (w : World) (hs : s.size ≤ 1000) (hS : Hid (s.data.toList = S)) (h : Hid (timesR S = (L, u, c))) (hok : Hid (decide (c = 0) = ok)) :
    Calls Tryd.prog 11 #[.string s] w fun e w' => ∃ v, e = .returned (.tuple #[v, .bool u, .bool ok]) ∧ IntV w' v L ∧ Below w.heap.size w w' := by
  rw [← hok.out]
  exact rtimes_to s S L u c w hs hS h
theorem tmE_code (t : Int) (u : Bool) : (tmE t = 0) ∨ (tmE t = 23 ∧ tmS t u = []) := by
  by_cases h : tmE t = 0
  · exact Or.inl h
  · refine Or.inr ⟨?_, by rw [tmS, if_neg h]⟩
    rw [tmE] at h ⊢
    split at h
    · exact absurd rfl h
    · rename_i hn
      rw [if_neg hn]
set_option maxHeartbeats 12800000 in
set_option maxRecDepth 100000 in
theorem vexact_any (t off : Int) (u : Bool) (s : ByteArray) (w : World) (hA : Ahead w) (hp : Pow w) (hm : MaxL w) (t1 : -9223372036854775808 ≤ t) (t2 : t ≤ 9223372036854775807) :
    Calls Tryd.prog 3 #[.int .i64 t, .int .i64 off, .bool u, .string s] w fun e w' => e = .returned (.bool true) ∧ Below w.heap.size w w' := by
  have HA := Lib.hid hA
  have HP := Lib.hid hp
  have HM := Lib.hid hm
  clear hA hp hm
  by_cases h500 : s.size ≤ 500
  case neg =>
    go_enter Tryd.func3, Tryd.ntmps3
    go_wp2
    go_ret
    exact ⟨rfl, Below.refl _ _⟩
  case pos =>
  have hs : s.size ≤ 1000 := by omega
  obtain ⟨S, hS⟩ : ∃ S, s.data.toList = S := ⟨_, rfl⟩
  have hl : S.length = s.size := by rw [← hS]; rfl
  obtain ⟨T, hT⟩ : ∃ T, tmS t u = T := ⟨_, rfl⟩
  obtain ⟨ec, hec⟩ : ∃ c, tmE t = c := ⟨_, rfl⟩
  obtain ⟨O, hO⟩ : ∃ T, ofS off = T := ⟨_, rfl⟩
  obtain ⟨oc, hoc⟩ : ∃ c, ofE off = c := ⟨_, rfl⟩
  obtain ⟨pt, pu, pc, hpt⟩ : ∃ a b c, ptP S = (a, b, c) := ⟨_, _, _, rfl⟩
  obtain ⟨po, qc, hpo⟩ : ∃ a c, poP S = (a, c) := ⟨_, _, rfl⟩
  obtain ⟨L, lu, lc, hL⟩ : ∃ a b c, timesR S = (a, b, c) := ⟨_, _, _, rfl⟩
  obtain ⟨ok1, hk1⟩ : ∃ b, decide (pc = 0) = b := ⟨_, rfl⟩
  obtain ⟨ok2, hk2⟩ : ∃ b, decide (qc = 0) = b := ⟨_, rfl⟩
  obtain ⟨ok3, hk3⟩ : ∃ b, decide (lc = 0) = b := ⟨_, rfl⟩
  have hct := tmE_code t u
  rw [hT, hec] at hct
  have HCT := Lib.hid hct
  have HP1 : Hid ((pc = 0 ∧ ok1 = true) ∨ (pc = 19 ∧ ok1 = false ∧ pt = 0 ∧ pu = false)) := Lib.hid (by
    rcases pt_code hpt with e | ⟨e, e2⟩
    · exact Or.inl ⟨e, by rw [← hk1, e]; rfl⟩
    · exact Or.inr ⟨e, by rw [← hk1, e]; rfl, e2⟩)
  have HP2 : Hid ((qc = 0 ∧ ok2 = true) ∨ (qc = 19 ∧ ok2 = false)) := Lib.hid (by
    rcases po_code hpo with e | ⟨e, e2⟩
    · exact Or.inl ⟨e, by rw [← hk2, e]; rfl⟩
    · exact Or.inr ⟨e, by rw [← hk2, e]; rfl⟩)
  have HP3 : Hid ((lc = 0 ∧ ok3 = true) ∨ (lc = 19 ∧ ok3 = false)) := Lib.hid (by
    rcases (tr_code hL).1 with e | ⟨e, e2⟩
    · exact Or.inl ⟨e, by rw [← hk3, e]; rfl⟩
    · exact Or.inr ⟨e, by rw [← hk3, e]; rfl⟩)
  have hLl : L.length ≤ 1000000 := by have := (tr_code hL).2; omega
  have K1 := Lib.hid hk1
  have K2 := Lib.hid hk2
  have K3 := Lib.hid hk3
  have HS := Lib.hid hS
  have HT := Lib.hid hT
  have HEC := Lib.hid hec
  have HO := Lib.hid hO
  have HOC := Lib.hid hoc
  have HPT := Lib.hid hpt
  have HPO := Lib.hid hpo
  have HL := Lib.hid hL
  clear hct hk1 hk2 hk3 hS hT hec hO hoc hpt hpo hL hl
  go_enter Tryd.func3, Tryd.ntmps3
  go_wp2_with fail
  refine (time_to t u T ec _ HA.out HP.out t1 t2 (Lib.hid ⟨HT.out, HEC.out⟩)).mono ?_
  rintro e v3 ⟨rfl, d3⟩
  have C3 := Lib.hid d3
  go_wp2_with fail
  refine (ptime_to s S _ _ _ _ (HA.out.stays C3.out) hs HS HPT).mono ?_
  rintro e v4 ⟨rfl, d4⟩
  have C4 := Lib.hid (C3.out.trans (d4.mono C3.out.size))
  clear d3 d4 C3
  go_wp2_with fail
  refine (off_to off O oc _ (HP.out.stays C4.out) (Lib.hid ⟨HO.out, HOC.out⟩)).mono ?_
  rintro e v5 ⟨rfl, d5⟩
  have C5 := Lib.hid (C4.out.trans (d5.mono C4.out.size))
  clear d5 C4
  go_wp2_with fail
  refine (poff_to s S _ _ _ hs HS HPO).mono ?_
  rintro e v6 ⟨rfl, rfl⟩
  go_wp2_with fail
  refine (times_to s S L lu lc _ (HA.out.stays C5.out) (HM.out.stays C5.out) hs HS HL).mono ?_
  rintro e v7 ⟨vL, rfl, hv1, d7⟩
  have C7 := Lib.hid (C5.out.trans (d7.mono C5.out.size))
  clear d7 C5
  go_wp2_with fail
  refine (rpt_c s S pt pc pu ok1 _ HS HPT K1.out).mono ?_
  rintro e v8 ⟨rfl, d8⟩
  have C8 := Lib.hid (C7.out.trans (d8.mono C7.out.size))
  have hv2 := hv1.below d8
  clear d8 C7 hv1
  go_upto_region 9 with fail
  go_cut [92] (fun v wx => v = .bool false ∧ wx = v8)
  case first =>
    rcases HP1.out with ⟨rfl, rfl⟩ | ⟨rfl, rfl, rfl, rfl⟩
    · cases pu
      all_goals
        go_wp2_with fail
        go_meet
        first | exact ⟨rfl, rfl⟩ | trivial
    · go_wp2_with fail
      go_meet
      first | exact ⟨rfl, rfl⟩ | trivial
  case rest =>
  obtain ⟨rfl, rfl⟩ := hcut
  go_wp2_with fail
  refine (rpo_c s S po qc ok2 _ HS.out HPO K2).mono ?_
  rintro e v9 ⟨rfl, d9⟩
  have C9 := Lib.hid (C8.out.trans (d9.mono C8.out.size))
  have hv3 := hv2.below d9
  clear d9 C8 hv2
  go_upto_region 12 with fail
  go_cut [114] (fun v wx => v = .bool false ∧ wx = v9)
  case first =>
    rcases HP2.out with ⟨rfl, rfl⟩ | ⟨rfl, rfl⟩
    all_goals
      go_wp2_with fail
      go_meet
      first | exact ⟨rfl, rfl⟩ | trivial
  case rest =>
  obtain ⟨rfl, rfl⟩ := hcut
  go_wp2_with fail
  refine (rtm_c s S L lu lc ok3 _ hs HS HL K3).mono ?_
  rintro e va ⟨vM, rfl, hm1, da⟩
  have Ca := Lib.hid (C9.out.trans (da.mono C9.out.size))
  have hv4 := hv3.below da
  clear da C9 hv3
  go_upto_region 15 with fail
  go_cut [143] (fun v wx => v = .bool false ∧ Hid (Below w.heap.size w wx))
  case first =>
    rcases HP3.out with ⟨rfl, rfl⟩ | ⟨rfl, rfl⟩
    all_goals
      go_wp2_with fail
      refine (ints_any vL vM L L _ hv4 hm1 hLl hLl).mono ?_
      rintro e vb ⟨b, rfl, hb, m, rfl⟩
      obtain rfl : b = true := by rw [hb.out]; simp
      go_wp2_with fail
      go_meet
      exact ⟨by first | rfl | trivial, Lib.hid (below_drewN Ca.out m)⟩
  case rest =>
  obtain ⟨rfl, Cb⟩ := hcut
  clear Ca hv4 hm1 hLl HP1 HP2 HP3 K1 K2 K3 HPT HPO HL HS
  have hin : (off ≤ -86400 ∧ oc = 19 ∧ O = []) ∨ (¬ off ≤ -86400 ∧ 86400 ≤ off ∧ oc = 19 ∧ O = []) ∨ (-86400 < off ∧ off < 86400 ∧ oc = 0) := by
    have h1 := HOC.out
    have h2 := HO.out
    rw [ofE] at h1
    rw [ofS] at h2
    by_cases c1 : off ≤ -86400
    · rw [if_neg (fun e => by omega)] at h1 h2
      exact Or.inl ⟨c1, h1.symm, h2.symm⟩
    · by_cases c2 : 86400 ≤ off
      · rw [if_neg (fun e => by omega)] at h1 h2
        exact Or.inr (Or.inl ⟨c1, c2, h1.symm, h2.symm⟩)
      · rw [if_pos ⟨by omega, by omega⟩] at h1
        exact Or.inr (Or.inr ⟨by omega, by omega, h1.symm⟩)
  have HIN := Lib.hid hin
  clear hin HOC
  go_upto_region 17 with fail
  rcases HIN.out with ⟨c1, rfl, rfl⟩ | ⟨c1, c2, rfl, rfl⟩ | ⟨c1, c2, rfl⟩
  case inr.inr =>
    go_wp2_with fail
    refine (roff_to off O _ c1 c2 HO).mono ?_
    rintro e wd ⟨rfl, dd⟩
    have Cd := Lib.hid (Cb.out.trans (dd.mono Cb.out.size))
    clear dd Cb HO HIN c1 c2
    go_wp2_with fail
    refine (ryears_to t (dY (t / 86400)) (dM (t / 86400)) (dD (t / 86400)) (decide (tmE t = 0)) _ t1 t2 ⟨rfl, rfl, rfl⟩ rfl).mono ?_
    rintro e we ⟨rfl, dE⟩
    have Ce := Lib.hid (Cd.out.trans (dE.mono Cd.out.size))
    clear dE Cd
    rw [HEC.out]
    generalize dY (t / 86400) = Y
    generalize dM (t / 86400) = M
    generalize dD (t / 86400) = D
    rcases HCT.out with rfl | ⟨rfl, rfl⟩
    · have HEC0 := HEC
      clear HCT
      go_wp2_with fail
      refine (rtime_to t u T _ t1 t2 HEC.out HT).mono ?_
      rintro e wf ⟨rfl, df⟩
      have Cf := Lib.hid ((Ce.out.alloc Ce.out.size (Obj.cells #[.int .i64 Y, .int .i64 M, .int .i64 D] 42)).trans (df.mono (by have := Ce.out.size; simp; omega)))
      clear df
      go_wp2_with fail
      refine (wakes20_any _ (HA.out.stays Cf.out) (HP.out.stays Cf.out) (HM.out.stays Cf.out)).mono ?_
      rintro e wg ⟨rfl, dg⟩
      have Cg := Cf.out.trans (dg.mono Cf.out.size)
      clear dg
      go_wp2
      go_ret
      exact ⟨rfl, Cg⟩
    · clear HCT
      have Cf := Lib.hid (Ce.out.alloc Ce.out.size (Obj.cells #[.int .i64 Y, .int .i64 M, .int .i64 D] 42))
      go_wp2_with fail
      refine (wakes20_any _ (HA.out.stays Cf.out) (HP.out.stays Cf.out) (HM.out.stays Cf.out)).mono ?_
      rintro e wg ⟨rfl, dg⟩
      have Cg := Cf.out.trans (dg.mono Cf.out.size)
      clear dg
      go_wp2
      go_ret
      exact ⟨rfl, Cg⟩
  all_goals
    clear HIN HO
    have Cd := Cb
    clear Cb
    go_wp2_with fail
    refine (ryears_to t (dY (t / 86400)) (dM (t / 86400)) (dD (t / 86400)) (decide (tmE t = 0)) _ t1 t2 ⟨rfl, rfl, rfl⟩ rfl).mono ?_
    rintro e we ⟨rfl, dE⟩
    have Ce := Lib.hid (Cd.out.trans (dE.mono Cd.out.size))
    clear dE Cd
    rw [HEC.out]
    generalize dY (t / 86400) = Y
    generalize dM (t / 86400) = M
    generalize dD (t / 86400) = D
    rcases HCT.out with rfl | ⟨rfl, rfl⟩
    · have HEC0 := HEC
      clear HCT
      go_wp2_with fail
      refine (rtime_to t u T _ t1 t2 HEC.out HT).mono ?_
      rintro e wf ⟨rfl, df⟩
      have Cf := Lib.hid ((Ce.out.alloc Ce.out.size (Obj.cells #[.int .i64 Y, .int .i64 M, .int .i64 D] 42)).trans (df.mono (by have := Ce.out.size; simp; omega)))
      clear df
      go_wp2_with fail
      refine (wakes20_any _ (HA.out.stays Cf.out) (HP.out.stays Cf.out) (HM.out.stays Cf.out)).mono ?_
      rintro e wg ⟨rfl, dg⟩
      have Cg := Cf.out.trans (dg.mono Cf.out.size)
      clear dg
      go_wp2
      go_ret
      exact ⟨rfl, Cg⟩
    · clear HCT
      have Cf := Lib.hid (Ce.out.alloc Ce.out.size (Obj.cells #[.int .i64 Y, .int .i64 M, .int .i64 D] 42))
      go_wp2_with fail
      refine (wakes20_any _ (HA.out.stays Cf.out) (HP.out.stays Cf.out) (HM.out.stays Cf.out)).mono ?_
      rintro e wg ⟨rfl, dg⟩
      have Cg := Cf.out.trans (dg.mono Cf.out.size)
      clear dg
      go_wp2
      go_ret
      exact ⟨rfl, Cg⟩
end Val
end Go.Proofs.YtffbkmokjcgflaaDoor
