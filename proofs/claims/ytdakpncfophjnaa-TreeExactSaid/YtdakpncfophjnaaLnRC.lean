/-
  Lines, the reference's words: LineText, word. (Written by gen/gen_lnrc.py.)
-/
import Derived.Test.YtdakpncfophjnaaLinZB
import Derived.Deep.CutBlock
namespace Go.Proofs.Ytdakpncfophjnaa
open Go.RowKit
namespace Lin
open CutB Cel
open Opn (TxtV)
theorem ws_val : ∀ (vs : List (List UInt8)) (i : Nat), mapI (fun j v => quT ((fun _ => false) j || qtB v) v) i vs = vs.map valT
  | [], _ => rfl
  | v :: vs, i => by
    rw [mapI, ws_val vs, List.map_cons]
    congr 1
def zfn : Nat → Bool := fun _ => false
theorem ps_val : ∀ (ps : List PV) (i : Nat), psW (mapI (fun _ p => (p, wsI zfn p.vs)) i ps) = psT ps
  | [], _ => rfl
  | p :: ps, i => by
    rw [mapI, psW, psT, ps_val ps, parW, parT, vs_w]
    congr 3
    show vsW 61 (wsI zfn p.vs) = _
    rw [wsI, show zfn = (fun _ => false) from rfl, ws_val]
theorem psT_len (ps : List PV) (h : ∀ p ∈ ps, LightP p) (k : Nat) : (psT (ps.take k)).length ≤ (ps.take k).length * 4300 := ps_lenL _ (take_len_light h k)
theorem qu_val (V : List UInt8) : quT (qtB V) V = valT V := rfl
theorem vs_take (vs : List (List UInt8)) (k : Nat) : wsI zfn (vs.take k) = (vs.take k).map valT := ws_val _ 0
theorem vsE_val_len (vs : List (List UInt8)) (h : ∀ v ∈ vs, v.length ≤ 200) : (vsE (vs.map valT)).length ≤ vs.length * 203 + 1 := by
  have h1 := vsE_len (vs.map valT)
  have h2 := vs_lenL 44 vs h
  rw [vs_w] at h2
  omega
set_option maxHeartbeats 51200000 in
set_option maxRecDepth 100000 in
theorem rlt_2 (an av : List UInt8) (ap : List PV) (b off c N : Nat) (w : World) (hb : Hid (lnB ⟨an, ap, av⟩ = true)) (LA : Hid (Light ⟨an, ap, av⟩)) (hN : Hid (ap.length = N)) (h0 : 0 < N)
    (hbl : b < w.heap.size) (hp : Hid (∀ (j : Nat) (hj : j < ap.length), ∃ sv, w.cell? ⟨b, off + j * 2, none⟩ = some (.string ⟨(ap[j]).nm.toArray⟩) ∧ w.cell? ⟨b, off + j * 2 + 1, none⟩ = some sv ∧ TxtV w sv (ap[j]).vs)) (T : List UInt8) (hT : Hid (lineF ⟨an, ap, av⟩ = T)) :
    Calls Try.prog 24 #[.agg #[.string ⟨an.toArray⟩, .slice (some ⟨b, off, none⟩) N c, .string ⟨av.toArray⟩]] w fun e w' => e = .returned (.string ⟨T.toArray⟩) ∧ Below w.heap.size w w' := by
  have BB := Lib.hid ((Below.refl w.heap.size w).alloc (Nat.le_refl _) (Obj.cells #[.string ⟨an.toArray⟩, .slice (some ⟨b, off, none⟩) N c, .string ⟨av.toArray⟩] 24))
  have l1 := LA.out
  have n3 : N ≤ 20 := by have := l1.2.2.1; simp only at this; rw [← hN.out]; exact this
  have HG : Hid (∀ p ∈ ap, 0 < p.vs.length) := Lib.hid (fun p hp => by
    have h := hb.out
    rw [lnB, Bool.and_eq_true, Bool.and_eq_true] at h
    have h := List.all_eq_true.1 h.2.2 p hp
    rw [parB, Bool.and_eq_true, Bool.and_eq_true] at h
    exact of_decide_eq_true h.2.1)
  obtain ⟨XN, hXN⟩ : ∃ X : ByteArray, ⟨an.toArray⟩ = X := ⟨_, rfl⟩
  have hXd : Hid (XN.data.toList = an) := Lib.hid (by rw [← hXN])
  obtain ⟨XV, hXV⟩ : ∃ X : ByteArray, ⟨av.toArray⟩ = X := ⟨_, rfl⟩
  have hVd : Hid (XV.data.toList = av) := Lib.hid (by rw [← hXV])
  have hVs : XV.size ≤ 500 := by rw [← hXV]; exact LA.out.2.1
  rw [hXN, hXV] at BB ⊢
  clear hXV hXN l1
  go_enter Try.func24, Try.ntmps24
  go_wp2_with fail
  go_loopw [3, 4] (fun sv i wr => ∃ k : Nat, k ≤ N ∧ i = .int .i64 k ∧ ∃ X : ByteArray, sv = .string X ∧ Hid (X.data.toList = an ++ psT (ap.take k)) ∧ wr = w.alloc (Obj.cells #[.string XN, .slice (some ⟨b, off, none⟩) N c, .string XV] 24)) (fun _ i _ => N - (intOf i).toNat)
  case atStart => exact ⟨0, Nat.zero_le _, rfl, XN, rfl, Lib.hid (by rw [hXd.out]; simp [psT]), rfl⟩
  case round =>
    obtain ⟨k, hk, rfl, X, rfl, hX, rfl⟩ := hrel
    have hXs : X.size ≤ 90000 := by
      have e : X.size = X.data.toList.length := by simp
      have h1 := psT_len ap LA.out.2.2.2 k
      have h2 : (ap.take k).length ≤ 20 := by rw [List.length_take]; have := hN.out; omega
      have h3 := LA.out.1
      simp only at h3
      rw [e, hX.out, List.length_append]
      omega
    by_cases hlt : k < N
    · have hkp : k < ap.length := by rw [hN.out]; exact hlt
      obtain ⟨sv, c0, c1, ht⟩ := hp.out k hkp
      obtain ⟨p, hpk⟩ : ∃ p, ap[k]'hkp = p := ⟨_, rfl⟩
      rw [hpk] at c0 ht
      have hvs := HG.out p (hpk ▸ List.getElem_mem hkp)
      obtain ⟨s1, s2, s3⟩ := LA.out.2.2.2 p (hpk ▸ List.getElem_mem hkp)
      have HSN : Hid (psT (ap.take (k + 1)) = psT (ap.take k) ++ parT p) := Lib.hid (by rw [ps_snoc ap k hkp, hpk])
      obtain ⟨b2, off2, c2, hf, hb2, hc2⟩ := ht.form hvs
      subst hf
      obtain ⟨M, hM⟩ : ∃ M, p.vs.length = M := ⟨_, rfl⟩
      have HM := Lib.hid hM
      have HC2 := Lib.hid hc2
      rw [hM] at c1 hvs s2
      obtain ⟨Y, hY⟩ : ∃ Y : ByteArray, ⟨p.nm.toArray⟩ = Y := ⟨_, rfl⟩
      have hYd := Lib.hid (show Y.data.toList = p.nm from by rw [← hY])
      have hYs : Y.size ≤ 200 := by rw [← hY]; exact s1
      rw [hY] at c0
      have HP0 : Hid ((X ++ ⟨#[59]⟩ ++ Y ++ ⟨#[61]⟩ : ByteArray).data.toList = an ++ psT (ap.take k) ++ 59 :: p.nm ++ [61]) := Lib.hid (by
        rw [Rws.cat_data, Rws.cat_data, Rws.cat_data, hX.out, hYd.out]; simp)
      obtain ⟨P, hP⟩ : ∃ P, an ++ psT (ap.take k) ++ 59 :: p.nm = P := ⟨_, rfl⟩
      have HPX : Hid (P = an ++ psT (ap.take k) ++ 59 :: p.nm) := Lib.hid hP.symm
      have hPl : P.length ≤ 90201 := by
        rw [← hP]
        have e : X.size = X.data.toList.length := by simp
        rw [hX.out] at e
        simp only [List.length_append, List.length_cons] at e ⊢
        omega
      rw [hP] at HP0
      have S3 := Lib.hid s3
      clear ht hpk hkp hc2 hY hM s3 s1 hP hX
      go_wp2_with fail
      go_loopw [3, 5] (fun sv j wr => ∃ q : Nat, q ≤ M ∧ j = .int .i64 q ∧ ∃ X' : ByteArray, sv = .string X' ∧ Hid (X'.data.toList = P ++ vsE ((p.vs.take q).map valT)) ∧ wr = w.alloc (Obj.cells #[.string XN, .slice (some ⟨b, off, none⟩) N c, .string XV] 24)) (fun _ j _ => M - (intOf j).toNat)
      case atStart => exact ⟨0, Nat.zero_le _, rfl, _, rfl, Lib.hid (by rw [HP0.out]; simp [vsE]), rfl⟩
      case round =>
        obtain ⟨q, hq, rfl, X', rfl, hX', rfl⟩ := hrel
        have hXs' : X'.size ≤ 95000 := by
          have e : X'.size = X'.data.toList.length := by simp
          have h1 := vsE_val_len (p.vs.take q) (take_len_light S3.out q)
          have h3 : (p.vs.take q).length ≤ 20 := by rw [List.length_take]; have := HM.out; omega
          rw [e, hX'.out, List.length_append]
          omega
        clear HP0 hXs
        by_cases hqt : q < M
        · have hqv : q < p.vs.length := by rw [HM.out]; exact hqt
          have f0 := HC2.out q hqv
          obtain ⟨v, hvq⟩ : ∃ v, p.vs[q]'hqv = v := ⟨_, rfl⟩
          rw [hvq] at f0
          have hvl := S3.out v (hvq ▸ List.getElem_mem hqv)
          have HVS : Hid (vsE ((p.vs.take (q + 1)).map valT) = vsE ((p.vs.take q).map valT) ++ ((if q = 0 then [] else [44]) ++ quT (qtB v) v)) := Lib.hid (by
            rw [List.take_succ_eq_append_getElem hqv, List.map_append, List.map_cons, List.map_nil, vsE_snoc, hvq, List.length_map]
            have : (p.vs.take q).length = q := by rw [List.length_take]; omega
            rw [this]
            rfl)
          obtain ⟨Z, hZ⟩ : ∃ Z : ByteArray, ⟨v.toArray⟩ = Z := ⟨_, rfl⟩
          have hZd := Lib.hid (show Z.data.toList = v from by rw [← hZ])
          have hZs : Z.size = v.length := by rw [← hZ]; rfl
          have HZS := Lib.hid hZs
          have hZl : Z.size ≤ 200 := by omega
          rw [hZ] at f0
          clear hvq hqv hZ hZs
          by_cases e0 : q = 0
          · have x0 : ¬ (0 : Int) < (q : Int) := by omega
            have E0 := Lib.hid e0
            clear e0
            go_wp2_with fail
            go_loopw [7, 8] (fun x i wr => ∃ n : Nat, n ≤ Z.size ∧ i = .int .i64 n ∧ ∃ B : Bool, x = .bool B ∧ Hid (B = qtB (v.take n)) ∧ wr = w.alloc (Obj.cells #[.string XN, .slice (some ⟨b, off, none⟩) N c, .string XV] 24)) (fun _ i _ => Z.size - (intOf i).toNat)
            case atStart => exact ⟨0, Nat.zero_le _, rfl, false, rfl, Lib.hid (by simp [qtB]), rfl⟩
            case round =>
              obtain ⟨n, hn, rfl, B, rfl, hB, rfl⟩ := hrel
              by_cases hnt : n < Z.size
              · have hnv : n < v.length := by rw [← HZS.out]; exact hnt
                obtain ⟨d, hx⟩ : ∃ c, v[n]'hnv = c := ⟨_, rfl⟩
                have hcc : Z[n] = d := by
                  have : Z[n] = Z.data.toList[n]'(by simpa using hnt) := by simp [ByteArray.getElem_eq_getElem_data]
                  rw [this, ← hx]
                  exact List.getElem_of_eq hZd.out _
                have db := d.toNat_lt
                have HS : Hid (qtB (v.take (n + 1)) = (B || ([58, 59, 44] : List UInt8).contains d)) := Lib.hid (by rw [hB.out, qtb_snoc v n hnv, hx])
                clear hx hnv hB
                cases B with
                | true =>
                  have HR : Hid (true = qtB (v.take (n + 1))) := Lib.hid (by rw [HS.out]; rfl)
                  clear HS
                  go_wp2
                  go_roundw
                  case rel => exact ⟨n + 1, by omega, by go_num, true, rfl, HR, trivial⟩
                  case measure => simp [intOf]; omega
                | false =>
                  by_cases x1 : d = 58
                  · subst x1
                    have HR : Hid (true = qtB (v.take (n + 1))) := Lib.hid (by rw [HS.out]; rfl)
                    clear HS
                    go_wp2
                    go_roundw
                    case rel => exact ⟨n + 1, by omega, by go_num, true, rfl, HR, trivial⟩
                    case measure => simp [intOf]; omega
                  · by_cases x2 : d = 59
                    · subst x2
                      have HR : Hid (true = qtB (v.take (n + 1))) := Lib.hid (by rw [HS.out]; rfl)
                      clear HS
                      go_wp2
                      go_roundw
                      case rel => exact ⟨n + 1, by omega, by go_num, true, rfl, HR, trivial⟩
                      case measure => simp [intOf]; omega
                    · have y1 : ((d.toNat : Int) == 58) = false := beq_eq_false_iff_ne.2 (fun e => x1 (UInt8.toNat_inj.1 (by show d.toNat = 58; omega)))
                      have y2 : ((d.toNat : Int) == 59) = false := beq_eq_false_iff_ne.2 (fun e => x2 (UInt8.toNat_inj.1 (by show d.toNat = 59; omega)))
                      by_cases x3 : d = 44
                      · subst x3
                        have HR : Hid (true = qtB (v.take (n + 1))) := Lib.hid (by rw [HS.out]; rfl)
                        clear HS
                        go_wp2
                        go_roundw
                        case rel => exact ⟨n + 1, by omega, by go_num, true, rfl, HR, trivial⟩
                        case measure => simp [intOf]; omega
                      · have y3 : ((d.toNat : Int) == 44) = false := beq_eq_false_iff_ne.2 (fun e => x3 (UInt8.toNat_inj.1 (by show d.toNat = 44; omega)))
                        have HR : Hid (false = qtB (v.take (n + 1))) := Lib.hid (by rw [HS.out]; simp [x1, x2, x3])
                        clear HS x1 x2 x3
                        go_wp2
                        go_roundw
                        case rel => exact ⟨n + 1, by omega, by go_num, false, rfl, HR, trivial⟩
                        case measure => simp [intOf]; omega
              · have HBV : Hid (B = qtB v) := Lib.hid (by
                  have := hB.out
                  rwa [List.take_of_length_le (by rw [← HZS.out]; omega)] at this)
                have hVS := HVS.out
                rw [← HBV.out] at hVS
                have HV := Lib.hid hVS
                clear hB hVS HVS HBV
                cases B with
                | false =>
                  go_wp2
                  go_roundw
                  case rel => exact ⟨q + 1, by omega, by go_num, _, rfl, Lib.hid (by rw [HV.out, Rws.cat_data, hX'.out, hZd.out, quT, if_pos E0.out]; simp), trivial⟩
                  case measure => simp [intOf]; omega
                | true =>
                  go_wp2
                  go_roundw
                  case rel => exact ⟨q + 1, by omega, by go_num, _, rfl, Lib.hid (by rw [HV.out, Rws.cat_data, hX'.out, qu_eq v Z hZd.out true rfl, if_pos E0.out]; simp), trivial⟩
                  case measure => simp [intOf]; omega
          · have x0 : (0 : Int) < (q : Int) := by omega
            go_wp2_with fail
            go_loopw [7, 8] (fun x i wr => ∃ n : Nat, n ≤ Z.size ∧ i = .int .i64 n ∧ ∃ B : Bool, x = .bool B ∧ Hid (B = qtB (v.take n)) ∧ wr = w.alloc (Obj.cells #[.string XN, .slice (some ⟨b, off, none⟩) N c, .string XV] 24)) (fun _ i _ => Z.size - (intOf i).toNat)
            case atStart => exact ⟨0, Nat.zero_le _, rfl, false, rfl, Lib.hid (by simp [qtB]), rfl⟩
            case round =>
              obtain ⟨n, hn, rfl, B, rfl, hB, rfl⟩ := hrel
              by_cases hnt : n < Z.size
              · have hnv : n < v.length := by rw [← HZS.out]; exact hnt
                obtain ⟨d, hx⟩ : ∃ c, v[n]'hnv = c := ⟨_, rfl⟩
                have hcc : Z[n] = d := by
                  have : Z[n] = Z.data.toList[n]'(by simpa using hnt) := by simp [ByteArray.getElem_eq_getElem_data]
                  rw [this, ← hx]
                  exact List.getElem_of_eq hZd.out _
                have db := d.toNat_lt
                have HS : Hid (qtB (v.take (n + 1)) = (B || ([58, 59, 44] : List UInt8).contains d)) := Lib.hid (by rw [hB.out, qtb_snoc v n hnv, hx])
                clear hx hnv hB
                cases B with
                | true =>
                  have HR : Hid (true = qtB (v.take (n + 1))) := Lib.hid (by rw [HS.out]; rfl)
                  clear HS
                  go_wp2
                  go_roundw
                  case rel => exact ⟨n + 1, by omega, by go_num, true, rfl, HR, trivial⟩
                  case measure => simp [intOf]; omega
                | false =>
                  by_cases x1 : d = 58
                  · subst x1
                    have HR : Hid (true = qtB (v.take (n + 1))) := Lib.hid (by rw [HS.out]; rfl)
                    clear HS
                    go_wp2
                    go_roundw
                    case rel => exact ⟨n + 1, by omega, by go_num, true, rfl, HR, trivial⟩
                    case measure => simp [intOf]; omega
                  · by_cases x2 : d = 59
                    · subst x2
                      have HR : Hid (true = qtB (v.take (n + 1))) := Lib.hid (by rw [HS.out]; rfl)
                      clear HS
                      go_wp2
                      go_roundw
                      case rel => exact ⟨n + 1, by omega, by go_num, true, rfl, HR, trivial⟩
                      case measure => simp [intOf]; omega
                    · have y1 : ((d.toNat : Int) == 58) = false := beq_eq_false_iff_ne.2 (fun e => x1 (UInt8.toNat_inj.1 (by show d.toNat = 58; omega)))
                      have y2 : ((d.toNat : Int) == 59) = false := beq_eq_false_iff_ne.2 (fun e => x2 (UInt8.toNat_inj.1 (by show d.toNat = 59; omega)))
                      by_cases x3 : d = 44
                      · subst x3
                        have HR : Hid (true = qtB (v.take (n + 1))) := Lib.hid (by rw [HS.out]; rfl)
                        clear HS
                        go_wp2
                        go_roundw
                        case rel => exact ⟨n + 1, by omega, by go_num, true, rfl, HR, trivial⟩
                        case measure => simp [intOf]; omega
                      · have y3 : ((d.toNat : Int) == 44) = false := beq_eq_false_iff_ne.2 (fun e => x3 (UInt8.toNat_inj.1 (by show d.toNat = 44; omega)))
                        have HR : Hid (false = qtB (v.take (n + 1))) := Lib.hid (by rw [HS.out]; simp [x1, x2, x3])
                        clear HS x1 x2 x3
                        go_wp2
                        go_roundw
                        case rel => exact ⟨n + 1, by omega, by go_num, false, rfl, HR, trivial⟩
                        case measure => simp [intOf]; omega
              · have HBV : Hid (B = qtB v) := Lib.hid (by
                  have := hB.out
                  rwa [List.take_of_length_le (by rw [← HZS.out]; omega)] at this)
                have hVS := HVS.out
                rw [← HBV.out] at hVS
                have HV := Lib.hid hVS
                clear hB hVS HVS HBV
                cases B with
                | false =>
                  go_wp2
                  go_roundw
                  case rel => exact ⟨q + 1, by omega, by go_num, _, rfl, Lib.hid (by rw [HV.out, Rws.cat_data, Rws.cat_data, hX'.out, hZd.out, quT, if_neg e0]; simp), trivial⟩
                  case measure => simp [intOf]; omega
                | true =>
                  go_wp2
                  go_roundw
                  case rel => exact ⟨q + 1, by omega, by go_num, _, rfl, Lib.hid (by rw [HV.out, Rws.cat_data, Rws.cat_data, hX'.out, qu_eq v Z hZd.out true rfl, if_neg e0]; simp), trivial⟩
                  case measure => simp [intOf]; omega
        · have HE : Hid (X'.data.toList = an ++ psT (ap.take (k + 1))) := Lib.hid (by
            have h1 := hX'.out
            rw [List.take_of_length_le (by rw [HM.out]; omega)] at h1
            rw [h1, HPX.out, HSN.out, parT, vs_w, vsE_eq _ (by
              intro e
              have := congrArg List.length e
              rw [List.length_map, HM.out] at this
              simp only [List.length_nil] at this
              omega)]
            simp)
          clear hX'
          go_wp2
          go_roundw
          case rel => exact ⟨k + 1, by omega, by go_num, _, rfl, HE, trivial⟩
          case measure => simp [intOf]; omega
    · have HE : Hid ((X ++ ⟨#[58]⟩ ++ XV : ByteArray) = ⟨T.toArray⟩) := Lib.hid (Rws.ba_eq (by
        have h1 := hX.out
        rw [List.take_of_length_le (by rw [hN.out]; omega)] at h1
        rw [Rws.cat_data, Rws.cat_data, h1, hVd.out, ← hT.out, lineF]
        simp))
      clear hX
      go_wp2
      go_ret
      exact ⟨congrArg (fun x => Ending.returned (Value.string x)) HE.out, BB.out⟩
set_option maxHeartbeats 3200000 in
set_option maxRecDepth 100000 in
theorem rlt_0 (an av : List UInt8) (a : Option Addr) (c : Nat) (w : World) (l1 : an.length ≤ 200) (l2 : av.length ≤ 500) (T : List UInt8) (hT : Hid (lineF ⟨an, [], av⟩ = T)) :
    Calls Try.prog 24 #[.agg #[.string ⟨an.toArray⟩, .slice a 0 c, .string ⟨av.toArray⟩]] w fun e w' => e = .returned (.string ⟨T.toArray⟩) ∧ Below w.heap.size w w' := by
  obtain ⟨XN, hXN⟩ : ∃ X : ByteArray, ⟨an.toArray⟩ = X := ⟨_, rfl⟩
  have hXd : Hid (XN.data.toList = an) := Lib.hid (by rw [← hXN])
  have hXs : XN.size ≤ 200 := by rw [← hXN]; exact l1
  obtain ⟨XV, hXV⟩ : ∃ X : ByteArray, ⟨av.toArray⟩ = X := ⟨_, rfl⟩
  have hVd : Hid (XV.data.toList = av) := Lib.hid (by rw [← hXV])
  have hVs : XV.size ≤ 500 := by rw [← hXV]; exact l2
  rw [hXN, hXV]
  have HE : Hid ((XN ++ ⟨#[58]⟩ ++ XV : ByteArray) = ⟨T.toArray⟩) := Lib.hid (Rws.ba_eq (by
    rw [Rws.cat_data, Rws.cat_data, hXd.out, hVd.out, ← hT.out, lineF, psT]
    simp))
  clear hXN hXV
  go_enter Try.func24, Try.ntmps24
  go_wp2_with fail
  go_loopw [3, 4] (fun sv i wr => i = .int .i64 0 ∧ sv = .string XN ∧ wr = w.alloc (Obj.cells #[.string XN, .slice a 0 c, .string XV] 24)) (fun _ _ _ => 0)
  case atStart => exact ⟨rfl, rfl, rfl⟩
  case round =>
    obtain ⟨rfl, rfl, rfl⟩ := hrel
    go_wp2
    go_ret
    exact ⟨congrArg (fun x => Ending.returned (Value.string x)) HE.out, (Below.refl _ _).alloc (Nat.le_refl _) _⟩
theorem rlt_to (an av : List UInt8) (pv : Value) (ap : List PV) (w : World) (hb : Hid (lnB ⟨an, ap, av⟩ = true)) (LA : Hid (Light ⟨an, ap, av⟩)) (hp : ParsV w pv ap) (T : List UInt8) (hT : Hid (lineF ⟨an, ap, av⟩ = T)) :
    Calls Try.prog 24 #[.agg #[.string ⟨an.toArray⟩, pv, .string ⟨av.toArray⟩]] w fun e w' => e = .returned (.string ⟨T.toArray⟩) ∧ Below w.heap.size w w' := by
  cases ap with
  | nil =>
    obtain ⟨a, c, rfl⟩ := hp.nil
    exact rlt_0 an av a c w LA.out.1 LA.out.2.1 T hT
  | cons p ps =>
    obtain ⟨b, off, c, rfl, hb', hc⟩ := hp.form (by simp)
    exact rlt_2 an av (p :: ps) b off c _ w hb LA (Lib.hid rfl) (by simp) hb' (Lib.hid hc) T hT
/-! ### word -/
theorem hd_step {C S : List UInt8} (k : Nat) (hk : k < S.length) (hc : C.contains S[k] = false) : hdT C (S.drop k) = S[k] :: hdT C (S.drop (k + 1)) := by
  rw [hdT, List.drop_eq_getElem_cons hk, List.takeWhile_cons, if_pos (by rw [hc]; rfl)]
  rfl
theorem hd_stop {C S : List UInt8} (k : Nat) (hk : k < S.length) (hc : C.contains S[k] = true) : hdT C (S.drop k) = [] := by
  rw [hdT, List.drop_eq_getElem_cons hk, List.takeWhile_cons, if_neg (by rw [hc]; decide)]
theorem hd_end {C S : List UInt8} (k : Nat) (hk : S.length ≤ k) : hdT C (S.drop k) = [] := by
  rw [List.drop_of_length_le hk]; rfl
/-- What was passed over so far. -/
def Hd (C S : List UInt8) (a k : Nat) : Prop := hdT C (S.drop a) = (S.drop a).take (k - a) ++ hdT C (S.drop k)
theorem Hd.start (C S : List UInt8) (a : Nat) : Hd C S a a := by rw [Hd, Nat.sub_self]; simp
theorem Hd.next {C S : List UInt8} {a k : Nat} (h : Hd C S a k) (ha : a ≤ k) (hk : k < S.length) (hc : C.contains S[k] = false) : Hd C S a (k + 1) := by
  rw [Hd] at h ⊢
  rw [h, hd_step k hk hc, show k + 1 - a = (k - a) + 1 by omega, List.take_succ_eq_append_getElem (by rw [List.length_drop]; omega)]
  simp only [List.getElem_drop, List.append_assoc, List.cons_append, List.nil_append]
  congr 3
  congr 1
  omega
theorem Hd.stop {C S : List UInt8} {a k : Nat} (h : Hd C S a k) (hk : k < S.length) (hc : C.contains S[k] = true) : hdT C (S.drop a) = (S.drop a).take (k - a) := by
  rw [Hd, hd_stop k hk hc, List.append_nil] at h; exact h
theorem Hd.fin {C S : List UInt8} {a k : Nat} (h : Hd C S a k) (hk : S.length ≤ k) : hdT C (S.drop a) = (S.drop a).take (k - a) := by
  rw [Hd, hd_end k hk, List.append_nil] at h; exact h
theorem dt_ab (s : ByteArray) (a b : Nat) : (s.extract a b).data.toList = (s.data.toList.drop a).take (b - a) := by
  rw [Lib.extract_data]
end Lin
end Go.Proofs.Ytdakpncfophjnaa
