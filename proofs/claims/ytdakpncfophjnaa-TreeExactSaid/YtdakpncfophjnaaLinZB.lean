/-
  LineQuotes: any value may stand between quotes, whether it needs them or not: the law's walk.
-/
import Derived.Test.YtdakpncfophjnaaLinZ
import Derived.Deep.CutBlock
namespace Go.Proofs.Ytdakpncfophjnaa
open Go.RowKit
namespace Lin
open CutB Cel
open Opn (TxtV)
theorem nat_un (x : Int) (N : Nat) (hN : 0 < N) : ∃ n : Nat, (IntKind.u64.wrap x).tmod (N : Int) = (n : Int) ∧ n < N := by
  obtain ⟨n, h1, h2⟩ := nat_u x (N : Int) (by omega)
  exact ⟨n, h1, by omega⟩
theorem u64_n (N : Nat) (h : N ≤ 1000000) : IntKind.u64.wrap (N : Int) = (N : Int) := by rw [IntKind.wrap_u64]; omega
theorem qu_eq (V : List UInt8) (Y : ByteArray) (hY : Y.data.toList = V) (b : Bool) (h : b = true) : (⟨#[34]⟩ ++ Y ++ ⟨#[34]⟩ : ByteArray).data.toList = quT b V := by
  rw [quT, if_pos h, Rws.cat_data, Rws.cat_data, hY]
  simp
set_option maxHeartbeats 51200000 in
set_option maxRecDepth 100000 in
theorem lquotes_2 (an av : List UInt8) (ap : List PV) (b off c N : Nat) (at_ kk : Int) (w : World) (hb : Hid (lnB ⟨an, ap, av⟩ = true)) (LA : Hid (Light ⟨an, ap, av⟩)) (hN : Hid (ap.length = N)) (h0 : 0 < N)
    (hbl : b < w.heap.size) (hp : Hid (∀ (j : Nat) (hj : j < ap.length), ∃ sv, w.cell? ⟨b, off + j * 2, none⟩ = some (.string ⟨(ap[j]).nm.toArray⟩) ∧ w.cell? ⟨b, off + j * 2 + 1, none⟩ = some sv ∧ TxtV w sv (ap[j]).vs)) (hpv : Hid (ParsV w (.slice (some ⟨b, off, none⟩) N c) ap)) (hbd : Hid (BdP ap)) :
    Calls Try.prog 5 #[.agg #[.string ⟨an.toArray⟩, .slice (some ⟨b, off, none⟩) N c, .string ⟨av.toArray⟩], .int .i64 at_, .int .i64 kk] w fun e w' => e = .returned (.bool true) ∧ Below w.heap.size w w' := by
  have C0 := Lib.hid (Cs.new w [.string ⟨an.toArray⟩, .slice (some ⟨b, off, none⟩) N c, .string ⟨av.toArray⟩] 24)
  have BB := Lib.hid ((Below.refl w.heap.size w).alloc (Nat.le_refl _) (Obj.cells #[.string ⟨an.toArray⟩, .slice (some ⟨b, off, none⟩) N c, .string ⟨av.toArray⟩] 24))
  have l1 := LA.out
  have n1 : an.length ≤ 1000000 := by have := l1.1; simp only at this; omega
  have n2 : av.length ≤ 1000000 := by have := l1.2.1; simp only at this; omega
  have m1 : an.length ≤ maxLen := by unfold maxLen; omega
  have m2 : av.length ≤ maxLen := by unfold maxLen; omega
  have n3 : N ≤ 20 := by have := l1.2.2.1; simp only at this; rw [← hN.out]; exact this
  have n5 : ap.length ≤ 1000000 := by rw [hN.out]; omega
  have HG : Hid (∀ p ∈ ap, 0 < p.vs.length) := Lib.hid (fun p hp => by
    have h := hb.out
    rw [lnB, Bool.and_eq_true, Bool.and_eq_true] at h
    have h := List.all_eq_true.1 h.2.2 p hp
    rw [parB, Bool.and_eq_true, Bool.and_eq_true] at h
    exact of_decide_eq_true h.2.1)
  obtain ⟨t, et, htl⟩ := nat_un at_ N h0
  have uN := u64_n N (by omega)
  have htp : t < ap.length := by rw [hN.out]; exact htl
  obtain ⟨svt, ct0, ct1, htt⟩ := hp.out t htp
  obtain ⟨at2, ct2, hsvt⟩ := htt.slice
  subst hsvt
  obtain ⟨Mt, hMt⟩ : ∃ M, (ap[t]'htp).vs.length = M := ⟨_, rfl⟩
  have hMt0 : 0 < Mt := by rw [← hMt]; exact HG.out _ (List.getElem_mem htp)
  have hMt2 : Mt ≤ 20 := by rw [← hMt]; exact (l1.2.2.2 _ (List.getElem_mem htp)).2.1
  rw [hMt] at ct1
  obtain ⟨kq, ek, hkq⟩ := nat_un kk Mt hMt0
  have uM := u64_n Mt (by omega)
  have CT1 := Lib.hid ct1
  clear l1 ct0 htt hMt ct1
  go_enter Try.func5, Try.ntmps5
  go_wp2_with fail
  refine (hvy_to an av _ ap _ m1 m2 (hpv.out.below BB.out) hbd.out).mono ?_
  rintro e w1 ⟨r, rfl, _, k1⟩
  have C1 := Lib.hid (C0.out.below k1)
  have B1 := Lib.hid (bstep BB.out k1)
  have g0 : w.heap.size < w1.heap.size := C1.out.1
  have z0 := (C1.out.2 0 _ rfl).1
  have z1 := (C1.out.2 1 _ rfl).1
  have z2 := (C1.out.2 2 _ rfl).1
  clear k1 C0 BB
  cases r with
  | true =>
    go_wp2
    go_ret
    exact ⟨rfl, B1.out⟩
  | false =>
  go_wp2_with fail
  refine (rln_to an av _ ap true _ n1 n2 (hpv.out.below B1.out) n5 (light_sml LA.out) hb).mono ?_
  rintro e w2 ⟨rfl, k1⟩
  have C2 := Lib.hid (C1.out.below k1)
  have B2 := Lib.hid (bstep B1.out k1)
  clear k1 C1 B1 z0 z1 z2 g0
  have g0 : w.heap.size < w2.heap.size := C2.out.1
  have z0 := (C2.out.2 0 _ rfl).1
  have z1 := (C2.out.2 1 _ rfl).1
  have z2 := (C2.out.2 2 _ rfl).1
  have gb : b < w2.heap.size := Nat.lt_of_lt_of_le hbl B2.out.size
  have y1 := (B2.out.cell (p := ⟨b, off + t * 2 + 1, none⟩) hbl).trans CT1.out
  have xN : ((N : Int) == 0) = false := beq_eq_false_iff_ne.2 (by omega)
  obtain ⟨XN, hXN⟩ : ∃ X : ByteArray, ⟨an.toArray⟩ = X := ⟨_, rfl⟩
  have hXd : Hid (XN.data.toList = an) := Lib.hid (by rw [← hXN])
  rw [hXN] at z0
  obtain ⟨XV, hXV⟩ : ∃ X : ByteArray, ⟨av.toArray⟩ = X := ⟨_, rfl⟩
  have hVd : Hid (XV.data.toList = av) := Lib.hid (by rw [← hXV])
  have hVs : XV.size ≤ 500 := by rw [← hXV]; exact LA.out.2.1
  rw [hXV] at z2
  clear hXV hXN
  go_wp2_with fail
  go_loopw [7, 8] (fun sv i wr => ∃ k : Nat, k ≤ N ∧ i = .int .i64 k ∧ ∃ X : ByteArray, sv = .string X ∧ Hid (X.data.toList = an ++ psW (mapI (fun i p => (p, wsI (qfn t kq i) p.vs)) 0 (ap.take k))) ∧ w2 = wr) (fun _ i _ => N - (intOf i).toNat)
  case atStart => exact ⟨0, Nat.zero_le _, rfl, XN, rfl, Lib.hid (by rw [hXd.out]; simp [mapI, psW]), rfl⟩
  case round =>
    obtain ⟨k, hk, rfl, X, rfl, hX, rfl⟩ := hrel
    have hXs : X.size ≤ 90000 := by
      have e : X.size = X.data.toList.length := by simp
      have h1 := qsI_len t kq (ap.take k) 0 (take_len_light LA.out.2.2.2 k)
      have h2 : (ap.take k).length ≤ 20 := by rw [List.length_take]; have := hN.out; omega
      have h3 := LA.out.1
      simp only at h3
      rw [e, hX.out, List.length_append]
      omega
    by_cases hlt : k < N
    · have hkp : k < ap.length := by rw [hN.out]; exact hlt
      obtain ⟨sv, c0, c1, ht⟩ := hp.out k hkp
      obtain ⟨p, hpk⟩ : ∃ p, ap[k]'hkp = p := ⟨_, rfl⟩
      rw [hpk] at c0 ht
      have hvs := HG.out p (hpk ▸ List.getElem_mem hkp)
      obtain ⟨s1, s2, s3⟩ := LA.out.2.2.2 p (hpk ▸ List.getElem_mem hkp)
      have HSN : Hid (mapI (fun i p => (p, wsI (qfn t kq i) p.vs)) 0 (ap.take (k + 1)) = mapI (fun i p => (p, wsI (qfn t kq i) p.vs)) 0 (ap.take k) ++ [(p, wsI (qfn t kq k) p.vs)]) := Lib.hid (by rw [mapI_snoc _ ap 0 k hkp, hpk, Nat.zero_add])
      obtain ⟨b2, off2, c2, hf, hb2, hc2⟩ := ht.form hvs
      subst hf
      obtain ⟨M, hM⟩ : ∃ M, p.vs.length = M := ⟨_, rfl⟩
      have HM := Lib.hid hM
      have HC2 := Lib.hid hc2
      rw [hM] at c1 hvs s2
      obtain ⟨Y, hY⟩ : ∃ Y : ByteArray, ⟨p.nm.toArray⟩ = Y := ⟨_, rfl⟩
      have hYd := Lib.hid (show Y.data.toList = p.nm from by rw [← hY])
      have hYs : Y.size ≤ 200 := by rw [← hY]; exact s1
      rw [hY] at c0
      have d0 := (B2.out.cell (p := ⟨b, off + k * 2, none⟩) hbl).trans c0
      have d1 := (B2.out.cell (p := ⟨b, off + k * 2 + 1, none⟩) hbl).trans c1
      have HP0 : Hid ((X ++ ⟨#[59]⟩ ++ Y ++ ⟨#[61]⟩ : ByteArray).data.toList = an ++ psW (mapI (fun i p => (p, wsI (qfn t kq i) p.vs)) 0 (ap.take k)) ++ 59 :: p.nm ++ [61]) := Lib.hid (by
        rw [Rws.cat_data, Rws.cat_data, Rws.cat_data, hX.out, hYd.out]; simp)
      obtain ⟨P, hP⟩ : ∃ P, an ++ psW (mapI (fun i p => (p, wsI (qfn t kq i) p.vs)) 0 (ap.take k)) ++ 59 :: p.nm = P := ⟨_, rfl⟩
      have HPX : Hid (P = an ++ psW (mapI (fun i p => (p, wsI (qfn t kq i) p.vs)) 0 (ap.take k)) ++ 59 :: p.nm) := Lib.hid hP.symm
      have hPl : P.length ≤ 90201 := by
        rw [← hP]
        have e : X.size = X.data.toList.length := by simp
        rw [hX.out] at e
        simp only [List.length_append, List.length_cons] at e ⊢
        omega
      rw [hP] at HP0
      have S3 := Lib.hid s3
      clear c0 c1 ht hpk hkp hc2 hY hM s3 s1 hP hX
      go_wp2_with fail
      go_loopw [7, 9] (fun sv j wr => ∃ q : Nat, q ≤ M ∧ j = .int .i64 q ∧ ∃ X' : ByteArray, sv = .string X' ∧ Hid (X'.data.toList = P ++ vsE (wsI (qfn t kq k) (p.vs.take q))) ∧ w2 = wr) (fun _ j _ => M - (intOf j).toNat)
      case atStart => exact ⟨0, Nat.zero_le _, rfl, _, rfl, Lib.hid (by rw [HP0.out]; simp [wsI, mapI, vsE]), rfl⟩
      case round =>
        obtain ⟨q, hq, rfl, X', rfl, hX', rfl⟩ := hrel
        have hXs' : X'.size ≤ 95000 := by
          have e : X'.size = X'.data.toList.length := by simp
          have h1 := vsE_len (wsI (qfn t kq k) (p.vs.take q))
          have h2 := wsI_len (qfn t kq k) (p.vs.take q) 0 (take_len_light S3.out q)
          have h3 : (p.vs.take q).length ≤ 20 := by rw [List.length_take]; have := HM.out; omega
          rw [wsI] at h1
          rw [e, hX'.out, List.length_append, wsI]
          omega
        clear HP0 hXs
        by_cases hqt : q < M
        · have hqv : q < p.vs.length := by rw [HM.out]; exact hqt
          have f0 := (B2.out.cell (p := ⟨b2, off2 + q, none⟩) hb2).trans (HC2.out q hqv)
          obtain ⟨v, hvq⟩ : ∃ v, p.vs[q]'hqv = v := ⟨_, rfl⟩
          rw [hvq] at f0
          have hvl := S3.out v (hvq ▸ List.getElem_mem hqv)
          have HVS : Hid (vsE (wsI (qfn t kq k) (p.vs.take (q + 1))) = vsE (wsI (qfn t kq k) (p.vs.take q)) ++ ((if q = 0 then [] else [44]) ++ quT (qfn t kq k q || qtB v) v)) := Lib.hid (by
            rw [wsI, mapI_snoc _ p.vs 0 q hqv, vsE_snoc, hvq, mapI_len, Nat.zero_add]
            have : (p.vs.take q).length = q := by rw [List.length_take]; omega
            rw [this]
            rfl)
          obtain ⟨Z, hZ⟩ : ∃ Z : ByteArray, ⟨v.toArray⟩ = Z := ⟨_, rfl⟩
          have hZd := Lib.hid (show Z.data.toList = v from by rw [← hZ])
          have hZs : Z.size = v.length := by rw [← hZ]; rfl
          have HZS := Lib.hid hZs
          have hZl : Z.size ≤ 200 := by omega
          rw [hZ] at f0
          obtain ⟨q0, hq0⟩ : ∃ b, qfn t kq k q = b := ⟨_, rfl⟩
          have HQ0 := Lib.hid hq0
          rw [hq0] at HVS
          clear hvq hqv hZ hZs hq0
          go_upto_region 14 with fail
          go_cut [11] (fun x wx => x = .bool q0 ∧ w2 = wx)
          case first =>
            have h1 := HQ0.out
            rw [qfn] at h1
            by_cases e1 : k = t
            · have x1 : ((k : Int) == (t : Int)) = true := beq_iff_eq.2 (by omega)
              by_cases e2 : q = kq
              · have x2 : ((q : Int) == (kq : Int)) = true := beq_iff_eq.2 (by omega)
                have HB : Hid (true = q0) := Lib.hid (by rw [← h1]; exact (decide_eq_true ⟨e1, e2⟩).symm)
                clear h1 e1 e2
                go_wp2
                go_meet
                exact ⟨congrArg Value.bool HB.out, rfl⟩
              · have x2 : ((q : Int) == (kq : Int)) = false := beq_eq_false_iff_ne.2 (by omega)
                have HB : Hid (false = q0) := Lib.hid (by rw [← h1]; exact (decide_eq_false (fun h => e2 h.2)).symm)
                clear h1 e1 e2
                go_wp2
                go_meet
                exact ⟨congrArg Value.bool HB.out, rfl⟩
            · have x1 : ((k : Int) == (t : Int)) = false := beq_eq_false_iff_ne.2 (by omega)
              have HB : Hid (false = q0) := Lib.hid (by rw [← h1]; exact (decide_eq_false (fun h => e1 h.1)).symm)
              clear h1 e1
              go_wp2
              go_meet
              exact ⟨congrArg Value.bool HB.out, rfl⟩
          case rest =>
          obtain ⟨rfl, hwc⟩ := hcut
          subst hwc
          go_wp2_with fail
          go_loopw [11, 12] (fun x i wr => ∃ n : Nat, n ≤ Z.size ∧ i = .int .i64 n ∧ ∃ B : Bool, x = .bool B ∧ Hid (B = (q0 || qtB (v.take n))) ∧ w2 = wr) (fun _ i _ => Z.size - (intOf i).toNat)
          case atStart => exact ⟨0, Nat.zero_le _, rfl, q0, rfl, Lib.hid (by simp [qtB]), rfl⟩
          case round =>
            obtain ⟨n, hn, rfl, B, rfl, hB, rfl⟩ := hrel
            by_cases hnt : n < Z.size
            · have hnv : n < v.length := by rw [← HZS.out]; exact hnt
              obtain ⟨d, hx⟩ : ∃ c, v[n]'hnv = c := ⟨_, rfl⟩
              have hcc : Z[n] = d := by
                have : Z[n] = Z.data.toList[n]'(by simpa using hnt) := by simp [ByteArray.getElem_eq_getElem_data]
                rw [this, ← hx]
                exact List.getElem_of_eq hZd.out _
              have db := d.toNat_lt
              have HS : Hid ((q0 || qtB (v.take (n + 1))) = (B || ([58, 59, 44] : List UInt8).contains d)) := Lib.hid (by rw [hB.out, qtb_snoc v n hnv, hx, Bool.or_assoc])
              clear hx hnv hB
              cases B with
              | true =>
                have HR : Hid (true = (q0 || qtB (v.take (n + 1)))) := Lib.hid (by rw [HS.out]; rfl)
                clear HS
                go_wp2
                go_roundw
                case rel => exact ⟨n + 1, by omega, by go_num, true, rfl, HR, trivial⟩
                case measure => simp [intOf]; omega
              | false =>
                by_cases x1 : d = 58
                · subst x1
                  have HR : Hid (true = (q0 || qtB (v.take (n + 1)))) := Lib.hid (by rw [HS.out]; rfl)
                  clear HS
                  go_wp2
                  go_roundw
                  case rel => exact ⟨n + 1, by omega, by go_num, true, rfl, HR, trivial⟩
                  case measure => simp [intOf]; omega
                · by_cases x2 : d = 59
                  · subst x2
                    have HR : Hid (true = (q0 || qtB (v.take (n + 1)))) := Lib.hid (by rw [HS.out]; rfl)
                    clear HS
                    go_wp2
                    go_roundw
                    case rel => exact ⟨n + 1, by omega, by go_num, true, rfl, HR, trivial⟩
                    case measure => simp [intOf]; omega
                  · have y1 : ((d.toNat : Int) == 58) = false := beq_eq_false_iff_ne.2 (fun e => x1 (UInt8.toNat_inj.1 (by show d.toNat = 58; omega)))
                    have y2 : ((d.toNat : Int) == 59) = false := beq_eq_false_iff_ne.2 (fun e => x2 (UInt8.toNat_inj.1 (by show d.toNat = 59; omega)))
                    by_cases x3 : d = 44
                    · subst x3
                      have HR : Hid (true = (q0 || qtB (v.take (n + 1)))) := Lib.hid (by rw [HS.out]; rfl)
                      clear HS
                      go_wp2
                      go_roundw
                      case rel => exact ⟨n + 1, by omega, by go_num, true, rfl, HR, trivial⟩
                      case measure => simp [intOf]; omega
                    · have y3 : ((d.toNat : Int) == 44) = false := beq_eq_false_iff_ne.2 (fun e => x3 (UInt8.toNat_inj.1 (by show d.toNat = 44; omega)))
                      have HR : Hid (false = (q0 || qtB (v.take (n + 1)))) := Lib.hid (by rw [HS.out]; simp [x1, x2, x3])
                      clear HS x1 x2 x3
                      go_wp2
                      go_roundw
                      case rel => exact ⟨n + 1, by omega, by go_num, false, rfl, HR, trivial⟩
                      case measure => simp [intOf]; omega
            ·
              have HBV : Hid (B = (q0 || qtB v)) := Lib.hid (by
                have := hB.out
                rwa [List.take_of_length_le (by rw [← HZS.out]; omega)] at this)
              have hVS := HVS.out
              rw [← HBV.out] at hVS
              have HV := Lib.hid hVS
              clear hB hVS HVS HBV
              by_cases e0 : q = 0
              · subst e0
                cases B with
                | false =>
                  go_wp2
                  go_roundw
                  case rel => exact ⟨0 + 1, by omega, by go_num, _, rfl, Lib.hid (by rw [HV.out, Rws.cat_data, hX'.out, hZd.out, quT]; simp), trivial⟩
                  case measure => simp [intOf]; omega
                | true =>
                  go_wp2
                  go_roundw
                  case rel => exact ⟨0 + 1, by omega, by go_num, _, rfl, Lib.hid (by rw [HV.out, Rws.cat_data, hX'.out, qu_eq v Z hZd.out true rfl]; simp), trivial⟩
                  case measure => simp [intOf]; omega
              · have x0 : (0 : Int) < (q : Int) := by omega
                cases B with
                | false =>
                  go_wp2
                  go_roundw
                  case rel => exact ⟨q + 1, by omega, by go_num, _, rfl, Lib.hid (by rw [HV.out, Rws.cat_data, Rws.cat_data, hX'.out, hZd.out, quT, if_neg e0]; simp), trivial⟩
                  case measure => simp [intOf]; omega
                | true =>
                  go_wp2
                  go_roundw
                  case rel => exact ⟨q + 1, by omega, by go_num, _, rfl, Lib.hid (by rw [HV.out, Rws.cat_data, Rws.cat_data, hX'.out, qu_eq v Z hZd.out true rfl, if_neg e0]; simp), trivial⟩
                  case measure => simp [intOf]; omega
        ·
          have HE : Hid (X'.data.toList = an ++ psW (mapI (fun i p => (p, wsI (qfn t kq i) p.vs)) 0 (ap.take (k + 1)))) := Lib.hid (by
            have h1 := hX'.out
            rw [List.take_of_length_le (by rw [HM.out]; omega)] at h1
            rw [h1, HPX.out, HSN.out, psW_app, psW, psW, parW, vsE_eq _ (by
              intro e
              have := congrArg List.length e
              rw [wsI, mapI_len, HM.out] at this
              simp only [List.length_nil] at this
              omega)]
            simp)
          clear hX'
          go_wp2
          go_roundw
          case rel => exact ⟨k + 1, by omega, by go_num, _, rfl, HE, trivial⟩
          case measure => simp [intOf]; omega
    ·
      have HE : Hid (X.data.toList = an ++ psW (qsI t kq ap)) := Lib.hid (by
        have h1 := hX.out
        rw [List.take_of_length_le (by rw [hN.out]; omega)] at h1
        exact h1)
      have hP := Lib.hid (lq_plain t kq ⟨an, ap, av⟩ hb.out)
      clear hX
      go_wp2_with fail
      refine (lp_at _ (an ++ (psW (qsI t kq ap) ++ 58 :: av)) (0, ⟨an, ap, av⟩) _ ?h1 ?h2 hP).mono ?_
      case h1 =>
        have e2 : ByteArray.size ⟨#[58]⟩ = 1 := rfl
        simp
        omega
      case h2 => exact Lib.hid (by rw [Rws.cat_data, Rws.cat_data, HE.out, hVd.out]; simp)
      rintro e w5 ⟨pv, rfl, hq, k1⟩
      have C6 := Lib.hid (C2.out.below k1)
      have HA7 := Lib.hid ((hpv.out.below B2.out).below k1)
      have B5 := Lib.hid (bstep B2.out k1)
      have Q1 := Lib.hid hq.out.1
      obtain ⟨fp, np, cp, hpv'⟩ : ∃ a n c, pv = .slice a n c := by obtain ⟨a, n, c, h, _⟩ := hq.out.1; exact ⟨a, n, c, h⟩
      subst hpv'
      have k2 := (Below.refl w5.heap.size w5).alloc (Nat.le_refl _) (Obj.cells #[.string ⟨an.toArray⟩, .slice fp np cp, .string ⟨av.toArray⟩] 24)
      have HA8 := Lib.hid (HA7.out.below k2)
      have Q2 := Lib.hid (Q1.out.below k2)
      have B6 := Lib.hid (bstep B5.out k2)
      have g5 : w.heap.size < w5.heap.size := C6.out.1
      have z0 := (C6.out.2 0 _ rfl).1
      have z1 := (C6.out.2 1 _ rfl).1
      have z2 := (C6.out.2 2 _ rfl).1
      clear k1 k2 HA7 Q1 B5 hq C6
      go_wp2_with fail
      refine (kln_to ⟨an, ap, av⟩ ⟨an, ap, av⟩ _ _ true _ Q2.out HA8.out n5 n5 (fun p hp => (light_sml LA.out p hp).2.1) (fun p hp => (light_sml LA.out p hp).2.1) (Lib.hid (decide_eq_true rfl))).mono ?_
      rintro e w6 ⟨rfl, k1⟩
      have B7 := Lib.hid (bstep B6.out k1)
      clear k1 B6 z0 z1 z2
      go_wp2_with fail
      refine (wakes18_any _).mono ?_
      rintro e w8 ⟨rfl, k1⟩
      go_wp2
      go_ret
      exact ⟨rfl, bstep B7.out k1⟩
set_option maxHeartbeats 6400000 in
set_option maxRecDepth 100000 in
theorem lquotes_0 (an av : List UInt8) (ap : List PV) (va : Value) (at_ kk : Int) (w : World) (hno : ¬ (Light ⟨an, ap, av⟩ ∧ lnB ⟨an, ap, av⟩ = true ∧ ap ≠ [])) (h1 : ParsV w va ap) (a1 : an.length ≤ maxLen) (a2 : av.length ≤ maxLen) (a3 : BdP ap) :
    Calls Try.prog 5 #[.agg #[.string ⟨an.toArray⟩, va, .string ⟨av.toArray⟩], .int .i64 at_, .int .i64 kk] w fun e w' => e = .returned (.bool true) ∧ Below w.heap.size w w' := by
  have HA := Lib.hid h1
  obtain ⟨fa, na, ca, hva⟩ : ∃ a n c, va = .slice a n c := by obtain ⟨a, n, c, h, _⟩ := h1; exact ⟨a, n, c, h⟩
  subst hva
  have A3 := Lib.hid a3
  have C0 := Lib.hid (Cs.new w [.string ⟨an.toArray⟩, .slice fa na ca, .string ⟨av.toArray⟩] 24)
  have BB := Lib.hid ((Below.refl w.heap.size w).alloc (Nat.le_refl _) (Obj.cells #[.string ⟨an.toArray⟩, .slice fa na ca, .string ⟨av.toArray⟩] 24))
  have HNO := Lib.hid hno
  clear h1 a3 hno
  go_enter Try.func5, Try.ntmps5
  go_wp2_with fail
  refine (hvy_to an av _ ap _ a1 a2 (HA.out.below BB.out) A3.out).mono ?_
  rintro e w1 ⟨r, rfl, hr, k1⟩
  have C1 := Lib.hid (C0.out.below k1)
  have B1 := Lib.hid (bstep BB.out k1)
  have g0 : w.heap.size < w1.heap.size := C1.out.1
  have z0 := (C1.out.2 0 _ rfl).1
  have z1 := (C1.out.2 1 _ rfl).1
  have z2 := (C1.out.2 2 _ rfl).1
  clear k1 C0 BB
  cases r with
  | true =>
    go_wp2
    go_ret
    exact ⟨rfl, B1.out⟩
  | false =>
  have LA := Lib.hid (hr.out rfl)
  have l1 := LA.out
  have n1 : an.length ≤ 1000000 := by have := l1.1; simp only at this; omega
  have n2 : av.length ≤ 1000000 := by have := l1.2.1; simp only at this; omega
  have n5 : ap.length ≤ 1000000 := by have := l1.2.2.1; simp only at this; omega
  obtain ⟨rb, hrb⟩ : ∃ r, lnB ⟨an, ap, av⟩ = r := ⟨_, rfl⟩
  have HRB := Lib.hid hrb
  have HE : Hid (rb = true → ap = []) := Lib.hid (fun e => by
    cases hap : ap with
    | nil => rfl
    | cons p ps => exact absurd ⟨LA.out, by rw [HRB.out]; exact e, by rw [hap]; simp⟩ HNO.out)
  clear l1 hr hrb HNO
  go_wp2_with fail
  refine (rln_to an av _ ap rb _ n1 n2 (HA.out.below B1.out) n5 (light_sml LA.out) HRB).mono ?_
  rintro e w2 ⟨rfl, k1⟩
  have C2 := Lib.hid (C1.out.below k1)
  have B2 := Lib.hid (bstep B1.out k1)
  clear k1 C1 B1 z0 z1 z2 g0
  have g0 : w.heap.size < w2.heap.size := C2.out.1
  have z1 := (C2.out.2 1 _ rfl).1
  cases rb with
  | false =>
    go_wp2
    go_ret
    exact ⟨rfl, B2.out⟩
  | true =>
    obtain rfl := HE.out rfl
    obtain ⟨a, c, hf⟩ := HA.out.nil
    obtain ⟨rfl, rfl, rfl⟩ : fa = a ∧ na = 0 ∧ ca = c := by injection hf with h1 h2 h3; exact ⟨h1, h2, h3⟩
    clear hf
    go_wp2
    go_ret
    exact ⟨rfl, B2.out⟩
theorem lquotes_1 (A : LV) (va : Value) (at_ kk : Int) (w : World) (h1 : ParsV w va A.ps) (a1 : A.nm.length ≤ maxLen) (a2 : A.vl.length ≤ maxLen) (a3 : BdP A.ps) :
    Calls Try.prog 5 #[.agg #[.string ⟨A.nm.toArray⟩, va, .string ⟨A.vl.toArray⟩], .int .i64 at_, .int .i64 kk] w fun e w' => e = .returned (.bool true) ∧ Below w.heap.size w w' := by
  obtain ⟨an, ap, av⟩ := A
  by_cases h : Light ⟨an, ap, av⟩ ∧ lnB ⟨an, ap, av⟩ = true ∧ ap ≠ []
  · obtain ⟨b, off, c, hf, hb, hc⟩ := h1.form (List.length_pos_iff.2 h.2.2)
    have h1' := h1
    rw [hf] at h1'
    simp only at hf
    subst hf
    exact lquotes_2 an av ap b off c _ at_ kk w (Lib.hid h.2.1) (Lib.hid h.1) (Lib.hid rfl) (List.length_pos_iff.2 h.2.2) hb (Lib.hid hc) (Lib.hid h1') (Lib.hid a3)
  · exact lquotes_0 an av ap va at_ kk w h h1 a1 a2 a3
end Lin
end Go.Proofs.Ytdakpncfophjnaa
