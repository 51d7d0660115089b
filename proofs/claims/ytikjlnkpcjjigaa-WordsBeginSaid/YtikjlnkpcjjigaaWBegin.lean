/-
  WordsBegin: the law answers true at every kind, word, length and letters.
-/
import Derived.Test.YtikjlnkpcjjigaaWdLaw
import Derived.Deep.RegionWith
namespace Go.Proofs.Ytikjlnkpcjjigaa
open Go.RowKit
namespace Wrd
/-! What the law says, over the words themselves. -/
def wbOk (k : Nat) (f m : Int) (L : List (List UInt8)) : Bool :=
  (List.range L.length).all fun j =>
    let W := (L[j]?).getD []
    decide (3 ≤ W.length) && decide (wdP (k : Int) (W ++ [120]) = (0, 7)) &&
    (List.range W.length).all fun t =>
      let P := W.take (1 + t)
      if 1 + t < W.length ∧ (((1 + t : Nat) : Int) < m ∨ 1 < (L.filter (bgB P)).length) then decide (wdP (k : Int) P = (0, 7)) else decide (wdP (k : Int) P = (f + (j : Int), 0))
theorem wb_all : wbOk 1 1 1 wds1 = true ∧ wbOk 2 1 3 wds2 = true ∧ wbOk 3 0 3 wds3 = true ∧ wbOk 4 1 1 wds4 = true := by decide +kernel
theorem wb_emp : wdP 1 [] = (0, 7) ∧ wdP 2 [] = (0, 7) ∧ wdP 3 [] = (0, 7) ∧ wdP 4 [] = (0, 7) := by decide +kernel
theorem wb_kind {k : Nat} (h : 1 ≤ k ∧ k ≤ 4) : wbOk k (fstV k) (lstV k) (wds k) = true ∧ wdP (k : Int) [] = (0, 7) := by
  have h4 : k = 1 ∨ k = 2 ∨ k = 3 ∨ k = 4 := by omega
  rcases h4 with rfl | rfl | rfl | rfl
  · exact ⟨wb_all.1, wb_emp.1⟩
  · exact ⟨wb_all.2.1, wb_emp.2.1⟩
  · exact ⟨wb_all.2.2.1, wb_emp.2.2.1⟩
  · exact ⟨wb_all.2.2.2, wb_emp.2.2.2⟩
theorem wb_get {k : Nat} {f m : Int} {L : List (List UInt8)} (h : wbOk k f m L = true) {j : Nat} (hj : j < L.length) {W : List UInt8} (hW : L[j] = W) :
    3 ≤ W.length ∧ wdP (k : Int) (W ++ [120]) = (0, 7) ∧ ∀ t, t < W.length →
      (1 + t < W.length ∧ (((1 + t : Nat) : Int) < m ∨ 1 < (L.filter (bgB (W.take (1 + t)))).length) → wdP (k : Int) (W.take (1 + t)) = (0, 7)) ∧
      (¬ (1 + t < W.length ∧ (((1 + t : Nat) : Int) < m ∨ 1 < (L.filter (bgB (W.take (1 + t)))).length)) → wdP (k : Int) (W.take (1 + t)) = (f + (j : Int), 0)) := by
  have a := List.all_eq_true.1 h j (List.mem_range.2 hj)
  rw [List.getElem?_eq_getElem hj, hW] at a
  simp only [Option.getD_some, Bool.and_eq_true, decide_eq_true_eq] at a
  refine ⟨a.1.1, a.1.2, fun t ht => ?_⟩
  have b := List.all_eq_true.1 a.2 t (List.mem_range.2 ht)
  constructor
  · intro c
    rw [if_pos c] at b
    exact of_decide_eq_true b
  · intro c
    rw [if_neg c] at b
    exact of_decide_eq_true b
theorem wdP_sm {k : Int} {S P : List UInt8} (h : smL S = smL P) : wdP k S = wdP k P := by unfold wdP; rw [h]
theorem bgB_sm {S P x : List UInt8} (h : smL S = smL P) : bgB S x = bgB P x := by unfold bgB; rw [h]
theorem smL_set {M : List UInt8} {k : Nat} (hk : k < M.length) {c : UInt8} (h : smB c = smB M[k]) : smL (M.set k c) = smL M := by
  unfold smL
  rw [List.map_set, h]
  apply List.ext_getElem?
  intro j
  rw [List.getElem?_set]
  by_cases hj : k = j
  · subst hj
    simp [hk]
  · rw [if_neg hj]
theorem lo_hi : ∀ n : Nat, n < 256 → (97 ≤ n ∧ n ≤ 122 → smB (UInt8.ofNat (n - 32)) = smB (UInt8.ofNat n)) ∧ (65 ≤ n ∧ n ≤ 90 → smB (UInt8.ofNat (n + 32)) = smB (UInt8.ofNat n)) := by decide +kernel
theorem sm_lo {c : UInt8} (h1 : 97 ≤ (c.toNat : Int)) (h2 : (c.toNat : Int) ≤ 122) : ∃ d : UInt8, (c.toNat : Int) - 32 = (d.toNat : Int) ∧ smB d = smB c := by
  have := (lo_hi c.toNat c.toNat_lt).1 ⟨by omega, by omega⟩
  refine ⟨UInt8.ofNat (c.toNat - 32), ?_, by simpa using this⟩
  have e : (UInt8.ofNat (c.toNat - 32)).toNat = c.toNat - 32 := by simp; have := c.toNat_lt; omega
  rw [e]; omega
theorem sm_hi {c : UInt8} (h1 : 65 ≤ (c.toNat : Int)) (h2 : (c.toNat : Int) ≤ 90) : ∃ d : UInt8, (c.toNat : Int) + 32 = (d.toNat : Int) ∧ smB d = smB c := by
  have := (lo_hi c.toNat c.toNat_lt).2 ⟨by omega, by omega⟩
  refine ⟨UInt8.ofNat (c.toNat + 32), ?_, by simpa using this⟩
  have e : (UInt8.ofNat (c.toNat + 32)).toNat = c.toNat + 32 := by simp; omega
  rw [e]; omega
theorem um_b (x : Int) (m : Int) (hm : 0 < m) : 0 ≤ (IntKind.u64.wrap x).tmod m ∧ (IntKind.u64.wrap x).tmod m < m :=
  ⟨Int.tmod_nonneg m (by rw [IntKind.wrap_u64]; omega), Int.tmod_lt_of_pos _ hm⟩
theorem um_nat (x : Int) (m : Nat) (hm : 0 < m) : ∃ k : Nat, (IntKind.u64.wrap x).tmod (m : Int) = (k : Int) ∧ k < m := by
  have := um_b x m (by omega)
  exact ⟨((IntKind.u64.wrap x).tmod (m : Int)).toNat, by omega, by omega⟩
theorem sm_back (w : World) (B cap : Nat) (M : List UInt8) (h : SmR B M w) : (convert 36 9 (.slice (some ⟨B, 0, none⟩) M.length cap)).run Try.prog w = .ok (.string ⟨M.toArray⟩) w :=
  run_convert_bytes_back (P := Try.prog) w 36 9 5 ⟨B, 0, none⟩ cap M (by kernel_rfl) (by kernel_rfl) (by kernel_rfl) (by
    intro j hj
    have e : (⟨B, 0, none⟩ : Addr).add j = ⟨B, j, none⟩ := by
      unfold Addr.add
      split <;> simp_all
    rw [e]
    exact (h j hj).1)
set_option maxHeartbeats 3200000 in
set_option maxRecDepth 100000 in
theorem wbegin_some (k0 i0 n0 : Int) (b off ln lc : Nat) (ls : Nat → Bool) (w : World) (hln : ln ≤ maxLen) (hbz : b < w.heap.size) (hA : ∀ j, j < ln → w.cell? ⟨b, off + j, none⟩ = some (.bool (ls j))) :
    Calls Try.prog 4 #[.int .i64 k0, .int .i64 i0, .int .i64 n0, .slice (some ⟨b, off, none⟩) ln lc] w fun e w' => e = .returned (.bool true) ∧ Below w.heap.size w w' := by
  unfold maxLen at hln
  have HA := Lib.hid hA
  clear hA
  obtain ⟨q, eq, hq⟩ : ∃ k : Nat, (IntKind.u64.wrap k0).tmod 4 = (k : Int) ∧ k < 4 := um_nat k0 4 (by omega)
  have hK : 1 ≤ ((1 + q : Nat) : Int) ∧ ((1 + q : Nat) : Int) ≤ 4 := by omega
  have HKB := Lib.hid hK
  obtain ⟨L, hL⟩ : ∃ L, wds ((1 + q : Nat) : Int) = L := ⟨_, rfl⟩
  obtain ⟨f, hf⟩ : ∃ f, fstV ((1 + q : Nat) : Int) = f := ⟨_, rfl⟩
  obtain ⟨m, hm⟩ : ∃ f, lstV ((1 + q : Nat) : Int) = f := ⟨_, rfl⟩
  have hwk := (WK_of hK)
  have hf1 := fstV_bd ((1 + q : Nat) : Int)
  have hwb := wb_kind (k := 1 + q) (by omega)
  rw [hf, hm, hL] at hwb
  rw [hL] at hwk
  rw [hf] at hf1
  obtain ⟨cn, hcn⟩ : ∃ n, L.length = n := ⟨_, rfl⟩
  rw [hcn] at hwk
  have hcn0 : 0 < cn := hwk.2
  have hcn12 : cn ≤ 12 := hwk.1.short.1
  have HCN := Lib.hid hcn
  have HLL := Lib.hid hL
  have HF := Lib.hid hf
  have HM := Lib.hid hm
  have HWB := Lib.hid hwb.1
  have HEM := Lib.hid hwb.2
  have hcell : (w.alloc (Obj.cells #[.int .i64 0, .int .i64 3, .int .i64 12, .int .i64 7, .int .i64 3] 3)).cell? ⟨w.heap.size, 1 + q, none⟩ = some (.int .i64 (cn : Int)) := by
    rw [World.cell?_alloc_new, ← hcn, ← hL]
    have h4 : q = 0 ∨ q = 1 ∨ q = 2 ∨ q = 3 := by omega
    rcases h4 with rfl | rfl | rfl | rfl <;> rfl
  obtain ⟨j, ej, hj⟩ := um_nat i0 cn hcn0
  have hjl : j < L.length := by rw [hcn]; exact hj
  obtain ⟨W, hW⟩ : ∃ W, L[j] = W := ⟨_, rfl⟩
  obtain ⟨w3, wx, hwt⟩ := wb_get HWB.out hjl hW
  have hw9 : W.length ≤ 9 := hwk.1.short.2 W (by rw [← hW]; exact List.getElem_mem _)
  have HWT := Lib.hid hwt
  have HWX := Lib.hid wx
  have HNM : Hid (nmT ((1 + q : Nat) : Int) (j + f) = W ∧ nmE ((1 + q : Nat) : Int) (j + f) = 0) := Lib.hid (by
    rw [nmT, nmE, hf, hL, hcn]
    have c : f ≤ (j : Int) + f ∧ (j : Int) + f - f < (cn : Int) := by omega
    rw [if_pos c, if_pos c, show ((j : Int) + f - f).toNat = j by omega, List.getElem?_eq_getElem hjl, hW]
    exact ⟨rfl, rfl⟩)
  have hKi : ((1 + q : Nat) : Int) = 1 + (q : Int) := by omega
  rw [hKi] at HNM HKB HEM HF
  have HWX2 : Hid (wdP (1 + (q : Int)) (W ++ [120]) = (0, 7)) := Lib.hid (by rw [← hKi]; exact HWX.out)
  clear hwb hwk hK hL hf hm hcn hjl hW hwt wx HWX
  have HKI := Lib.hid hKi
  clear hKi
  go_enter Try.func4, Try.ntmps4
  go_wp2_with fail
  have hB0 : Below w.heap.size w (w.alloc (Obj.cells #[.int .i64 0, .int .i64 3, .int .i64 12, .int .i64 7, .int .i64 3] 3)) := (Below.refl _ _).alloc (Nat.le_refl _) _
  obtain ⟨w0, hw0⟩ : ∃ x, w.alloc (Obj.cells #[.int .i64 0, .int .i64 3, .int .i64 12, .int .i64 7, .int .i64 3] 3) = x := ⟨_, rfl⟩
  rw [hw0] at hB0
  rw [hw0]
  clear hw0 hcell
  go_quiet ((go_at_call 7; exact quietL (lfirst_to _ f _ HF)))
  have hB1 : Below w.heap.size w (w0.drewN nq) := below_drewN hB0 nq
  go_wp2_with fail
  refine (name_to _ _ W 0 _ (by omega) HNM).mono ?_
  rintro e w2 ⟨rfl, hb2⟩
  have hB2 : Below w.heap.size w w2 := hB1.trans (hb2.mono hB1.size)
  clear hb2 hB1 hB0
  have hWs : (⟨W.toArray⟩ : ByteArray).size = W.length := rfl
  obtain ⟨t, et, ht⟩ := um_nat n0 W.length (by omega)
  go_upto_region 8 with fail
  obtain ⟨P, hP⟩ : ∃ P, W.take (1 + t) = P := ⟨_, rfl⟩
  have hX : ((⟨W.toArray⟩ : ByteArray).extract 0 (1 + t)).data.toList = P := by rw [Lib.extract_data, ← hP]; simp
  have hPl : P.length = 1 + t := by rw [← hP, List.length_take]; omega
  have hxs : ((⟨W.toArray⟩ : ByteArray).extract 0 (1 + t)).size = 1 + t := by rw [Lib.size_eq, hX, hPl]
  have HPl := Lib.hid hPl
  have HWP := Lib.hid (HWT.out t ht)
  rw [hP] at HWP
  obtain ⟨cap, w4, hconv, hb4, hr4, hz4⟩ := bytes_row w2 ((⟨W.toArray⟩ : ByteArray).extract 0 (1 + t)) P hX
  rw [hxs] at hconv
  obtain ⟨B, hB⟩ : ∃ B, w2.heap.size = B := ⟨_, rfl⟩
  rw [hB] at hconv hb4 hr4 hz4
  have hBw : w.heap.size ≤ B := by rw [← hB]; exact hB2.size
  have HR4 := Lib.hid hr4
  clear hr4 hX hP hPl hB
  go_wp2_with fail
  go_loopw [13] (fun k wr => ∃ (i : Nat) (M : List UInt8), i ≤ 1 + t ∧ k = .int .i64 i ∧ Hid (SmR B M wr) ∧ Hid (smL M = smL P) ∧ Hid (M.length = 1 + t) ∧ Hid (Below B w2 wr) ∧ B < wr.heap.size) (fun k _ => 1 + t - (intOf k).toNat)
  case atStart => exact ⟨0, P, by omega, rfl, HR4, Lib.hid rfl, HPl, Lib.hid hb4, hz4⟩
  case round =>
    obtain ⟨i, M, hi, rfl, HR, HSM, HML, HB, hz⟩ := hrel
    by_cases hlt : i < 1 + t
    · have hil : i < M.length := by rw [HML.out]; exact hlt
      obtain ⟨c, hc⟩ : ∃ c, M[i] = c := ⟨_, rfl⟩
      obtain ⟨gc, gf⟩ := HR.out.get (j := i) (c := c) (by rw [List.getElem?_eq_getElem hil, hc])
      have HC := Lib.hid hc
      have c0 : (0 : Int) ≤ (c.toNat : Int) := by omega
      have c1 : (c.toNat : Int) ≤ 255 := by have := c.toNat_lt; omega
      obtain ⟨x, hx⟩ : ∃ x : Int, (c.toNat : Int) = x := ⟨_, rfl⟩
      rw [hx] at gc c0 c1
      have HX := Lib.hid hx
      clear hc
      by_cases hk : i < ln
      · have hcA := HA.out i hk
        have cA : wr.cell? ⟨b, off + i, none⟩ = some (.bool (ls i)) := (HB.out.cell (p := ⟨b, off + i, none⟩) (by show b < B; omega)).trans ((hB2.cell (p := ⟨b, off + i, none⟩) hbz).trans hcA)
        clear hcA
        cases hls : ls i with
        | true =>
          rw [hls] at cA
          clear hls
          by_cases h97 : 97 ≤ x
          · by_cases h122 : x ≤ 122
            · rw [← hx] at h97 h122
              obtain ⟨d, hd, hsd⟩ := sm_lo (c := c) (by omega) (by omega)
              rw [hx] at hd
              have HV := Lib.hid hd
              have HS2 : Hid (smL (M.set i d) = smL P) := Lib.hid (by rw [smL_set (by rw [HML.out]; exact hlt) (by rw [hsd, HC.out])]; exact HSM.out)
              clear hd hsd
              go_wp2
              go_roundw
              case rel => exact ⟨i + 1, M.set i d, by omega, by go_num, Lib.hid (HR.out.put (by rw [HML.out]; exact hlt) HV.out), HS2, Lib.hid (by rw [List.length_set]; exact HML.out), Lib.hid (HB.out.setCell (Nat.le_refl _) _), by simp; omega⟩
              case measure => simp [intOf]; omega
            · have h122' : 122 < x := by omega
              clear h122 hx
              go_wp2
              go_roundw
              case rel => exact ⟨i + 1, M, by omega, by go_num, HR, HSM, HML, HB, hz⟩
              case measure => simp [intOf]; omega
          · have h97' : x < 97 := by omega
            clear h97 hx
            go_wp2
            go_roundw
            case rel => exact ⟨i + 1, M, by omega, by go_num, HR, HSM, HML, HB, hz⟩
            case measure => simp [intOf]; omega
        | false =>
          rw [hls] at cA
          clear hls
          by_cases h65 : 65 ≤ x
          · by_cases h90 : x ≤ 90
            · rw [← hx] at h65 h90
              obtain ⟨d, hd, hsd⟩ := sm_hi (c := c) (by omega) (by omega)
              rw [hx] at hd
              have HV := Lib.hid hd
              have HS2 : Hid (smL (M.set i d) = smL P) := Lib.hid (by rw [smL_set (by rw [HML.out]; exact hlt) (by rw [hsd, HC.out])]; exact HSM.out)
              clear hd hsd
              go_wp2
              go_roundw
              case rel => exact ⟨i + 1, M.set i d, by omega, by go_num, Lib.hid (HR.out.put (by rw [HML.out]; exact hlt) HV.out), HS2, Lib.hid (by rw [List.length_set]; exact HML.out), Lib.hid (HB.out.setCell (Nat.le_refl _) _), by simp; omega⟩
              case measure => simp [intOf]; omega
            · have h90' : 90 < x := by omega
              clear h90 hx
              go_wp2
              go_roundw
              case rel => exact ⟨i + 1, M, by omega, by go_num, HR, HSM, HML, HB, hz⟩
              case measure => simp [intOf]; omega
          · have h65' : x < 65 := by omega
            clear h65 hx
            go_wp2
            go_roundw
            case rel => exact ⟨i + 1, M, by omega, by go_num, HR, HSM, HML, HB, hz⟩
            case measure => simp [intOf]; omega
      · have hk' : ln ≤ i := by omega
        clear hk hx
        go_wp2
        go_roundw
        case rel => exact ⟨i + 1, M, by omega, by go_num, HR, HSM, HML, HB, hz⟩
        case measure => simp [intOf]; omega
    · have hi2 : 1 + t ≤ i := by omega
      obtain ⟨wo, rfl⟩ : ∃ wo : World, wo = wr := ⟨_, rfl⟩
      have HBw := Lib.hid (hB2.trans (HB.out.mono hBw))
      have HMP := Lib.hid (HSM.out)
      have HNX : Hid (∀ x (hx : x < L.length), nmT (1 + (q : Int)) ((x : Int) + f) = L[x] ∧ nmE (1 + (q : Int)) ((x : Int) + f) = 0) := Lib.hid (fun x hx => by
        rw [nmT, nmE, HF.out, ← HKI.out, HLL.out, HCN.out]
        have hx2 : x < cn := by rw [← HCN.out]; exact hx
        have c : f ≤ (x : Int) + f ∧ (x : Int) + f - f < (cn : Int) := by omega
        rw [if_pos c, if_pos c, show ((x : Int) + f - f).toNat = x by omega, List.getElem?_eq_getElem hx]
        exact ⟨rfl, rfl⟩)
      clear hlt
      go_wp2_with fail
      go_loopw [14, 15] (fun oo kk wq => ∃ x : Nat, x ≤ cn ∧ kk = .int .i64 x ∧ oo = .int .i64 (((L.take x).filter (bgB P)).length : Nat) ∧ Hid (Below wo.heap.size wo wq)) (fun _ kk _ => cn - (intOf kk).toNat)
      case atStart => exact ⟨0, Nat.zero_le _, rfl, rfl, Lib.hid (Below.refl _ _)⟩
      case round =>
        obtain ⟨x, hx, rfl, rfl, HQ⟩ := hrel
        by_cases hxl : x < cn
        · have hxL : x < L.length := by rw [HCN.out]; exact hxl
          obtain ⟨X, hX⟩ : ∃ X, L[x] = X := ⟨_, rfl⟩
          have HN1 : Hid (nmT (1 + (q : Int)) ((x : Int) + f) = X ∧ nmE (1 + (q : Int)) ((x : Int) + f) = 0) := Lib.hid (by rw [← hX]; exact HNX.out x hxL)
          have hX9 : X.length ≤ 9 := (WK_of HKB.out).1.short.2 X (by rw [← HKI.out, HLL.out, ← hX]; exact List.getElem_mem _)
          have HTS : Hid ((L.take (x + 1)).filter (bgB P) = (L.take x).filter (bgB P) ++ (if bgB P X = true then [X] else [])) := Lib.hid (by
            rw [List.take_succ_eq_append_getElem hxL, List.filter_append, hX]
            congr 1
            cases hbx : bgB P X <;> simp [hbx])
          have hcl : ((L.take x).filter (bgB P)).length ≤ 12 := by
            have h1 := List.length_filter_le (bgB P) (L.take x)
            have h2 : (L.take x).length ≤ x := List.length_take_le _ _
            omega
          obtain ⟨cc, hcc⟩ : ∃ c, ((L.take x).filter (bgB P)).length = c := ⟨_, rfl⟩
          rw [hcc] at hcl
          rw [hcc]
          have HCC := Lib.hid hcc
          clear hX hcc
          go_wp2_with fail
          refine (lfirst_to _ f _ HF).mono ?_
          rintro e w5 ⟨rfl, rfl⟩
          go_wp2_with fail
          refine (name_to _ _ X 0 _ (by omega) HN1).mono ?_
          rintro e w5 ⟨rfl, hb5⟩
          have HQ5 := Lib.hid (HQ.out.trans (hb5.mono HQ.out.size))
          clear hb5
          have hrow : SmR B M w5 := fun y hy => ⟨(HQ5.out.cell (p := ⟨B, y, none⟩) hz).trans (HR.out y hy).1, (HQ5.out.frozen (p := ⟨B, y, none⟩) hz).trans (HR.out y hy).2⟩
          have hback := sm_back w5 B cap M hrow
          rw [HML.out] at hback
          have HRW := Lib.hid hrow
          clear hrow
          have hxs : (⟨X.toArray⟩ : ByteArray).size ≤ 1000000 := by show X.length ≤ _; omega
          have HXS := Lib.hid hxs
          clear hxs
          cases hb : bgB P X with
          | true =>
            have HBB : Hid (bgB M X = true) := Lib.hid (by rw [bgB_sm HMP.out, hb])
            have HCN1 : Hid ((((L.take (x + 1)).filter (bgB P)).length : Int) = (cc : Int) + 1) := Lib.hid (by rw [HTS.out, hb, if_pos rfl, List.length_append, HCC.out]; simp)
            clear hb
            go_wp2_with fail
            refine (begins_to _ _ M X true _ HXS.out (Lib.hid rfl) (Lib.hid rfl) HBB).mono ?_
            rintro e w6 ⟨rfl, q6, rfl⟩
            go_wp2
            go_roundw
            case rel => exact ⟨x + 1, by omega, by go_num, by rw [HCN1.out], Lib.hid (below_drewN HQ5.out q6)⟩
            case measure => simp [intOf]; omega
          | false =>
            have HBB : Hid (bgB M X = false) := Lib.hid (by rw [bgB_sm HMP.out, hb])
            have HCN1 : Hid ((((L.take (x + 1)).filter (bgB P)).length : Int) = (cc : Int)) := Lib.hid (by rw [HTS.out, hb, if_neg (by decide), List.append_nil, HCC.out])
            clear hb
            go_wp2_with fail
            refine (begins_to _ _ M X false _ HXS.out (Lib.hid rfl) (Lib.hid rfl) HBB).mono ?_
            rintro e w6 ⟨rfl, q6, rfl⟩
            go_wp2
            go_roundw
            case rel => exact ⟨x + 1, by omega, by go_num, by rw [HCN1.out], Lib.hid (below_drewN HQ5.out q6)⟩
            case measure => simp [intOf]; omega
        · have hx2 : cn ≤ x := by omega
          have hx3 : x = cn := by omega
          have HXL : Hid (L.take x = L) := Lib.hid (List.take_of_length_le (by rw [HCN.out]; omega))
          obtain ⟨cc, hcc⟩ : ∃ c, ((L.take x).filter (bgB P)).length = c := ⟨_, rfl⟩
          have HCC : Hid ((L.filter (bgB P)).length = cc) := Lib.hid (by rw [← hcc, HXL.out])
          rw [hcc]
          have hrow2 : SmR B M wr := fun y hy => ⟨(HQ.out.cell (p := ⟨B, y, none⟩) hz).trans (HR.out y hy).1, (HQ.out.frozen (p := ⟨B, y, none⟩) hz).trans (HR.out y hy).2⟩
          have hback := sm_back wr B cap M hrow2
          rw [HML.out] at hback
          have HBq := Lib.hid (HBw.out.trans (HQ.out.mono HBw.out.size))
          have HWM : Hid ((1 + t < W.length ∧ (((1 + t : Nat) : Int) < m ∨ 1 < cc) → wdP (1 + (q : Int)) M = (0, 7)) ∧ (¬ (1 + t < W.length ∧ (((1 + t : Nat) : Int) < m ∨ 1 < cc)) → wdP (1 + (q : Int)) M = ((j : Int) + f, 0))) := Lib.hid (by
            have h1 := HWP.out
            rw [HCC.out, HKI.out] at h1
            rw [wdP_sm HMP.out, Int.add_comm (j : Int) f]
            exact h1)
          have HMS : Hid ((⟨M.toArray⟩ : ByteArray).size ≤ 1000) := Lib.hid (by show M.length ≤ _; rw [HML.out]; omega)
          have HM2 : Hid (lstV (1 + (q : Int)) = m) := Lib.hid (by rw [← HKI.out]; exact HM.out)
          have HWS : Hid ((⟨W.toArray⟩ ++ ⟨#[120]⟩ : ByteArray).size ≤ 1000) := Lib.hid (by rw [Lib.size_eq]; simp; omega)
          have HWD : Hid ((⟨W.toArray⟩ ++ ⟨#[120]⟩ : ByteArray).data.toList = W ++ [120]) := Lib.hid (by simp)
          clear hrow2 hcc hx2 hx3
          obtain ⟨v, c, hvc⟩ : ∃ v c, wdP (1 + (q : Int)) M = (v, c) := ⟨_, _, rfl⟩
          have HVC := Lib.hid hvc
          rw [hvc] at HWM
          clear hvc
          go_wp2_with fail
          refine (tell_to _ _ M v c _ HKB.out HMS.out (Lib.hid rfl) HVC).mono ?_
          rintro e w6 ⟨rfl, hb6⟩
          have HB6 := Lib.hid (HBq.out.trans (hb6.mono HBq.out.size))
          clear hb6 hback
          have hm2 : (m = 3 ∧ (q = 1 ∨ q = 2)) ∨ (m = 1 ∧ (q = 0 ∨ q = 3)) := by
            rw [← HM2.out]
            have h4 : q = 0 ∨ q = 1 ∨ q = 2 ∨ q = 3 := by omega
            rcases h4 with rfl | rfl | rfl | rfl <;> decide
          go_upto_region 27 with fail
          rcases hm2 with ⟨rfl, hq2⟩ | ⟨rfl, hq2⟩
          · go_cut [173] (fun y wx => y = .bool true ∧ w6 = wx)
            case first =>
              rcases hq2 with rfl | rfl
              all_goals
                go_wp2
                go_meet
                exact ⟨rfl, rfl⟩
            case rest =>
            obtain ⟨rfl, hwx⟩ := hcut
            subst hwx
            go_wp2_with fail
            refine (tell_to _ _ (W ++ [120]) 0 7 _ HKB.out HWS.out HWD HWX2).mono ?_
            rintro e w7 ⟨rfl, hb7⟩
            have HB7 := Lib.hid (HB6.out.trans (hb7.mono HB6.out.size))
            clear hb7
            go_wp2_with fail
            refine (tell_to _ _ [] 0 7 _ HKB.out (by decide) (Lib.hid rfl) HEM).mono ?_
            rintro e w8 ⟨rfl, hb8⟩
            have HB8 := Lib.hid (HB7.out.trans (hb8.mono HB7.out.size))
            clear hb8
            by_cases c1 : 1 + t < W.length
            · have c1' : 1 + (t : Int) < (W.length : Int) := by omega
              by_cases c2 : ((1 + t : Nat) : Int) < 3
              · obtain ⟨rfl, rfl⟩ : v = 0 ∧ c = 7 := by simpa using HWM.out.1 ⟨c1, Or.inl c2⟩
                have c2' : 1 + (t : Int) < 3 := by omega
                go_wp2_with fail
                refine (wakes6_any _).mono ?_
                rintro e w9 ⟨rfl, hb9⟩
                go_wp2
                go_ret
                exact ⟨rfl, HB8.out.trans (hb9.mono HB8.out.size)⟩
              · have c2' : 3 ≤ 1 + (t : Int) := by omega
                by_cases c3 : 1 < cc
                · obtain ⟨rfl, rfl⟩ : v = 0 ∧ c = 7 := by simpa using HWM.out.1 ⟨c1, Or.inr c3⟩
                  have c3' : 1 < (cc : Int) := by omega
                  clear c2
                  go_wp2_with fail
                  refine (wakes6_any _).mono ?_
                  rintro e w9 ⟨rfl, hb9⟩
                  go_wp2
                  go_ret
                  exact ⟨rfl, HB8.out.trans (hb9.mono HB8.out.size)⟩
                · obtain ⟨rfl, rfl⟩ : v = (j : Int) + f ∧ c = 0 := by simpa using HWM.out.2 (fun h => by rcases h.2 with h | h <;> omega)
                  have c3' : (cc : Int) ≤ 1 := by omega
                  clear c2 c3
                  go_wp2_with fail
                  refine (wakes6_any _).mono ?_
                  rintro e w9 ⟨rfl, hb9⟩
                  go_wp2
                  go_ret
                  exact ⟨rfl, HB8.out.trans (hb9.mono HB8.out.size)⟩
            · obtain ⟨rfl, rfl⟩ : v = (j : Int) + f ∧ c = 0 := by simpa using HWM.out.2 (fun h => c1 h.1)
              have c1' : (W.length : Int) ≤ 1 + (t : Int) := by omega
              clear c1
              go_wp2_with fail
              refine (wakes6_any _).mono ?_
              rintro e w9 ⟨rfl, hb9⟩
              go_wp2
              go_ret
              exact ⟨rfl, HB8.out.trans (hb9.mono HB8.out.size)⟩
          · go_cut [173] (fun y wx => y = .bool false ∧ w6 = wx)
            case first =>
              rcases hq2 with rfl | rfl
              all_goals
                go_wp2
                go_meet
                exact ⟨rfl, rfl⟩
            case rest =>
            obtain ⟨rfl, hwx⟩ := hcut
            subst hwx
            go_wp2_with fail
            refine (tell_to _ _ (W ++ [120]) 0 7 _ HKB.out HWS.out HWD HWX2).mono ?_
            rintro e w7 ⟨rfl, hb7⟩
            have HB7 := Lib.hid (HB6.out.trans (hb7.mono HB6.out.size))
            clear hb7
            go_wp2_with fail
            refine (tell_to _ _ [] 0 7 _ HKB.out (by decide) (Lib.hid rfl) HEM).mono ?_
            rintro e w8 ⟨rfl, hb8⟩
            have HB8 := Lib.hid (HB7.out.trans (hb8.mono HB7.out.size))
            clear hb8
            by_cases c1 : 1 + t < W.length
            · have c1' : 1 + (t : Int) < (W.length : Int) := by omega
              by_cases c2 : ((1 + t : Nat) : Int) < 1
              · obtain ⟨rfl, rfl⟩ : v = 0 ∧ c = 7 := by simpa using HWM.out.1 ⟨c1, Or.inl c2⟩
                have c2' : 1 + (t : Int) < 1 := by omega
                go_wp2_with fail
                refine (wakes6_any _).mono ?_
                rintro e w9 ⟨rfl, hb9⟩
                go_wp2
                go_ret
                exact ⟨rfl, HB8.out.trans (hb9.mono HB8.out.size)⟩
              · have c2' : 1 ≤ 1 + (t : Int) := by omega
                by_cases c3 : 1 < cc
                · obtain ⟨rfl, rfl⟩ : v = 0 ∧ c = 7 := by simpa using HWM.out.1 ⟨c1, Or.inr c3⟩
                  have c3' : 1 < (cc : Int) := by omega
                  clear c2
                  go_wp2_with fail
                  refine (wakes6_any _).mono ?_
                  rintro e w9 ⟨rfl, hb9⟩
                  go_wp2
                  go_ret
                  exact ⟨rfl, HB8.out.trans (hb9.mono HB8.out.size)⟩
                · obtain ⟨rfl, rfl⟩ : v = (j : Int) + f ∧ c = 0 := by simpa using HWM.out.2 (fun h => by rcases h.2 with h | h <;> omega)
                  have c3' : (cc : Int) ≤ 1 := by omega
                  clear c2 c3
                  go_wp2_with fail
                  refine (wakes6_any _).mono ?_
                  rintro e w9 ⟨rfl, hb9⟩
                  go_wp2
                  go_ret
                  exact ⟨rfl, HB8.out.trans (hb9.mono HB8.out.size)⟩
            · obtain ⟨rfl, rfl⟩ : v = (j : Int) + f ∧ c = 0 := by simpa using HWM.out.2 (fun h => c1 h.1)
              have c1' : (W.length : Int) ≤ 1 + (t : Int) := by omega
              clear c1
              go_wp2_with fail
              refine (wakes6_any _).mono ?_
              rintro e w9 ⟨rfl, hb9⟩
              go_wp2
              go_ret
              exact ⟨rfl, HB8.out.trans (hb9.mono HB8.out.size)⟩
set_option maxHeartbeats 3200000 in
set_option maxRecDepth 100000 in
theorem wbegin_nil (k0 i0 n0 : Int) (A : Option Addr) (lc : Nat) (w : World) :
    Calls Try.prog 4 #[.int .i64 k0, .int .i64 i0, .int .i64 n0, .slice A 0 lc] w fun e w' => e = .returned (.bool true) ∧ Below w.heap.size w w' := by
  obtain ⟨q, eq, hq⟩ : ∃ k : Nat, (IntKind.u64.wrap k0).tmod 4 = (k : Int) ∧ k < 4 := um_nat k0 4 (by omega)
  have hK : 1 ≤ ((1 + q : Nat) : Int) ∧ ((1 + q : Nat) : Int) ≤ 4 := by omega
  have HKB := Lib.hid hK
  obtain ⟨L, hL⟩ : ∃ L, wds ((1 + q : Nat) : Int) = L := ⟨_, rfl⟩
  obtain ⟨f, hf⟩ : ∃ f, fstV ((1 + q : Nat) : Int) = f := ⟨_, rfl⟩
  obtain ⟨m, hm⟩ : ∃ f, lstV ((1 + q : Nat) : Int) = f := ⟨_, rfl⟩
  have hwk := (WK_of hK)
  have hf1 := fstV_bd ((1 + q : Nat) : Int)
  have hwb := wb_kind (k := 1 + q) (by omega)
  rw [hf, hm, hL] at hwb
  rw [hL] at hwk
  rw [hf] at hf1
  obtain ⟨cn, hcn⟩ : ∃ n, L.length = n := ⟨_, rfl⟩
  rw [hcn] at hwk
  have hcn0 : 0 < cn := hwk.2
  have hcn12 : cn ≤ 12 := hwk.1.short.1
  have HCN := Lib.hid hcn
  have HLL := Lib.hid hL
  have HF := Lib.hid hf
  have HM := Lib.hid hm
  have HWB := Lib.hid hwb.1
  have HEM := Lib.hid hwb.2
  have hcell : (w.alloc (Obj.cells #[.int .i64 0, .int .i64 3, .int .i64 12, .int .i64 7, .int .i64 3] 3)).cell? ⟨w.heap.size, 1 + q, none⟩ = some (.int .i64 (cn : Int)) := by
    rw [World.cell?_alloc_new, ← hcn, ← hL]
    have h4 : q = 0 ∨ q = 1 ∨ q = 2 ∨ q = 3 := by omega
    rcases h4 with rfl | rfl | rfl | rfl <;> rfl
  obtain ⟨j, ej, hj⟩ := um_nat i0 cn hcn0
  have hjl : j < L.length := by rw [hcn]; exact hj
  obtain ⟨W, hW⟩ : ∃ W, L[j] = W := ⟨_, rfl⟩
  obtain ⟨w3, wx, hwt⟩ := wb_get HWB.out hjl hW
  have hw9 : W.length ≤ 9 := hwk.1.short.2 W (by rw [← hW]; exact List.getElem_mem _)
  have HWT := Lib.hid hwt
  have HWX := Lib.hid wx
  have HNM : Hid (nmT ((1 + q : Nat) : Int) (j + f) = W ∧ nmE ((1 + q : Nat) : Int) (j + f) = 0) := Lib.hid (by
    rw [nmT, nmE, hf, hL, hcn]
    have c : f ≤ (j : Int) + f ∧ (j : Int) + f - f < (cn : Int) := by omega
    rw [if_pos c, if_pos c, show ((j : Int) + f - f).toNat = j by omega, List.getElem?_eq_getElem hjl, hW]
    exact ⟨rfl, rfl⟩)
  have hKi : ((1 + q : Nat) : Int) = 1 + (q : Int) := by omega
  rw [hKi] at HNM HKB HEM HF
  have HWX2 : Hid (wdP (1 + (q : Int)) (W ++ [120]) = (0, 7)) := Lib.hid (by rw [← hKi]; exact HWX.out)
  clear hwb hwk hK hL hf hm hcn hjl hW hwt wx HWX
  have HKI := Lib.hid hKi
  clear hKi
  go_enter Try.func4, Try.ntmps4
  go_wp2_with fail
  have hB0 : Below w.heap.size w (w.alloc (Obj.cells #[.int .i64 0, .int .i64 3, .int .i64 12, .int .i64 7, .int .i64 3] 3)) := (Below.refl _ _).alloc (Nat.le_refl _) _
  obtain ⟨w0, hw0⟩ : ∃ x, w.alloc (Obj.cells #[.int .i64 0, .int .i64 3, .int .i64 12, .int .i64 7, .int .i64 3] 3) = x := ⟨_, rfl⟩
  rw [hw0] at hB0
  rw [hw0]
  clear hw0 hcell
  go_quiet ((go_at_call 7; exact quietL (lfirst_to _ f _ HF)))
  have hB1 : Below w.heap.size w (w0.drewN nq) := below_drewN hB0 nq
  go_wp2_with fail
  refine (name_to _ _ W 0 _ (by omega) HNM).mono ?_
  rintro e w2 ⟨rfl, hb2⟩
  have hB2 : Below w.heap.size w w2 := hB1.trans (hb2.mono hB1.size)
  clear hb2 hB1 hB0
  have hWs : (⟨W.toArray⟩ : ByteArray).size = W.length := rfl
  obtain ⟨t, et, ht⟩ := um_nat n0 W.length (by omega)
  go_upto_region 8 with fail
  obtain ⟨P, hP⟩ : ∃ P, W.take (1 + t) = P := ⟨_, rfl⟩
  have hX : ((⟨W.toArray⟩ : ByteArray).extract 0 (1 + t)).data.toList = P := by rw [Lib.extract_data, ← hP]; simp
  have hPl : P.length = 1 + t := by rw [← hP, List.length_take]; omega
  have hxs : ((⟨W.toArray⟩ : ByteArray).extract 0 (1 + t)).size = 1 + t := by rw [Lib.size_eq, hX, hPl]
  have HPl := Lib.hid hPl
  have HWP := Lib.hid (HWT.out t ht)
  rw [hP] at HWP
  obtain ⟨cap, w4, hconv, hb4, hr4, hz4⟩ := bytes_row w2 ((⟨W.toArray⟩ : ByteArray).extract 0 (1 + t)) P hX
  rw [hxs] at hconv
  obtain ⟨B, hB⟩ : ∃ B, w2.heap.size = B := ⟨_, rfl⟩
  rw [hB] at hconv hb4 hr4 hz4
  have hBw : w.heap.size ≤ B := by rw [← hB]; exact hB2.size
  have HR4 := Lib.hid hr4
  clear hr4 hX hP hPl hB
  go_wp2_with fail
  go_loopw [13] (fun k wr => ∃ (i : Nat) (M : List UInt8), i ≤ 1 + t ∧ k = .int .i64 i ∧ Hid (SmR B M wr) ∧ Hid (smL M = smL P) ∧ Hid (M.length = 1 + t) ∧ Hid (Below B w2 wr) ∧ B < wr.heap.size) (fun k _ => 1 + t - (intOf k).toNat)
  case atStart => exact ⟨0, P, by omega, rfl, HR4, Lib.hid rfl, HPl, Lib.hid hb4, hz4⟩
  case round =>
    obtain ⟨i, M, hi, rfl, HR, HSM, HML, HB, hz⟩ := hrel
    by_cases hlt : i < 1 + t
    · have hil : i < M.length := by rw [HML.out]; exact hlt
      obtain ⟨c, hc⟩ : ∃ c, M[i] = c := ⟨_, rfl⟩
      obtain ⟨gc, gf⟩ := HR.out.get (j := i) (c := c) (by rw [List.getElem?_eq_getElem hil, hc])
      have HC := Lib.hid hc
      have c0 : (0 : Int) ≤ (c.toNat : Int) := by omega
      have c1 : (c.toNat : Int) ≤ 255 := by have := c.toNat_lt; omega
      obtain ⟨x, hx⟩ : ∃ x : Int, (c.toNat : Int) = x := ⟨_, rfl⟩
      rw [hx] at gc c0 c1
      have HX := Lib.hid hx
      clear hc
      clear hx
      go_wp2
      go_roundw
      case rel => exact ⟨i + 1, M, by omega, by go_num, HR, HSM, HML, HB, hz⟩
      case measure => simp [intOf]; omega
    · have hi2 : 1 + t ≤ i := by omega
      obtain ⟨wo, rfl⟩ : ∃ wo : World, wo = wr := ⟨_, rfl⟩
      have HBw := Lib.hid (hB2.trans (HB.out.mono hBw))
      have HMP := Lib.hid (HSM.out)
      have HNX : Hid (∀ x (hx : x < L.length), nmT (1 + (q : Int)) ((x : Int) + f) = L[x] ∧ nmE (1 + (q : Int)) ((x : Int) + f) = 0) := Lib.hid (fun x hx => by
        rw [nmT, nmE, HF.out, ← HKI.out, HLL.out, HCN.out]
        have hx2 : x < cn := by rw [← HCN.out]; exact hx
        have c : f ≤ (x : Int) + f ∧ (x : Int) + f - f < (cn : Int) := by omega
        rw [if_pos c, if_pos c, show ((x : Int) + f - f).toNat = x by omega, List.getElem?_eq_getElem hx]
        exact ⟨rfl, rfl⟩)
      clear hlt
      go_wp2_with fail
      go_loopw [14, 15] (fun oo kk wq => ∃ x : Nat, x ≤ cn ∧ kk = .int .i64 x ∧ oo = .int .i64 (((L.take x).filter (bgB P)).length : Nat) ∧ Hid (Below wo.heap.size wo wq)) (fun _ kk _ => cn - (intOf kk).toNat)
      case atStart => exact ⟨0, Nat.zero_le _, rfl, rfl, Lib.hid (Below.refl _ _)⟩
      case round =>
        obtain ⟨x, hx, rfl, rfl, HQ⟩ := hrel
        by_cases hxl : x < cn
        · have hxL : x < L.length := by rw [HCN.out]; exact hxl
          obtain ⟨X, hX⟩ : ∃ X, L[x] = X := ⟨_, rfl⟩
          have HN1 : Hid (nmT (1 + (q : Int)) ((x : Int) + f) = X ∧ nmE (1 + (q : Int)) ((x : Int) + f) = 0) := Lib.hid (by rw [← hX]; exact HNX.out x hxL)
          have hX9 : X.length ≤ 9 := (WK_of HKB.out).1.short.2 X (by rw [← HKI.out, HLL.out, ← hX]; exact List.getElem_mem _)
          have HTS : Hid ((L.take (x + 1)).filter (bgB P) = (L.take x).filter (bgB P) ++ (if bgB P X = true then [X] else [])) := Lib.hid (by
            rw [List.take_succ_eq_append_getElem hxL, List.filter_append, hX]
            congr 1
            cases hbx : bgB P X <;> simp [hbx])
          have hcl : ((L.take x).filter (bgB P)).length ≤ 12 := by
            have h1 := List.length_filter_le (bgB P) (L.take x)
            have h2 : (L.take x).length ≤ x := List.length_take_le _ _
            omega
          obtain ⟨cc, hcc⟩ : ∃ c, ((L.take x).filter (bgB P)).length = c := ⟨_, rfl⟩
          rw [hcc] at hcl
          rw [hcc]
          have HCC := Lib.hid hcc
          clear hX hcc
          go_wp2_with fail
          refine (lfirst_to _ f _ HF).mono ?_
          rintro e w5 ⟨rfl, rfl⟩
          go_wp2_with fail
          refine (name_to _ _ X 0 _ (by omega) HN1).mono ?_
          rintro e w5 ⟨rfl, hb5⟩
          have HQ5 := Lib.hid (HQ.out.trans (hb5.mono HQ.out.size))
          clear hb5
          have hrow : SmR B M w5 := fun y hy => ⟨(HQ5.out.cell (p := ⟨B, y, none⟩) hz).trans (HR.out y hy).1, (HQ5.out.frozen (p := ⟨B, y, none⟩) hz).trans (HR.out y hy).2⟩
          have hback := sm_back w5 B cap M hrow
          rw [HML.out] at hback
          have HRW := Lib.hid hrow
          clear hrow
          have hxs : (⟨X.toArray⟩ : ByteArray).size ≤ 1000000 := by show X.length ≤ _; omega
          have HXS := Lib.hid hxs
          clear hxs
          cases hb : bgB P X with
          | true =>
            have HBB : Hid (bgB M X = true) := Lib.hid (by rw [bgB_sm HMP.out, hb])
            have HCN1 : Hid ((((L.take (x + 1)).filter (bgB P)).length : Int) = (cc : Int) + 1) := Lib.hid (by rw [HTS.out, hb, if_pos rfl, List.length_append, HCC.out]; simp)
            clear hb
            go_wp2_with fail
            refine (begins_to _ _ M X true _ HXS.out (Lib.hid rfl) (Lib.hid rfl) HBB).mono ?_
            rintro e w6 ⟨rfl, q6, rfl⟩
            go_wp2
            go_roundw
            case rel => exact ⟨x + 1, by omega, by go_num, by rw [HCN1.out], Lib.hid (below_drewN HQ5.out q6)⟩
            case measure => simp [intOf]; omega
          | false =>
            have HBB : Hid (bgB M X = false) := Lib.hid (by rw [bgB_sm HMP.out, hb])
            have HCN1 : Hid ((((L.take (x + 1)).filter (bgB P)).length : Int) = (cc : Int)) := Lib.hid (by rw [HTS.out, hb, if_neg (by decide), List.append_nil, HCC.out])
            clear hb
            go_wp2_with fail
            refine (begins_to _ _ M X false _ HXS.out (Lib.hid rfl) (Lib.hid rfl) HBB).mono ?_
            rintro e w6 ⟨rfl, q6, rfl⟩
            go_wp2
            go_roundw
            case rel => exact ⟨x + 1, by omega, by go_num, by rw [HCN1.out], Lib.hid (below_drewN HQ5.out q6)⟩
            case measure => simp [intOf]; omega
        · have hx2 : cn ≤ x := by omega
          have hx3 : x = cn := by omega
          have HXL : Hid (L.take x = L) := Lib.hid (List.take_of_length_le (by rw [HCN.out]; omega))
          obtain ⟨cc, hcc⟩ : ∃ c, ((L.take x).filter (bgB P)).length = c := ⟨_, rfl⟩
          have HCC : Hid ((L.filter (bgB P)).length = cc) := Lib.hid (by rw [← hcc, HXL.out])
          rw [hcc]
          have hrow2 : SmR B M wr := fun y hy => ⟨(HQ.out.cell (p := ⟨B, y, none⟩) hz).trans (HR.out y hy).1, (HQ.out.frozen (p := ⟨B, y, none⟩) hz).trans (HR.out y hy).2⟩
          have hback := sm_back wr B cap M hrow2
          rw [HML.out] at hback
          have HBq := Lib.hid (HBw.out.trans (HQ.out.mono HBw.out.size))
          have HWM : Hid ((1 + t < W.length ∧ (((1 + t : Nat) : Int) < m ∨ 1 < cc) → wdP (1 + (q : Int)) M = (0, 7)) ∧ (¬ (1 + t < W.length ∧ (((1 + t : Nat) : Int) < m ∨ 1 < cc)) → wdP (1 + (q : Int)) M = ((j : Int) + f, 0))) := Lib.hid (by
            have h1 := HWP.out
            rw [HCC.out, HKI.out] at h1
            rw [wdP_sm HMP.out, Int.add_comm (j : Int) f]
            exact h1)
          have HMS : Hid ((⟨M.toArray⟩ : ByteArray).size ≤ 1000) := Lib.hid (by show M.length ≤ _; rw [HML.out]; omega)
          have HM2 : Hid (lstV (1 + (q : Int)) = m) := Lib.hid (by rw [← HKI.out]; exact HM.out)
          have HWS : Hid ((⟨W.toArray⟩ ++ ⟨#[120]⟩ : ByteArray).size ≤ 1000) := Lib.hid (by rw [Lib.size_eq]; simp; omega)
          have HWD : Hid ((⟨W.toArray⟩ ++ ⟨#[120]⟩ : ByteArray).data.toList = W ++ [120]) := Lib.hid (by simp)
          clear hrow2 hcc hx2 hx3
          obtain ⟨v, c, hvc⟩ : ∃ v c, wdP (1 + (q : Int)) M = (v, c) := ⟨_, _, rfl⟩
          have HVC := Lib.hid hvc
          rw [hvc] at HWM
          clear hvc
          go_wp2_with fail
          refine (tell_to _ _ M v c _ HKB.out HMS.out (Lib.hid rfl) HVC).mono ?_
          rintro e w6 ⟨rfl, hb6⟩
          have HB6 := Lib.hid (HBq.out.trans (hb6.mono HBq.out.size))
          clear hb6 hback
          have hm2 : (m = 3 ∧ (q = 1 ∨ q = 2)) ∨ (m = 1 ∧ (q = 0 ∨ q = 3)) := by
            rw [← HM2.out]
            have h4 : q = 0 ∨ q = 1 ∨ q = 2 ∨ q = 3 := by omega
            rcases h4 with rfl | rfl | rfl | rfl <;> decide
          go_upto_region 27 with fail
          rcases hm2 with ⟨rfl, hq2⟩ | ⟨rfl, hq2⟩
          · go_cut [173] (fun y wx => y = .bool true ∧ w6 = wx)
            case first =>
              rcases hq2 with rfl | rfl
              all_goals
                go_wp2
                go_meet
                exact ⟨rfl, rfl⟩
            case rest =>
            obtain ⟨rfl, hwx⟩ := hcut
            subst hwx
            go_wp2_with fail
            refine (tell_to _ _ (W ++ [120]) 0 7 _ HKB.out HWS.out HWD HWX2).mono ?_
            rintro e w7 ⟨rfl, hb7⟩
            have HB7 := Lib.hid (HB6.out.trans (hb7.mono HB6.out.size))
            clear hb7
            go_wp2_with fail
            refine (tell_to _ _ [] 0 7 _ HKB.out (by decide) (Lib.hid rfl) HEM).mono ?_
            rintro e w8 ⟨rfl, hb8⟩
            have HB8 := Lib.hid (HB7.out.trans (hb8.mono HB7.out.size))
            clear hb8
            by_cases c1 : 1 + t < W.length
            · have c1' : 1 + (t : Int) < (W.length : Int) := by omega
              by_cases c2 : ((1 + t : Nat) : Int) < 3
              · obtain ⟨rfl, rfl⟩ : v = 0 ∧ c = 7 := by simpa using HWM.out.1 ⟨c1, Or.inl c2⟩
                have c2' : 1 + (t : Int) < 3 := by omega
                go_wp2_with fail
                refine (wakes6_any _).mono ?_
                rintro e w9 ⟨rfl, hb9⟩
                go_wp2
                go_ret
                exact ⟨rfl, HB8.out.trans (hb9.mono HB8.out.size)⟩
              · have c2' : 3 ≤ 1 + (t : Int) := by omega
                by_cases c3 : 1 < cc
                · obtain ⟨rfl, rfl⟩ : v = 0 ∧ c = 7 := by simpa using HWM.out.1 ⟨c1, Or.inr c3⟩
                  have c3' : 1 < (cc : Int) := by omega
                  clear c2
                  go_wp2_with fail
                  refine (wakes6_any _).mono ?_
                  rintro e w9 ⟨rfl, hb9⟩
                  go_wp2
                  go_ret
                  exact ⟨rfl, HB8.out.trans (hb9.mono HB8.out.size)⟩
                · obtain ⟨rfl, rfl⟩ : v = (j : Int) + f ∧ c = 0 := by simpa using HWM.out.2 (fun h => by rcases h.2 with h | h <;> omega)
                  have c3' : (cc : Int) ≤ 1 := by omega
                  clear c2 c3
                  go_wp2_with fail
                  refine (wakes6_any _).mono ?_
                  rintro e w9 ⟨rfl, hb9⟩
                  go_wp2
                  go_ret
                  exact ⟨rfl, HB8.out.trans (hb9.mono HB8.out.size)⟩
            · obtain ⟨rfl, rfl⟩ : v = (j : Int) + f ∧ c = 0 := by simpa using HWM.out.2 (fun h => c1 h.1)
              have c1' : (W.length : Int) ≤ 1 + (t : Int) := by omega
              clear c1
              go_wp2_with fail
              refine (wakes6_any _).mono ?_
              rintro e w9 ⟨rfl, hb9⟩
              go_wp2
              go_ret
              exact ⟨rfl, HB8.out.trans (hb9.mono HB8.out.size)⟩
          · go_cut [173] (fun y wx => y = .bool false ∧ w6 = wx)
            case first =>
              rcases hq2 with rfl | rfl
              all_goals
                go_wp2
                go_meet
                exact ⟨rfl, rfl⟩
            case rest =>
            obtain ⟨rfl, hwx⟩ := hcut
            subst hwx
            go_wp2_with fail
            refine (tell_to _ _ (W ++ [120]) 0 7 _ HKB.out HWS.out HWD HWX2).mono ?_
            rintro e w7 ⟨rfl, hb7⟩
            have HB7 := Lib.hid (HB6.out.trans (hb7.mono HB6.out.size))
            clear hb7
            go_wp2_with fail
            refine (tell_to _ _ [] 0 7 _ HKB.out (by decide) (Lib.hid rfl) HEM).mono ?_
            rintro e w8 ⟨rfl, hb8⟩
            have HB8 := Lib.hid (HB7.out.trans (hb8.mono HB7.out.size))
            clear hb8
            by_cases c1 : 1 + t < W.length
            · have c1' : 1 + (t : Int) < (W.length : Int) := by omega
              by_cases c2 : ((1 + t : Nat) : Int) < 1
              · obtain ⟨rfl, rfl⟩ : v = 0 ∧ c = 7 := by simpa using HWM.out.1 ⟨c1, Or.inl c2⟩
                have c2' : 1 + (t : Int) < 1 := by omega
                go_wp2_with fail
                refine (wakes6_any _).mono ?_
                rintro e w9 ⟨rfl, hb9⟩
                go_wp2
                go_ret
                exact ⟨rfl, HB8.out.trans (hb9.mono HB8.out.size)⟩
              · have c2' : 1 ≤ 1 + (t : Int) := by omega
                by_cases c3 : 1 < cc
                · obtain ⟨rfl, rfl⟩ : v = 0 ∧ c = 7 := by simpa using HWM.out.1 ⟨c1, Or.inr c3⟩
                  have c3' : 1 < (cc : Int) := by omega
                  clear c2
                  go_wp2_with fail
                  refine (wakes6_any _).mono ?_
                  rintro e w9 ⟨rfl, hb9⟩
                  go_wp2
                  go_ret
                  exact ⟨rfl, HB8.out.trans (hb9.mono HB8.out.size)⟩
                · obtain ⟨rfl, rfl⟩ : v = (j : Int) + f ∧ c = 0 := by simpa using HWM.out.2 (fun h => by rcases h.2 with h | h <;> omega)
                  have c3' : (cc : Int) ≤ 1 := by omega
                  clear c2 c3
                  go_wp2_with fail
                  refine (wakes6_any _).mono ?_
                  rintro e w9 ⟨rfl, hb9⟩
                  go_wp2
                  go_ret
                  exact ⟨rfl, HB8.out.trans (hb9.mono HB8.out.size)⟩
            · obtain ⟨rfl, rfl⟩ : v = (j : Int) + f ∧ c = 0 := by simpa using HWM.out.2 (fun h => c1 h.1)
              have c1' : (W.length : Int) ≤ 1 + (t : Int) := by omega
              clear c1
              go_wp2_with fail
              refine (wakes6_any _).mono ?_
              rintro e w9 ⟨rfl, hb9⟩
              go_wp2
              go_ret
              exact ⟨rfl, HB8.out.trans (hb9.mono HB8.out.size)⟩
end Wrd
end Go.Proofs.Ytikjlnkpcjjigaa
