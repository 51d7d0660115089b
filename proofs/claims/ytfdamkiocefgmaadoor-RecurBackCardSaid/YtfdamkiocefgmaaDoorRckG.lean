/-
  recur.goTogether: a rule's lists go with its frequency, and with one another; the whole call. (Written by gen/gen_rckg.py.)
-/
import Derived.Test.YtfdamkiocefgmaaDoorRckF
import Derived.Test.YtfdamkiocefgmaaDoorRckC
import Derived.Deep.CutBlock
namespace Go.Proofs.YtfdamkiocefgmaaDoor
open Go.RowKit
namespace Rck
open Cel
open Rcv (CV IntV DayV LisV RecV)
theorem gtB_eq (x : CV) : gtB x = (x.dy.all (nmB x) && ((decide (x.md.length = 0) || decide (x.fq ≠ 5)) && (decide (x.yd.length = 0) || !decide (x.fq = 4 ∨ x.fq = 5 ∨ x.fq = 6)) && (decide (x.wn.length = 0) || decide (x.fq = 7)) && (decide (x.sp.length = 0) || decide (0 < ((x.sc.length : Int) + (x.mi.length : Int) + (x.hr.length : Int) + (x.dy.length : Int) + (x.md.length : Int) + (x.yd.length : Int) + (x.wn.length : Int) + (x.mo.length : Int)))))) := by
  have e1 : ∀ (L : List Int), decide (L = []) = decide (L.length = 0) := fun L => by simp
  have e2 : decide (¬ (x.sc = [] ∧ x.mi = [] ∧ x.hr = [] ∧ x.dy = [] ∧ x.md = [] ∧ x.yd = [] ∧ x.wn = [] ∧ x.mo = [])) = decide (0 < ((x.sc.length : Int) + (x.mi.length : Int) + (x.hr.length : Int) + (x.dy.length : Int) + (x.md.length : Int) + (x.yd.length : Int) + (x.wn.length : Int) + (x.mo.length : Int))) := by
    rw [decide_eq_decide]
    simp only [← List.length_eq_zero_iff]
    omega
  unfold gtB
  rw [e1, e1, e1, e1, e2, decide_not (p := (x.fq = 4 ∨ x.fq = 5 ∨ x.fq = 6))]
  simp only [Bool.and_assoc]
theorem nm_yes {x : CV} {d : Int × Int} (h : d.1 = 0) : nmB x d = true := by simp [nmB, h]
theorem nm_eq {x : CV} {d : Int × Int} (h : d.1 ≠ 0) : nmB x d = (decide (x.fq = 6 ∨ x.fq = 7) && decide (x.wn.length = 0)) := by
  have e1 : decide (x.wn = []) = decide (x.wn.length = 0) := by simp
  rw [nmB, decide_eq_false h, Bool.false_or, e1]
theorem nm_all {x : CV} {k : Nat} (hk : k < x.dy.length) (h : (x.dy.take k).all (nmB x) = true) (h2 : nmB x x.dy[k] = true) : (x.dy.take (k + 1)).all (nmB x) = true := by
  rw [List.take_succ_eq_append_getElem hk, List.all_append, h, Bool.true_and]
  simpa using h2
theorem nm_none {x : CV} {k : Nat} (hk : k < x.dy.length) (h2 : nmB x x.dy[k] = false) : x.dy.all (nmB x) = false := by
  rw [← Bool.not_eq_true, List.all_eq_true]
  intro h
  rw [h _ (List.getElem_mem hk)] at h2
  cases h2
set_option maxHeartbeats 6400000 in
set_option maxRecDepth 100000 in
theorem gt_to (s6 s7 s8 s9 s10 s11 s12 s13 s14 : Value) (x : CV) (r : Bool) (w : World) (hl : Hid (LisV w x s6 s7 s8 s9 s10 s11 s12 s13 s14)) (hs : Hid (Small x)) (hr : Hid (gtB x = r)) :
    Calls Tryd.prog 26 #[.agg #[.int .i64 x.fq, .int .i64 x.iv, .int .i64 x.ct, .bool x.un, .int .i64 x.ua, .bool x.ut, s6, s7, s8, s9, s10, s11, s12, s13, s14, .int .i64 x.wk]] w fun e w' => e = .returned (.bool r) ∧ Below w.heap.size w w' := by
  obtain ⟨a6, c6, rfl⟩ := hl.out.h6.slice
  obtain ⟨a7, c7, rfl⟩ := hl.out.h7.slice
  obtain ⟨a8, c8, rfl⟩ := hl.out.h8.slice
  obtain ⟨a9, c9, rfl⟩ := hl.out.h9.slice
  obtain ⟨a10, c10, rfl⟩ := hl.out.h10.slice
  obtain ⟨a11, c11, rfl⟩ := hl.out.h11.slice
  obtain ⟨a12, c12, rfl⟩ := hl.out.h12.slice
  obtain ⟨a13, c13, rfl⟩ := hl.out.h13.slice
  obtain ⟨a14, c14, rfl⟩ := hl.out.h14.slice
  have DV := Lib.hid hl.out.h9
  have G := hr.out
  rw [gtB_eq] at G
  have NM : Hid (∀ d : Int × Int, d.1 ≠ 0 → nmB x d = (decide (x.fq = 6 ∨ x.fq = 7) && decide (x.wn.length = 0))) := Lib.hid (fun d h => nm_eq h)
  have HB : Hid (x.sc.length ≤ 1000000 ∧ x.mi.length ≤ 1000000 ∧ x.hr.length ≤ 1000000 ∧ x.dy.length ≤ 1000000 ∧ x.md.length ≤ 1000000 ∧ x.yd.length ≤ 1000000 ∧ x.wn.length ≤ 1000000 ∧ x.mo.length ≤ 1000000) := Lib.hid ⟨hs.out.sc, hs.out.mi, hs.out.hr, hs.out.dy, hs.out.md, hs.out.yd, hs.out.wn, hs.out.mo⟩
  clear hl hs hr
  obtain ⟨n6, h6⟩ : ∃ n, x.sc.length = n := ⟨_, rfl⟩
  obtain ⟨n7, h7⟩ : ∃ n, x.mi.length = n := ⟨_, rfl⟩
  obtain ⟨n8, h8⟩ : ∃ n, x.hr.length = n := ⟨_, rfl⟩
  obtain ⟨n9, h9⟩ : ∃ n, x.dy.length = n := ⟨_, rfl⟩
  obtain ⟨n10, h10⟩ : ∃ n, x.md.length = n := ⟨_, rfl⟩
  obtain ⟨n11, h11⟩ : ∃ n, x.yd.length = n := ⟨_, rfl⟩
  obtain ⟨n12, h12⟩ : ∃ n, x.wn.length = n := ⟨_, rfl⟩
  obtain ⟨n13, h13⟩ : ∃ n, x.mo.length = n := ⟨_, rfl⟩
  obtain ⟨n14, h14⟩ : ∃ n, x.sp.length = n := ⟨_, rfl⟩
  rw [h6, h7, h8, h9, h10, h11, h12, h13] at HB
  rw [h6, h7, h8, h9, h10, h11, h12, h13, h14] at G
  rw [h12] at NM
  rw [h6, h7, h8, h9, h10, h11, h12, h13, h14]
  rw [h9] at DV
  have H9 := Lib.hid h9
  have G := Lib.hid G
  have hb9 : n9 ≤ 1000000 := HB.out.2.2.2.1
  clear h6 h7 h8 h9 h10 h11 h12 h13 h14
  obtain ⟨lg, hlg⟩ : ∃ b, decide (x.fq = 6 ∨ x.fq = 7) = b := ⟨_, rfl⟩
  have HL := Lib.hid hlg
  rw [hlg] at NM
  clear hlg
  go_enter Tryd.func26, Tryd.ntmps26
  go_upto_region 0 with fail
  go_cut [1] (fun p w0 => p = .pointer (some ⟨w.heap.size, 0, none⟩) ∧ Hid (Cs w.heap.size w0 [.int .i64 x.fq, .int .i64 x.iv, .int .i64 x.ct, .bool x.un, .int .i64 x.ua, .bool x.ut, .slice a6 n6 c6, .slice a7 n7 c7, .slice a8 n8 c8, .slice a9 n9 c9, .slice a10 n10 c10, .slice a11 n11 c11, .slice a12 n12 c12, .slice a13 n13 c13, .slice a14 n14 c14, .int .i64 x.wk]) ∧ Hid (Below w.heap.size w w0))
  case first =>
    go_wp2
    go_meet
    exact ⟨rfl, Lib.hid (Cs.new w _ _), Lib.hid ((Below.refl _ _).alloc (Nat.le_refl _) _)⟩
  case rest =>
  obtain ⟨w0, rfl⟩ : ∃ x : World, x = wc := ⟨_, rfl⟩
  obtain ⟨rfl, C, B⟩ := hcut
  have l0 := (C.out.2 0 _ rfl).1
  go_upto_region 1 with fail
  go_cut [3] (fun b wz => b = .bool lg ∧ w0 = wz)
  case first =>
    by_cases q6 : x.fq = 6
    · have e : lg = true := by rw [← HL.out]; simp [q6]
      have p6 : (x.fq == 6) = true := by rw [q6]; rfl
      subst e
      go_wp2
      go_meet
      exact ⟨rfl, rfl⟩
    · have p6 : (x.fq == 6) = false := beq_eq_false_iff_ne.2 q6
      have e : lg = (x.fq == 7) := by rw [← HL.out]; by_cases q7 : x.fq = 7 <;> simp [q6, q7]
      go_wp2
      go_meet
      exact ⟨by rw [e], rfl⟩
  case rest =>
  obtain ⟨rfl, hw0⟩ := hcut
  subst hw0
  have l9 := (C.out.2 9 _ rfl).1
  clear l0
  go_upto_block 0 with fail
  go_cut [] (fun w2 => Hid (x.dy.all (nmB x) = true) ∧ Hid (Cs w.heap.size w2 [.int .i64 x.fq, .int .i64 x.iv, .int .i64 x.ct, .bool x.un, .int .i64 x.ua, .bool x.ut, .slice a6 n6 c6, .slice a7 n7 c7, .slice a8 n8 c8, .slice a9 n9 c9, .slice a10 n10 c10, .slice a11 n11 c11, .slice a12 n12 c12, .slice a13 n13 c13, .slice a14 n14 c14, .int .i64 x.wk]) ∧ Hid (Below w.heap.size w w2))
  case first =>
    by_cases h0 : n9 = 0
    · have HE : Hid (x.dy.all (nmB x) = true) := Lib.hid (by rw [show x.dy = [] from List.length_eq_zero_iff.1 (H9.out.trans h0)]; rfl)
      subst h0
      go_wp2_with fail
      go_loopw [19] (fun iv wr => iv = .int .i64 0 ∧ wr = w0) (fun _ _ => 0)
      case atStart => exact ⟨rfl, rfl⟩
      case round =>
        obtain ⟨rfl, rfl⟩ := hrel
        go_wp2
        go_meet
        exact ⟨HE, C, B⟩
    · obtain ⟨b1, o1, c1, hv, hb1, k1⟩ := DV.out.form (by rw [H9.out]; omega)
      injection hv with hv1 hv2 hv3
      subst hv1
      have K1 : Hid (∀ (j : Nat) (hj : j < x.dy.length), w.cell? ⟨b1, o1 + j * 2, Option.none⟩ = some (.int .i64 x.dy[j].1) ∧ w.cell? ⟨b1, o1 + j * 2 + 1, Option.none⟩ = some (.int .i64 x.dy[j].2)) := Lib.hid k1
      have HB1 := Lib.hid hb1
      clear k1 hv2 hv3 hb1
      go_wp2_with fail
      go_loopw [19] (fun iv wr => ∃ k : Nat, k ≤ n9 ∧ iv = .int .i64 k ∧ Hid ((x.dy.take k).all (nmB x) = true) ∧ Hid (Cs w.heap.size wr [.int .i64 x.fq, .int .i64 x.iv, .int .i64 x.ct, .bool x.un, .int .i64 x.ua, .bool x.ut, .slice a6 n6 c6, .slice a7 n7 c7, .slice a8 n8 c8, .slice (some ⟨b1, o1, none⟩) n9 c9, .slice a10 n10 c10, .slice a11 n11 c11, .slice a12 n12 c12, .slice a13 n13 c13, .slice a14 n14 c14, .int .i64 x.wk]) ∧ Hid (Below w.heap.size w wr)) (fun iv _ => n9 - (intOf iv).toNat)
      case atStart => exact ⟨0, Nat.zero_le _, rfl, Lib.hid (by simp), C, B⟩
      case round =>
        obtain ⟨k, hk, rfl, HT, C2, B2⟩ := hrel
        obtain ⟨wo, rfl⟩ : ∃ wo : World, wo = wr := ⟨_, rfl⟩
        by_cases hlt : k < n9
        · have h1L : k < x.dy.length := by rw [H9.out]; exact hlt
          have g1 := (B2.out.cell (p := ⟨b1, o1 + k * 2, Option.none⟩) HB1.out).trans (K1.out k h1L).1
          have g2 := (B2.out.cell (p := ⟨b1, o1 + k * 2 + 1, Option.none⟩) HB1.out).trans (K1.out k h1L).2
          obtain ⟨X, hX⟩ : ∃ X, x.dy[k].1 = X := ⟨_, rfl⟩
          obtain ⟨Y, hY⟩ : ∃ Y, x.dy[k].2 = Y := ⟨_, rfl⟩
          have HX := Lib.hid hX
          rw [hX] at g1
          rw [hY] at g2
          clear hX hY
          have l12 := (C2.out.2 12 _ rfl).1
          have r0 := C2.out.1
          by_cases x0 : X = 0
          · have e0 : (X != 0) = false := by rw [x0]; rfl
            have HT2 := Lib.hid (nm_all h1L HT.out (nm_yes (HX.out.trans x0)))
            clear HX h1L x0
            go_wp2
            go_roundw
            case rel => exact ⟨k + 1, by omega, by go_num, HT2, Lib.hid (C2.out.alloc _), Lib.hid (B2.out.alloc B2.out.size _)⟩
            case measure => simp [intOf]; omega
          · have e0 : (X != 0) = true := by rw [bne, beq_eq_false_iff_ne.2 x0]; rfl
            have hn := NM.out x.dy[k] (by rw [HX.out]; exact x0)
            cases lg with
            | false =>
              rw [Bool.false_and] at hn
              have hF : r = false := by have q := G.out; rw [nm_none h1L hn, Bool.false_and] at q; exact q.symm
              subst hF
              clear HX h1L x0 hn
              go_wp2
              go_ret
              exact ⟨rfl, B2.out.alloc B2.out.size _⟩
            | true =>
              by_cases z12 : n12 = 0
              · have HT2 := Lib.hid (nm_all h1L HT.out (by rw [hn, z12]; rfl))
                subst z12
                clear HX h1L x0 hn
                go_wp2
                go_roundw
                case rel => exact ⟨k + 1, by omega, by go_num, HT2, Lib.hid (C2.out.alloc _), Lib.hid (B2.out.alloc B2.out.size _)⟩
                case measure => simp [intOf]; omega
              · have hF : r = false := by have q := G.out; rw [nm_none h1L (by rw [hn, decide_eq_false z12]; rfl), Bool.false_and] at q; exact q.symm
                have p12 : (0 : Int) < (n12 : Int) := by omega
                subst hF
                clear HX h1L x0 hn
                go_wp2
                go_ret
                exact ⟨rfl, B2.out.alloc B2.out.size _⟩
        · have hkn : k = n9 := by omega
          have HE : Hid (x.dy.all (nmB x) = true) := Lib.hid (by have q := HT.out; rwa [List.take_of_length_le (by rw [H9.out]; omega)] at q)
          subst hkn
          go_wp2
          go_meet
          exact ⟨HE, C2, B2⟩
  case rest =>
  obtain ⟨w2, rfl⟩ : ∃ x : World, x = wc := ⟨_, rfl⟩
  obtain ⟨HE, C2, B2⟩ := hcut
  rename_i hK
  exact hK _ _ (gtS x.fq r w w2 w.heap.size _ _ _ _ _ _ a6 a7 a8 a9 a10 a11 a12 a13 a14 n6 n7 n8 n9 n10 n11 n12 n13 n14 c6 c7 c8 c9 c10 c11 c12 c13 c14 C2 B2 HB (Lib.hid (by have q := G.out; rw [HE.out, Bool.true_and] at q; exact q)) _ _ _ _ _ _ _ _ _ _ _ _ _ _ _ _ _ _ _ _ _ _ _ _ _ _ _ _ _ _ _ _ _ _ _ _ _ _ _ _ _ _ _ _ _ _ _ _ _ _ _ _ _ _ _ _ _ _ _ _ _ _ _ _ _ _ _ _ _ _ _ _ _ _ _ _ _ _ _ _ _ _ _ _ _ _ _ _ _ _ _ _ _ _ _ _ _ _ _ _ _ _ _ _ _ _ _ _ _ _ _ _ _ _ _ _ _ _ _ _)
end Rck
end Go.Proofs.YtfdamkiocefgmaaDoor
