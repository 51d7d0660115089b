/-
  The reference's RuleText of a right rule. (Written by gen/gen_ruxv.py.)
-/
import Derived.Test.YtopmcelfmkeamaaGreatDoorRulT
import Derived.Test.YtopmcelfmkeamaaGreatDoorRefOnT
import Derived.Test.YtopmcelfmkeamaaGreatDoorRefAt2
import Derived.Test.YtopmcelfmkeamaaGreatDoorHeldR
import Derived.Deep.CutBlock
import Derived.Deep.DeepCutAuto
import Derived.Lib.QuietBelow
namespace Go.Proofs.YtopmcelfmkeamaaGreatDoor
open Go.RowKit
namespace Hr
theorem Walk.weaken {P : Program} {ops : Array Oper} {Q : Exit → Act → World → Prop} {md : Region.Mode} {R R2 : Array Bool → World → Prop} (h : ∀ up w, R2 up w → R up w) : ∀ (n : Nat) (up : Array Bool) (a : Act) (w : World), Walk P md ops Q R2 n up a w → Walk P md ops Q R n up a w
  | 0, _, _, _, H => H
  | n + 1, _, _, _, H => ⟨H.1, fun j hj => wpOp_mono (fun a' w' q => ⟨h _ _ q.1, Walk.weaken h n _ a' w' q.2⟩) (H.2 j hj)⟩
end Hr
namespace Rul
open Sol Clk Cel
attribute [local go_sem ↓] Go.wp_at_zero Go.wp_at_succ
def Wd2 (V : Nat) (N : List UInt8) (w : World) (e : Ending) (w' : World) : Prop := ∃ g, e = .returned (.slice (some ⟨g, 0, none⟩) 12 12) ∧ Below w.heap.size w w' ∧ g < w'.heap.size ∧ w'.cell? ⟨g, V, none⟩ = some (.string ⟨N.toArray⟩)
theorem wd2_tab : ((List.range 12).all fun V => decide (Wrd.nmT 2 ((V : Int) + 1) = (Wrd.wds 2).getD V [])) = true := by decide +kernel
theorem rwd2_to (V : Nat) (hV : V < 12) (mo : Int) (hm : mo - 1 = (V : Int)) (N : List UInt8) (w : World) (hN : Hid (Wrd.nmT 2 mo = N)) :
    Calls Tryz.prog 61 #[.int .i64 2] w (Wd2 V N w) :=
  (Wrd.rwordsg_to 2 12 (Wrd.wds 2) w (Lib.hid (Wrd.WK_of (by omega)).1) (by omega)).mono fun _ _ ⟨g, he, hb, _, hg, hc⟩ => by
    refine ⟨g, he, hb, hg, ?_⟩
    have hl : V < (Wrd.wds 2).length := by rw [show (Wrd.wds 2).length = 12 by decide]; exact hV
    have e : (Wrd.wds 2)[V]'hl = N := by
      have h1 := List.all_eq_true.1 wd2_tab V (List.mem_range.2 hV)
      have h2 := of_decide_eq_true h1
      rw [← hN.out, show mo = (V : Int) + 1 by omega, h2, List.getD_eq_getElem?_getD, List.getElem?_eq_getElem hl]; rfl
    rw [← e]
    exact hc.out V hV
theorem rtxy_to (n : Int) (T : List UInt8) (w : World) (hn : 0 ≤ n ∧ n ≤ 9999) (h : Hid (textL n 0 = T)) :
    Calls Tryz.prog 60 #[.int .i64 n, .int .i64 0] w fun e w' => e = .returned (.string ⟨T.toArray⟩) ∧ Below w.heap.size w w' :=
  (RNum.rtext_any n 0 w (by omega) (by omega) (by omega) (by omega)).mono fun _ _ ⟨he, hw⟩ => ⟨by rw [he, h.out], hw⟩
theorem rat_s (n c : Int) (A : List UInt8) (w : World) (ha : Atf.atOk n c = true) (h : Hid (Atf.atT n c = A)) :
    Calls Tryz.prog 63 #[.agg #[.int .i64 n, .int .i64 c]] w fun e w' => e = .returned (.string ⟨A.toArray⟩) ∧ Below w.heap.size w w' := by
  have h' := ha
  rw [Atf.atOk, Bool.and_eq_true, Atf.inS, Atf.isK] at h'
  have b1 := of_decide_eq_true h'.1
  have b2 := of_decide_eq_true h'.2
  exact Atf.rattext_to n c A w (by omega) (by omega) (Lib.hid (by rw [← h.out, Atf.atT, if_pos ha]))
theorem rct_s (n : Int) (A : List UInt8) (w : World) (h1 : -86400 < n) (h2 : n < 86400) (h : Hid (ctS n = A)) :
    Calls Tryz.prog 64 #[.int .i64 n] w fun e w' => e = .returned (.string ⟨A.toArray⟩) ∧ Below w.heap.size w w' :=
  rctext_to n A w (by omega) (by omega) (Lib.hid (by rw [← h.out, (ct_in (by omega)).2]))
theorem ba_eq {X Y : ByteArray} (h : X.data.toList = Y.data.toList) : X = Y := ByteArray.ext (Array.toList_inj.1 h)
set_option maxHeartbeats 12800000 in
set_option maxRecDepth 100000 in
theorem rrtext_to (nm lt : List UInt8) (fr tu mo k v d n c sv : Int) (T : List UInt8) (w : World) (h : Hid (chkB ⟨nm, fr, tu, mo, k, v, d, n, c, sv, lt⟩ = true)) (hT : Hid (spJ (ruF ⟨nm, fr, tu, mo, k, v, d, n, c, sv, lt⟩) = T)) :
    Calls Tryz.prog 19 #[.agg #[.string ⟨nm.toArray⟩, .int .i64 fr, .int .i64 tu, .int .i64 mo, .int .i64 k, .int .i64 v, .int .i64 d, .int .i64 n, .int .i64 c, .int .i64 sv, .string ⟨lt.toArray⟩]] w fun e w' => e = .returned (.string ⟨T.toArray⟩) ∧ Below w.heap.size w w' := by
  obtain ⟨a1, a2, a3, a4, a5, a6, a7, a8, a9, a10, a11, a12⟩ := chk_parts h.out
  have a3 : 1 ≤ fr := a3
  have a4 : fr ≤ tu := a4
  have a5 : tu ≤ 9999 := a5
  have a6 : 1 ≤ mo := a6
  have a7 : mo ≤ 12 := a7
  have a8 : Wk.onOk k v d = true := a8
  have a10 : Atf.atOk n c = true := a10
  have a11 : -86400 < sv := a11
  have a12 : sv < 86400 := a12
  have l1 : nm.length ≤ 40 := (name_pl a1).2
  have l2 : lt.length ≤ 6 := (let_pl a2).2.1
  obtain ⟨V, hV⟩ : ∃ V : Nat, mo - 1 = (V : Int) := ⟨(mo - 1).toNat, by omega⟩
  have hV12 : V < 12 := by omega
  obtain ⟨_, _, m3, m4, m5⟩ := mo_txt a6 a7
  obtain ⟨M, hM⟩ : ∃ M, Wrd.nmT 2 mo = M := ⟨_, rfl⟩
  have N2 := Lib.hid hM
  have m3' : M.take 3 = moT mo := by rw [moT, hM]
  have ml : 3 ≤ M.length := by
    have := m3; rw [← m3', List.length_take] at this; omega
  rw [hM] at m5
  obtain ⟨O, hO⟩ : ∃ O, Onf.onT k v d = O := ⟨_, rfl⟩
  have lO : O.length ≤ 20 := by rw [← hO]; exact (Onf.on_back a8).2
  have N3 := Lib.hid hO
  obtain ⟨A, hA⟩ : ∃ A, Atf.atT n c = A := ⟨_, rfl⟩
  have lA : A.length ≤ 10 := by rw [← hA]; exact (at_txt a10).2.2.2.2.1
  have N4 := Lib.hid hA
  obtain ⟨S, hS⟩ : ∃ S, ctS sv = S := ⟨_, rfl⟩
  have N5 := Lib.hid hS
  obtain ⟨F, hF⟩ : ∃ F, textL fr 0 = F := ⟨_, rfl⟩
  have lF : F.length ≤ 4 := by rw [← hF]; exact (yr_txt (by omega) (by omega)).2.2.2
  obtain ⟨U, hU⟩ : ∃ U, toT fr tu = U := ⟨_, rfl⟩
  have lU : U.length ≤ 4 := by rw [← hU]; exact (to_pl (by omega) a5).2
  have N6 := Lib.hid hF
  have N7 := Lib.hid hU
  have HTT := hT.out
  rw [ruF] at HTT
  simp only [← m3', hO, hA, hS, hF, hU] at HTT
  have hTl := (ruF_pl h.out).2.2 S (by rw [ruF]; simp [hS])
  have lS : S.length ≤ 40 := hTl
  obtain ⟨L, hL⟩ : ∃ L, (if lt = [] then [45] else lt) = L := ⟨_, rfl⟩
  rw [hL] at HTT
  have HT2 : Hid ([82, 117, 108, 101, 32] ++ nm ++ [32] ++ F ++ [32] ++ U ++ [32, 45, 32] ++ M.take 3 ++ [32] ++ O ++ [32] ++ A ++ [32] ++ S ++ [32] ++ L = T) := Lib.hid (by rw [← HTT]; simp [spJ_cons, spJ_one])
  have HL := Lib.hid hL
  have G8 := Lib.hid a8
  have G10 := Lib.hid a10
  clear HTT hT h a1 a2 a8 a9 a10 m3 m4 hM hO hA hS hF hU m3' hL hTl
  obtain ⟨P1, hP1⟩ : ∃ P : ByteArray, P = ⟨([82, 117, 108, 101, 32] ++ nm ++ [32] ++ F ++ [32]).toArray⟩ := ⟨_, rfl⟩
  obtain ⟨P2, hP2⟩ : ∃ P : ByteArray, P = ⟨([82, 117, 108, 101, 32] ++ nm ++ [32] ++ F ++ [32] ++ U).toArray⟩ := ⟨_, rfl⟩
  obtain ⟨P3, hP3⟩ : ∃ P : ByteArray, P = ⟨([82, 117, 108, 101, 32] ++ nm ++ [32] ++ F ++ [32] ++ U ++ [32, 45, 32] ++ M.take 3 ++ [32] ++ O ++ [32] ++ A ++ [32] ++ S ++ [32]).toArray⟩ := ⟨_, rfl⟩
  have D1 : Hid (P1.data.toList = [82, 117, 108, 101, 32] ++ nm ++ [32] ++ F ++ [32]) := Lib.hid (by rw [hP1])
  have D2 : Hid (P2.data.toList = [82, 117, 108, 101, 32] ++ nm ++ [32] ++ F ++ [32] ++ U) := Lib.hid (by rw [hP2])
  have D3 : Hid (P3.data.toList = [82, 117, 108, 101, 32] ++ nm ++ [32] ++ F ++ [32] ++ U ++ [32, 45, 32] ++ M.take 3 ++ [32] ++ O ++ [32] ++ A ++ [32] ++ S ++ [32]) := Lib.hid (by rw [hP3])
  have z1 : P1.size ≤ 100 := by rw [Lib.size_eq, D1.out]; simp; omega
  have z2 : P2.size ≤ 200 := by rw [Lib.size_eq, D2.out]; simp; omega
  have z3 : P3.size ≤ 400 := by rw [Lib.size_eq, D3.out]; simp; omega
  clear hP1 hP2 hP3
  have hsM : (⟨M.toArray⟩ : ByteArray).size = M.length := rfl
  have sM : (⟨M.toArray⟩ : ByteArray).size ≤ 9 := m5
  have sF : (⟨F.toArray⟩ : ByteArray).size ≤ 4 := lF
  have sU : (⟨U.toArray⟩ : ByteArray).size ≤ 4 := lU
  have sO : (⟨O.toArray⟩ : ByteArray).size ≤ 20 := lO
  have sA : (⟨A.toArray⟩ : ByteArray).size ≤ 10 := lA
  have sS : (⟨S.toArray⟩ : ByteArray).size ≤ 40 := lS
  have sn : (⟨nm.toArray⟩ : ByteArray).size ≤ 40 := l1
  have sl : (⟨lt.toArray⟩ : ByteArray).size ≤ 6 := l2
  go_enter Tryz.func19, Tryz.ntmps19
  go_upto_region 0 with fail
  go_cut [1] (fun p w1 => p = .pointer (some ⟨w.heap.size, 0, none⟩) ∧ Hid (Cs w.heap.size w1 [.string ⟨nm.toArray⟩, .int .i64 fr, .int .i64 tu, .int .i64 mo, .int .i64 k, .int .i64 v, .int .i64 d, .int .i64 n, .int .i64 c, .int .i64 sv, .string ⟨lt.toArray⟩]) ∧ Hid (Below w.heap.size w w1))
  case first =>
    go_wp2
    go_meet
    exact ⟨rfl, Lib.hid (Cs.new w _ _), Lib.hid ((Below.refl w.heap.size w).alloc (Nat.le_refl _) _)⟩
  case rest =>
  obtain ⟨w1, rfl⟩ : ∃ x : World, x = wc := ⟨_, rfl⟩
  obtain ⟨rfl, C1, B1⟩ := hcut
  go_upto_region 1 with fail
  go_cut [3] (fun s w2 => s = .string P1 ∧ Hid (Cs w.heap.size w2 [.string ⟨nm.toArray⟩, .int .i64 fr, .int .i64 tu, .int .i64 mo, .int .i64 k, .int .i64 v, .int .i64 d, .int .i64 n, .int .i64 c, .int .i64 sv, .string ⟨lt.toArray⟩]) ∧ Hid (Below w.heap.size w w2))
  case first =>
    have c0 := cell_regrown (C1.out.2 0 _ rfl).1
    have c1 := cell_regrown (C1.out.2 1 _ rfl).1
    have d1 := Lib.hid (fun dd os => Calls.regrown_of (rtxy_to fr F (Sort.grow (redrawn w1 dd) os) (by omega) N6))
    have lnm : (⟨nm.toArray⟩ : ByteArray).size = nm.length := rfl
    have lFs : (⟨F.toArray⟩ : ByteArray).size = F.length := rfl
    have q1 : ¬ 9223372036854775807 < 5 + nm.length := by omega
    have q2 : ¬ 9223372036854775807 < 5 + nm.length + 1 := by omega
    have q3 : ¬ 9223372036854775807 < 5 + nm.length + 1 + F.length := by omega
    have q4 : ¬ 9223372036854775807 < 5 + nm.length + 1 + F.length + 1 := by omega
    refine wp_region_quiet_below (by kernel_rfl) (by kernel_rfl) ?_
    repeat (quiet_step (first | with_reducible exact d1.out _ _))
    refine wpQuiet_nil ?_
    intro w' hw'
    obtain ⟨⟨dq, osq⟩, rfl⟩ := hw'
    go_wp2_with fail
    go_meet
    exact ⟨congrArg Value.string (ba_eq (by rw [D1.out]; simp)), Lib.hid (C1.out.below (below_regrown w1 dq osq)), Lib.hid (bstep B1.out (below_regrown w1 dq osq))⟩
  case rest =>
  obtain ⟨w2, rfl⟩ : ∃ x : World, x = wc := ⟨_, rfl⟩
  obtain ⟨rfl, C2, B2⟩ := hcut
  clear C1 B1
  go_upto_block 0 with fail
  have c1 := (C2.out.2 1 _ rfl).1
  have c2 := (C2.out.2 2 _ rfl).1
  go_cut [3] (fun s w3 => s = .string P2 ∧ Hid (Cs w.heap.size w3 [.string ⟨nm.toArray⟩, .int .i64 fr, .int .i64 tu, .int .i64 mo, .int .i64 k, .int .i64 v, .int .i64 d, .int .i64 n, .int .i64 c, .int .i64 sv, .string ⟨lt.toArray⟩]) ∧ Hid (Below w.heap.size w w3))
  case first =>
    have hcs : (tu = fr ∧ U = [111, 110, 108, 121]) ∨ ((tu == fr) = false ∧ tu = 9999 ∧ U = [109, 97, 120]) ∨ ((tu == fr) = false ∧ (tu == 9999) = false ∧ Hid (textL tu 0 = U)) := by
      have HH := N7.out
      unfold toT at HH
      by_cases e : tu = fr
      · rw [if_pos e] at HH; exact Or.inl ⟨e, HH.symm⟩
      · rw [if_neg e] at HH
        by_cases e2 : tu = 9999
        · rw [if_pos e2] at HH; exact Or.inr (Or.inl ⟨beq_eq_false_iff_ne.2 e, e2, HH.symm⟩)
        · rw [if_neg e2] at HH; exact Or.inr (Or.inr ⟨beq_eq_false_iff_ne.2 e, beq_eq_false_iff_ne.2 e2, Lib.hid HH⟩)
    have E2 : Hid (∀ X : ByteArray, X.data.toList = U → P1 ++ X = P2) := Lib.hid (fun X hX => ba_eq (by rw [D2.out]; simp [D1.out, hX]))
    rcases hcs with ⟨rfl, rfl⟩ | ⟨e1, rfl, rfl⟩ | ⟨e1, e2, HT⟩
    · go_wp2
      go_meet
      exact ⟨congrArg Value.string (E2.out _ rfl), C2, B2⟩
    · go_wp2
      go_meet
      exact ⟨congrArg Value.string (E2.out _ rfl), C2, B2⟩
    · go_wp2_with fail
      refine (rtxy_to tu U _ (by omega) HT).mono ?_
      rintro e w3 ⟨rfl, m3⟩
      go_wp2
      go_meet
      exact ⟨congrArg Value.string (E2.out _ rfl), Lib.hid (C2.out.below m3), Lib.hid (bstep B2.out m3)⟩
  case rest =>
  obtain ⟨w3, rfl⟩ : ∃ x : World, x = wc := ⟨_, rfl⟩
  obtain ⟨rfl, C3, B3⟩ := hcut
  clear C2 B2 c1 c2
  go_upto_region 7 with fail
  go_cut [3] (fun s w4 => s = .string P3 ∧ Hid (Cs w.heap.size w4 [.string ⟨nm.toArray⟩, .int .i64 fr, .int .i64 tu, .int .i64 mo, .int .i64 k, .int .i64 v, .int .i64 d, .int .i64 n, .int .i64 c, .int .i64 sv, .string ⟨lt.toArray⟩]) ∧ Hid (Below w.heap.size w w4))
  case first =>
    have im1 : (3 : Int) ≤ (((⟨M.toArray⟩ : ByteArray).size : Nat) : Int) := by rw [hsM]; omega
    have im3 : 3 ≤ (⟨M.toArray⟩ : ByteArray).size := by rw [hsM]; exact ml
    have im2 : (3 : Int) ≤ ((M.length : Nat) : Int) := by omega
    have im5 : min 3 M.length = 3 := by omega
    have qq0 : ¬ 9223372036854775807 < P2.size + 3 := by omega
    have qq1 : ¬ 9223372036854775807 < P2.size + 3 + 3 := by omega
    have qq2 : ¬ 9223372036854775807 < P2.size + 3 + 3 + 1 := by omega
    have qq3 : ¬ 9223372036854775807 < P2.size + 3 + 3 + 1 + O.length := by omega
    have qq4 : ¬ 9223372036854775807 < P2.size + 3 + 3 + 1 + O.length + 1 := by omega
    have qq5 : ¬ 9223372036854775807 < P2.size + 3 + 3 + 1 + O.length + 1 + A.length := by omega
    have qq6 : ¬ 9223372036854775807 < P2.size + 3 + 3 + 1 + O.length + 1 + A.length + 1 := by omega
    have qq7 : ¬ 9223372036854775807 < P2.size + 3 + 3 + 1 + O.length + 1 + A.length + 1 + S.length := by omega
    have qq8 : ¬ 9223372036854775807 < P2.size + 3 + 3 + 1 + O.length + 1 + A.length + 1 + S.length + 1 := by omega
    have i0 : (0 : Int) ≤ (V : Int) := by omega
    have i1 : (V : Int) < 12 := by omega
    have sV : IntKind.i64.wrap (V : Int) = (V : Int) := IntWalk.i64_in _ (by omega)
    have sV2 : ((V : Int)).toNat = V := Int.toNat_natCast V
    have SD : Hid (Cs w.heap.size (w3.drew) [.string ⟨nm.toArray⟩, .int .i64 fr, .int .i64 tu, .int .i64 mo, .int .i64 k, .int .i64 v, .int .i64 d, .int .i64 n, .int .i64 c, .int .i64 sv, .string ⟨lt.toArray⟩] ∧ Below w.heap.size w (w3.drew)) := Lib.hid ⟨C3.out.below ⟨rfl, rfl, rfl, Nat.le_refl _, fun _ _ => rfl⟩, B3.out.drew⟩
    refine Hr.Walk.region (R := fun _ x => Cs w.heap.size x [.string ⟨nm.toArray⟩, .int .i64 fr, .int .i64 tu, .int .i64 mo, .int .i64 k, .int .i64 v, .int .i64 d, .int .i64 n, .int .i64 c, .int .i64 sv, .string ⟨lt.toArray⟩] ∧ Below w.heap.size w x) (by kernel_rfl) ?_
    refine Hr.Walk.take (i := 0) (v := ?v0) (fun x => Cs w.heap.size x [.string ⟨nm.toArray⟩, .int .i64 fr, .int .i64 tu, .int .i64 mo, .int .i64 k, .int .i64 v, .int .i64 d, .int .i64 n, .int .i64 c, .int .i64 sv, .string ⟨lt.toArray⟩] ∧ Below w.heap.size w x) (fun _ => True) rfl (by kernel_rfl) (by kernel_rfl) (by kernel_rfl) (fun _ _ _ h => h) (fun _ _ _ _ _ _ => trivial) (fun _ _ _ h => h) (fun _ _ h => h) trivial (Or.inl ⟨by rfl, ?hy0⟩) SD.out SD.out ?rest0
    case hy0 => intro x hx; have y3 := (hx.1.2 3 _ rfl).1; have y4 := (hx.1.2 4 _ rfl).1; have y5 := (hx.1.2 5 _ rfl).1; have y6 := (hx.1.2 6 _ rfl).1; have y7 := (hx.1.2 7 _ rfl).1; have y8 := (hx.1.2 8 _ rfl).1; have y9 := (hx.1.2 9 _ rfl).1; clear hx; go_simp; try with_reducible rfl
    (try go_simp)
    refine Hr.Walk.take (i := 1) (v := ?v1) (fun x => Cs w.heap.size x [.string ⟨nm.toArray⟩, .int .i64 fr, .int .i64 tu, .int .i64 mo, .int .i64 k, .int .i64 v, .int .i64 d, .int .i64 n, .int .i64 c, .int .i64 sv, .string ⟨lt.toArray⟩] ∧ Below w.heap.size w x) (fun _ => True) rfl (by kernel_rfl) (by kernel_rfl) (by kernel_rfl) (fun _ _ _ h => h) (fun _ _ _ _ _ _ => trivial) (fun _ _ _ h => h) (fun _ _ h => h) trivial (Or.inl ⟨by rfl, ?hy1⟩) SD.out SD.out ?rest1
    case hy1 => intro x hx; have y3 := (hx.1.2 3 _ rfl).1; have y4 := (hx.1.2 4 _ rfl).1; have y5 := (hx.1.2 5 _ rfl).1; have y6 := (hx.1.2 6 _ rfl).1; have y7 := (hx.1.2 7 _ rfl).1; have y8 := (hx.1.2 8 _ rfl).1; have y9 := (hx.1.2 9 _ rfl).1; clear hx; go_simp; try with_reducible rfl
    (try go_simp)
    refine Hr.Walk.take (i := 3) (v := ?v3) (fun x => Cs w.heap.size x [.string ⟨nm.toArray⟩, .int .i64 fr, .int .i64 tu, .int .i64 mo, .int .i64 k, .int .i64 v, .int .i64 d, .int .i64 n, .int .i64 c, .int .i64 sv, .string ⟨lt.toArray⟩] ∧ Below w.heap.size w x) (fun _ => True) rfl (by kernel_rfl) (by kernel_rfl) (by kernel_rfl) (fun _ _ _ h => h) (fun _ _ _ _ _ _ => trivial) (fun _ _ _ h => h) (fun _ _ h => h) trivial (Or.inl ⟨by rfl, ?hy3⟩) SD.out SD.out ?rest3
    case hy3 => intro x hx; have y3 := (hx.1.2 3 _ rfl).1; have y4 := (hx.1.2 4 _ rfl).1; have y5 := (hx.1.2 5 _ rfl).1; have y6 := (hx.1.2 6 _ rfl).1; have y7 := (hx.1.2 7 _ rfl).1; have y8 := (hx.1.2 8 _ rfl).1; have y9 := (hx.1.2 9 _ rfl).1; clear hx; go_simp; try with_reducible rfl
    (try go_simp)
    refine Hr.Walk.take (i := 4) (v := ?v4) (fun x => Cs w.heap.size x [.string ⟨nm.toArray⟩, .int .i64 fr, .int .i64 tu, .int .i64 mo, .int .i64 k, .int .i64 v, .int .i64 d, .int .i64 n, .int .i64 c, .int .i64 sv, .string ⟨lt.toArray⟩] ∧ Below w.heap.size w x) (fun _ => True) rfl (by kernel_rfl) (by kernel_rfl) (by kernel_rfl) (fun _ _ _ h => h) (fun _ _ _ _ _ _ => trivial) (fun _ _ _ h => h) (fun _ _ h => h) trivial (Or.inl ⟨by rfl, ?hy4⟩) SD.out SD.out ?rest4
    case hy4 => intro x hx; have y3 := (hx.1.2 3 _ rfl).1; have y4 := (hx.1.2 4 _ rfl).1; have y5 := (hx.1.2 5 _ rfl).1; have y6 := (hx.1.2 6 _ rfl).1; have y7 := (hx.1.2 7 _ rfl).1; have y8 := (hx.1.2 8 _ rfl).1; have y9 := (hx.1.2 9 _ rfl).1; clear hx; go_simp; try with_reducible rfl
    (try go_simp)
    refine Hr.Walk.take (i := 5) (v := ?v5) (fun x => Cs w.heap.size x [.string ⟨nm.toArray⟩, .int .i64 fr, .int .i64 tu, .int .i64 mo, .int .i64 k, .int .i64 v, .int .i64 d, .int .i64 n, .int .i64 c, .int .i64 sv, .string ⟨lt.toArray⟩] ∧ Below w.heap.size w x) (fun _ => True) rfl (by kernel_rfl) (by kernel_rfl) (by kernel_rfl) (fun _ _ _ h => h) (fun _ _ _ _ _ _ => trivial) (fun _ _ _ h => h) (fun _ _ h => h) trivial (Or.inl ⟨by rfl, ?hy5⟩) SD.out SD.out ?rest5
    case hy5 => intro x hx; have y3 := (hx.1.2 3 _ rfl).1; have y4 := (hx.1.2 4 _ rfl).1; have y5 := (hx.1.2 5 _ rfl).1; have y6 := (hx.1.2 6 _ rfl).1; have y7 := (hx.1.2 7 _ rfl).1; have y8 := (hx.1.2 8 _ rfl).1; have y9 := (hx.1.2 9 _ rfl).1; clear hx; go_simp; try with_reducible rfl
    (try go_simp)
    refine Hr.Walk.take (i := 11) (v := ?v11) (fun x => Cs w.heap.size x [.string ⟨nm.toArray⟩, .int .i64 fr, .int .i64 tu, .int .i64 mo, .int .i64 k, .int .i64 v, .int .i64 d, .int .i64 n, .int .i64 c, .int .i64 sv, .string ⟨lt.toArray⟩] ∧ Below w.heap.size w x) (fun _ => True) rfl (by kernel_rfl) (by kernel_rfl) (by kernel_rfl) (fun _ _ _ h => h) (fun _ _ _ _ _ _ => trivial) (fun _ _ _ h => h) (fun _ _ h => h) trivial (Or.inl ⟨by rfl, ?hy11⟩) SD.out SD.out ?rest11
    case hy11 => intro x hx; have y3 := (hx.1.2 3 _ rfl).1; have y4 := (hx.1.2 4 _ rfl).1; have y5 := (hx.1.2 5 _ rfl).1; have y6 := (hx.1.2 6 _ rfl).1; have y7 := (hx.1.2 7 _ rfl).1; have y8 := (hx.1.2 8 _ rfl).1; have y9 := (hx.1.2 9 _ rfl).1; clear hx; go_simp; try with_reducible rfl
    (try go_simp)
    refine Hr.Walk.take (i := 12) (v := ?v12) (fun x => Cs w.heap.size x [.string ⟨nm.toArray⟩, .int .i64 fr, .int .i64 tu, .int .i64 mo, .int .i64 k, .int .i64 v, .int .i64 d, .int .i64 n, .int .i64 c, .int .i64 sv, .string ⟨lt.toArray⟩] ∧ Below w.heap.size w x) (fun _ => True) rfl (by kernel_rfl) (by kernel_rfl) (by kernel_rfl) (fun _ _ _ h => h) (fun _ _ _ _ _ _ => trivial) (fun _ _ _ h => h) (fun _ _ h => h) trivial (Or.inl ⟨by rfl, ?hy12⟩) SD.out SD.out ?rest12
    case hy12 => intro x hx; have y3 := (hx.1.2 3 _ rfl).1; have y4 := (hx.1.2 4 _ rfl).1; have y5 := (hx.1.2 5 _ rfl).1; have y6 := (hx.1.2 6 _ rfl).1; have y7 := (hx.1.2 7 _ rfl).1; have y8 := (hx.1.2 8 _ rfl).1; have y9 := (hx.1.2 9 _ rfl).1; clear hx; go_simp; try with_reducible rfl
    (try go_simp)
    refine Hr.Walk.take (i := 16) (v := ?v16) (fun x => Cs w.heap.size x [.string ⟨nm.toArray⟩, .int .i64 fr, .int .i64 tu, .int .i64 mo, .int .i64 k, .int .i64 v, .int .i64 d, .int .i64 n, .int .i64 c, .int .i64 sv, .string ⟨lt.toArray⟩] ∧ Below w.heap.size w x) (fun _ => True) rfl (by kernel_rfl) (by kernel_rfl) (by kernel_rfl) (fun _ _ _ h => h) (fun _ _ _ _ _ _ => trivial) (fun _ _ _ h => h) (fun _ _ h => h) trivial (Or.inl ⟨by rfl, ?hy16⟩) SD.out SD.out ?rest16
    case hy16 => intro x hx; have y3 := (hx.1.2 3 _ rfl).1; have y4 := (hx.1.2 4 _ rfl).1; have y5 := (hx.1.2 5 _ rfl).1; have y6 := (hx.1.2 6 _ rfl).1; have y7 := (hx.1.2 7 _ rfl).1; have y8 := (hx.1.2 8 _ rfl).1; have y9 := (hx.1.2 9 _ rfl).1; clear hx; go_simp; try with_reducible rfl
    (try go_simp)
    refine Hr.Walk.take (i := 17) (v := ?v17) (fun x => Cs w.heap.size x [.string ⟨nm.toArray⟩, .int .i64 fr, .int .i64 tu, .int .i64 mo, .int .i64 k, .int .i64 v, .int .i64 d, .int .i64 n, .int .i64 c, .int .i64 sv, .string ⟨lt.toArray⟩] ∧ Below w.heap.size w x) (fun _ => True) rfl (by kernel_rfl) (by kernel_rfl) (by kernel_rfl) (fun _ _ _ h => h) (fun _ _ _ _ _ _ => trivial) (fun _ _ _ h => h) (fun _ _ h => h) trivial (Or.inl ⟨by rfl, ?hy17⟩) SD.out SD.out ?rest17
    case hy17 => intro x hx; have y3 := (hx.1.2 3 _ rfl).1; have y4 := (hx.1.2 4 _ rfl).1; have y5 := (hx.1.2 5 _ rfl).1; have y6 := (hx.1.2 6 _ rfl).1; have y7 := (hx.1.2 7 _ rfl).1; have y8 := (hx.1.2 8 _ rfl).1; have y9 := (hx.1.2 9 _ rfl).1; clear hx; go_simp; try with_reducible rfl
    (try go_simp)
    refine Hr.Walk.take (i := 21) (v := ?v21) (fun x => Cs w.heap.size x [.string ⟨nm.toArray⟩, .int .i64 fr, .int .i64 tu, .int .i64 mo, .int .i64 k, .int .i64 v, .int .i64 d, .int .i64 n, .int .i64 c, .int .i64 sv, .string ⟨lt.toArray⟩] ∧ Below w.heap.size w x) (fun _ => True) rfl (by kernel_rfl) (by kernel_rfl) (by kernel_rfl) (fun _ _ _ h => h) (fun _ _ _ _ _ _ => trivial) (fun _ _ _ h => h) (fun _ _ h => h) trivial (Or.inl ⟨by rfl, ?hy21⟩) SD.out SD.out ?rest21
    case hy21 => intro x hx; have y3 := (hx.1.2 3 _ rfl).1; have y4 := (hx.1.2 4 _ rfl).1; have y5 := (hx.1.2 5 _ rfl).1; have y6 := (hx.1.2 6 _ rfl).1; have y7 := (hx.1.2 7 _ rfl).1; have y8 := (hx.1.2 8 _ rfl).1; have y9 := (hx.1.2 9 _ rfl).1; clear hx; go_simp; try with_reducible rfl
    (try go_simp)
    refine Hr.Walk.take (i := 22) (v := ?v22) (fun x => Cs w.heap.size x [.string ⟨nm.toArray⟩, .int .i64 fr, .int .i64 tu, .int .i64 mo, .int .i64 k, .int .i64 v, .int .i64 d, .int .i64 n, .int .i64 c, .int .i64 sv, .string ⟨lt.toArray⟩] ∧ Below w.heap.size w x) (fun _ => True) rfl (by kernel_rfl) (by kernel_rfl) (by kernel_rfl) (fun _ _ _ h => h) (fun _ _ _ _ _ _ => trivial) (fun _ _ _ h => h) (fun _ _ h => h) trivial (Or.inl ⟨by rfl, ?hy22⟩) SD.out SD.out ?rest22
    case hy22 => intro x hx; have y3 := (hx.1.2 3 _ rfl).1; have y4 := (hx.1.2 4 _ rfl).1; have y5 := (hx.1.2 5 _ rfl).1; have y6 := (hx.1.2 6 _ rfl).1; have y7 := (hx.1.2 7 _ rfl).1; have y8 := (hx.1.2 8 _ rfl).1; have y9 := (hx.1.2 9 _ rfl).1; clear hx; go_simp; try with_reducible rfl
    (try go_simp)
    refine Hr.Walk.one (i := 2) (by kernel_rfl) rfl (fun K hK => ?_)
    go_simp
    go_at_call 61
    (with_reducible refine (rwd2_to V hV12 mo hV M _ N2).mono ?_)
    rintro e w4 ⟨g, rfl, m4, hg, hc4⟩
    have SE := Lib.hid (And.intro (And.intro (SD.out.1.below m4) (bstep SD.out.2 m4)) (And.intro hg hc4))
    refine hK.out _ _ SE.out.1 ?_
    refine Hr.Walk.weaken (R2 := fun _ x => (Cs w.heap.size x [.string ⟨nm.toArray⟩, .int .i64 fr, .int .i64 tu, .int .i64 mo, .int .i64 k, .int .i64 v, .int .i64 d, .int .i64 n, .int .i64 c, .int .i64 sv, .string ⟨lt.toArray⟩] ∧ Below w.heap.size w x) ∧ g < x.heap.size ∧ x.cell? ⟨g, V, none⟩ = some (.string ⟨M.toArray⟩)) (fun _ _ q => q.1) _ _ _ _ ?_
    clear hK K m4 hg hc4
    refine Hr.Walk.take (i := 6) (v := ?v6) (fun x => (Cs w.heap.size x [.string ⟨nm.toArray⟩, .int .i64 fr, .int .i64 tu, .int .i64 mo, .int .i64 k, .int .i64 v, .int .i64 d, .int .i64 n, .int .i64 c, .int .i64 sv, .string ⟨lt.toArray⟩] ∧ Below w.heap.size w x) ∧ g < x.heap.size ∧ x.cell? ⟨g, V, none⟩ = some (.string ⟨M.toArray⟩)) (fun _ => True) rfl (by kernel_rfl) (by kernel_rfl) (by kernel_rfl) (fun _ _ _ h => h) (fun _ _ _ _ _ _ => trivial) (fun _ _ _ h => h) (fun _ _ h => h) trivial (Or.inl ⟨by rfl, ?hy6⟩) SE.out SE.out ?rest6
    case hy6 => intro x hx; have y0 := hx.2.2; clear hx; go_simp; try with_reducible rfl
    (try go_simp)
    refine Hr.Walk.take (i := 7) (v := ?v7) (fun x => (Cs w.heap.size x [.string ⟨nm.toArray⟩, .int .i64 fr, .int .i64 tu, .int .i64 mo, .int .i64 k, .int .i64 v, .int .i64 d, .int .i64 n, .int .i64 c, .int .i64 sv, .string ⟨lt.toArray⟩] ∧ Below w.heap.size w x) ∧ g < x.heap.size ∧ x.cell? ⟨g, V, none⟩ = some (.string ⟨M.toArray⟩)) (fun _ => True) rfl (by kernel_rfl) (by kernel_rfl) (by kernel_rfl) (fun _ _ _ h => h) (fun _ _ _ _ _ _ => trivial) (fun _ _ _ h => h) (fun _ _ h => h) trivial (Or.inl ⟨by rfl, ?hy7⟩) SE.out SE.out ?rest7
    case hy7 => intro x hx; have y0 := hx.2.2; clear hx; go_simp; try with_reducible rfl
    (try go_simp)
    refine Hr.Walk.take (i := 8) (v := ?v8) (fun x => (Cs w.heap.size x [.string ⟨nm.toArray⟩, .int .i64 fr, .int .i64 tu, .int .i64 mo, .int .i64 k, .int .i64 v, .int .i64 d, .int .i64 n, .int .i64 c, .int .i64 sv, .string ⟨lt.toArray⟩] ∧ Below w.heap.size w x) ∧ g < x.heap.size ∧ x.cell? ⟨g, V, none⟩ = some (.string ⟨M.toArray⟩)) (fun _ => True) rfl (by kernel_rfl) (by kernel_rfl) (by kernel_rfl) (fun _ _ _ h => h) (fun _ _ _ _ _ _ => trivial) (fun _ _ _ h => h) (fun _ _ h => h) trivial (Or.inl ⟨by rfl, ?hy8⟩) SE.out SE.out ?rest8
    case hy8 => intro x hx; have y0 := hx.2.2; clear hx; go_simp; try with_reducible rfl
    (try go_simp)
    refine Hr.Walk.take (i := 9) (v := ?v9) (fun x => (Cs w.heap.size x [.string ⟨nm.toArray⟩, .int .i64 fr, .int .i64 tu, .int .i64 mo, .int .i64 k, .int .i64 v, .int .i64 d, .int .i64 n, .int .i64 c, .int .i64 sv, .string ⟨lt.toArray⟩] ∧ Below w.heap.size w x) ∧ g < x.heap.size ∧ x.cell? ⟨g, V, none⟩ = some (.string ⟨M.toArray⟩)) (fun _ => True) rfl (by kernel_rfl) (by kernel_rfl) (by kernel_rfl) (fun _ _ _ h => h) (fun _ _ _ _ _ _ => trivial) (fun _ _ _ h => h) (fun _ _ h => h) trivial (Or.inl ⟨by rfl, ?hy9⟩) SE.out SE.out ?rest9
    case hy9 => intro x hx; have y0 := hx.2.2; clear hx; go_simp; try with_reducible rfl
    (try go_simp)
    refine Hr.Walk.take (i := 10) (v := ?v10) (fun x => (Cs w.heap.size x [.string ⟨nm.toArray⟩, .int .i64 fr, .int .i64 tu, .int .i64 mo, .int .i64 k, .int .i64 v, .int .i64 d, .int .i64 n, .int .i64 c, .int .i64 sv, .string ⟨lt.toArray⟩] ∧ Below w.heap.size w x) ∧ g < x.heap.size ∧ x.cell? ⟨g, V, none⟩ = some (.string ⟨M.toArray⟩)) (fun _ => True) rfl (by kernel_rfl) (by kernel_rfl) (by kernel_rfl) (fun _ _ _ h => h) (fun _ _ _ _ _ _ => trivial) (fun _ _ _ h => h) (fun _ _ h => h) trivial (Or.inl ⟨by rfl, ?hy10⟩) SE.out SE.out ?rest10
    case hy10 => intro x hx; have y0 := hx.2.2; clear hx; go_simp; try with_reducible rfl
    (try go_simp)
    refine Hr.Walk.one (i := 13) (by kernel_rfl) rfl (fun K hK => ?_)
    go_simp
    go_at_call 62
    (with_reducible refine (Onf.rontext_to k v d O _ G8.out N3).mono ?_)
    rintro e w5 ⟨rfl, m5⟩
    have SF := Lib.hid (And.intro (And.intro (SE.out.1.1.below m5) (bstep SE.out.1.2 m5)) (And.intro (Nat.lt_of_lt_of_le SE.out.2.1 m5.size) ((m5.cell (p := ⟨g, V, none⟩) SE.out.2.1).trans SE.out.2.2)))
    refine hK.out _ _ SF.out ?_
    clear hK K
    refine Hr.Walk.take (i := 14) (v := ?v14) (fun x => (Cs w.heap.size x [.string ⟨nm.toArray⟩, .int .i64 fr, .int .i64 tu, .int .i64 mo, .int .i64 k, .int .i64 v, .int .i64 d, .int .i64 n, .int .i64 c, .int .i64 sv, .string ⟨lt.toArray⟩] ∧ Below w.heap.size w x) ∧ g < x.heap.size ∧ x.cell? ⟨g, V, none⟩ = some (.string ⟨M.toArray⟩)) (fun _ => True) rfl (by kernel_rfl) (by kernel_rfl) (by kernel_rfl) (fun _ _ _ h => h) (fun _ _ _ _ _ _ => trivial) (fun _ _ _ h => h) (fun _ _ h => h) trivial (Or.inl ⟨by rfl, ?hy14⟩) SF.out SF.out ?rest14
    case hy14 => intro x hx; have y0 := hx.2.2; clear hx; go_simp; try with_reducible rfl
    (try go_simp)
    refine Hr.Walk.take (i := 15) (v := ?v15) (fun x => (Cs w.heap.size x [.string ⟨nm.toArray⟩, .int .i64 fr, .int .i64 tu, .int .i64 mo, .int .i64 k, .int .i64 v, .int .i64 d, .int .i64 n, .int .i64 c, .int .i64 sv, .string ⟨lt.toArray⟩] ∧ Below w.heap.size w x) ∧ g < x.heap.size ∧ x.cell? ⟨g, V, none⟩ = some (.string ⟨M.toArray⟩)) (fun _ => True) rfl (by kernel_rfl) (by kernel_rfl) (by kernel_rfl) (fun _ _ _ h => h) (fun _ _ _ _ _ _ => trivial) (fun _ _ _ h => h) (fun _ _ h => h) trivial (Or.inl ⟨by rfl, ?hy15⟩) SF.out SF.out ?rest15
    case hy15 => intro x hx; have y0 := hx.2.2; clear hx; go_simp; try with_reducible rfl
    (try go_simp)
    refine Hr.Walk.one (i := 18) (by kernel_rfl) rfl (fun K hK => ?_)
    go_simp
    go_at_call 63
    (with_reducible refine (rat_s n c A _ G10.out N4).mono ?_)
    rintro e w6 ⟨rfl, m6⟩
    have SG := Lib.hid (And.intro (And.intro (SF.out.1.1.below m6) (bstep SF.out.1.2 m6)) (And.intro (Nat.lt_of_lt_of_le SF.out.2.1 m6.size) ((m6.cell (p := ⟨g, V, none⟩) SF.out.2.1).trans SF.out.2.2)))
    refine hK.out _ _ SG.out ?_
    clear hK K
    refine Hr.Walk.take (i := 19) (v := ?v19) (fun x => (Cs w.heap.size x [.string ⟨nm.toArray⟩, .int .i64 fr, .int .i64 tu, .int .i64 mo, .int .i64 k, .int .i64 v, .int .i64 d, .int .i64 n, .int .i64 c, .int .i64 sv, .string ⟨lt.toArray⟩] ∧ Below w.heap.size w x) ∧ g < x.heap.size ∧ x.cell? ⟨g, V, none⟩ = some (.string ⟨M.toArray⟩)) (fun _ => True) rfl (by kernel_rfl) (by kernel_rfl) (by kernel_rfl) (fun _ _ _ h => h) (fun _ _ _ _ _ _ => trivial) (fun _ _ _ h => h) (fun _ _ h => h) trivial (Or.inl ⟨by rfl, ?hy19⟩) SG.out SG.out ?rest19
    case hy19 => intro x hx; have y0 := hx.2.2; clear hx; go_simp; try with_reducible rfl
    (try go_simp)
    refine Hr.Walk.take (i := 20) (v := ?v20) (fun x => (Cs w.heap.size x [.string ⟨nm.toArray⟩, .int .i64 fr, .int .i64 tu, .int .i64 mo, .int .i64 k, .int .i64 v, .int .i64 d, .int .i64 n, .int .i64 c, .int .i64 sv, .string ⟨lt.toArray⟩] ∧ Below w.heap.size w x) ∧ g < x.heap.size ∧ x.cell? ⟨g, V, none⟩ = some (.string ⟨M.toArray⟩)) (fun _ => True) rfl (by kernel_rfl) (by kernel_rfl) (by kernel_rfl) (fun _ _ _ h => h) (fun _ _ _ _ _ _ => trivial) (fun _ _ _ h => h) (fun _ _ h => h) trivial (Or.inl ⟨by rfl, ?hy20⟩) SG.out SG.out ?rest20
    case hy20 => intro x hx; have y0 := hx.2.2; clear hx; go_simp; try with_reducible rfl
    (try go_simp)
    refine Hr.Walk.one (i := 23) (by kernel_rfl) rfl (fun K hK => ?_)
    go_simp
    go_at_call 64
    (with_reducible refine (rct_s sv S _ a11 a12 N5).mono ?_)
    rintro e w7 ⟨rfl, m7⟩
    have SH := Lib.hid (And.intro (And.intro (SG.out.1.1.below m7) (bstep SG.out.1.2 m7)) (And.intro (Nat.lt_of_lt_of_le SG.out.2.1 m7.size) ((m7.cell (p := ⟨g, V, none⟩) SG.out.2.1).trans SG.out.2.2)))
    refine hK.out _ _ SH.out ?_
    clear hK K
    refine Hr.Walk.one (i := 24) (by kernel_rfl) rfl (fun K hK => ?_)
    go_simp
    refine hK.out _ _ SH.out ?_
    clear hK K
    refine Hr.Walk.one (i := 25) (by kernel_rfl) rfl (fun K hK => ?_)
    go_simp
    refine hK.out _ _ SH.out ?_
    clear hK K
    refine Hr.Walk.one (i := 26) (by kernel_rfl) rfl (fun K hK => ?_)
    go_simp
    refine hK.out _ _ SH.out ?_
    clear hK K
    refine Hr.Walk.done (by kernel_rfl) ?_ _
    go_wp2_with fail
    go_meet
    exact ⟨congrArg Value.string (ba_eq (by rw [D3.out]; simp [D2.out])), Lib.hid SH.out.1.1, Lib.hid SH.out.1.2⟩
  case rest =>
  obtain ⟨w4, rfl⟩ : ∃ x : World, x = wc := ⟨_, rfl⟩
  obtain ⟨rfl, C4, B4⟩ := hcut
  clear C3 B3
  have c10 := (C4.out.2 10 _ rfl).1
  have E4 : Hid (∀ X : ByteArray, X.data.toList = L → (P3 ++ X).data.toList = T) := Lib.hid (fun X hX => by rw [← HT2.out]; simp [D3.out, hX])
  by_cases e : lt = []
  · have hl : Hid (L = [45]) := Lib.hid (by rw [← HL.out, if_pos e])
    subst e
    go_wp2
    go_ret
    exact ⟨ret_s (ba_eq (by rw [E4.out _ (by rw [hl.out])])), B4.out⟩
  · have hl : Hid (L = lt) := Lib.hid (by rw [← HL.out, if_neg e])
    have x1 : ((lt.length : Int) == 0) = false := beq_eq_false_iff_ne.2 (fun q => e (List.length_eq_zero_iff.1 (by omega)))
    have x2 : ¬ lt.length = 0 := fun q => e (List.length_eq_zero_iff.1 q)
    clear e
    go_wp2
    go_ret
    exact ⟨ret_s (ba_eq (by rw [E4.out _ (by rw [hl.out])])), B4.out⟩
end Rul
end Go.Proofs.YtopmcelfmkeamaaGreatDoor
