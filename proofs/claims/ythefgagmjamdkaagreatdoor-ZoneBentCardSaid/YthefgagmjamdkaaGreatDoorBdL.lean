/-
  Several texts in one (ZonE, ZonF, ZonT, ZonM).
-/
import Derived.Test.YthefgagmjamdkaaGreatDoorBdK
/-
  Contracts of package zone: textSaving, textUntil. (Written by gen/gen_zone.py.)
-/
namespace Go.Proofs.YthefgagmjamdkaaGreatDoor
open Go.RowKit
namespace Zon
open Sol Clk Cel Rul
set_option maxHeartbeats 6400000 in
set_option maxRecDepth 100000 in
theorem tsv_to (st kd sv : Int) (ru fm : List UInt8) (un : Bool) (yr mo k v d n c : Int) (T : List UInt8) (w : World) (hp : Pow w) (h2 : kd = 2 → -345600 ≤ sv ∧ sv ≤ 345600) (h : Hid (svT kd sv ru = T)) :
    Calls Tryz.prog 23 #[.agg #[.int .i64 st, .int .i64 kd, .int .i64 sv, .string ⟨ru.toArray⟩, .string ⟨fm.toArray⟩, .bool un, .int .i64 yr, .int .i64 mo, .int .i64 k, .int .i64 v, .int .i64 d, .int .i64 n, .int .i64 c]] w fun e w' => e = .returned (.tuple #[.string ⟨T.toArray⟩, .int .i64 0]) ∧ Below w.heap.size w w' := by
  have HP := Lib.hid hp
  have hcs : (kd = 2 ∧ Hid (ctS sv = T ∧ ctE sv = 0)) ∨ ((kd == 2) = false ∧ kd = 3 ∧ T = ru) ∨ ((kd == 2) = false ∧ (kd == 3) = false ∧ T = [45]) := by
    have H := h.out
    rw [svT] at H
    by_cases e : kd = 2
    · rw [if_pos e] at H; exact Or.inl ⟨e, Lib.hid ⟨H, (ct_in (h2 e)).1⟩⟩
    · rw [if_neg e] at H
      by_cases e3 : kd = 3
      · rw [if_pos e3] at H; exact Or.inr (Or.inl ⟨beq_eq_false_iff_ne.2 e, e3, H.symm⟩)
      · rw [if_neg e3] at H; exact Or.inr (Or.inr ⟨beq_eq_false_iff_ne.2 e, beq_eq_false_iff_ne.2 e3, H.symm⟩)
  clear h hp h2
  rcases hcs with ⟨rfl, HC⟩ | ⟨e1, rfl, rfl⟩ | ⟨e1, e2, rfl⟩
  · go_enter Tryz.func23, Tryz.ntmps23
    go_wp2_with fail
    refine (ctext_to sv T 0 _ (HP.out.stays (by repeat (first | with_reducible exact Below.refl _ _ | with_reducible refine below_drewN ?_ _ | with_reducible refine Below.drew ?_ | refine Below.alloc ?_ (by simp; try omega) _))) HC).mono ?_
    rintro e w1 ⟨rfl, b1⟩
    go_wp2
    go_ret2
    exact ⟨rfl, bstep (by repeat (first | with_reducible exact Below.refl _ _ | with_reducible refine below_drewN ?_ _ | with_reducible refine Below.drew ?_ | refine Below.alloc ?_ (by simp; try omega) _)) b1⟩
  · go_enter Tryz.func23, Tryz.ntmps23
    go_wp2
    go_ret2
    exact ⟨rfl, by repeat (first | with_reducible exact Below.refl _ _ | with_reducible refine below_drewN ?_ _ | with_reducible refine Below.drew ?_ | refine Below.alloc ?_ (by simp; try omega) _)⟩
  · go_enter Tryz.func23, Tryz.ntmps23
    go_wp2
    go_ret2
    exact ⟨rfl, by repeat (first | with_reducible exact Below.refl _ _ | with_reducible refine below_drewN ?_ _ | with_reducible refine Below.drew ?_ | refine Below.alloc ?_ (by simp; try omega) _)⟩
/-- The end's text, a space ahead of each field. -/
def unT (un : Bool) (yr mo k v d n c : Int) : List UInt8 := if un = true then [32] ++ textL yr 0 ++ [32] ++ moT mo ++ [32] ++ Onf.onT k v d ++ [32] ++ Atf.atT n c else []
set_option maxHeartbeats 6400000 in
set_option maxRecDepth 100000 in
theorem tun_no (st kd sv : Int) (ru fm : List UInt8) (yr mo k v d n c : Int) (w : World) :
    Calls Tryz.prog 24 #[.agg #[.int .i64 st, .int .i64 kd, .int .i64 sv, .string ⟨ru.toArray⟩, .string ⟨fm.toArray⟩, .bool false, .int .i64 yr, .int .i64 mo, .int .i64 k, .int .i64 v, .int .i64 d, .int .i64 n, .int .i64 c]] w fun e w' => e = .returned (.tuple #[.string ⟨#[]⟩, .int .i64 0]) ∧ Below w.heap.size w w' := by
  go_enter Tryz.func24, Tryz.ntmps24
  go_wp2
  go_ret2
  exact ⟨rfl, by repeat (first | with_reducible exact Below.refl _ _ | with_reducible refine below_drewN ?_ _ | with_reducible refine Below.drew ?_ | refine Below.alloc ?_ (by simp; try omega) _)⟩
set_option maxHeartbeats 6400000 in
set_option maxRecDepth 100000 in
theorem tun_yes (st kd sv : Int) (ru fm : List UInt8) (yr mo k v d n c : Int) (T : List UInt8) (w : World) (hp : Pow w) (y0 : 1 ≤ yr) (y1 : yr ≤ 9999) (a6 : 1 ≤ mo) (a7 : mo ≤ 12) (a8 : Wk.onOk k v d = true) (a10 : Atf.atOk n c = true) (hT : Hid (unT true yr mo k v d n c = T)) :
    Calls Tryz.prog 24 #[.agg #[.int .i64 st, .int .i64 kd, .int .i64 sv, .string ⟨ru.toArray⟩, .string ⟨fm.toArray⟩, .bool true, .int .i64 yr, .int .i64 mo, .int .i64 k, .int .i64 v, .int .i64 d, .int .i64 n, .int .i64 c]] w fun e w' => e = .returned (.tuple #[.string ⟨T.toArray⟩, .int .i64 0]) ∧ Below w.heap.size w w' := by
  have HP := Lib.hid hp
  obtain ⟨_, _, m3, m4, m5⟩ := mo_txt a6 a7
  obtain ⟨M, hM⟩ : ∃ M, Wrd.nmT 2 mo = M := ⟨_, rfl⟩
  have N2 := Lib.hid (And.intro hM m4)
  have m3' : M.take 3 = moT mo := by rw [moT, hM]
  have ml : 3 ≤ M.length := by
    have := m3; rw [← m3', List.length_take] at this; omega
  rw [hM] at m5
  obtain ⟨O, hO⟩ : ∃ O, Onf.onT k v d = O := ⟨_, rfl⟩
  have lO : O.length ≤ 20 := by rw [← hO]; exact (Onf.on_back a8).2
  have N3 := Lib.hid (And.intro hO (Wk.chE_yes a8))
  obtain ⟨A, hA⟩ : ∃ A, Atf.atT n c = A := ⟨_, rfl⟩
  obtain ⟨_, _, _, _, lA, eA⟩ := at_txt a10
  rw [hA] at lA
  have N4 := Lib.hid (And.intro hA eA)
  obtain ⟨F, hF⟩ : ∃ F, textL yr 0 = F := ⟨_, rfl⟩
  have lF : F.length ≤ 4 := by rw [← hF]; exact (yr_txt (by omega) y1).2.2.2
  have N6 := Lib.hid hF
  have HTT := hT.out
  rw [unT, if_pos rfl, ← m3', hO, hA, hF] at HTT
  have HT2 := Lib.hid HTT
  have hsM : (⟨M.toArray⟩ : ByteArray).size = M.length := rfl
  have hsF : (⟨F.toArray⟩ : ByteArray).size = F.length := rfl
  have hsO : (⟨O.toArray⟩ : ByteArray).size = O.length := rfl
  have hsA : (⟨A.toArray⟩ : ByteArray).size = A.length := rfl
  have im1 : (3 : Int) ≤ (((⟨M.toArray⟩ : ByteArray).size : Nat) : Int) := by rw [hsM]; omega
  have im3 : 3 ≤ (⟨M.toArray⟩ : ByteArray).size := by rw [hsM]; exact ml
  clear HTT hT hp a8 a10 m3 m4 hM hO hA hF m3' eA
  have C0 := Lib.hid (Cs.new w [.int .i64 st, .int .i64 kd, .int .i64 sv, .string ⟨ru.toArray⟩, .string ⟨fm.toArray⟩, .bool true, .int .i64 yr, .int .i64 mo, .int .i64 k, .int .i64 v, .int .i64 d, .int .i64 n, .int .i64 c] 30)
  have B0 := Lib.hid ((Below.refl w.heap.size w).alloc (Nat.le_refl _) (Obj.cells #[.int .i64 st, .int .i64 kd, .int .i64 sv, .string ⟨ru.toArray⟩, .string ⟨fm.toArray⟩, .bool true, .int .i64 yr, .int .i64 mo, .int .i64 k, .int .i64 v, .int .i64 d, .int .i64 n, .int .i64 c] 30))
  go_enter Tryz.func24, Tryz.ntmps24
  go_wp2_with fail
  refine (Wrd.name_to 2 mo M 0 _ (by omega) N2).mono ?_
  rintro e w1 ⟨rfl, b1⟩
  have C1 := Lib.hid (C0.out.below b1)
  have B1 := Lib.hid (bstep B0.out b1)
  clear C0 B0 b1
  have z8 := (C1.out.2 8 _ rfl).1
  have z9 := (C1.out.2 9 _ rfl).1
  have z10 := (C1.out.2 10 _ rfl).1
  go_wp2_with fail
  refine (Onf.otext_to k v d 0 O _ (HP.out.stays B1.out) N3).mono ?_
  rintro e w2 ⟨rfl, b2⟩
  have C2 := Lib.hid (C1.out.below b2)
  have B2 := Lib.hid (bstep B1.out b2)
  clear C1 B1 b2 z8 z9 z10
  have z11 := (C2.out.2 11 _ rfl).1
  have z12 := (C2.out.2 12 _ rfl).1
  go_wp2_with fail
  refine (Atf.atext_to n c 0 A _ (HP.out.stays B2.out) N4).mono ?_
  rintro e w3 ⟨rfl, b3⟩
  have C3 := Lib.hid (C2.out.below b3)
  have B3 := Lib.hid (bstep B2.out b3)
  clear C2 B2 b3 z11 z12
  have z6 := (C3.out.2 6 _ rfl).1
  go_upto_region 12 with fail
  have hb := B3.out
  have c6 := cell_regrown z6
  have d1 := Lib.hid (fun dd os => Calls.regrown_of (text_to yr 0 F (Sort.grow (redrawn w3 dd) os) (by omega) (by omega) (by omega) (by omega) ((HP.out.stays hb).stays (below_regrown w3 dd os)) N6))
  have q0 : ¬ 9223372036854775807 < 1 + F.length := by omega
  have q1 : ¬ 9223372036854775807 < 1 + F.length + 1 := by omega
  have q2 : ¬ 9223372036854775807 < 1 + F.length + 1 + 3 := by omega
  have q3 : ¬ 9223372036854775807 < 1 + F.length + 1 + 3 + 1 := by omega
  have q4 : ¬ 9223372036854775807 < 1 + F.length + 1 + 3 + 1 + O.length := by omega
  have q5 : ¬ 9223372036854775807 < 1 + F.length + 1 + 3 + 1 + O.length + 1 := by omega
  have q6 : ¬ 9223372036854775807 < 1 + F.length + 1 + 3 + 1 + O.length + 1 + A.length := by omega
  have im2 : (3 : Int) ≤ ((M.length : Nat) : Int) := by omega
  have im4 : (0 : Int) ≤ 3 := by omega
  have im5 : min 3 M.length = 3 := by omega
  refine wp_region_quiet_below (by kernel_rfl) (by kernel_rfl) ?_
  repeat (quiet_step (first | with_reducible exact d1.out _ _))
  refine wpQuiet_nil ?_
  intro w' hw'
  obtain ⟨⟨dq, osq⟩, rfl⟩ := hw'
  have hz := hb.trans ((below_regrown w3 dq osq).mono hb.size)
  go_wp2
  go_ret2
  exact ⟨ret_si (ByteArray.ext (Array.toList_inj.1 (by rw [← HT2.out]; simp))) rfl, hz⟩
end Zon
end Go.Proofs.YthefgagmjamdkaaGreatDoor
/-
  Contracts of package zone: Text. (Written by gen/gen_zonf.py.)
-/
namespace Go.Proofs.YthefgagmjamdkaaGreatDoor
open Go.RowKit
namespace Zon
open Sol Clk Cel Rul
theorem res_parts {yr mo k v d : Int} (h : Wk.resE yr mo k v d = 0) : Wk.onOk k v d = true ∧ 1 ≤ yr ∧ yr ≤ 9999 ∧ 1 ≤ mo ∧ mo ≤ 12 := by
  rw [Wk.resE] at h
  by_cases ho : Wk.onOk k v d = true
  · rw [if_pos ho] at h
    by_cases hy : 1 ≤ yr ∧ yr ≤ 9999
    · rw [if_pos hy] at h
      by_cases hv : 0 ≤ yr ∧ yr ≤ 10000 ∧ 1 ≤ Wk.rday yr mo k d ∧ Wk.rday yr mo k d ≤ Cal.mlen yr mo
      · have hm : 1 ≤ mo ∧ mo ≤ 12 := by
          have h1 : 1 ≤ Cal.mlen yr mo := by omega
          unfold Cal.mlen at h1
          split at h1
          · omega
          · split at h1
            · omega
            · split at h1
              · omega
              · omega
        exact ⟨ho, hy.1, hy.2, hm.1, hm.2⟩
      · rw [(Civ.numE_no hv).1] at h; omega
    · rw [if_neg hy] at h; omega
  · rw [if_neg ho] at h; omega
theorem rg_parts {e : EV} (h : rgB e = true) : (-86400 < e.st ∧ e.st < 86400) ∧ (e.kd = 2 → -86400 < e.sv ∧ e.sv < 86400) ∧ (e.kd = 3 → nameB e.ru = true) ∧ Fm.fmtB e.fm = true ∧ (e.un = true → Wk.resE e.yr e.mo e.k e.v e.d = 0 ∧ Atf.atOk e.n e.c = true) := by
  rw [rgB, Bool.and_eq_true, Bool.and_eq_true, Bool.and_eq_true, bday, Bool.and_eq_true] at h
  obtain ⟨⟨h1, h2⟩, h3, h4, h5⟩ := h
  refine ⟨⟨of_decide_eq_true h1, of_decide_eq_true h2⟩, fun e2 => ?_, fun e3 => ?_, h4, fun eu => ?_⟩
  · rw [svB, if_neg (by omega), if_pos e2, Bool.and_eq_true, bday, Bool.and_eq_true] at h3
    exact ⟨of_decide_eq_true h3.1.1, of_decide_eq_true h3.1.2⟩
  · rw [svB, if_neg (by omega), if_neg (by omega), if_pos e3, Bool.and_eq_true] at h3
    exact h3.2
  · rw [unB, if_neg (by rw [eu]; decide), Bool.and_eq_true] at h5
    exact ⟨of_decide_eq_true h5.1, h5.2⟩
theorem un_spj (A B C : List UInt8) (un : Bool) (yr mo k v d n c : Int) : spJ ([A, B, C] ++ unF un yr mo k v d n c) = A ++ [32] ++ B ++ [32] ++ C ++ unT un yr mo k v d n c := by
  cases un with
  | false => simp [unF, unT, spJ_cons, spJ_one]
  | true => simp [unF, unT, spJ_cons, spJ_one]
set_option maxHeartbeats 6400000 in
set_option maxRecDepth 100000 in
theorem ztx_no (st kd sv : Int) (ru fm : List UInt8) (un : Bool) (yr mo k v d n c : Int) (w : World) (hA : Civ.Ahead w) (hm : Wrd.MaxL w) (hru : ru.length ≤ 1000000) (hfm : fm.length ≤ 1000000) (h : Hid (rgB ⟨st, kd, sv, ru, fm, un, yr, mo, k, v, d, n, c⟩ = false)) :
    Calls Tryz.prog 10 #[.agg #[.int .i64 st, .int .i64 kd, .int .i64 sv, .string ⟨ru.toArray⟩, .string ⟨fm.toArray⟩, .bool un, .int .i64 yr, .int .i64 mo, .int .i64 k, .int .i64 v, .int .i64 d, .int .i64 n, .int .i64 c]] w fun e w' => e = .returned (.tuple #[.string ⟨#[]⟩, .int .i64 11]) ∧ Below w.heap.size w w' := by
  have HA := Lib.hid hA
  have HM := Lib.hid hm
  clear hA hm
  have B0 := Lib.hid ((Below.refl w.heap.size w).alloc (Nat.le_refl _) (Obj.cells #[.int .i64 st, .int .i64 kd, .int .i64 sv, .string ⟨ru.toArray⟩, .string ⟨fm.toArray⟩, .bool un, .int .i64 yr, .int .i64 mo, .int .i64 k, .int .i64 v, .int .i64 d, .int .i64 n, .int .i64 c] 30))
  go_enter Tryz.func10, Tryz.ntmps10
  go_wp2_with fail
  refine (isr_to st kd sv ru fm un yr mo k v d n c false _ (HA.out.stays B0.out) (HM.out.stays B0.out) hru hfm h).mono ?_
  rintro e w1 ⟨rfl, b1⟩
  go_wp2
  go_ret2
  exact ⟨rfl, bstep B0.out b1⟩
set_option maxHeartbeats 12800000 in
set_option maxRecDepth 100000 in
theorem ztx_yes (st kd sv : Int) (ru fm : List UInt8) (un : Bool) (yr mo k v d n c : Int) (T : List UInt8) (w : World) (hp : Pow w) (hA : Civ.Ahead w) (hm : Wrd.MaxL w) (hru : ru.length ≤ 1000000) (hfm : fm.length ≤ 1000000) (h : Hid (rgB ⟨st, kd, sv, ru, fm, un, yr, mo, k, v, d, n, c⟩ = true)) (hT : Hid (spJ (erF ⟨st, kd, sv, ru, fm, un, yr, mo, k, v, d, n, c⟩) = T)) :
    Calls Tryz.prog 10 #[.agg #[.int .i64 st, .int .i64 kd, .int .i64 sv, .string ⟨ru.toArray⟩, .string ⟨fm.toArray⟩, .bool un, .int .i64 yr, .int .i64 mo, .int .i64 k, .int .i64 v, .int .i64 d, .int .i64 n, .int .i64 c]] w fun e w' => e = .returned (.tuple #[.string ⟨T.toArray⟩, .int .i64 0]) ∧ Below w.heap.size w w' := by
  have HP := Lib.hid hp
  have HA := Lib.hid hA
  have HM := Lib.hid hm
  obtain ⟨p1, p2, p3, p4, p5⟩ := rg_parts h.out
  have p1 : -86400 < st ∧ st < 86400 := p1
  have p2 : kd = 2 → -86400 < sv ∧ sv < 86400 := p2
  have p5 : un = true → Wk.resE yr mo k v d = 0 ∧ Atf.atOk n c = true := p5
  have lfm : fm.length ≤ 40 := (fmt_pl p4).2
  have hT2 := hT.out
  rw [erF, un_spj] at hT2
  have hT2 : ctS st ++ [32] ++ svT kd sv ru ++ [32] ++ fm ++ unT un yr mo k v d n c = T := hT2
  obtain ⟨S, hS⟩ : ∃ S, ctS st = S := ⟨_, rfl⟩
  have N1 := Lib.hid (And.intro hS (ct_in (n := st) (by omega)).1)
  have lS : S.length ≤ 9 := by rw [← hS, (ct_in (n := st) (by omega)).2]; exact (ct_pl (by omega) (by omega)).2
  obtain ⟨G, hG⟩ : ∃ G, svT kd sv ru = G := ⟨_, rfl⟩
  have N2 := Lib.hid hG
  have lG : G.length ≤ 40 := by
    rw [← hG, svT]
    split
    · rename_i e2
      have := p2 e2
      rw [(ct_in (n := sv) (by omega)).2]
      have := (ct_pl (n := sv) (by omega) (by omega)).2
      omega
    · split
      · rename_i e3; exact (name_pl (p3 e3)).2
      · decide
  obtain ⟨U, hU⟩ : ∃ U, unT un yr mo k v d n c = U := ⟨_, rfl⟩
  have N3 := Lib.hid hU
  have lU : U.length ≤ 60 := by
    rw [← hU, unT]
    split
    · rename_i eu
      obtain ⟨q1, q2, q3, q4, q5⟩ := res_parts (p5 eu).1
      have r1 := (yr_txt (n := yr) (by omega) q3).2.2.2
      have r2 := (mo_txt q4 q5).2.2.1
      have r3 := (Onf.on_back q1).2
      have r4 := (at_txt (p5 eu).2).2.2.2.2.1
      simp only [List.length_append, List.length_cons, List.length_nil]
      omega
    · decide
  rw [hS, hG, hU] at hT2
  have HT2 := Lib.hid hT2
  have P2 := Lib.hid (fun (e : kd = 2) => (show -345600 ≤ sv ∧ sv ≤ 345600 by have := p2 e; omega))
  have UN : Hid (∀ W, Pow W → Calls Tryz.prog 24 #[.agg #[.int .i64 st, .int .i64 kd, .int .i64 sv, .string ⟨ru.toArray⟩, .string ⟨fm.toArray⟩, .bool un, .int .i64 yr, .int .i64 mo, .int .i64 k, .int .i64 v, .int .i64 d, .int .i64 n, .int .i64 c]] W fun e w' => e = .returned (.tuple #[.string ⟨U.toArray⟩, .int .i64 0]) ∧ Below W.heap.size W w') := Lib.hid (fun W hW => by
    cases un with
    | false =>
      have : U = [] := by rw [← hU]; rfl
      subst this
      exact tun_no st kd sv ru fm yr mo k v d n c W
    | true =>
      obtain ⟨q1, q2, q3, q4, q5⟩ := res_parts (p5 rfl).1
      exact tun_yes st kd sv ru fm yr mo k v d n c U W hW q2 q3 q4 q5 q1 (p5 rfl).2 N3)
  have Z1 := Lib.hid hru
  have Z2 := Lib.hid hfm
  have hsS : (⟨S.toArray⟩ : ByteArray).size = S.length := rfl
  have hsG : (⟨G.toArray⟩ : ByteArray).size = G.length := rfl
  have hsF : (⟨fm.toArray⟩ : ByteArray).size = fm.length := rfl
  have hsU : (⟨U.toArray⟩ : ByteArray).size = U.length := rfl
  clear hT hT2 hS hG hU hp hA hm p1 p2 p3 p4 p5 hru hfm
  have C0 := Lib.hid (Cs.new w [.int .i64 st, .int .i64 kd, .int .i64 sv, .string ⟨ru.toArray⟩, .string ⟨fm.toArray⟩, .bool un, .int .i64 yr, .int .i64 mo, .int .i64 k, .int .i64 v, .int .i64 d, .int .i64 n, .int .i64 c] 30)
  have B0 := Lib.hid ((Below.refl w.heap.size w).alloc (Nat.le_refl _) (Obj.cells #[.int .i64 st, .int .i64 kd, .int .i64 sv, .string ⟨ru.toArray⟩, .string ⟨fm.toArray⟩, .bool un, .int .i64 yr, .int .i64 mo, .int .i64 k, .int .i64 v, .int .i64 d, .int .i64 n, .int .i64 c] 30))
  go_enter Tryz.func10, Tryz.ntmps10
  go_wp2_with fail
  refine (isr_to st kd sv ru fm un yr mo k v d n c true _ (HA.out.stays B0.out) (HM.out.stays B0.out) Z1.out Z2.out h).mono ?_
  rintro e w1 ⟨rfl, b1⟩
  have C1 := Lib.hid (C0.out.below b1)
  have B1 := Lib.hid (bstep B0.out b1)
  clear C0 B0 b1
  have z0 := (C1.out.2 0 _ rfl).1
  go_wp2_with fail
  refine (ctext_to st S 0 _ (HP.out.stays B1.out) N1).mono ?_
  rintro e w2 ⟨rfl, b2⟩
  have C2 := Lib.hid (C1.out.below b2)
  have B2 := Lib.hid (bstep B1.out b2)
  clear C1 B1 b2 z0
  have z0 := (C2.out.2 0 _ rfl).1
  have z1 := (C2.out.2 1 _ rfl).1
  have z2 := (C2.out.2 2 _ rfl).1
  have z3 := (C2.out.2 3 _ rfl).1
  have z4 := (C2.out.2 4 _ rfl).1
  have z5 := (C2.out.2 5 _ rfl).1
  have z6 := (C2.out.2 6 _ rfl).1
  have z7 := (C2.out.2 7 _ rfl).1
  have z8 := (C2.out.2 8 _ rfl).1
  have z9 := (C2.out.2 9 _ rfl).1
  have z10 := (C2.out.2 10 _ rfl).1
  have z11 := (C2.out.2 11 _ rfl).1
  have z12 := (C2.out.2 12 _ rfl).1
  go_wp2_with fail
  refine (tsv_to st kd sv ru fm un yr mo k v d n c G _ (HP.out.stays B2.out) P2.out N2).mono ?_
  rintro e w3 ⟨rfl, b3⟩
  have C3 := Lib.hid (C2.out.below b3)
  have B3 := Lib.hid (bstep B2.out b3)
  clear C2 B2 b3 z0 z1 z2 z3 z4 z5 z6 z7 z8 z9 z10 z11 z12
  have z0 := (C3.out.2 0 _ rfl).1
  have z1 := (C3.out.2 1 _ rfl).1
  have z2 := (C3.out.2 2 _ rfl).1
  have z3 := (C3.out.2 3 _ rfl).1
  have z4 := (C3.out.2 4 _ rfl).1
  have z5 := (C3.out.2 5 _ rfl).1
  have z6 := (C3.out.2 6 _ rfl).1
  have z7 := (C3.out.2 7 _ rfl).1
  have z8 := (C3.out.2 8 _ rfl).1
  have z9 := (C3.out.2 9 _ rfl).1
  have z10 := (C3.out.2 10 _ rfl).1
  have z11 := (C3.out.2 11 _ rfl).1
  have z12 := (C3.out.2 12 _ rfl).1
  go_wp2_with fail
  refine (UN.out _ (HP.out.stays B3.out)).mono ?_
  rintro e w4 ⟨rfl, b4⟩
  have C4 := Lib.hid (C3.out.below b4)
  have B4 := Lib.hid (bstep B3.out b4)
  clear C3 B3 b4 z0 z1 z2 z3 z4 z5 z6 z7 z8 z9 z10 z11 z12
  have z4 := (C4.out.2 4 _ rfl).1
  go_wp2
  go_ret2
  exact ⟨ret_si (ByteArray.ext (Array.toList_inj.1 (by rw [← HT2.out]; simp))) rfl, B4.out⟩
end Zon
end Go.Proofs.YthefgagmjamdkaaGreatDoor
/-
  Package zone: Text of whatever era.
-/
namespace Go.Proofs.YthefgagmjamdkaaGreatDoor
open Go.RowKit
namespace Zon
open Sol Clk Cel Rul
theorem ztx_to (st kd sv : Int) (ru fm : List UInt8) (un : Bool) (yr mo k v d n c : Int) (T : List UInt8) (e : Int) (w : World) (hp : Pow w) (hA : Civ.Ahead w) (hm : Wrd.MaxL w) (hru : ru.length ≤ 1000000) (hfm : fm.length ≤ 1000000) (h : Hid (erT ⟨st, kd, sv, ru, fm, un, yr, mo, k, v, d, n, c⟩ = T ∧ erE ⟨st, kd, sv, ru, fm, un, yr, mo, k, v, d, n, c⟩ = e)) :
    Calls Tryz.prog 10 #[.agg #[.int .i64 st, .int .i64 kd, .int .i64 sv, .string ⟨ru.toArray⟩, .string ⟨fm.toArray⟩, .bool un, .int .i64 yr, .int .i64 mo, .int .i64 k, .int .i64 v, .int .i64 d, .int .i64 n, .int .i64 c]] w fun x w' => x = .returned (.tuple #[.string ⟨T.toArray⟩, .int .i64 e]) ∧ Below w.heap.size w w' := by
  obtain ⟨a, b⟩ := h.out
  rw [erT] at a
  rw [erE] at b
  cases hc : rgB ⟨st, kd, sv, ru, fm, un, yr, mo, k, v, d, n, c⟩ with
  | false =>
    rw [hc, if_neg (by decide)] at a b
    subst a
    subst b
    exact ztx_no st kd sv ru fm un yr mo k v d n c w hA hm hru hfm (Lib.hid hc)
  | true =>
    rw [hc, if_pos rfl] at a b
    subst b
    exact ztx_yes st kd sv ru fm un yr mo k v d n c T w hp hA hm hru hfm (Lib.hid hc) (Lib.hid a)
end Zon
end Go.Proofs.YthefgagmjamdkaaGreatDoor
/-
  Package zone, plain words: an era's fields, there and back.
-/
namespace Go.Proofs.YthefgagmjamdkaaGreatDoor
open Go.RowKit
namespace Zon
open Sol Clk Cel Rul
theorem nm_clB {S : List UInt8} (h : nameB S = true) : S ≠ [45] ∧ clB S = false := by
  rw [nameB, Bool.and_eq_true, Bool.and_eq_true] at h
  obtain ⟨_, hb, _⟩ := h
  match S, hb with
  | c :: T, hb =>
    have hb : (!(isDig c || (c == 43 || c == 45))) = true := hb
    have hd : isDig c = false := by
      cases e : isDig c with
      | false => rfl
      | true => rw [e] at hb; cases hb
    have h45 : c ≠ 45 := fun e => by rw [e] at hb; exact absurd hb (by decide)
    have hne : ¬ (c :: T : List UInt8) = [45] := fun e => h45 (List.cons.inj e).1
    have hp : Lib.hasPrefix (c :: T) [45] = false := by
      have : ((45 : UInt8) == c) = false := beq_eq_false_iff_ne.2 (fun e => h45 e.symm)
      simp [Lib.hasPrefix, List.isPrefixOf, this]
    have hdg : dg (c :: T) = c :: T := by rw [dg, Lib.trimPrefix, if_neg (by rw [hp]; decide)]
    have hr : parseB (hdL (c :: T)) = false := by
      by_cases h58 : c = 58
      · have : hdL (c :: T) = [] := by rw [hdL, List.takeWhile_cons, if_neg (by rw [h58]; decide)]
        rw [this]; rfl
      · have : hdL (c :: T) = c :: T.takeWhile (fun c => c != 58) := by rw [hdL, List.takeWhile_cons, if_pos (bne_iff_ne.2 h58)]
        rw [this]
        exact parseB_at (k := 0) (by simp) (by simpa using hd)
    refine ⟨hne, ?_⟩
    rw [clB, hdg, readB, hr, decide_eq_false hne]
    rfl
theorem sv_back {kd sv : Int} {ru : List UInt8} (h : svB kd sv ru = true) : svP (svT kd sv ru) = (kd, sv, ru) ∧ plainF (svT kd sv ru) = true ∧ (svT kd sv ru).length ≤ 40 := by
  rw [svB] at h
  by_cases e1 : kd = 1
  · rw [if_pos e1, Bool.and_eq_true] at h
    have a := of_decide_eq_true h.1
    have b := of_decide_eq_true h.2
    subst e1 a b
    exact ⟨by rw [svT, if_neg (by decide), if_neg (by decide), svP, if_pos rfl], by decide, by decide⟩
  · rw [if_neg e1] at h
    by_cases e2 : kd = 2
    · rw [if_pos e2, Bool.and_eq_true, bday, Bool.and_eq_true] at h
      have a := of_decide_eq_true h.1.1
      have b := of_decide_eq_true h.1.2
      have c := of_decide_eq_true h.2
      subst e2 c
      obtain ⟨p1, p2⟩ := ct_pl (n := sv) (by omega) (by omega)
      obtain ⟨c1, c2⟩ := cl_ct (n := sv) (by omega) (by omega)
      obtain ⟨x, dd, e, hd⟩ := Atf.ct_last (n := sv) (by omega) (by omega)
      have hne : ctL sv ≠ [45] := fun q => by
        rw [e] at q
        have : (x ++ [dd]).getLast? = ([45] : List UInt8).getLast? := by rw [q]
        simp at this
        rw [this] at hd
        exact absurd hd (by decide)
      have es := (ct_in (n := sv) (by omega)).2
      exact ⟨by rw [svT, if_pos rfl, es, svP, if_neg hne, if_pos c1, c2], by rw [svT, if_pos rfl, es]; exact p1, by rw [svT, if_pos rfl, es]; omega⟩
    · rw [if_neg e2] at h
      by_cases e3 : kd = 3
      · rw [if_pos e3, Bool.and_eq_true] at h
        have a := of_decide_eq_true h.1
        subst e3 a
        obtain ⟨n1, n2⟩ := nm_clB h.2
        obtain ⟨p1, p2⟩ := name_pl h.2
        have e : svT 3 0 ru = ru := by rw [svT, if_neg (by decide), if_pos rfl]
        rw [e]
        exact ⟨by rw [svP, if_neg n1, if_neg (by rw [n2]; decide)], p1, p2⟩
      · rw [if_neg e3] at h; cases h
theorem un_back {yr mo k v d n c : Int} (h : Wk.resE yr mo k v d = 0) (ha : Atf.atOk n c = true) : unX [moT mo, Onf.onT k v d, Atf.atT n c] = (0, (mo, (k, v, d), (n, c))) := by
  obtain ⟨q1, _, _, q4, q5⟩ := res_parts h
  have r2 := (mo_txt q4 q5).1
  have r3 := (Onf.on_back q1).1
  obtain ⟨r4, r5, r6, _⟩ := at_txt ha
  rw [unX, r2, if_neg (by simp), r3, if_neg (by simp), r4, r5, r6]
theorem erX_back {e : EV} (h : rgB e = true) : erX (erF e) = (0, e) := by
  obtain ⟨⟨a1, a2⟩, _, _, _, h5⟩ := rg_parts h
  rw [rgB, Bool.and_eq_true, Bool.and_eq_true, Bool.and_eq_true] at h
  obtain ⟨_, hs, _, hu⟩ := h
  obtain ⟨s1, _, _⟩ := sv_back hs
  obtain ⟨c1, c2⟩ := cl_ct (n := e.st) (by omega) (by omega)
  have es := (ct_in (n := e.st) (by omega)).2
  obtain ⟨st, kd, sv, ru, fm, un, yr, mo, k, v, d, n, c⟩ := e
  simp only at a1 a2 h5 hs hu s1 c1 c2 es
  cases un with
  | false =>
    rw [unB, if_pos rfl] at hu
    obtain ⟨rfl, rfl, rfl, rfl, rfl, rfl, rfl⟩ := of_decide_eq_true hu
    rw [erF, unF, if_neg (by simp), List.append_nil]
    simp only
    rw [erX, if_neg (by simp), es, clE_yes c1, if_neg (by simp), s1, c2]
  | true =>
    obtain ⟨u1, u2⟩ := h5 rfl
    obtain ⟨_, y1, y2, _, _⟩ := res_parts u1
    obtain ⟨y3, y4, _, _⟩ := yr_txt (n := yr) (by omega) y2
    have ub := un_back u1 u2
    rw [erF, unF, if_pos rfl]
    simp only [List.cons_append, List.nil_append]
    rw [erX, if_neg (by simp), es, clE_yes c1, if_neg (by simp)]
    simp only [y3, ub, s1, c2, y4]
    simp
theorem erP_back {e : EV} (h : rgB e = true) : erP (erF e) = (0, e) := by
  rw [erP, erX_back h, if_neg (by simp), if_pos h]
theorem erF_pl {e : EV} (h : rgB e = true) : (∀ f ∈ erF e, plainF f = true) ∧ (spJ (erF e)).length ≤ 300 ∧ (∀ f ∈ erF e, f.length ≤ 40) ∧ (erF e).length ≤ 7 := by
  obtain ⟨⟨a1, a2⟩, _, _, h4, h5⟩ := rg_parts h
  rw [rgB, Bool.and_eq_true, Bool.and_eq_true, Bool.and_eq_true] at h
  obtain ⟨_, hs, _, _⟩ := h
  obtain ⟨_, s1, s2⟩ := sv_back hs
  obtain ⟨c1, c2⟩ := ct_pl (n := e.st) (by omega) (by omega)
  have es := (ct_in (n := e.st) (by omega)).2
  obtain ⟨f1, f2⟩ := fmt_pl h4
  have key : ∀ L : List (List UInt8), (∀ f ∈ L, plainF f = true ∧ f.length ≤ 40) → L.length ≤ 7 → (∀ f ∈ L, plainF f = true) ∧ (spJ L).length ≤ 300 ∧ (∀ f ∈ L, f.length ≤ 40) ∧ L.length ≤ 7 := fun L hL hn => by
    refine ⟨fun f hf => (hL f hf).1, ?_, fun f hf => (hL f hf).2, hn⟩
    have h1 := spJ_len L
    have h2 : ∀ L : List (List UInt8), (∀ f ∈ L, f.length ≤ 40) → (L.map fun f => f.length + 1).sum ≤ 41 * L.length := by
      intro L
      induction L with
      | nil => intro _; simp
      | cons f L ih =>
        intro hf
        have a := hf f List.mem_cons_self
        have b := ih (fun g hg => hf g (List.mem_cons_of_mem _ hg))
        simp only [List.map_cons, List.sum_cons, List.length_cons]
        omega
    have h3 := h2 L (fun f hf => (hL f hf).2)
    omega
  refine key _ ?_ ?_
  · intro f hf
    rw [erF, List.mem_append] at hf
    rcases hf with hf | hf
    · simp only [List.mem_cons, List.mem_nil_iff, or_false] at hf
      rcases hf with rfl | rfl | rfl
      · rw [es]; exact ⟨c1, by omega⟩
      · exact ⟨s1, s2⟩
      · exact ⟨f1, f2⟩
    · rw [unF] at hf
      split at hf
      · rename_i eu
        obtain ⟨u1, u2⟩ := h5 eu
        obtain ⟨q1, y1, y2, q4, q5⟩ := res_parts u1
        obtain ⟨y3, y4⟩ := yr_pl (n := e.yr) (by omega) y2
        obtain ⟨_, m2, m3, _, _⟩ := mo_txt q4 q5
        obtain ⟨_, _, _, t4, t5, _⟩ := at_txt u2
        simp only [List.mem_cons, List.mem_nil_iff, or_false] at hf
        rcases hf with rfl | rfl | rfl | rfl
        · exact ⟨y3, by omega⟩
        · exact ⟨m2, by omega⟩
        · exact ⟨on_pl q1, by have := (Onf.on_back q1).2; omega⟩
        · exact ⟨t4, by omega⟩
      · cases hf
  · rw [erF, unF]
    split <;> simp
theorem era_back {e : EV} (h : rgB e = true) : Fds.splitR (erT e) = (erF e, 0) ∧ erP (erF e) = (0, e) := by
  obtain ⟨p1, p2, _⟩ := erF_pl h
  exact ⟨by rw [erT, if_pos h]; exact split_join _ p1 (by omega), erP_back h⟩
end Zon
end Go.Proofs.YthefgagmjamdkaaGreatDoor
