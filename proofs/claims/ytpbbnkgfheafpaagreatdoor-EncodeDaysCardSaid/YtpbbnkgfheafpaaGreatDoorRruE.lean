/-
  Package rrule: planOf.
-/
import Derived.Test.YtpbbnkgfheafpaaGreatDoorBdU1
import Derived.Test.YtpbbnkgfheafpaaGreatDoorBdU
import Derived.Test.YtpbbnkgfheafpaaGreatDoorBdFb
import Derived.Test.YtpbbnkgfheafpaaGreatDoorBdCl
namespace Go.Proofs.YtpbbnkgfheafpaaGreatDoor
open Go.RowKit
namespace Rru
open Rcv (CV IntV DayV LisV)
open Ap (RowI Grew)
open Cel
/-- The seconds behind a base that a rule lets. -/
def hrL (x : CV) (st : Int) : List Int := if 3 < x.fq then orS x.hr (st % 86400 / 3600) else [0]
def miL (x : CV) (st : Int) : List Int := if 2 < x.fq then orS x.mi (st % 86400 / 60 % 60) else [0]
def seL (x : CV) (st : Int) : List Int := if 1 < x.fq then orS x.sc (st % 86400 % 60) else [0]
def fS (h m s : Int) : Int := h * 3600 + m * 60 + s
def scL (x : CV) (st : Int) : List Int := (hrL x st).flatMap fun h => (miL x st).flatMap fun m => (seL x st).map (fS h m)
theorem take_flat {α β : Type} {L : List α} {f : α → List β} {k : Nat} (hk : k < L.length) : (L.take (k + 1)).flatMap f = (L.take k).flatMap f ++ f L[k] := by
  rw [List.take_succ_eq_append_getElem hk, List.flatMap_append]
  simp
theorem take_map {α β : Type} {L : List α} {f : α → β} {k : Nat} (hk : k < L.length) : (L.take (k + 1)).map f = (L.take k).map f ++ [f L[k]] := by
  rw [List.take_succ_eq_append_getElem hk, List.map_append]
  simp
theorem flat_len {α β : Type} {L : List α} {f : α → List β} {n : Nat} (h : ∀ a ∈ L, (f a).length ≤ n) : (L.flatMap f).length ≤ L.length * n := by
  induction L with
  | nil => simp
  | cons a r ih =>
    have h1 := h a List.mem_cons_self
    have h2 := ih (fun b hb => h b (List.mem_cons_of_mem _ hb))
    rw [List.flatMap_cons, List.length_append, List.length_cons, Nat.succ_mul]
    omega
theorem cs_at {w : World} {g : Nat} (h : w.heap.size = g) (vs : List Value) (t : TypeId) : Cs g (w.alloc (Obj.cells vs.toArray t)) vs := by rw [← h]; exact Cs.new w vs t
theorem bdrew {n : Nat} {w w' : World} (h : Below n w w') (m : Nat) : Below n w (w'.drewN m) := ⟨h.os, h.tape, h.output, h.size, h.block⟩
theorem int_new (w : World) (n : Int) : IntV (w.alloc (Obj.cells #[.int .i64 n] 3)) (.slice (some ⟨w.heap.size, 0, none⟩) 1 1) [n] := Rcv.int_one (Cel.Cs.new w [.int .i64 n] 3)
theorem cells18 {g : Nat} {w : World} {v0 v1 v2 v3 v4 v5 v6 v7 v8 v9 v10 v11 v12 v13 v14 v15 v16 v17 : Value} (h : Cs g w [v0, v1, v2, v3, v4, v5, v6, v7, v8, v9, v10, v11, v12, v13, v14, v15, v16, v17]) : w.cell? ⟨g, 0, none⟩ = some v0 ∧ w.cell? ⟨g, 1, none⟩ = some v1 ∧ w.cell? ⟨g, 2, none⟩ = some v2 ∧ w.cell? ⟨g, 3, none⟩ = some v3 ∧ w.cell? ⟨g, 4, none⟩ = some v4 ∧ w.cell? ⟨g, 5, none⟩ = some v5 ∧ w.cell? ⟨g, 6, none⟩ = some v6 ∧ w.cell? ⟨g, 7, none⟩ = some v7 ∧ w.cell? ⟨g, 8, none⟩ = some v8 ∧ w.cell? ⟨g, 9, none⟩ = some v9 ∧ w.cell? ⟨g, 10, none⟩ = some v10 ∧ w.cell? ⟨g, 11, none⟩ = some v11 ∧ w.cell? ⟨g, 12, none⟩ = some v12 ∧ w.cell? ⟨g, 13, none⟩ = some v13 ∧ w.cell? ⟨g, 14, none⟩ = some v14 ∧ w.cell? ⟨g, 15, none⟩ = some v15 ∧ w.cell? ⟨g, 16, none⟩ = some v16 ∧ w.cell? ⟨g, 17, none⟩ = some v17 := ⟨(h.2 0 _ rfl).1, (h.2 1 _ rfl).1, (h.2 2 _ rfl).1, (h.2 3 _ rfl).1, (h.2 4 _ rfl).1, (h.2 5 _ rfl).1, (h.2 6 _ rfl).1, (h.2 7 _ rfl).1, (h.2 8 _ rfl).1, (h.2 9 _ rfl).1, (h.2 10 _ rfl).1, (h.2 11 _ rfl).1, (h.2 12 _ rfl).1, (h.2 13 _ rfl).1, (h.2 14 _ rfl).1, (h.2 15 _ rfl).1, (h.2 16 _ rfl).1, (h.2 17 _ rfl).1⟩
theorem res_by {P : Program} {fn : Func} {tmps : Array Value} {g : Nat} {W : World} {vs : List Value} {v : Value} (h : Cs g W vs) (k : ∀ W', Cs g W' vs → (results fn tmps).run P W' = .ok v W') : (results fn tmps).run P W = .ok v W := k W h
theorem own_less2 {w : World} {B B' : Nat} {v : Value} {L : List Int} (h : RowI B w v L) (hb : B' ≤ B) : RowI B' w v L := Rcp.own_less h hb
theorem rows_cells {B g : Nat} {v : Value} {L : List Int} (hg : g < B) : ∀ (vs : List Value) (o : Nat) (w0 : World), RowI B w0 v L → RowI B (w0.setCells g o vs) v L
  | [], _, _, h => h
  | u :: r, o, w, h => by rw [World.setCells]; exact rows_cells hg r (o + 1) _ (Rcp.own_cell h hg u)
theorem or_ne (L : List Int) (n : Int) : orS L n ≠ [] := by
  rw [orS]
  by_cases h : L = []
  · rw [if_pos h]; simp
  · rw [if_neg h]
    intro e
    have := srt_len L
    rw [e] at this
    exact h (List.length_eq_zero_iff.1 this.symm)
theorem hr_ne (x : CV) (st : Int) : hrL x st ≠ [] := by rw [hrL]; split; exact or_ne _ _; simp
theorem mi_ne (x : CV) (st : Int) : miL x st ≠ [] := by rw [miL]; split; exact or_ne _ _; simp
theorem se_ne (x : CV) (st : Int) : seL x st ≠ [] := by rw [seL]; split; exact or_ne _ _; simp
noncomputable def planTC : Code := (Tryz.f25.body.bind (Tl.from_ 10)).getD .skip
set_option maxHeartbeats 25600000 in
set_option maxRecDepth 100000 in
theorem planT (x : CV) (a6 a7 a8 a9 a10 a11 a12 a13 a14 : Option Addr) (c6 c7 c8 c9 c10 c11 c12 c13 c14 : Nat) (st : Int) (w w9 w1 : World) (gp : Nat) (HL ML SL : List Int) (n1 n2 n3 b1 o1 p1 b2 o2 p2 b3 o3 p3 : Nat) (h9 : Hid (w.heap.size + 1 < gp)) (HGP : Hid (w9.heap.size = gp)) (K1 : Hid (∀ (j : Nat) (hj : j < HL.length), w9.cell? ⟨b1, o1 + j, none⟩ = some (.int .i64 HL[j]))) (K2 : Hid (∀ (j : Nat) (hj : j < ML.length), w9.cell? ⟨b2, o2 + j, none⟩ = some (.int .i64 ML[j]))) (K3 : Hid (∀ (j : Nat) (hj : j < SL.length), w9.cell? ⟨b3, o3 + j, none⟩ = some (.int .i64 SL[j]))) (hb1 : b1 < gp) (hb2 : b2 < gp) (hb3 : b3 < gp) (N1 : Hid (HL.length = n1)) (N2 : Hid (ML.length = n2)) (N3 : Hid (SL.length = n3)) (ZB : Hid (Cs (w.heap.size + 1) w9 [.int .i64 0, .int .i64 0, .int .i64 0, .bool false, .int .i64 0, .bool false, .slice none 0 0, .slice none 0 0, .slice none 0 0, .slice none 0 0, .slice none 0 0, .slice none 0 0, .slice none 0 0, .slice none 0 0, .slice none 0 0, .int .i64 0, .int .i64 0, .slice none 0 0])) (B : Hid (Below w.heap.size w w9)) (PB : Hid (Cs gp w1 [.int .i64 x.fq, .int .i64 x.iv, .int .i64 x.ct, .bool x.un, .int .i64 x.ua, .bool x.ut, .slice a6 x.sc.length c6, .slice a7 x.mi.length c7, .slice a8 x.hr.length c8, .slice a9 x.dy.length c9, .slice a10 x.md.length c10, .slice a11 x.yd.length c11, .slice a12 x.wn.length c12, .slice a13 x.mo.length c13, .slice a14 x.sp.length c14, .int .i64 x.wk, .int .i64 st, .slice none 0 0])) (B9 : Hid (Below gp w9 w1)) (H9 : Hid (gp + 1 ≤ w1.heap.size)) (h1 : n1 ≤ 60) (h2 : n2 ≤ 60) (h3 : n3 ≤ 60) (E1 : Hid (∀ n ∈ HL, 0 ≤ n ∧ n ≤ 100)) (E2 : Hid (∀ n ∈ ML, 0 ≤ n ∧ n ≤ 100)) (E3 : Hid (∀ n ∈ SL, 0 ≤ n ∧ n ≤ 100)) (z0 z1 z2 z3 z5 z6 z11 z12 z13 z14 z15 z16 z17 z18 z19 z20 z21 z22 z23 z24 z25 z26 z27 z28 z29 z30 z31 z32 z33 z34 z35 z36 z37 z38 z39 z40 z41 z42 z43 z44 z45 z46 z47 z48 z49 z50 z51 z52 z53 z54 z55 z56 z57 z58 z59 z60 z61 z62 z63 z64 z65 z66 z67 z68 z69 z70 z71 z72 z73 z74 z75 z76 z77 z78 z79 z80 z81 z82 z83 z84 z85 z86 : Value) : Code.wp Tryz.prog planTC (bodyPost Tryz.prog Tryz.f25 (fun e w' => ∃ lv, e = .returned (.agg #[.int .i64 x.fq, .int .i64 x.iv, .int .i64 x.ct, .bool x.un, .int .i64 x.ua, .bool x.ut, .slice a6 x.sc.length c6, .slice a7 x.mi.length c7, .slice a8 x.hr.length c8, .slice a9 x.dy.length c9, .slice a10 x.md.length c10, .slice a11 x.yd.length c11, .slice a12 x.wn.length c12, .slice a13 x.mo.length c13, .slice a14 x.sp.length c14, .int .i64 x.wk, .int .i64 st, lv]) ∧ RowI w.heap.size w' lv (HL.flatMap fun h => ML.flatMap fun m => SL.map (fS h m)) ∧ Below w.heap.size w w')) ⟨List.toArray (z0 :: z1 :: z2 :: z3 :: .pointer (some ⟨w.heap.size + 1, 0, none⟩) :: z5 :: z6 :: .slice (some ⟨b1, o1, none⟩) n1 p1 :: .slice (some ⟨b2, o2, none⟩) n2 p2 :: .slice (some ⟨b3, o3, none⟩) n3 p3 :: .pointer (some ⟨gp, 0, none⟩) :: z11 :: z12 :: z13 :: z14 :: z15 :: z16 :: z17 :: z18 :: z19 :: z20 :: z21 :: z22 :: z23 :: z24 :: z25 :: z26 :: z27 :: z28 :: z29 :: z30 :: z31 :: z32 :: z33 :: z34 :: z35 :: z36 :: z37 :: z38 :: z39 :: z40 :: z41 :: z42 :: z43 :: z44 :: z45 :: z46 :: z47 :: z48 :: z49 :: z50 :: z51 :: z52 :: z53 :: z54 :: z55 :: z56 :: z57 :: z58 :: z59 :: z60 :: z61 :: z62 :: z63 :: z64 :: z65 :: z66 :: z67 :: z68 :: z69 :: z70 :: z71 :: z72 :: z73 :: z74 :: z75 :: z76 :: z77 :: z78 :: z79 :: z80 :: z81 :: z82 :: z83 :: z84 :: z85 :: z86 :: []), []⟩ w1 := by
  conv => arg 2; whnf
  go_wp2_with fail
  go_loopw [55] (fun iv wr => ∃ (k : Nat) (lv : Value) (A : List Int), k ≤ n1 ∧ iv = .int .i64 k ∧ Hid (A = (HL.take k).flatMap fun h => ML.flatMap fun m => SL.map (fS h m)) ∧ Hid (A.length ≤ k * 3600) ∧ Hid (Cs gp wr [.int .i64 x.fq, .int .i64 x.iv, .int .i64 x.ct, .bool x.un, .int .i64 x.ua, .bool x.ut, .slice a6 x.sc.length c6, .slice a7 x.mi.length c7, .slice a8 x.hr.length c8, .slice a9 x.dy.length c9, .slice a10 x.md.length c10, .slice a11 x.yd.length c11, .slice a12 x.wn.length c12, .slice a13 x.mo.length c13, .slice a14 x.sp.length c14, .int .i64 x.wk, .int .i64 st, lv]) ∧ Hid (RowI (gp + 1) wr lv (A)) ∧ Hid (Below gp w9 wr) ∧ Hid (gp + 1 ≤ wr.heap.size)) (fun iv _ => n1 - (intOf iv).toNat)
  case atStart => exact ⟨0, .slice none 0 0, [], Nat.zero_le _, rfl, Lib.hid (by simp), Lib.hid (by simp), PB, Lib.hid (RowI.nil _ _), B9, H9⟩
  case round =>
    obtain ⟨k, lv, A, hk, rfl, HA, HAL, PB, HR, B9, H9⟩ := hrel
    obtain ⟨wo, rfl⟩ : ∃ wo : World, wo = wr := ⟨_, rfl⟩
    by_cases hlt : k < n1
    · have k1L : k < HL.length := by rw [N1.out]; exact hlt
      have g1 := (B9.out.cell (p := ⟨b1, o1 + k, Option.none⟩) hb1).trans (K1.out k k1L)
      obtain ⟨H, hH⟩ : ∃ y, HL[k]'k1L = y := ⟨_, rfl⟩
      have eH := E1.out _ (List.getElem_mem k1L)
      have HA1 : Hid ((HL.take (k + 1)).flatMap (fun h => ML.flatMap fun m => SL.map (fS h m)) = A ++ ML.flatMap fun m => SL.map (fS H m)) := Lib.hid (by rw [take_flat k1L, HA.out, hH])
      rw [hH] at g1 eH
      have EH := Lib.hid eH
      have r1 : b1 < wo.heap.size := Nat.lt_of_lt_of_le hb1 (by have := H9.out; omega)
      clear hH eH HA k1L
      go_wp2_with fail
      clear g1 r1
      go_loopw [61] (fun iv wr => ∃ (j : Nat) (lv2 : Value) (A2 : List Int), j ≤ n2 ∧ iv = .int .i64 j ∧ Hid (A2 = A ++ (ML.take j).flatMap fun m => SL.map (fS H m)) ∧ Hid (A2.length ≤ A.length + j * 60) ∧ Hid (Cs gp wr [.int .i64 x.fq, .int .i64 x.iv, .int .i64 x.ct, .bool x.un, .int .i64 x.ua, .bool x.ut, .slice a6 x.sc.length c6, .slice a7 x.mi.length c7, .slice a8 x.hr.length c8, .slice a9 x.dy.length c9, .slice a10 x.md.length c10, .slice a11 x.yd.length c11, .slice a12 x.wn.length c12, .slice a13 x.mo.length c13, .slice a14 x.sp.length c14, .int .i64 x.wk, .int .i64 st, lv2]) ∧ Hid (RowI (gp + 1) wr lv2 (A2)) ∧ Hid (Below gp w9 wr) ∧ Hid (gp + 1 ≤ wr.heap.size)) (fun iv _ => n2 - (intOf iv).toNat)
      case atStart => exact ⟨0, lv, A, Nat.zero_le _, rfl, Lib.hid (by simp), Lib.hid (by simp), PB, HR, B9, H9⟩
      case round =>
        clear PB HR B9 H9
        obtain ⟨j, lv2, A2, hj, rfl, HA2, HL2, PB, HR, B9, H9⟩ := hrel
        obtain ⟨wp, rfl⟩ : ∃ wo : World, wo = wr := ⟨_, rfl⟩
        by_cases hlt2 : j < n2
        · have k2L : j < ML.length := by rw [N2.out]; exact hlt2
          have g2 := (B9.out.cell (p := ⟨b2, o2 + j, Option.none⟩) hb2).trans (K2.out j k2L)
          obtain ⟨M, hM⟩ : ∃ y, ML[j]'k2L = y := ⟨_, rfl⟩
          have eM := E2.out _ (List.getElem_mem k2L)
          have HB1 : Hid (A ++ (ML.take (j + 1)).flatMap (fun m => SL.map (fS H m)) = A2 ++ SL.map (fS H M)) := Lib.hid (by rw [take_flat k2L, HA2.out, hM, List.append_assoc])
          rw [hM] at g2 eM
          have EM := Lib.hid eM
          have r2 : b2 < wp.heap.size := Nat.lt_of_lt_of_le hb2 (by have := H9.out; omega)
          clear hM eM HA2 k2L
          go_wp2_with fail
          clear g2 r2
          go_loopw [67] (fun iv wr => ∃ (i : Nat) (lv3 : Value) (A3 : List Int), i ≤ n3 ∧ iv = .int .i64 i ∧ Hid (A3 = A2 ++ (SL.take i).map (fS H M)) ∧ Hid (A3.length ≤ A2.length + i) ∧ Hid (Cs gp wr [.int .i64 x.fq, .int .i64 x.iv, .int .i64 x.ct, .bool x.un, .int .i64 x.ua, .bool x.ut, .slice a6 x.sc.length c6, .slice a7 x.mi.length c7, .slice a8 x.hr.length c8, .slice a9 x.dy.length c9, .slice a10 x.md.length c10, .slice a11 x.yd.length c11, .slice a12 x.wn.length c12, .slice a13 x.mo.length c13, .slice a14 x.sp.length c14, .int .i64 x.wk, .int .i64 st, lv3]) ∧ Hid (RowI (gp + 1) wr lv3 (A3)) ∧ Hid (Below gp w9 wr) ∧ Hid (gp + 1 ≤ wr.heap.size)) (fun iv _ => n3 - (intOf iv).toNat)
          case atStart => exact ⟨0, lv2, A2, Nat.zero_le _, rfl, Lib.hid (by simp), Lib.hid (by simp), PB, HR, B9, H9⟩
          case round =>
            clear PB HR B9 H9
            obtain ⟨i, lv3, A3, hi, rfl, HA3, HL3, PB, HR, B9, H9⟩ := hrel
            obtain ⟨wq, rfl⟩ : ∃ wo : World, wo = wr := ⟨_, rfl⟩
            by_cases hlt3 : i < n3
            · have k3L : i < SL.length := by rw [N3.out]; exact hlt3
              have g3 := (B9.out.cell (p := ⟨b3, o3 + i, Option.none⟩) hb3).trans (K3.out i k3L)
              obtain ⟨S, hS⟩ : ∃ y, SL[i]'k3L = y := ⟨_, rfl⟩
              have eS := E3.out _ (List.getElem_mem k3L)
              have HC1 : Hid (A2 ++ (SL.take (i + 1)).map (fS H M) = A3 ++ [H * 3600 + M * 60 + S]) := Lib.hid (by rw [take_map k3L, HA3.out, hS, List.append_assoc]; rfl)
              rw [hS] at g3 eS
              have r3 : b3 < wq.heap.size := Nat.lt_of_lt_of_le hb3 (by have := H9.out; omega)
              have c17 := (PB.out.2 17 _ rfl).1
              obtain ⟨lA, lc, rfl⟩ := HR.out.forms
              have hl : A3.length ≤ 100000000 := by have := HL3.out; have := HL2.out; have := HAL.out; omega
              have hsz := H9.out
              have HN := Lib.hid (own_ne HR.out (Nat.lt_succ_self gp))
              obtain ⟨eS1, eS2⟩ := eS
              obtain ⟨eM1, eM2⟩ := EM.out
              obtain ⟨eH1, eH2⟩ := EH.out
              have w1' : IntKind.i64.wrap (H * 3600) = H * 3600 := IntWalk.i64_in _ (by omega)
              have w2' : IntKind.i64.wrap (M * 60) = M * 60 := IntWalk.i64_in _ (by omega)
              have w3' : IntKind.i64.wrap (H * 3600 + M * 60) = H * 3600 + M * 60 := IntWalk.i64_in _ (by omega)
              have w4' : IntKind.i64.wrap (H * 3600 + M * 60 + S) = H * 3600 + M * 60 + S := IntWalk.i64_in _ (by omega)
              clear hS k3L HA3
              go_wp2_with (at_builtin; refine appIH rfl _ _ rfl (gp + 1) _ A3 rfl HR.out (H * 3600 + M * 60 + S) rfl hl hsz ?_)
              intro wn gg gcap r5 g5 _
              have PB2 := Lib.hid (Cs.grew PB.out g5 HN.out)
              have B92 := Lib.hid (g5.below gp w9 (Nat.le_succ _) B9.out (by omega))
              have H92 := Lib.hid (Nat.le_trans H9.out g5.size)
              have R5 := Lib.hid r5
              have z17 := (PB2.out.2 17 _ rfl).2
              have y17 := (PB2.out.2 17 _ rfl).1
              clear g5 r5 PB HR B9 H9 c17 g3 r3 HN
              go_wp2
              go_roundw
              case rel =>
                have D := PB2.out.set 17 (by simp) (.slice (some ⟨gg, 0, none⟩) (A3.length + 1) gcap)
                simp only [List.set_cons_succ, List.set_cons_zero] at D
                exact ⟨i + 1, _, _, by omega, by go_num, Lib.hid HC1.out.symm, Lib.hid (by have := HL3.out; rw [List.length_append]; simp; omega), Lib.hid D, Lib.hid (Rcp.own_cell R5.out (Nat.lt_succ_self gp) _), Lib.hid (B92.out.setCell (Nat.le_refl _) _), Lib.hid (by simpa [World.setCell] using H92.out)⟩
              case measure => simp [intOf]; omega
            · obtain rfl : i = n3 := by omega
              have HE : Hid (A3 = A ++ (ML.take (j + 1)).flatMap (fun m => SL.map (fS H m))) := Lib.hid (by rw [HB1.out, HA3.out, ← N3.out, List.take_length])
              have HF : Hid (A3.length ≤ A.length + (j + 1) * 60) := Lib.hid (by have := HL3.out; have := HL2.out; omega)
              clear HA3 HL3 HB1
              go_wp2
              go_roundw
              case rel => exact ⟨j + 1, _, _, by omega, by go_num, HE, HF, PB, HR, B9, H9⟩
              case measure => simp [intOf]; omega
        · obtain rfl : j = n2 := by omega
          have HE : Hid (A2 = (HL.take (k + 1)).flatMap fun h => ML.flatMap fun m => SL.map (fS h m)) := Lib.hid (by rw [HA1.out, HA2.out, ← N2.out, List.take_length])
          have HF : Hid (A2.length ≤ (k + 1) * 3600) := Lib.hid (by have := HAL.out; have := HL2.out; omega)
          clear HA2 HL2 HA1
          go_wp2
          go_roundw
          case rel => exact ⟨k + 1, _, _, by omega, by go_num, HE, HF, PB, HR, B9, H9⟩
          case measure => simp [intOf]; omega
    · obtain rfl : k = n1 := by omega
      have HE : Hid (A = HL.flatMap fun h => ML.flatMap fun m => SL.map (fS h m)) := Lib.hid (by rw [HA.out, ← N1.out, List.take_length])
      have ZB2 := Lib.hid (ZB.out.below (by rw [HGP.out]; exact B9.out))
      have hne : Hid (w.heap.size + 1 ≠ gp) := Lib.hid (by have := h9.out; omega)
      have hne2 : Hid (gp ≠ w.heap.size + 1) := Lib.hid (by have := h9.out; omega)
      obtain ⟨lA, lc, rfl⟩ := HR.out.forms
      have BW := Lib.hid (B.out.trans (B9.out.mono (by have := h9.out; omega)))
      clear HA HAL
      go_upto_region 23 with fail
      refine wp_region_lit ?_
      refine ldS PB.out.range rfl Tryz.underlying60 rfl (by kernel_rfl) (by rfl) (by rfl) ?_
      intro K hK
      refine hK _ _ ?_
      refine stS ZB2.out (us := [.int .i64 x.fq, .int .i64 x.iv, .int .i64 x.ct, .bool x.un, .int .i64 x.ua, .bool x.ut, .slice a6 x.sc.length c6, .slice a7 x.mi.length c7, .slice a8 x.hr.length c8, .slice a9 x.dy.length c9, .slice a10 x.md.length c10, .slice a11 x.yd.length c11, .slice a12 x.wn.length c12, .slice a13 x.mo.length c13, .slice a14 x.sp.length c14, .int .i64 x.wk, .int .i64 st, .slice lA A.length lc]) rfl (by simp [Value.oneCell']) rfl (by kernel_rfl) (by rfl) (by rfl) (by rfl) ?_
      intro K hK
      refine hK _ _ ?_
      go_wp2
      have D := Cs.row ZB2.out [.int .i64 x.fq, .int .i64 x.iv, .int .i64 x.ct, .bool x.un, .int .i64 x.ua, .bool x.ut, .slice a6 x.sc.length c6, .slice a7 x.mi.length c7, .slice a8 x.hr.length c8, .slice a9 x.dy.length c9, .slice a10 x.md.length c10, .slice a11 x.yd.length c11, .slice a12 x.wn.length c12, .slice a13 x.mo.length c13, .slice a14 x.sp.length c14, .int .i64 x.wk, .int .i64 st, .slice lA A.length lc] rfl
      refine bodyPost_ret (v := .agg #[.int .i64 x.fq, .int .i64 x.iv, .int .i64 x.ct, .bool x.un, .int .i64 x.ua, .bool x.ut, .slice a6 x.sc.length c6, .slice a7 x.mi.length c7, .slice a8 x.hr.length c8, .slice a9 x.dy.length c9, .slice a10 x.md.length c10, .slice a11 x.yd.length c11, .slice a12 x.wn.length c12, .slice a13 x.mo.length c13, .slice a14 x.sp.length c14, .int .i64 x.wk, .int .i64 st, .slice lA A.length lc]) (res_by D (fun W h => by obtain ⟨t0, t1, t2, t3, t4, t5, t6, t7, t8, t9, t10, t11, t12, t13, t14, t15, t16, t17⟩ := cells18 h; simp [results, Tryz.results25, go_sem, t0, t1, t2, t3, t4, t5, t6, t7, t8, t9, t10, t11, t12, t13, t14, t15, t16, t17])) rfl ?_
      exact ⟨_, rfl, by rw [HE.out.symm]; exact own_less2 (rows_cells (B := gp + 1) (by have := h9.out; omega) [.int .i64 x.fq, .int .i64 x.iv, .int .i64 x.ct, .bool x.un, .int .i64 x.ua, .bool x.ut, .slice a6 x.sc.length c6, .slice a7 x.mi.length c7, .slice a8 x.hr.length c8, .slice a9 x.dy.length c9, .slice a10 x.md.length c10, .slice a11 x.yd.length c11, .slice a12 x.wn.length c12, .slice a13 x.mo.length c13, .slice a14 x.sp.length c14, .int .i64 x.wk, .int .i64 st, .slice lA A.length lc] 0 _ HR.out) (by have := h9.out; omega), below_setCells (by have := h9.out; omega) _ _ _ BW.out⟩
theorem int_at {w : World} {g : Nat} (h : w.heap.size = g) (n : Int) : IntV (w.alloc (Obj.cells #[.int .i64 n] 3)) (.slice (some ⟨g, 0, none⟩) 1 1) [n] := by subst h; exact int_new w n
set_option maxHeartbeats 12800000 in
set_option maxRecDepth 100000 in
theorem plan_to (x : CV) (s6 s7 s8 s9 s10 s11 s12 s13 s14 : Value) (st : Int) (w : World) (hl : LisV w x s6 s7 s8 s9 s10 s11 s12 s13 s14) (hs : Rck.Small x) (h1 : (hrL x st).length ≤ 60) (h2 : (miL x st).length ≤ 60) (h3 : (seL x st).length ≤ 60) (e1 : ∀ n ∈ hrL x st, 0 ≤ n ∧ n ≤ 100) (e2 : ∀ n ∈ miL x st, 0 ≤ n ∧ n ≤ 100) (e3 : ∀ n ∈ seL x st, 0 ≤ n ∧ n ≤ 100) (i1 : -9223372036854775808 ≤ st) (i2 : st ≤ 9223372036854775807) :
    Calls Tryz.prog 25 #[.agg #[.int .i64 x.fq, .int .i64 x.iv, .int .i64 x.ct, .bool x.un, .int .i64 x.ua, .bool x.ut, s6, s7, s8, s9, s10, s11, s12, s13, s14, .int .i64 x.wk], .int .i64 st] w fun e w' => ∃ lv, e = .returned (.agg #[.int .i64 x.fq, .int .i64 x.iv, .int .i64 x.ct, .bool x.un, .int .i64 x.ua, .bool x.ut, s6, s7, s8, s9, s10, s11, s12, s13, s14, .int .i64 x.wk, .int .i64 st, lv]) ∧ RowI w.heap.size w' lv (scL x st) ∧ Below w.heap.size w w' := by
  obtain ⟨a6, c6, rfl⟩ := hl.h6.slice
  obtain ⟨a7, c7, rfl⟩ := hl.h7.slice
  obtain ⟨a8, c8, rfl⟩ := hl.h8.slice
  obtain ⟨a9, c9, rfl⟩ := hl.h9.slice
  obtain ⟨a10, c10, rfl⟩ := hl.h10.slice
  obtain ⟨a11, c11, rfl⟩ := hl.h11.slice
  obtain ⟨a12, c12, rfl⟩ := hl.h12.slice
  obtain ⟨a13, c13, rfl⟩ := hl.h13.slice
  obtain ⟨a14, c14, rfl⟩ := hl.h14.slice
  have L := Lib.hid hl
  have S := Lib.hid hs
  obtain ⟨s, hs'⟩ : ∃ d, st % 86400 = d := ⟨_, rfl⟩
  have sb : 0 ≤ s ∧ s < 86400 := by omega
  obtain ⟨HL, hHL⟩ : ∃ l, hrL x st = l := ⟨_, rfl⟩
  obtain ⟨ML, hML⟩ : ∃ l, miL x st = l := ⟨_, rfl⟩
  obtain ⟨SL, hSL⟩ : ∃ l, seL x st = l := ⟨_, rfl⟩
  have HSC : Hid (scL x st = HL.flatMap fun h => ML.flatMap fun m => SL.map (fS h m)) := Lib.hid (by rw [scL, hHL, hML, hSL])
  rw [hHL] at h1 e1
  rw [hML] at h2 e2
  rw [hSL] at h3 e3
  rw [HSC.out]
  have HH := Lib.hid (show (if 3 < x.fq then orS x.hr (s / 3600) else [0]) = HL by rw [← hHL, hrL, hs'])
  have HM := Lib.hid (show (if 2 < x.fq then orS x.mi (s / 60 % 60) else [0]) = ML by rw [← hML, miL, hs'])
  have HS := Lib.hid (show (if 1 < x.fq then orS x.sc (s % 60) else [0]) = SL by rw [← hSL, seL, hs'])
  have E1 := Lib.hid e1
  have NE : Hid (HL ≠ [] ∧ ML ≠ [] ∧ SL ≠ []) := Lib.hid ⟨by rw [← hHL]; exact hr_ne x st, by rw [← hML]; exact mi_ne x st, by rw [← hSL]; exact se_ne x st⟩
  have E2 := Lib.hid e2
  have E3 := Lib.hid e3
  have hsp := Lib.hid (fun W => Clk.csplit_any st W i1 i2)
  have HSM := Lib.hid hs'
  clear hl hs hs' hHL hML hSL e1 e2 e3 HSC i1 i2
  obtain ⟨sb1, sb2⟩ := sb
  go_enter Tryz.func25, Tryz.ntmps25
  go_upto_region 0 with fail
  go_cut [2, 4] (fun p q wz => p = .pointer (some ⟨w.heap.size, 0, none⟩) ∧ q = .pointer (some ⟨w.heap.size + 1, 0, none⟩) ∧ Hid (Cs w.heap.size wz [.int .i64 x.fq, .int .i64 x.iv, .int .i64 x.ct, .bool x.un, .int .i64 x.ua, .bool x.ut, .slice a6 x.sc.length c6, .slice a7 x.mi.length c7, .slice a8 x.hr.length c8, .slice a9 x.dy.length c9, .slice a10 x.md.length c10, .slice a11 x.yd.length c11, .slice a12 x.wn.length c12, .slice a13 x.mo.length c13, .slice a14 x.sp.length c14, .int .i64 x.wk]) ∧ Hid (Cs (w.heap.size + 1) wz [.int .i64 0, .int .i64 0, .int .i64 0, .bool false, .int .i64 0, .bool false, .slice none 0 0, .slice none 0 0, .slice none 0 0, .slice none 0 0, .slice none 0 0, .slice none 0 0, .slice none 0 0, .slice none 0 0, .slice none 0 0, .int .i64 0, .int .i64 0, .slice none 0 0]) ∧ Hid (Below w.heap.size w wz))
  case first =>
    go_wp2
    go_meet
    exact ⟨rfl, rfl, Lib.hid ((Cs.new w _ _).alloc _), Lib.hid (cs_at (by simp) _ _), Lib.hid (((Below.refl _ _).alloc (Nat.le_refl _) _).alloc (by simp) _)⟩
  case rest =>
  obtain ⟨w1, rfl⟩ : ∃ x : World, x = wc := ⟨_, rfl⟩
  obtain ⟨rfl, rfl, RB, ZB, B⟩ := hcut
  go_upto_region 1 with fail
  go_cut [6] (fun b wz => b = .int .i64 s ∧ Hid (Cs w.heap.size wz [.int .i64 x.fq, .int .i64 x.iv, .int .i64 x.ct, .bool x.un, .int .i64 x.ua, .bool x.ut, .slice a6 x.sc.length c6, .slice a7 x.mi.length c7, .slice a8 x.hr.length c8, .slice a9 x.dy.length c9, .slice a10 x.md.length c10, .slice a11 x.yd.length c11, .slice a12 x.wn.length c12, .slice a13 x.mo.length c13, .slice a14 x.sp.length c14, .int .i64 x.wk]) ∧ Hid (Cs (w.heap.size + 1) wz [.int .i64 0, .int .i64 0, .int .i64 0, .bool false, .int .i64 0, .bool false, .slice none 0 0, .slice none 0 0, .slice none 0 0, .slice none 0 0, .slice none 0 0, .slice none 0 0, .slice none 0 0, .slice none 0 0, .slice none 0 0, .int .i64 0, .int .i64 0, .slice none 0 0]) ∧ Hid (Below w.heap.size w wz))
  case first =>
    go_wp2_with fail
    refine (hsp.out _).mono ?_
    rintro e w3 ⟨rfl, n, rfl⟩
    rw [HSM.out]
    go_wp2
    go_meet
    exact ⟨rfl, Lib.hid (RB.out.drewN n), Lib.hid (ZB.out.drewN n), Lib.hid (bdrew B.out n)⟩
  case rest =>
  obtain ⟨w2, rfl⟩ : ∃ x : World, x = wc := ⟨_, rfl⟩
  clear RB B ZB hsp HSM
  obtain ⟨rfl, RB, ZB, B⟩ := hcut
  go_upto_region 2 with fail
  go_cut [7, 8, 9] (fun a b c wz => IntV wz a [0] ∧ IntV wz b [0] ∧ IntV wz c [0] ∧ Hid (Cs w.heap.size wz [.int .i64 x.fq, .int .i64 x.iv, .int .i64 x.ct, .bool x.un, .int .i64 x.ua, .bool x.ut, .slice a6 x.sc.length c6, .slice a7 x.mi.length c7, .slice a8 x.hr.length c8, .slice a9 x.dy.length c9, .slice a10 x.md.length c10, .slice a11 x.yd.length c11, .slice a12 x.wn.length c12, .slice a13 x.mo.length c13, .slice a14 x.sp.length c14, .int .i64 x.wk]) ∧ Hid (Cs (w.heap.size + 1) wz [.int .i64 0, .int .i64 0, .int .i64 0, .bool false, .int .i64 0, .bool false, .slice none 0 0, .slice none 0 0, .slice none 0 0, .slice none 0 0, .slice none 0 0, .slice none 0 0, .slice none 0 0, .slice none 0 0, .slice none 0 0, .int .i64 0, .int .i64 0, .slice none 0 0]) ∧ Hid (Below w.heap.size w wz))
  case first =>
    go_wp2
    go_meet
    exact ⟨((int_new _ _).below ((Below.refl _ _).alloc (Nat.le_refl _) _)).below ((Below.refl _ _).alloc (Nat.le_refl _) _), (int_at (by simp) _).below ((Below.refl _ _).alloc (Nat.le_refl _) _), int_at (by simp) _, Lib.hid (((RB.out.alloc _).alloc _).alloc _), Lib.hid (((ZB.out.alloc _).alloc _).alloc _), Lib.hid (((B.out.alloc B.out.size _).alloc (by have := B.out.size; simp; omega) _).alloc (by have := B.out.size; simp; omega) _)⟩
  case rest =>
  obtain ⟨w3, rfl⟩ : ∃ x : World, x = wc := ⟨_, rfl⟩
  clear RB B ZB
  obtain ⟨V7, V8, V9, RB, ZB, B⟩ := hcut
  have V7 := Lib.hid V7
  have V8 := Lib.hid V8
  have V9 := Lib.hid V9
  go_upto_region 3 with fail
  go_cut [27] (fun b wz => b = .bool (decide (3 < x.fq)) ∧ Hid (IntV wz u7 [0]) ∧ Hid (IntV wz u8 [0]) ∧ Hid (IntV wz u9 [0]) ∧ Hid (Cs w.heap.size wz [.int .i64 x.fq, .int .i64 x.iv, .int .i64 x.ct, .bool x.un, .int .i64 x.ua, .bool x.ut, .slice a6 x.sc.length c6, .slice a7 x.mi.length c7, .slice a8 x.hr.length c8, .slice a9 x.dy.length c9, .slice a10 x.md.length c10, .slice a11 x.yd.length c11, .slice a12 x.wn.length c12, .slice a13 x.mo.length c13, .slice a14 x.sp.length c14, .int .i64 x.wk]) ∧ Hid (Cs (w.heap.size + 1) wz [.int .i64 0, .int .i64 0, .int .i64 0, .bool false, .int .i64 0, .bool false, .slice none 0 0, .slice none 0 0, .slice none 0 0, .slice none 0 0, .slice none 0 0, .slice none 0 0, .slice none 0 0, .slice none 0 0, .slice none 0 0, .int .i64 0, .int .i64 0, .slice none 0 0]) ∧ Hid (Below w.heap.size w wz))
  case first =>
    have l0 := (RB.out.2 0 _ rfl).1
    clear HH HM HS
    go_wp2
    go_meet
    exact ⟨rfl, V7, V8, V9, RB, ZB, B⟩
  case rest =>
  obtain ⟨w4, rfl⟩ : ∃ x : World, x = wc := ⟨_, rfl⟩
  clear V7 V8 V9 RB B ZB
  obtain ⟨rfl, V7, V8, V9, RB, ZB, B⟩ := hcut
  go_upto_if 27 with fail
  go_cut [7] (fun b wz => Hid (IntV wz b HL) ∧ Hid (IntV wz u8 [0]) ∧ Hid (IntV wz u9 [0]) ∧ Hid (Cs w.heap.size wz [.int .i64 x.fq, .int .i64 x.iv, .int .i64 x.ct, .bool x.un, .int .i64 x.ua, .bool x.ut, .slice a6 x.sc.length c6, .slice a7 x.mi.length c7, .slice a8 x.hr.length c8, .slice a9 x.dy.length c9, .slice a10 x.md.length c10, .slice a11 x.yd.length c11, .slice a12 x.wn.length c12, .slice a13 x.mo.length c13, .slice a14 x.sp.length c14, .int .i64 x.wk]) ∧ Hid (Cs (w.heap.size + 1) wz [.int .i64 0, .int .i64 0, .int .i64 0, .bool false, .int .i64 0, .bool false, .slice none 0 0, .slice none 0 0, .slice none 0 0, .slice none 0 0, .slice none 0 0, .slice none 0 0, .slice none 0 0, .slice none 0 0, .slice none 0 0, .int .i64 0, .int .i64 0, .slice none 0 0]) ∧ Hid (Below w.heap.size w wz))
  case first =>
    by_cases f : 3 < x.fq
    · have HX : Hid (orS x.hr (s / 3600) = HL) := Lib.hid (by rw [← HH.out, if_pos f])
      have lc := (RB.out.2 8 _ rfl).1
      have r1 : s.tdiv 3600 = s / 3600 := Int.tdiv_eq_ediv_of_nonneg sb1
      have LV := Lib.hid (L.out.below B.out)
      clear HH HM HS
      go_wp2_with fail
      refine (os_to _ x.hr (s / 3600) _ LV.out.h8 S.out.hr).mono ?_
      rintro e w5 ⟨v5, rfl, V5, k⟩
      rw [HX.out] at V5
      have V5 := Lib.hid V5
      have RB := Lib.hid (RB.out.below k)
      have ZB := Lib.hid (ZB.out.below k)
      have B := Lib.hid (bstep B.out k)
      have V8 := Lib.hid (V8.out.below k)
      have V9 := Lib.hid (V9.out.below k)
      clear k
      go_wp2
      go_meet
      exact ⟨V5, V8, V9, RB, ZB, B⟩
    · have HX : HL = [0] := by rw [← HH.out, if_neg f]
      have V7' := Lib.hid (show IntV _ u7 HL by rw [HX]; exact V7.out)
      clear HX HH HM HS
      go_wp2
      go_meet
      exact ⟨V7', V8, V9, RB, ZB, B⟩
  case rest =>
  obtain ⟨w5, rfl⟩ : ∃ x : World, x = wc := ⟨_, rfl⟩
  clear V7 V8 V9 RB B ZB
  obtain ⟨V7, V8, V9, RB, ZB, B⟩ := hcut
  go_upto_region 5 with fail
  go_cut [35] (fun b wz => b = .bool (decide (2 < x.fq)) ∧ Hid (IntV wz u7 HL) ∧ Hid (IntV wz u8 [0]) ∧ Hid (IntV wz u9 [0]) ∧ Hid (Cs w.heap.size wz [.int .i64 x.fq, .int .i64 x.iv, .int .i64 x.ct, .bool x.un, .int .i64 x.ua, .bool x.ut, .slice a6 x.sc.length c6, .slice a7 x.mi.length c7, .slice a8 x.hr.length c8, .slice a9 x.dy.length c9, .slice a10 x.md.length c10, .slice a11 x.yd.length c11, .slice a12 x.wn.length c12, .slice a13 x.mo.length c13, .slice a14 x.sp.length c14, .int .i64 x.wk]) ∧ Hid (Cs (w.heap.size + 1) wz [.int .i64 0, .int .i64 0, .int .i64 0, .bool false, .int .i64 0, .bool false, .slice none 0 0, .slice none 0 0, .slice none 0 0, .slice none 0 0, .slice none 0 0, .slice none 0 0, .slice none 0 0, .slice none 0 0, .slice none 0 0, .int .i64 0, .int .i64 0, .slice none 0 0]) ∧ Hid (Below w.heap.size w wz))
  case first =>
    have l0 := (RB.out.2 0 _ rfl).1
    clear HH HM HS
    go_wp2
    go_meet
    exact ⟨rfl, V7, V8, V9, RB, ZB, B⟩
  case rest =>
  obtain ⟨w4, rfl⟩ : ∃ x : World, x = wc := ⟨_, rfl⟩
  clear V7 V8 V9 RB B ZB
  obtain ⟨rfl, V7, V8, V9, RB, ZB, B⟩ := hcut
  go_upto_if 35 with fail
  go_cut [8] (fun b wz => Hid (IntV wz b ML) ∧ Hid (IntV wz u7 HL) ∧ Hid (IntV wz u9 [0]) ∧ Hid (Cs w.heap.size wz [.int .i64 x.fq, .int .i64 x.iv, .int .i64 x.ct, .bool x.un, .int .i64 x.ua, .bool x.ut, .slice a6 x.sc.length c6, .slice a7 x.mi.length c7, .slice a8 x.hr.length c8, .slice a9 x.dy.length c9, .slice a10 x.md.length c10, .slice a11 x.yd.length c11, .slice a12 x.wn.length c12, .slice a13 x.mo.length c13, .slice a14 x.sp.length c14, .int .i64 x.wk]) ∧ Hid (Cs (w.heap.size + 1) wz [.int .i64 0, .int .i64 0, .int .i64 0, .bool false, .int .i64 0, .bool false, .slice none 0 0, .slice none 0 0, .slice none 0 0, .slice none 0 0, .slice none 0 0, .slice none 0 0, .slice none 0 0, .slice none 0 0, .slice none 0 0, .int .i64 0, .int .i64 0, .slice none 0 0]) ∧ Hid (Below w.heap.size w wz))
  case first =>
    by_cases f : 2 < x.fq
    · have HX : Hid (orS x.mi (s / 60 % 60) = ML) := Lib.hid (by rw [← HM.out, if_pos f])
      have lc := (RB.out.2 7 _ rfl).1
      have r1 : s.tdiv 60 = s / 60 := Int.tdiv_eq_ediv_of_nonneg sb1
      have r2 : (s / 60).tmod 60 = s / 60 % 60 := Int.tmod_eq_emod_of_nonneg (by omega)
      have LV := Lib.hid (L.out.below B.out)
      clear HH HM HS
      go_wp2_with fail
      refine (os_to _ x.mi (s / 60 % 60) _ LV.out.h7 S.out.mi).mono ?_
      rintro e w5 ⟨v5, rfl, V5, k⟩
      rw [HX.out] at V5
      have V5 := Lib.hid V5
      have RB := Lib.hid (RB.out.below k)
      have ZB := Lib.hid (ZB.out.below k)
      have B := Lib.hid (bstep B.out k)
      have V7 := Lib.hid (V7.out.below k)
      have V9 := Lib.hid (V9.out.below k)
      clear k
      go_wp2
      go_meet
      exact ⟨V5, V7, V9, RB, ZB, B⟩
    · have HX : ML = [0] := by rw [← HM.out, if_neg f]
      have V8' := Lib.hid (show IntV _ u8 ML by rw [HX]; exact V8.out)
      clear HX HH HM HS
      go_wp2
      go_meet
      exact ⟨V8', V7, V9, RB, ZB, B⟩
  case rest =>
  obtain ⟨w5, rfl⟩ : ∃ x : World, x = wc := ⟨_, rfl⟩
  clear V7 V8 V9 RB B ZB
  obtain ⟨V8, V7, V9, RB, ZB, B⟩ := hcut
  go_upto_region 7 with fail
  go_cut [44] (fun b wz => b = .bool (decide (1 < x.fq)) ∧ Hid (IntV wz u7 HL) ∧ Hid (IntV wz u8 ML) ∧ Hid (IntV wz u9 [0]) ∧ Hid (Cs w.heap.size wz [.int .i64 x.fq, .int .i64 x.iv, .int .i64 x.ct, .bool x.un, .int .i64 x.ua, .bool x.ut, .slice a6 x.sc.length c6, .slice a7 x.mi.length c7, .slice a8 x.hr.length c8, .slice a9 x.dy.length c9, .slice a10 x.md.length c10, .slice a11 x.yd.length c11, .slice a12 x.wn.length c12, .slice a13 x.mo.length c13, .slice a14 x.sp.length c14, .int .i64 x.wk]) ∧ Hid (Cs (w.heap.size + 1) wz [.int .i64 0, .int .i64 0, .int .i64 0, .bool false, .int .i64 0, .bool false, .slice none 0 0, .slice none 0 0, .slice none 0 0, .slice none 0 0, .slice none 0 0, .slice none 0 0, .slice none 0 0, .slice none 0 0, .slice none 0 0, .int .i64 0, .int .i64 0, .slice none 0 0]) ∧ Hid (Below w.heap.size w wz))
  case first =>
    have l0 := (RB.out.2 0 _ rfl).1
    clear HH HM HS
    go_wp2
    go_meet
    exact ⟨rfl, V7, V8, V9, RB, ZB, B⟩
  case rest =>
  obtain ⟨w4, rfl⟩ : ∃ x : World, x = wc := ⟨_, rfl⟩
  clear V7 V8 V9 RB B ZB
  obtain ⟨rfl, V7, V8, V9, RB, ZB, B⟩ := hcut
  go_upto_if 44 with fail
  go_cut [9] (fun b wz => Hid (IntV wz b SL) ∧ Hid (IntV wz u7 HL) ∧ Hid (IntV wz u8 ML) ∧ Hid (Cs w.heap.size wz [.int .i64 x.fq, .int .i64 x.iv, .int .i64 x.ct, .bool x.un, .int .i64 x.ua, .bool x.ut, .slice a6 x.sc.length c6, .slice a7 x.mi.length c7, .slice a8 x.hr.length c8, .slice a9 x.dy.length c9, .slice a10 x.md.length c10, .slice a11 x.yd.length c11, .slice a12 x.wn.length c12, .slice a13 x.mo.length c13, .slice a14 x.sp.length c14, .int .i64 x.wk]) ∧ Hid (Cs (w.heap.size + 1) wz [.int .i64 0, .int .i64 0, .int .i64 0, .bool false, .int .i64 0, .bool false, .slice none 0 0, .slice none 0 0, .slice none 0 0, .slice none 0 0, .slice none 0 0, .slice none 0 0, .slice none 0 0, .slice none 0 0, .slice none 0 0, .int .i64 0, .int .i64 0, .slice none 0 0]) ∧ Hid (Below w.heap.size w wz))
  case first =>
    by_cases f : 1 < x.fq
    · have HX : Hid (orS x.sc (s % 60) = SL) := Lib.hid (by rw [← HS.out, if_pos f])
      have lc := (RB.out.2 6 _ rfl).1
      have r1 : s.tmod 60 = s % 60 := Int.tmod_eq_emod_of_nonneg sb1
      have LV := Lib.hid (L.out.below B.out)
      clear HH HM HS
      go_wp2_with fail
      refine (os_to _ x.sc (s % 60) _ LV.out.h6 S.out.sc).mono ?_
      rintro e w5 ⟨v5, rfl, V5, k⟩
      rw [HX.out] at V5
      have V5 := Lib.hid V5
      have RB := Lib.hid (RB.out.below k)
      have ZB := Lib.hid (ZB.out.below k)
      have B := Lib.hid (bstep B.out k)
      have V7 := Lib.hid (V7.out.below k)
      have V8 := Lib.hid (V8.out.below k)
      clear k
      go_wp2
      go_meet
      exact ⟨V5, V7, V8, RB, ZB, B⟩
    · have HX : SL = [0] := by rw [← HS.out, if_neg f]
      have V9' := Lib.hid (show IntV _ u9 SL by rw [HX]; exact V9.out)
      clear HX HH HM HS
      go_wp2
      go_meet
      exact ⟨V9', V7, V8, RB, ZB, B⟩
  case rest =>
  obtain ⟨w5, rfl⟩ : ∃ x : World, x = wc := ⟨_, rfl⟩
  clear V7 V8 V9 RB B ZB
  obtain ⟨V9, V7, V8, RB, ZB, B⟩ := hcut
  clear HH HM HS sb1 sb2 S L
  go_upto_region 9 with fail
  rename_i KT hKT
  go_cut [10] (fun p wz => ∃ w9 : World, p = .pointer (some ⟨w9.heap.size, 0, none⟩) ∧ Hid (w.heap.size + 1 < w9.heap.size) ∧ Hid (IntV w9 u7 HL) ∧ Hid (IntV w9 u8 ML) ∧ Hid (IntV w9 u9 SL) ∧ Hid (Cs (w.heap.size + 1) w9 [.int .i64 0, .int .i64 0, .int .i64 0, .bool false, .int .i64 0, .bool false, .slice none 0 0, .slice none 0 0, .slice none 0 0, .slice none 0 0, .slice none 0 0, .slice none 0 0, .slice none 0 0, .slice none 0 0, .slice none 0 0, .int .i64 0, .int .i64 0, .slice none 0 0]) ∧ Hid (Below w.heap.size w w9) ∧ Hid (Cs w9.heap.size wz [.int .i64 x.fq, .int .i64 x.iv, .int .i64 x.ct, .bool x.un, .int .i64 x.ua, .bool x.ut, .slice a6 x.sc.length c6, .slice a7 x.mi.length c7, .slice a8 x.hr.length c8, .slice a9 x.dy.length c9, .slice a10 x.md.length c10, .slice a11 x.yd.length c11, .slice a12 x.wn.length c12, .slice a13 x.mo.length c13, .slice a14 x.sp.length c14, .int .i64 x.wk, .int .i64 st, .slice none 0 0]) ∧ Hid (Below w9.heap.size w9 wz) ∧ Hid (w9.heap.size + 1 ≤ wz.heap.size))
  case first =>
    go_wp2_with (refine ldS RB.out.range rfl Tryz.underlying29 rfl (by kernel_rfl) (by rfl) (by rfl) ?_; intro K hK; go_simp)
    go_meet
    exact ⟨_, rfl, Lib.hid ZB.out.1, V7, V8, V9, ZB, B, Lib.hid (Cs.new _ _ _), Lib.hid ((Below.refl _ _).alloc (Nat.le_refl _) _), Lib.hid (by simp)⟩
  case rest =>
  obtain ⟨w10, rfl⟩ : ∃ x : World, x = wc := ⟨_, rfl⟩
  clear V7 V8 V9 RB B ZB
  obtain ⟨w9, rfl, h9, V7, V8, V9, ZB, B, PB, B9, H9⟩ := hcut
  obtain ⟨gp, hgp⟩ : ∃ g, w9.heap.size = g := ⟨_, rfl⟩
  have HGP := Lib.hid hgp
  rw [hgp] at h9 PB B9 H9 ⊢
  clear hgp
  obtain ⟨q1, p1, rfl⟩ := V7.out.slice
  obtain ⟨q2, p2, rfl⟩ := V8.out.slice
  obtain ⟨q3, p3, rfl⟩ := V9.out.slice
  obtain ⟨n1, hn1⟩ : ∃ n, HL.length = n := ⟨_, rfl⟩
  obtain ⟨n2, hn2⟩ : ∃ n, ML.length = n := ⟨_, rfl⟩
  obtain ⟨n3, hn3⟩ : ∃ n, SL.length = n := ⟨_, rfl⟩
  obtain ⟨b1, o1, r1, hv1, hb1, k1⟩ := V7.out.form (Nat.pos_of_ne_zero (mt List.length_eq_zero_iff.1 NE.out.1))
  obtain ⟨b2, o2, r2, hv2, hb2, k2⟩ := V8.out.form (Nat.pos_of_ne_zero (mt List.length_eq_zero_iff.1 NE.out.2.1))
  obtain ⟨b3, o3, r3, hv3, hb3, k3⟩ := V9.out.form (Nat.pos_of_ne_zero (mt List.length_eq_zero_iff.1 NE.out.2.2))
  injection hv1 with hv1 _ _
  injection hv2 with hv2 _ _
  injection hv3 with hv3 _ _
  subst hv1 hv2 hv3
  rw [HGP.out] at hb1 hb2 hb3
  rw [hn1] at h1 ⊢
  rw [hn2] at h2 ⊢
  rw [hn3] at h3 ⊢
  exact hKT _ _ (planT x a6 a7 a8 a9 a10 a11 a12 a13 a14 c6 c7 c8 c9 c10 c11 c12 c13 c14 st w w9 w10 gp HL ML SL n1 n2 n3 b1 o1 p1 b2 o2 p2 b3 o3 p3 h9 HGP (Lib.hid k1) (Lib.hid k2) (Lib.hid k3) hb1 hb2 hb3 (Lib.hid hn1) (Lib.hid hn2) (Lib.hid hn3) ZB B PB B9 H9 h1 h2 h3 E1 E2 E3 _ _ _ _ _ _ _ _ _ _ _ _ _ _ _ _ _ _ _ _ _ _ _ _ _ _ _ _ _ _ _ _ _ _ _ _ _ _ _ _ _ _ _ _ _ _ _ _ _ _ _ _ _ _ _ _ _ _ _ _ _ _ _ _ _ _ _ _ _ _ _ _ _ _ _ _ _ _ _ _ _ _)
end Rru
end Go.Proofs.YtpbbnkgfheafpaaGreatDoor
