/-
  RecurCase in plain words: a rule's text in small letters, and with its parts the other way about, is read as it. (Written by gen/gen_rccm.py.)
-/
import Derived.Test.YtbeefhmnoihmcaaGreatDoorRcbM
namespace Go.Proofs.YtbeefhmnoihmcaaGreatDoor
open Go.RowKit
namespace Rcc
open Rcp Spc Rct Rcb
open Wrd (smL smB smB_lo smB_hi)
open Rcv (CV)
open Rck (ckE ckB frB eiB dyB lsB gtB endB)
open Sol (isDig parseB parseV)
theorem sm_id : ∀ V : List UInt8, (∀ c ∈ V, (c.toNat : Int) < 65 ∨ 90 < (c.toNat : Int)) → smL V = V
  | [], _ => rfl
  | c :: V, h => by
    have ih := sm_id V (fun x hx => h x (List.mem_cons_of_mem _ hx))
    have hc : smB c = c := (h c List.mem_cons_self).elim smB_lo smB_hi
    show smB c :: smL V = c :: V
    rw [hc, ih]
theorem sm_app (A B : List UInt8) : smL (A ++ B) = smL A ++ smL B := List.map_append
theorem sm_cons (c : UInt8) (B : List UInt8) : smL (c :: B) = smB c :: smL B := rfl
theorem sm_join (d : UInt8) (hd : smB d = d) : ∀ Ts : List (List UInt8), smL (Lib.join Ts [d]) = Lib.join (Ts.map smL) [d]
  | [] => by simp [Lib.join, smL]
  | [t] => by rw [Lib.join_one, List.map_cons, List.map_nil, Lib.join_one]
  | t :: u :: r => by
    have e : ∀ a b : List UInt8, ∀ q : List (List UInt8), Lib.join (a :: b :: q) [d] = a ++ d :: Lib.join (b :: q) [d] := fun a b q => by
      rw [Lib.join_cons, Lib.join_cons]; simp [Lib.joinTail]
    rw [e, sm_app, sm_cons, hd, sm_join d hd (u :: r)]
    simp only [List.map_cons]
    rw [e]
theorem dig_lo {c : UInt8} (h : isDig c = true) : (c.toNat : Int) < 65 := by
  rw [isDig, decide_eq_true_eq] at h; omega
theorem sm_it (n : Int) : smL (Lib.itoa n) = Lib.itoa n := sm_id _ (fun c hc => by
  rcases it_ch n c hc with rfl | h
  · exact Or.inl (by decide)
  · exact Or.inl (dig_lo h))
theorem sm_tl {n : Int} (h : 0 ≤ n) : smL (Sol.textL n 0) = Sol.textL n 0 := sm_id _ (fun c hc => Or.inl (dig_lo (List.all_eq_true.1 (tl_all h) c hc)))
theorem sm_il (L : List Int) : smL (Lib.join (L.map Lib.itoa) [44]) = Lib.join (L.map Lib.itoa) [44] := by
  rw [sm_join 44 (by decide), List.map_map]
  congr 1
  exact List.map_congr_left (fun n _ => sm_it n)
theorem sm_dl (L : List (Int × Int)) : smL (Lib.join (L.map dyT) [44]) = Lib.join (L.map fun d => smL (dyT d)) [44] := by
  rw [sm_join 44 (by decide), List.map_map]
  rfl
theorem day_low (k : Nat) (h : k < 7) : (smL (dayL.getD k [])).length = 2 ∧ rwP (smL (dayL.getD k [])) = ((k : Int), true) ∧ ∀ c ∈ smL (dayL.getD k []), c ≠ 44 ∧ c ≠ 59 ∧ c ≠ 61 := by
  have hv : k = 0 ∨ k = 1 ∨ k = 2 ∨ k = 3 ∨ k = 4 ∨ k = 5 ∨ k = 6 := by omega
  rcases hv with rfl | rfl | rfl | rfl | rfl | rfl | rfl <;> decide +kernel
theorem freq_low (k : Nat) (h : k < 7) : rfP (smL (freqL.getD k [])) = (1 + (k : Int), true) := by
  have hv : k = 0 ∨ k = 1 ∨ k = 2 ∨ k = 3 ∨ k = 4 ∨ k = 5 ∨ k = 6 := by omega
  rcases hv with rfl | rfl | rfl | rfl | rfl | rfl | rfl <;> decide +kernel
theorem rd_low {d : Int × Int} (h : 0 ≤ d.2 ∧ d.2 ≤ 6 ∧ -53 ≤ d.1 ∧ d.1 ≤ 53) : rdP (smL (dyT d)) = (d, true) := by
  obtain ⟨a, b⟩ := d
  obtain ⟨h1, h2, h3, h4⟩ := h
  simp only at h1 h2 h3 h4
  obtain ⟨k, rfl⟩ := Int.eq_ofNat_of_zero_le h1
  obtain ⟨l2, e2, _⟩ := day_low k (by omega)
  by_cases h0 : a = 0
  · subst h0
    have e : dyT (0, (k : Int)) = dayL.getD k [] := by rw [dyT]; simp
    rw [e, rdP, l2, if_neg (by omega), if_pos (Or.inr rfl), List.drop_zero, e2]
  · have e : smL (dyT (a, (k : Int))) = Lib.itoa a ++ smL (dayL.getD k []) := by
      have e1 : dyT (a, (k : Int)) = Lib.itoa a ++ dayL.getD k [] := by rw [dyT]; simp [h0]
      rw [e1, sm_app, sm_it]
    have li := it_len (n := a) (by omega) (by omega)
    have hl : (Lib.itoa a ++ smL (dayL.getD k [])).length - 2 = (Lib.itoa a).length := by rw [List.length_append, l2]; omega
    have hll : (Lib.itoa a ++ smL (dayL.getD k [])).length = (Lib.itoa a).length + 2 := by rw [List.length_append, l2]
    rw [e, rdP, if_neg (by omega), hl, List.drop_left, List.take_left, e2, if_neg (by rintro (q | q) <;> first | cases q | omega), it_rs (by omega) (by omega)]
    simp [h0]
theorem dy_lch (d : Int × Int) (h : 0 ≤ d.2 ∧ d.2 ≤ 6) : ∀ c ∈ smL (dyT d), c ≠ 44 := by
  intro c hc
  have q := day_low d.2.toNat (by omega)
  rw [dyT, sm_app, List.mem_append] at hc
  rcases hc with hc | hc
  · split at hc
    · simp [smL] at hc
    · rw [sm_it] at hc; exact (it_ne hc).1
  · exact (q.2.2 c hc).1
theorem rl_low {L : List (Int × Int)} (h0 : L ≠ []) (h : ∀ d ∈ L, 0 ≤ d.2 ∧ d.2 ≤ 6 ∧ -53 ≤ d.1 ∧ d.1 ≤ 53) : rlP rdP (Lib.join (L.map fun d => smL (dyT d)) [44]) = (L, true) :=
  rl_back h0 (fun d hd => rd_low (h d hd)) (fun d hd c hc => dy_lch d ⟨(h d hd).1, (h d hd).2.1⟩ c hc)
/-! ### Parts as a name and a value -/
abbrev It := List UInt8 × List UInt8
def unL : List UInt8 := [85, 78, 84, 73, 76]
def txI (i : It) : List UInt8 := i.1 ++ 61 :: i.2
def lowI (i : It) : List UInt8 := smL i.1 ++ 61 :: (if i.1 = unL then i.2 else smL i.2)
theorem map_opt {P : Prop} [Decidable P] {f : It → List UInt8} {I : It} {R : List It} : ((if P then [I] else []) ++ R).map f = (if P then [f I] else []) ++ R.map f := by
  split <;> simp
theorem pa_optF {P : Prop} [Decidable P] {f : It → List UInt8} {I : It} {R : List It} {N V n : List UInt8} {Ns seen : List (List UInt8)} {y y' : CV} (hsub : ∀ q ∈ seen, q ∈ Ns) (hf : f I = N ++ 61 :: V) (hN : ∀ c ∈ N, c ≠ 61) (hs : smL N = n) (hn : n ∉ Ns) (hr : P → rpP n V y = (y', true)) (hno : ¬ P → y = y') :
    ∃ s', (∀ q ∈ s', q ∈ n :: Ns) ∧ paG (((if P then [I] else []) ++ R).map f) seen y = paG (R.map f) s' y' := by
  rw [map_opt, hf]
  exact pa_opt hsub hN hs hn hr hno
def its (x : CV) : List It :=
  (if True then [([70, 82, 69, 81], freqL.getD (x.fq - 1).toNat [])] else []) ++
  ((if 1 < x.iv then [([73, 78, 84, 69, 82, 86, 65, 76], Sol.textL x.iv 0)] else []) ++
  ((if 0 < x.ct then [([67, 79, 85, 78, 84], Sol.textL x.ct 0)] else []) ++
  ((if x.un = true then [([85, 78, 84, 73, 76], Val.tmS x.ua x.ut)] else []) ++
  ((if x.mo ≠ [] then [([66, 89, 77, 79, 78, 84, 72], Lib.join (x.mo.map Lib.itoa) [44])] else []) ++
  ((if x.wn ≠ [] then [([66, 89, 87, 69, 69, 75, 78, 79], Lib.join (x.wn.map Lib.itoa) [44])] else []) ++
  ((if x.yd ≠ [] then [([66, 89, 89, 69, 65, 82, 68, 65, 89], Lib.join (x.yd.map Lib.itoa) [44])] else []) ++
  ((if x.md ≠ [] then [([66, 89, 77, 79, 78, 84, 72, 68, 65, 89], Lib.join (x.md.map Lib.itoa) [44])] else []) ++
  ((if x.dy ≠ [] then [([66, 89, 68, 65, 89], Lib.join (x.dy.map dyT) [44])] else []) ++
  ((if x.hr ≠ [] then [([66, 89, 72, 79, 85, 82], Lib.join (x.hr.map Lib.itoa) [44])] else []) ++
  ((if x.mi ≠ [] then [([66, 89, 77, 73, 78, 85, 84, 69], Lib.join (x.mi.map Lib.itoa) [44])] else []) ++
  ((if x.sc ≠ [] then [([66, 89, 83, 69, 67, 79, 78, 68], Lib.join (x.sc.map Lib.itoa) [44])] else []) ++
  ((if x.sp ≠ [] then [([66, 89, 83, 69, 84, 80, 79, 83], Lib.join (x.sp.map Lib.itoa) [44])] else []) ++
  ((if x.wk ≠ 1 then [([87, 75, 83, 84], dayL.getD x.wk.toNat [])] else []) ++ [])))))))))))))
def itsR (x : CV) : List It :=
  (if x.wk ≠ 1 then [([87, 75, 83, 84], dayL.getD x.wk.toNat [])] else []) ++
  ((if x.sp ≠ [] then [([66, 89, 83, 69, 84, 80, 79, 83], Lib.join (x.sp.map Lib.itoa) [44])] else []) ++
  ((if x.sc ≠ [] then [([66, 89, 83, 69, 67, 79, 78, 68], Lib.join (x.sc.map Lib.itoa) [44])] else []) ++
  ((if x.mi ≠ [] then [([66, 89, 77, 73, 78, 85, 84, 69], Lib.join (x.mi.map Lib.itoa) [44])] else []) ++
  ((if x.hr ≠ [] then [([66, 89, 72, 79, 85, 82], Lib.join (x.hr.map Lib.itoa) [44])] else []) ++
  ((if x.dy ≠ [] then [([66, 89, 68, 65, 89], Lib.join (x.dy.map dyT) [44])] else []) ++
  ((if x.md ≠ [] then [([66, 89, 77, 79, 78, 84, 72, 68, 65, 89], Lib.join (x.md.map Lib.itoa) [44])] else []) ++
  ((if x.yd ≠ [] then [([66, 89, 89, 69, 65, 82, 68, 65, 89], Lib.join (x.yd.map Lib.itoa) [44])] else []) ++
  ((if x.wn ≠ [] then [([66, 89, 87, 69, 69, 75, 78, 79], Lib.join (x.wn.map Lib.itoa) [44])] else []) ++
  ((if x.mo ≠ [] then [([66, 89, 77, 79, 78, 84, 72], Lib.join (x.mo.map Lib.itoa) [44])] else []) ++
  ((if x.un = true then [([85, 78, 84, 73, 76], Val.tmS x.ua x.ut)] else []) ++
  ((if 0 < x.ct then [([67, 79, 85, 78, 84], Sol.textL x.ct 0)] else []) ++
  ((if 1 < x.iv then [([73, 78, 84, 69, 82, 86, 65, 76], Sol.textL x.iv 0)] else []) ++
  ((if True then [([70, 82, 69, 81], freqL.getD (x.fq - 1).toNat [])] else []) ++ [])))))))))))))
theorem its_map (x : CV) : (its x).map txI = prt x := by
  unfold its prt
  simp only [map_opt, List.map_nil]
  rfl
theorem rev_opt {P : Prop} [Decidable P] {I : It} {R : List It} : ((if P then [I] else []) ++ R).reverse = R.reverse ++ (if P then [I] else []) := by
  split <;> simp
theorem its_rev (x : CV) : (its x).reverse = itsR x := by
  unfold its itsR
  simp only [rev_opt, List.reverse_nil, List.nil_append, List.append_assoc]
  simp only [List.append_nil]
theorem low_back {x : CV} (h : Rgt x) : paG ((its x).map lowI) [] r0 = some x := by
  obtain ⟨fq, iv, ct, un, ua, ut, sc, mi, hr, dy, md, yd, wn, mo, sp, wk⟩ := x
  have hb := h
  obtain ⟨f1, f2, i1, i2, c1, c2, k1, k2, en, hsc, hmi, hhr, hmo, hmd, hyd, hwn, hsp, hdy⟩ := h
  simp only at f1 f2 i1 i2 c1 c2 k1 k2 hsc hmi hhr hmo hmd hyd hwn hsp hdy
  unfold its
  simp only
  obtain ⟨s1, u1, e1⟩ := pa_optF (P := True) (f := lowI) (I := ([70, 82, 69, 81], freqL.getD (fq - 1).toNat [])) (R := _) (N := [102, 114, 101, 113]) (V := smL (freqL.getD (fq - 1).toNat [])) (n := [102, 114, 101, 113]) (Ns := []) (seen := []) (y := r0) (y' := ⟨fq, 1, 0, false, 0, false, [], [], [], [], [], [], [], [], [], 1⟩) (by simp) rfl (by decide) (by decide) (by decide)
    (fun _ => by
      have q := freq_low (fq - 1).toNat (by omega)
      rw [show (1 + ((fq - 1).toNat : Int)) = fq by omega] at q
      generalize smL (freqL.getD (fq - 1).toNat []) = D at q ⊢
      simp [rpP, q, r0]) (fun q => absurd trivial q)
  rw [e1]
  obtain ⟨s2, u2, e2⟩ := pa_optF (P := 1 < iv) (f := lowI) (I := ([73, 78, 84, 69, 82, 86, 65, 76], Sol.textL iv 0)) (R := _) (N := [105, 110, 116, 101, 114, 118, 97, 108]) (V := Sol.textL iv 0) (n := [105, 110, 116, 101, 114, 118, 97, 108]) (Ns := [[102, 114, 101, 113]]) (y := ⟨fq, 1, 0, false, 0, false, [], [], [], [], [], [], [], [], [], 1⟩) (y' := ⟨fq, iv, 0, false, 0, false, [], [], [], [], [], [], [], [], [], 1⟩) u1 (congrArg (fun z => smL [73, 78, 84, 69, 82, 86, 65, 76] ++ 61 :: z) (sm_tl (by omega))) (by decide) (by decide) (by decide)
    (fun q => by simp [rpP, tl_rn (n := iv) (by omega) (by omega)]) (fun q => by rw [show iv = 1 by omega])
  rw [e2]
  obtain ⟨s3, u3, e3⟩ := pa_optF (P := 0 < ct) (f := lowI) (I := ([67, 79, 85, 78, 84], Sol.textL ct 0)) (R := _) (N := [99, 111, 117, 110, 116]) (V := Sol.textL ct 0) (n := [99, 111, 117, 110, 116]) (Ns := ([105, 110, 116, 101, 114, 118, 97, 108] :: [[102, 114, 101, 113]])) (y := ⟨fq, iv, 0, false, 0, false, [], [], [], [], [], [], [], [], [], 1⟩) (y' := ⟨fq, iv, ct, false, 0, false, [], [], [], [], [], [], [], [], [], 1⟩) u2 (congrArg (fun z => smL [67, 79, 85, 78, 84] ++ 61 :: z) (sm_tl (by omega))) (by decide) (by decide) (by decide)
    (fun q => by simp [rpP, tl_rn (n := ct) (by omega) (by omega), q]) (fun q => by rw [show ct = 0 by omega])
  rw [e3]
  obtain ⟨s4, u4, e4⟩ := pa_optF (P := un = true) (f := lowI) (I := ([85, 78, 84, 73, 76], Val.tmS ua ut)) (R := _) (N := [117, 110, 116, 105, 108]) (V := Val.tmS ua ut) (n := [117, 110, 116, 105, 108]) (Ns := ([99, 111, 117, 110, 116] :: ([105, 110, 116, 101, 114, 118, 97, 108] :: [[102, 114, 101, 113]]))) (y := ⟨fq, iv, ct, false, 0, false, [], [], [], [], [], [], [], [], [], 1⟩) (y' := ⟨fq, iv, ct, un, ua, ut, [], [], [], [], [], [], [], [], [], 1⟩) u3 rfl (by decide) (by decide) (by decide)
    (fun q => by
      have t := end_yes hb q
      have p := (Val.pt_back ut t.1 t.2.1).1
      simp [rpP, p, q]) (fun q => by
      have t := end_no hb q
      simp only at t
      rw [t.1, t.2, Bool.eq_false_iff.2 q])
  rw [e4]
  obtain ⟨s5, u5, e5⟩ := pa_optF (P := mo ≠ []) (f := lowI) (I := ([66, 89, 77, 79, 78, 84, 72], Lib.join (mo.map Lib.itoa) [44])) (R := _) (N := [98, 121, 109, 111, 110, 116, 104]) (V := Lib.join (mo.map Lib.itoa) [44]) (n := [98, 121, 109, 111, 110, 116, 104]) (Ns := ([117, 110, 116, 105, 108] :: ([99, 111, 117, 110, 116] :: ([105, 110, 116, 101, 114, 118, 97, 108] :: [[102, 114, 101, 113]])))) (y := ⟨fq, iv, ct, un, ua, ut, [], [], [], [], [], [], [], [], [], 1⟩) (y' := ⟨fq, iv, ct, un, ua, ut, [], [], [], [], [], [], [], mo, [], 1⟩) u4 (congrArg (fun z => smL [66, 89, 77, 79, 78, 84, 72] ++ 61 :: z) (sm_il mo)) (by decide) (by decide) (by decide)
    (fun q => by simp [rpP, rln q (bd_w hmo (by decide) (by decide))]) (fun q => by rw [notnot q])
  rw [e5]
  obtain ⟨s6, u6, e6⟩ := pa_optF (P := wn ≠ []) (f := lowI) (I := ([66, 89, 87, 69, 69, 75, 78, 79], Lib.join (wn.map Lib.itoa) [44])) (R := _) (N := [98, 121, 119, 101, 101, 107, 110, 111]) (V := Lib.join (wn.map Lib.itoa) [44]) (n := [98, 121, 119, 101, 101, 107, 110, 111]) (Ns := ([98, 121, 109, 111, 110, 116, 104] :: ([117, 110, 116, 105, 108] :: ([99, 111, 117, 110, 116] :: ([105, 110, 116, 101, 114, 118, 97, 108] :: [[102, 114, 101, 113]]))))) (y := ⟨fq, iv, ct, un, ua, ut, [], [], [], [], [], [], [], mo, [], 1⟩) (y' := ⟨fq, iv, ct, un, ua, ut, [], [], [], [], [], [], wn, mo, [], 1⟩) u5 (congrArg (fun z => smL [66, 89, 87, 69, 69, 75, 78, 79] ++ 61 :: z) (sm_il wn)) (by decide) (by decide) (by decide)
    (fun q => by simp [rpP, rls q (bd_w hwn (by decide) (by decide))]) (fun q => by rw [notnot q])
  rw [e6]
  obtain ⟨s7, u7, e7⟩ := pa_optF (P := yd ≠ []) (f := lowI) (I := ([66, 89, 89, 69, 65, 82, 68, 65, 89], Lib.join (yd.map Lib.itoa) [44])) (R := _) (N := [98, 121, 121, 101, 97, 114, 100, 97, 121]) (V := Lib.join (yd.map Lib.itoa) [44]) (n := [98, 121, 121, 101, 97, 114, 100, 97, 121]) (Ns := ([98, 121, 119, 101, 101, 107, 110, 111] :: ([98, 121, 109, 111, 110, 116, 104] :: ([117, 110, 116, 105, 108] :: ([99, 111, 117, 110, 116] :: ([105, 110, 116, 101, 114, 118, 97, 108] :: [[102, 114, 101, 113]])))))) (y := ⟨fq, iv, ct, un, ua, ut, [], [], [], [], [], [], wn, mo, [], 1⟩) (y' := ⟨fq, iv, ct, un, ua, ut, [], [], [], [], [], yd, wn, mo, [], 1⟩) u6 (congrArg (fun z => smL [66, 89, 89, 69, 65, 82, 68, 65, 89] ++ 61 :: z) (sm_il yd)) (by decide) (by decide) (by decide)
    (fun q => by simp [rpP, rls q (bd_w hyd (by decide) (by decide))]) (fun q => by rw [notnot q])
  rw [e7]
  obtain ⟨s8, u8, e8⟩ := pa_optF (P := md ≠ []) (f := lowI) (I := ([66, 89, 77, 79, 78, 84, 72, 68, 65, 89], Lib.join (md.map Lib.itoa) [44])) (R := _) (N := [98, 121, 109, 111, 110, 116, 104, 100, 97, 121]) (V := Lib.join (md.map Lib.itoa) [44]) (n := [98, 121, 109, 111, 110, 116, 104, 100, 97, 121]) (Ns := ([98, 121, 121, 101, 97, 114, 100, 97, 121] :: ([98, 121, 119, 101, 101, 107, 110, 111] :: ([98, 121, 109, 111, 110, 116, 104] :: ([117, 110, 116, 105, 108] :: ([99, 111, 117, 110, 116] :: ([105, 110, 116, 101, 114, 118, 97, 108] :: [[102, 114, 101, 113]]))))))) (y := ⟨fq, iv, ct, un, ua, ut, [], [], [], [], [], yd, wn, mo, [], 1⟩) (y' := ⟨fq, iv, ct, un, ua, ut, [], [], [], [], md, yd, wn, mo, [], 1⟩) u7 (congrArg (fun z => smL [66, 89, 77, 79, 78, 84, 72, 68, 65, 89] ++ 61 :: z) (sm_il md)) (by decide) (by decide) (by decide)
    (fun q => by simp [rpP, rls q (bd_w hmd (by decide) (by decide))]) (fun q => by rw [notnot q])
  rw [e8]
  obtain ⟨s9, u9, e9⟩ := pa_optF (P := dy ≠ []) (f := lowI) (I := ([66, 89, 68, 65, 89], Lib.join (dy.map dyT) [44])) (R := _) (N := [98, 121, 100, 97, 121]) (V := Lib.join (dy.map fun d => smL (dyT d)) [44]) (n := [98, 121, 100, 97, 121]) (Ns := ([98, 121, 109, 111, 110, 116, 104, 100, 97, 121] :: ([98, 121, 121, 101, 97, 114, 100, 97, 121] :: ([98, 121, 119, 101, 101, 107, 110, 111] :: ([98, 121, 109, 111, 110, 116, 104] :: ([117, 110, 116, 105, 108] :: ([99, 111, 117, 110, 116] :: ([105, 110, 116, 101, 114, 118, 97, 108] :: [[102, 114, 101, 113]])))))))) (y := ⟨fq, iv, ct, un, ua, ut, [], [], [], [], md, yd, wn, mo, [], 1⟩) (y' := ⟨fq, iv, ct, un, ua, ut, [], [], [], dy, md, yd, wn, mo, [], 1⟩) u8 (congrArg (fun z => smL [66, 89, 68, 65, 89] ++ 61 :: z) (sm_dl dy)) (by decide) (by decide) (by decide)
    (fun q => by simp [rpP, rl_low q hdy]) (fun q => by rw [notnot q])
  rw [e9]
  obtain ⟨s10, u10, e10⟩ := pa_optF (P := hr ≠ []) (f := lowI) (I := ([66, 89, 72, 79, 85, 82], Lib.join (hr.map Lib.itoa) [44])) (R := _) (N := [98, 121, 104, 111, 117, 114]) (V := Lib.join (hr.map Lib.itoa) [44]) (n := [98, 121, 104, 111, 117, 114]) (Ns := ([98, 121, 100, 97, 121] :: ([98, 121, 109, 111, 110, 116, 104, 100, 97, 121] :: ([98, 121, 121, 101, 97, 114, 100, 97, 121] :: ([98, 121, 119, 101, 101, 107, 110, 111] :: ([98, 121, 109, 111, 110, 116, 104] :: ([117, 110, 116, 105, 108] :: ([99, 111, 117, 110, 116] :: ([105, 110, 116, 101, 114, 118, 97, 108] :: [[102, 114, 101, 113]]))))))))) (y := ⟨fq, iv, ct, un, ua, ut, [], [], [], dy, md, yd, wn, mo, [], 1⟩) (y' := ⟨fq, iv, ct, un, ua, ut, [], [], hr, dy, md, yd, wn, mo, [], 1⟩) u9 (congrArg (fun z => smL [66, 89, 72, 79, 85, 82] ++ 61 :: z) (sm_il hr)) (by decide) (by decide) (by decide)
    (fun q => by simp [rpP, rln q (bd_w hhr (by decide) (by decide))]) (fun q => by rw [notnot q])
  rw [e10]
  obtain ⟨s11, u11, e11⟩ := pa_optF (P := mi ≠ []) (f := lowI) (I := ([66, 89, 77, 73, 78, 85, 84, 69], Lib.join (mi.map Lib.itoa) [44])) (R := _) (N := [98, 121, 109, 105, 110, 117, 116, 101]) (V := Lib.join (mi.map Lib.itoa) [44]) (n := [98, 121, 109, 105, 110, 117, 116, 101]) (Ns := ([98, 121, 104, 111, 117, 114] :: ([98, 121, 100, 97, 121] :: ([98, 121, 109, 111, 110, 116, 104, 100, 97, 121] :: ([98, 121, 121, 101, 97, 114, 100, 97, 121] :: ([98, 121, 119, 101, 101, 107, 110, 111] :: ([98, 121, 109, 111, 110, 116, 104] :: ([117, 110, 116, 105, 108] :: ([99, 111, 117, 110, 116] :: ([105, 110, 116, 101, 114, 118, 97, 108] :: [[102, 114, 101, 113]])))))))))) (y := ⟨fq, iv, ct, un, ua, ut, [], [], hr, dy, md, yd, wn, mo, [], 1⟩) (y' := ⟨fq, iv, ct, un, ua, ut, [], mi, hr, dy, md, yd, wn, mo, [], 1⟩) u10 (congrArg (fun z => smL [66, 89, 77, 73, 78, 85, 84, 69] ++ 61 :: z) (sm_il mi)) (by decide) (by decide) (by decide)
    (fun q => by simp [rpP, rln q (bd_w hmi (by decide) (by decide))]) (fun q => by rw [notnot q])
  rw [e11]
  obtain ⟨s12, u12, e12⟩ := pa_optF (P := sc ≠ []) (f := lowI) (I := ([66, 89, 83, 69, 67, 79, 78, 68], Lib.join (sc.map Lib.itoa) [44])) (R := _) (N := [98, 121, 115, 101, 99, 111, 110, 100]) (V := Lib.join (sc.map Lib.itoa) [44]) (n := [98, 121, 115, 101, 99, 111, 110, 100]) (Ns := ([98, 121, 109, 105, 110, 117, 116, 101] :: ([98, 121, 104, 111, 117, 114] :: ([98, 121, 100, 97, 121] :: ([98, 121, 109, 111, 110, 116, 104, 100, 97, 121] :: ([98, 121, 121, 101, 97, 114, 100, 97, 121] :: ([98, 121, 119, 101, 101, 107, 110, 111] :: ([98, 121, 109, 111, 110, 116, 104] :: ([117, 110, 116, 105, 108] :: ([99, 111, 117, 110, 116] :: ([105, 110, 116, 101, 114, 118, 97, 108] :: [[102, 114, 101, 113]]))))))))))) (y := ⟨fq, iv, ct, un, ua, ut, [], mi, hr, dy, md, yd, wn, mo, [], 1⟩) (y' := ⟨fq, iv, ct, un, ua, ut, sc, mi, hr, dy, md, yd, wn, mo, [], 1⟩) u11 (congrArg (fun z => smL [66, 89, 83, 69, 67, 79, 78, 68] ++ 61 :: z) (sm_il sc)) (by decide) (by decide) (by decide)
    (fun q => by simp [rpP, rln q (bd_w hsc (by decide) (by decide))]) (fun q => by rw [notnot q])
  rw [e12]
  obtain ⟨s13, u13, e13⟩ := pa_optF (P := sp ≠ []) (f := lowI) (I := ([66, 89, 83, 69, 84, 80, 79, 83], Lib.join (sp.map Lib.itoa) [44])) (R := _) (N := [98, 121, 115, 101, 116, 112, 111, 115]) (V := Lib.join (sp.map Lib.itoa) [44]) (n := [98, 121, 115, 101, 116, 112, 111, 115]) (Ns := ([98, 121, 115, 101, 99, 111, 110, 100] :: ([98, 121, 109, 105, 110, 117, 116, 101] :: ([98, 121, 104, 111, 117, 114] :: ([98, 121, 100, 97, 121] :: ([98, 121, 109, 111, 110, 116, 104, 100, 97, 121] :: ([98, 121, 121, 101, 97, 114, 100, 97, 121] :: ([98, 121, 119, 101, 101, 107, 110, 111] :: ([98, 121, 109, 111, 110, 116, 104] :: ([117, 110, 116, 105, 108] :: ([99, 111, 117, 110, 116] :: ([105, 110, 116, 101, 114, 118, 97, 108] :: [[102, 114, 101, 113]])))))))))))) (y := ⟨fq, iv, ct, un, ua, ut, sc, mi, hr, dy, md, yd, wn, mo, [], 1⟩) (y' := ⟨fq, iv, ct, un, ua, ut, sc, mi, hr, dy, md, yd, wn, mo, sp, 1⟩) u12 (congrArg (fun z => smL [66, 89, 83, 69, 84, 80, 79, 83] ++ 61 :: z) (sm_il sp)) (by decide) (by decide) (by decide)
    (fun q => by simp [rpP, rls q (bd_w hsp (by decide) (by decide))]) (fun q => by rw [notnot q])
  rw [e13]
  obtain ⟨s14, u14, e14⟩ := pa_optF (P := wk ≠ 1) (f := lowI) (I := ([87, 75, 83, 84], dayL.getD wk.toNat [])) (R := _) (N := [119, 107, 115, 116]) (V := smL (dayL.getD wk.toNat [])) (n := [119, 107, 115, 116]) (Ns := ([98, 121, 115, 101, 116, 112, 111, 115] :: ([98, 121, 115, 101, 99, 111, 110, 100] :: ([98, 121, 109, 105, 110, 117, 116, 101] :: ([98, 121, 104, 111, 117, 114] :: ([98, 121, 100, 97, 121] :: ([98, 121, 109, 111, 110, 116, 104, 100, 97, 121] :: ([98, 121, 121, 101, 97, 114, 100, 97, 121] :: ([98, 121, 119, 101, 101, 107, 110, 111] :: ([98, 121, 109, 111, 110, 116, 104] :: ([117, 110, 116, 105, 108] :: ([99, 111, 117, 110, 116] :: ([105, 110, 116, 101, 114, 118, 97, 108] :: [[102, 114, 101, 113]]))))))))))))) (y := ⟨fq, iv, ct, un, ua, ut, sc, mi, hr, dy, md, yd, wn, mo, sp, 1⟩) (y' := ⟨fq, iv, ct, un, ua, ut, sc, mi, hr, dy, md, yd, wn, mo, sp, wk⟩) u13 rfl (by decide) (by decide) (by decide)
    (fun q => by
      have t := (day_low wk.toNat (by omega)).2.1
      rw [show (wk.toNat : Int) = wk by omega] at t
      generalize smL (dayL.getD wk.toNat []) = D at t ⊢
      simp [rpP, t]) (fun q => by rw [show wk = 1 from Classical.byContradiction q])
  rw [e14]
  rw [List.map_nil, paG]
theorem rev_back {x : CV} (h : Rgt x) : paG ((itsR x).map txI) [] r0 = some x := by
  obtain ⟨fq, iv, ct, un, ua, ut, sc, mi, hr, dy, md, yd, wn, mo, sp, wk⟩ := x
  have hb := h
  obtain ⟨f1, f2, i1, i2, c1, c2, k1, k2, en, hsc, hmi, hhr, hmo, hmd, hyd, hwn, hsp, hdy⟩ := h
  simp only at f1 f2 i1 i2 c1 c2 k1 k2 hsc hmi hhr hmo hmd hyd hwn hsp hdy
  unfold itsR
  simp only
  obtain ⟨s1, u1, e1⟩ := pa_optF (P := wk ≠ 1) (f := txI) (I := ([87, 75, 83, 84], dayL.getD wk.toNat [])) (R := _) (N := [87, 75, 83, 84]) (V := dayL.getD wk.toNat []) (n := [119, 107, 115, 116]) (Ns := []) (seen := []) (y := r0) (y' := ⟨0, 1, 0, false, 0, false, [], [], [], [], [], [], [], [], [], wk⟩) (by simp) rfl (by decide) (by decide) (by decide)
    (fun q => by
      have t := (day_two wk.toNat (by omega)).2.1
      rw [show (wk.toNat : Int) = wk by omega] at t
      generalize dayL.getD wk.toNat [] = D at t ⊢
      simp [rpP, t, r0]) (fun q => by rw [show wk = 1 from Classical.byContradiction q]; rfl)
  rw [e1]
  obtain ⟨s2, u2, e2⟩ := pa_optF (P := sp ≠ []) (f := txI) (I := ([66, 89, 83, 69, 84, 80, 79, 83], Lib.join (sp.map Lib.itoa) [44])) (R := _) (N := [66, 89, 83, 69, 84, 80, 79, 83]) (V := Lib.join (sp.map Lib.itoa) [44]) (n := [98, 121, 115, 101, 116, 112, 111, 115]) (Ns := [[119, 107, 115, 116]]) (y := ⟨0, 1, 0, false, 0, false, [], [], [], [], [], [], [], [], [], wk⟩) (y' := ⟨0, 1, 0, false, 0, false, [], [], [], [], [], [], [], [], sp, wk⟩) u1 rfl (by decide) (by decide) (by decide)
    (fun q => by simp [rpP, rls q (bd_w hsp (by decide) (by decide))]) (fun q => by rw [notnot q])
  rw [e2]
  obtain ⟨s3, u3, e3⟩ := pa_optF (P := sc ≠ []) (f := txI) (I := ([66, 89, 83, 69, 67, 79, 78, 68], Lib.join (sc.map Lib.itoa) [44])) (R := _) (N := [66, 89, 83, 69, 67, 79, 78, 68]) (V := Lib.join (sc.map Lib.itoa) [44]) (n := [98, 121, 115, 101, 99, 111, 110, 100]) (Ns := ([98, 121, 115, 101, 116, 112, 111, 115] :: [[119, 107, 115, 116]])) (y := ⟨0, 1, 0, false, 0, false, [], [], [], [], [], [], [], [], sp, wk⟩) (y' := ⟨0, 1, 0, false, 0, false, sc, [], [], [], [], [], [], [], sp, wk⟩) u2 rfl (by decide) (by decide) (by decide)
    (fun q => by simp [rpP, rln q (bd_w hsc (by decide) (by decide))]) (fun q => by rw [notnot q])
  rw [e3]
  obtain ⟨s4, u4, e4⟩ := pa_optF (P := mi ≠ []) (f := txI) (I := ([66, 89, 77, 73, 78, 85, 84, 69], Lib.join (mi.map Lib.itoa) [44])) (R := _) (N := [66, 89, 77, 73, 78, 85, 84, 69]) (V := Lib.join (mi.map Lib.itoa) [44]) (n := [98, 121, 109, 105, 110, 117, 116, 101]) (Ns := ([98, 121, 115, 101, 99, 111, 110, 100] :: ([98, 121, 115, 101, 116, 112, 111, 115] :: [[119, 107, 115, 116]]))) (y := ⟨0, 1, 0, false, 0, false, sc, [], [], [], [], [], [], [], sp, wk⟩) (y' := ⟨0, 1, 0, false, 0, false, sc, mi, [], [], [], [], [], [], sp, wk⟩) u3 rfl (by decide) (by decide) (by decide)
    (fun q => by simp [rpP, rln q (bd_w hmi (by decide) (by decide))]) (fun q => by rw [notnot q])
  rw [e4]
  obtain ⟨s5, u5, e5⟩ := pa_optF (P := hr ≠ []) (f := txI) (I := ([66, 89, 72, 79, 85, 82], Lib.join (hr.map Lib.itoa) [44])) (R := _) (N := [66, 89, 72, 79, 85, 82]) (V := Lib.join (hr.map Lib.itoa) [44]) (n := [98, 121, 104, 111, 117, 114]) (Ns := ([98, 121, 109, 105, 110, 117, 116, 101] :: ([98, 121, 115, 101, 99, 111, 110, 100] :: ([98, 121, 115, 101, 116, 112, 111, 115] :: [[119, 107, 115, 116]])))) (y := ⟨0, 1, 0, false, 0, false, sc, mi, [], [], [], [], [], [], sp, wk⟩) (y' := ⟨0, 1, 0, false, 0, false, sc, mi, hr, [], [], [], [], [], sp, wk⟩) u4 rfl (by decide) (by decide) (by decide)
    (fun q => by simp [rpP, rln q (bd_w hhr (by decide) (by decide))]) (fun q => by rw [notnot q])
  rw [e5]
  obtain ⟨s6, u6, e6⟩ := pa_optF (P := dy ≠ []) (f := txI) (I := ([66, 89, 68, 65, 89], Lib.join (dy.map dyT) [44])) (R := _) (N := [66, 89, 68, 65, 89]) (V := Lib.join (dy.map dyT) [44]) (n := [98, 121, 100, 97, 121]) (Ns := ([98, 121, 104, 111, 117, 114] :: ([98, 121, 109, 105, 110, 117, 116, 101] :: ([98, 121, 115, 101, 99, 111, 110, 100] :: ([98, 121, 115, 101, 116, 112, 111, 115] :: [[119, 107, 115, 116]]))))) (y := ⟨0, 1, 0, false, 0, false, sc, mi, hr, [], [], [], [], [], sp, wk⟩) (y' := ⟨0, 1, 0, false, 0, false, sc, mi, hr, dy, [], [], [], [], sp, wk⟩) u5 rfl (by decide) (by decide) (by decide)
    (fun q => by simp [rpP, rld q hdy]) (fun q => by rw [notnot q])
  rw [e6]
  obtain ⟨s7, u7, e7⟩ := pa_optF (P := md ≠ []) (f := txI) (I := ([66, 89, 77, 79, 78, 84, 72, 68, 65, 89], Lib.join (md.map Lib.itoa) [44])) (R := _) (N := [66, 89, 77, 79, 78, 84, 72, 68, 65, 89]) (V := Lib.join (md.map Lib.itoa) [44]) (n := [98, 121, 109, 111, 110, 116, 104, 100, 97, 121]) (Ns := ([98, 121, 100, 97, 121] :: ([98, 121, 104, 111, 117, 114] :: ([98, 121, 109, 105, 110, 117, 116, 101] :: ([98, 121, 115, 101, 99, 111, 110, 100] :: ([98, 121, 115, 101, 116, 112, 111, 115] :: [[119, 107, 115, 116]])))))) (y := ⟨0, 1, 0, false, 0, false, sc, mi, hr, dy, [], [], [], [], sp, wk⟩) (y' := ⟨0, 1, 0, false, 0, false, sc, mi, hr, dy, md, [], [], [], sp, wk⟩) u6 rfl (by decide) (by decide) (by decide)
    (fun q => by simp [rpP, rls q (bd_w hmd (by decide) (by decide))]) (fun q => by rw [notnot q])
  rw [e7]
  obtain ⟨s8, u8, e8⟩ := pa_optF (P := yd ≠ []) (f := txI) (I := ([66, 89, 89, 69, 65, 82, 68, 65, 89], Lib.join (yd.map Lib.itoa) [44])) (R := _) (N := [66, 89, 89, 69, 65, 82, 68, 65, 89]) (V := Lib.join (yd.map Lib.itoa) [44]) (n := [98, 121, 121, 101, 97, 114, 100, 97, 121]) (Ns := ([98, 121, 109, 111, 110, 116, 104, 100, 97, 121] :: ([98, 121, 100, 97, 121] :: ([98, 121, 104, 111, 117, 114] :: ([98, 121, 109, 105, 110, 117, 116, 101] :: ([98, 121, 115, 101, 99, 111, 110, 100] :: ([98, 121, 115, 101, 116, 112, 111, 115] :: [[119, 107, 115, 116]]))))))) (y := ⟨0, 1, 0, false, 0, false, sc, mi, hr, dy, md, [], [], [], sp, wk⟩) (y' := ⟨0, 1, 0, false, 0, false, sc, mi, hr, dy, md, yd, [], [], sp, wk⟩) u7 rfl (by decide) (by decide) (by decide)
    (fun q => by simp [rpP, rls q (bd_w hyd (by decide) (by decide))]) (fun q => by rw [notnot q])
  rw [e8]
  obtain ⟨s9, u9, e9⟩ := pa_optF (P := wn ≠ []) (f := txI) (I := ([66, 89, 87, 69, 69, 75, 78, 79], Lib.join (wn.map Lib.itoa) [44])) (R := _) (N := [66, 89, 87, 69, 69, 75, 78, 79]) (V := Lib.join (wn.map Lib.itoa) [44]) (n := [98, 121, 119, 101, 101, 107, 110, 111]) (Ns := ([98, 121, 121, 101, 97, 114, 100, 97, 121] :: ([98, 121, 109, 111, 110, 116, 104, 100, 97, 121] :: ([98, 121, 100, 97, 121] :: ([98, 121, 104, 111, 117, 114] :: ([98, 121, 109, 105, 110, 117, 116, 101] :: ([98, 121, 115, 101, 99, 111, 110, 100] :: ([98, 121, 115, 101, 116, 112, 111, 115] :: [[119, 107, 115, 116]])))))))) (y := ⟨0, 1, 0, false, 0, false, sc, mi, hr, dy, md, yd, [], [], sp, wk⟩) (y' := ⟨0, 1, 0, false, 0, false, sc, mi, hr, dy, md, yd, wn, [], sp, wk⟩) u8 rfl (by decide) (by decide) (by decide)
    (fun q => by simp [rpP, rls q (bd_w hwn (by decide) (by decide))]) (fun q => by rw [notnot q])
  rw [e9]
  obtain ⟨s10, u10, e10⟩ := pa_optF (P := mo ≠ []) (f := txI) (I := ([66, 89, 77, 79, 78, 84, 72], Lib.join (mo.map Lib.itoa) [44])) (R := _) (N := [66, 89, 77, 79, 78, 84, 72]) (V := Lib.join (mo.map Lib.itoa) [44]) (n := [98, 121, 109, 111, 110, 116, 104]) (Ns := ([98, 121, 119, 101, 101, 107, 110, 111] :: ([98, 121, 121, 101, 97, 114, 100, 97, 121] :: ([98, 121, 109, 111, 110, 116, 104, 100, 97, 121] :: ([98, 121, 100, 97, 121] :: ([98, 121, 104, 111, 117, 114] :: ([98, 121, 109, 105, 110, 117, 116, 101] :: ([98, 121, 115, 101, 99, 111, 110, 100] :: ([98, 121, 115, 101, 116, 112, 111, 115] :: [[119, 107, 115, 116]]))))))))) (y := ⟨0, 1, 0, false, 0, false, sc, mi, hr, dy, md, yd, wn, [], sp, wk⟩) (y' := ⟨0, 1, 0, false, 0, false, sc, mi, hr, dy, md, yd, wn, mo, sp, wk⟩) u9 rfl (by decide) (by decide) (by decide)
    (fun q => by simp [rpP, rln q (bd_w hmo (by decide) (by decide))]) (fun q => by rw [notnot q])
  rw [e10]
  obtain ⟨s11, u11, e11⟩ := pa_optF (P := un = true) (f := txI) (I := ([85, 78, 84, 73, 76], Val.tmS ua ut)) (R := _) (N := [85, 78, 84, 73, 76]) (V := Val.tmS ua ut) (n := [117, 110, 116, 105, 108]) (Ns := ([98, 121, 109, 111, 110, 116, 104] :: ([98, 121, 119, 101, 101, 107, 110, 111] :: ([98, 121, 121, 101, 97, 114, 100, 97, 121] :: ([98, 121, 109, 111, 110, 116, 104, 100, 97, 121] :: ([98, 121, 100, 97, 121] :: ([98, 121, 104, 111, 117, 114] :: ([98, 121, 109, 105, 110, 117, 116, 101] :: ([98, 121, 115, 101, 99, 111, 110, 100] :: ([98, 121, 115, 101, 116, 112, 111, 115] :: [[119, 107, 115, 116]])))))))))) (y := ⟨0, 1, 0, false, 0, false, sc, mi, hr, dy, md, yd, wn, mo, sp, wk⟩) (y' := ⟨0, 1, 0, un, ua, ut, sc, mi, hr, dy, md, yd, wn, mo, sp, wk⟩) u10 rfl (by decide) (by decide) (by decide)
    (fun q => by
      have t := end_yes hb q
      have p := (Val.pt_back ut t.1 t.2.1).1
      simp [rpP, p, q]) (fun q => by
      have t := end_no hb q
      simp only at t
      rw [t.1, t.2, Bool.eq_false_iff.2 q])
  rw [e11]
  obtain ⟨s12, u12, e12⟩ := pa_optF (P := 0 < ct) (f := txI) (I := ([67, 79, 85, 78, 84], Sol.textL ct 0)) (R := _) (N := [67, 79, 85, 78, 84]) (V := Sol.textL ct 0) (n := [99, 111, 117, 110, 116]) (Ns := ([117, 110, 116, 105, 108] :: ([98, 121, 109, 111, 110, 116, 104] :: ([98, 121, 119, 101, 101, 107, 110, 111] :: ([98, 121, 121, 101, 97, 114, 100, 97, 121] :: ([98, 121, 109, 111, 110, 116, 104, 100, 97, 121] :: ([98, 121, 100, 97, 121] :: ([98, 121, 104, 111, 117, 114] :: ([98, 121, 109, 105, 110, 117, 116, 101] :: ([98, 121, 115, 101, 99, 111, 110, 100] :: ([98, 121, 115, 101, 116, 112, 111, 115] :: [[119, 107, 115, 116]]))))))))))) (y := ⟨0, 1, 0, un, ua, ut, sc, mi, hr, dy, md, yd, wn, mo, sp, wk⟩) (y' := ⟨0, 1, ct, un, ua, ut, sc, mi, hr, dy, md, yd, wn, mo, sp, wk⟩) u11 rfl (by decide) (by decide) (by decide)
    (fun q => by simp [rpP, tl_rn (n := ct) (by omega) (by omega), q]) (fun q => by rw [show ct = 0 by omega])
  rw [e12]
  obtain ⟨s13, u13, e13⟩ := pa_optF (P := 1 < iv) (f := txI) (I := ([73, 78, 84, 69, 82, 86, 65, 76], Sol.textL iv 0)) (R := _) (N := [73, 78, 84, 69, 82, 86, 65, 76]) (V := Sol.textL iv 0) (n := [105, 110, 116, 101, 114, 118, 97, 108]) (Ns := ([99, 111, 117, 110, 116] :: ([117, 110, 116, 105, 108] :: ([98, 121, 109, 111, 110, 116, 104] :: ([98, 121, 119, 101, 101, 107, 110, 111] :: ([98, 121, 121, 101, 97, 114, 100, 97, 121] :: ([98, 121, 109, 111, 110, 116, 104, 100, 97, 121] :: ([98, 121, 100, 97, 121] :: ([98, 121, 104, 111, 117, 114] :: ([98, 121, 109, 105, 110, 117, 116, 101] :: ([98, 121, 115, 101, 99, 111, 110, 100] :: ([98, 121, 115, 101, 116, 112, 111, 115] :: [[119, 107, 115, 116]])))))))))))) (y := ⟨0, 1, ct, un, ua, ut, sc, mi, hr, dy, md, yd, wn, mo, sp, wk⟩) (y' := ⟨0, iv, ct, un, ua, ut, sc, mi, hr, dy, md, yd, wn, mo, sp, wk⟩) u12 rfl (by decide) (by decide) (by decide)
    (fun q => by simp [rpP, tl_rn (n := iv) (by omega) (by omega)]) (fun q => by rw [show iv = 1 by omega])
  rw [e13]
  obtain ⟨s14, u14, e14⟩ := pa_optF (P := True) (f := txI) (I := ([70, 82, 69, 81], freqL.getD (fq - 1).toNat [])) (R := _) (N := [70, 82, 69, 81]) (V := freqL.getD (fq - 1).toNat []) (n := [102, 114, 101, 113]) (Ns := ([105, 110, 116, 101, 114, 118, 97, 108] :: ([99, 111, 117, 110, 116] :: ([117, 110, 116, 105, 108] :: ([98, 121, 109, 111, 110, 116, 104] :: ([98, 121, 119, 101, 101, 107, 110, 111] :: ([98, 121, 121, 101, 97, 114, 100, 97, 121] :: ([98, 121, 109, 111, 110, 116, 104, 100, 97, 121] :: ([98, 121, 100, 97, 121] :: ([98, 121, 104, 111, 117, 114] :: ([98, 121, 109, 105, 110, 117, 116, 101] :: ([98, 121, 115, 101, 99, 111, 110, 100] :: ([98, 121, 115, 101, 116, 112, 111, 115] :: [[119, 107, 115, 116]]))))))))))))) (y := ⟨0, iv, ct, un, ua, ut, sc, mi, hr, dy, md, yd, wn, mo, sp, wk⟩) (y' := ⟨fq, iv, ct, un, ua, ut, sc, mi, hr, dy, md, yd, wn, mo, sp, wk⟩) u13 rfl (by decide) (by decide) (by decide)
    (fun _ => by
      have q := (freq_back (fq - 1).toNat (by omega)).1
      rw [show (1 + ((fq - 1).toNat : Int)) = fq by omega] at q
      generalize freqL.getD (fq - 1).toNat [] = D at q ⊢
      simp [rpP, q]) (fun q => absurd trivial q)
  rw [e14]
  rw [List.map_nil, paG]
/-! ### The law's pass over the text -/
/-- What has been written in small letters; the parts that are done, the last one first; the part under way; is this a time? -/
structure St where
  sm : List UInt8
  tu : List UInt8
  pa : List UInt8
  va : Bool
def stp (s : St) (c : UInt8) : St :=
  if c = 59 then ⟨s.sm ++ [c], 59 :: (s.pa ++ s.tu), [], false⟩
  else if c = 61 then ⟨s.sm ++ [if decide (s.pa = unL) = true then c else smB c], s.tu, s.pa ++ [c], decide (s.pa = unL)⟩
  else ⟨s.sm ++ [if s.va = true then c else smB c], s.tu, s.pa ++ [c], s.va⟩
theorem st_plain : ∀ (V : List UInt8) (s : St), (∀ c ∈ V, c ≠ 59 ∧ c ≠ 61) → V.foldl stp s = ⟨s.sm ++ (if s.va = true then V else smL V), s.tu, s.pa ++ V, s.va⟩
  | [], s, _ => by simp [smL]
  | c :: V, s, h => by
    have hc := h c List.mem_cons_self
    rw [List.foldl_cons, st_plain V _ (fun x hx => h x (List.mem_cons_of_mem _ hx)), stp, if_neg hc.1, if_neg hc.2]
    cases hv : s.va <;> simp [smL]
def Gd (i : It) : Prop := (∀ c ∈ i.1, c ≠ 59 ∧ c ≠ 61) ∧ ∀ c ∈ i.2, c ≠ 59 ∧ c ≠ 61
theorem st_item (i : It) (sm tu : List UInt8) (h : Gd i) : (txI i).foldl stp ⟨sm, tu, [], false⟩ = ⟨sm ++ lowI i, tu, txI i, decide (i.1 = unL)⟩ := by
  obtain ⟨N, V⟩ := i
  rw [txI, List.foldl_append, st_plain N _ h.1, List.foldl_cons, stp, if_neg (by decide), if_pos rfl, st_plain V _ h.2]
  have e : smB 61 = 61 := by decide
  by_cases hu : N = unL
  · simp [hu, lowI]
  · simp [hu, lowI, e]
theorem join_two (d : UInt8) (a b : List UInt8) (q : List (List UInt8)) : Lib.join (a :: b :: q) [d] = a ++ d :: Lib.join (b :: q) [d] := by
  rw [Lib.join_cons, Lib.join_cons]; simp [Lib.joinTail]
theorem join_end (d : UInt8) : ∀ (l : List (List UInt8)) (x : List UInt8), l ≠ [] → Lib.join (l ++ [x]) [d] = Lib.join l [d] ++ d :: x
  | [], _, h => absurd rfl h
  | [t], x, _ => by rw [List.singleton_append, join_two, Lib.join_one, Lib.join_one]
  | t :: u :: r, x, _ => by
    rw [List.cons_append, List.cons_append, join_two, ← List.cons_append, join_end d (u :: r) x (by simp), join_two]
    simp
theorem st_items : ∀ (Is : List It) (sm tu : List UInt8), Is ≠ [] → (∀ i ∈ Is, Gd i) → ∃ tu' pa va, (Lib.join (Is.map txI) [59]).foldl stp ⟨sm, tu, [], false⟩ = ⟨sm ++ Lib.join (Is.map lowI) [59], tu', pa, va⟩ ∧ pa ++ tu' = Lib.join ((Is.map txI).reverse) [59] ++ tu
  | [], _, _, h, _ => absurd rfl h
  | [i], sm, tu, _, h => by
    refine ⟨tu, txI i, decide (i.1 = unL), ?_, ?_⟩
    · rw [List.map_cons, List.map_nil, Lib.join_one, st_item i sm tu (h i List.mem_cons_self), List.map_cons, List.map_nil, Lib.join_one]
    · simp [Lib.join_one]
  | i :: j :: r, sm, tu, _, h => by
    obtain ⟨tu', pa, va, e1, e2⟩ := st_items (j :: r) (sm ++ lowI i ++ [59]) (59 :: (txI i ++ tu)) (by simp) (fun k hk => h k (List.mem_cons_of_mem _ hk))
    refine ⟨tu', pa, va, ?_, ?_⟩
    · simp only [List.map_cons] at e1 ⊢
      rw [join_two 59 (txI i), List.foldl_append, st_item i sm tu (h i List.mem_cons_self), List.foldl_cons, stp, if_pos rfl, e1, join_two 59 (lowI i)]
      simp
    · rw [e2, List.map_cons (f := txI) (a := i), List.reverse_cons, join_end _ _ _ (by simp)]
      simp
theorem gd_opt {P : Prop} [Decidable P] {I : It} {R : List It} (h : P → Gd I) (hR : ∀ i ∈ R, Gd i) : ∀ i ∈ (if P then [I] else []) ++ R, Gd i := by
  intro q hq
  rcases List.mem_append.1 hq with hq | hq
  · split at hq
    · rename_i hP; rw [List.mem_singleton.1 hq]; exact h hP
    · simp at hq
  · exact hR q hq
theorem gd_num {n : Int} (h0 : 0 ≤ n) : ∀ c ∈ Sol.textL n 0, c ≠ 59 ∧ c ≠ 61 := fun c hc => by
  have q := dig_ne (List.all_eq_true.1 (tl_all h0) c hc)
  exact ⟨q.2.2.2.1, q.2.2.2.2⟩
theorem gd_il (L : List Int) : ∀ c ∈ Lib.join (L.map Lib.itoa) [44], c ≠ 59 ∧ c ≠ 61 := fun c hc => by
  rcases mem_join _ hc with rfl | ⟨t, ht, hc⟩
  · decide
  · obtain ⟨n, _, rfl⟩ := List.mem_map.1 ht
    exact (it_ne hc).2
theorem gd_dl (L : List (Int × Int)) (h : ∀ d ∈ L, 0 ≤ d.2 ∧ d.2 ≤ 6 ∧ -53 ≤ d.1 ∧ d.1 ≤ 53) : ∀ c ∈ Lib.join (L.map dyT) [44], c ≠ 59 ∧ c ≠ 61 := fun c hc => by
  rcases mem_join _ hc with rfl | ⟨t, ht, hc⟩
  · decide
  · obtain ⟨d, hd, rfl⟩ := List.mem_map.1 ht
    exact (dy_ch d ⟨(h d hd).1, (h d hd).2.1⟩ c hc).2
theorem tm_ch2 {t : Int} {u : Bool} (h0 : -62135596800 ≤ t) (h1 : t < 253402300800) : ∀ c ∈ Val.tmS t u, c ≠ 59 ∧ c ≠ 61 := by
  obtain ⟨e, y1, y2, m1, m2, d1, d2, _⟩ := Val.tm_parts h0 h1
  have hd : ∀ {l : List UInt8} {c : UInt8}, l.all isDig = true → c ∈ l → c ≠ 59 ∧ c ≠ 61 := fun hl hc => ⟨(dig_ne (List.all_eq_true.1 hl _ hc)).2.2.2.1, (dig_ne (List.all_eq_true.1 hl _ hc)).2.2.2.2⟩
  intro c hc
  rw [Val.tmS, if_pos e, Val.tmL, Val.tmT] at hc
  have s0 := Int.emod_nonneg t (show (86400 : Int) ≠ 0 by decide)
  simp only [List.mem_append] at hc
  rcases hc with ((((((hc | hc) | hc) | hc) | hc) | hc) | hc) | hc
  · exact hd (Val.tx_all (d := 4) (by omega) (by decide)).1 hc
  · exact hd (Val.a2 (by omega)) hc
  · exact hd (Val.a2 (by omega)) hc
  · rw [List.mem_singleton.1 hc]; decide
  · exact hd (Val.a2 (by omega)) hc
  · exact hd (Val.a2 (by omega)) hc
  · exact hd (Val.a2 (by omega)) hc
  · split at hc
    · rw [List.mem_singleton.1 hc]; decide
    · simp at hc
theorem gd_mk {N V : List UInt8} (h1 : ∀ c ∈ N, c ≠ 59 ∧ c ≠ 61) (h2 : ∀ c ∈ V, c ≠ 59 ∧ c ≠ 61) : Gd (N, V) := ⟨h1, h2⟩
theorem its_gd {x : CV} (h : Rgt x) : ∀ i ∈ its x, Gd i := by
  unfold its
  refine gd_opt (fun _ => gd_mk (by decide) (fun c hc => (freq_back (x.fq - 1).toNat (by have := h.f1; have := h.f2; omega)).2 c hc)) ?_
  refine gd_opt (fun _ => gd_mk (by decide) (gd_num (by have := h.i1; omega))) ?_
  refine gd_opt (fun _ => gd_mk (by decide) (gd_num h.c1)) ?_
  refine gd_opt (fun q => gd_mk (by decide) (tm_ch2 (end_yes h q).1 (end_yes h q).2.1)) ?_
  refine gd_opt (fun _ => gd_mk (by decide) (gd_il _)) ?_
  refine gd_opt (fun _ => gd_mk (by decide) (gd_il _)) ?_
  refine gd_opt (fun _ => gd_mk (by decide) (gd_il _)) ?_
  refine gd_opt (fun _ => gd_mk (by decide) (gd_il _)) ?_
  refine gd_opt (fun _ => gd_mk (by decide) (gd_dl _ h.dy)) ?_
  refine gd_opt (fun _ => gd_mk (by decide) (gd_il _)) ?_
  refine gd_opt (fun _ => gd_mk (by decide) (gd_il _)) ?_
  refine gd_opt (fun _ => gd_mk (by decide) (gd_il _)) ?_
  refine gd_opt (fun _ => gd_mk (by decide) (gd_il _)) ?_
  exact gd_opt (fun _ => gd_mk (by decide) (fun c hc => ((day_two x.wk.toNat (by have := h.k1; have := h.k2; omega)).2.2 c hc).2)) (by simp)
theorem sm_len (V : List UInt8) : (smL V).length = V.length := by simp [smL]
theorem low_len (i : It) : (lowI i).length = (txI i).length := by
  rw [lowI, txI, List.length_append, List.length_append, sm_len, List.length_cons, List.length_cons]
  split
  · rfl
  · rw [sm_len]
theorem smB_59 (c : UInt8) (h : c ≠ 59) : smB c ≠ 59 := by
  intro q
  by_cases hc : 65 ≤ c.toNat ∧ c.toNat ≤ 90
  · rw [smB, if_pos hc] at q
    have := congrArg UInt8.toNat q
    simp at this
    omega
  · rw [smB, if_neg hc] at q; exact h q
theorem low_59 (i : It) (h : Gd i) : ∀ c ∈ lowI i, c ≠ 59 := by
  have hs : ∀ {V : List UInt8}, (∀ c ∈ V, c ≠ 59 ∧ c ≠ 61) → ∀ c ∈ smL V, c ≠ 59 := fun hV c hc => by
    obtain ⟨a, ha, rfl⟩ := List.mem_map.1 hc
    exact smB_59 a (hV a ha).1
  intro c hc
  rw [lowI, List.mem_append, List.mem_cons] at hc
  rcases hc with hc | rfl | hc
  · exact hs h.1 c hc
  · decide
  · split at hc
    · exact (h.2 c hc).1
    · exact hs h.2 c hc
/-- Behind the pass over the text of a right rule: the text in small letters, and the parts the other way about, are read as it. -/
theorem case_all {x : CV} (h : ckE x = 0) (hl : Len3 x) : ∃ T, txP x = (T, 0) ∧ T.length ≤ 100000 ∧ ∃ sm tu pa va, T.foldl stp ⟨[], [], [], false⟩ = ⟨sm, tu, pa, va⟩ ∧ pxP sm = (x, 0) ∧ pxP (pa ++ tu) = (x, 0) ∧ sm.length ≤ 100000 ∧ (pa ++ tu).length ≤ 100000 ∧ (∀ q ∈ spG 59 [] sm, q.length ≤ 10000) ∧ ∀ q ∈ spG 59 [] (pa ++ tu), q.length ≤ 10000 := by
  have hr := Rgt.of h
  have hf := prt_fit hr hl
  have hg := its_gd hr
  have hne : its x ≠ [] := fun e => prt_ne x (by rw [← its_map, e]; rfl)
  obtain ⟨tu, pa, va, e1, e2⟩ := st_items (its x) [] [] hne hg
  rw [its_map] at e1 e2
  rw [List.append_nil] at e2
  have hn := prt_len x
  have hn2 : (its x).length ≤ 14 := by have := prt_len x; rw [← its_map, List.length_map] at this; exact this
  have hlo : ∀ q ∈ (its x).map lowI, (∀ c ∈ q, c ≠ 59) ∧ q.length ≤ 7100 := fun q hq => by
    obtain ⟨i, hi, rfl⟩ := List.mem_map.1 hq
    refine ⟨low_59 i (hg i hi), ?_⟩
    rw [low_len]
    exact (hf (txI i) (by rw [← its_map]; exact List.mem_map_of_mem hi)).2
  have s1 : spG 59 [] (Lib.join ((its x).map lowI) [59]) = (its x).map lowI := sp_joined _ (by simpa using hne) (fun t ht => (hlo t ht).1)
  have s2 : spG 59 [] (Lib.join (prt x).reverse [59]) = (prt x).reverse := sp_joined _ (by simpa using prt_ne x) (fun t ht => (hf t (List.mem_reverse.1 ht)).1)
  have m1 : 14 * (7100 + 1) ≤ 100000 := by decide
  refine ⟨_, tx_eq h, ?_, _, _, _, _, e1, ?_, ?_, ?_, ?_, ?_, ?_⟩
  · have q := join_le 59 7100 (prt x) (fun t ht => (hf t ht).2)
    have := Nat.mul_le_mul hn (Nat.le_refl (7100 + 1))
    omega
  · rw [List.nil_append, pxP, s1, low_back hr]
    simp only
    rw [if_pos h]
  · rw [e2, pxP, s2, ← its_map, ← List.map_reverse, its_rev, rev_back hr]
    simp only
    rw [if_pos h]
  · rw [List.nil_append]
    have q := join_le 59 7100 ((its x).map lowI) (fun t ht => (hlo t ht).2)
    rw [List.length_map] at q
    have := Nat.mul_le_mul hn2 (Nat.le_refl (7100 + 1))
    omega
  · rw [e2]
    have q := join_le 59 7100 (prt x).reverse (fun t ht => (hf t (List.mem_reverse.1 ht)).2)
    rw [List.length_reverse] at q
    have := Nat.mul_le_mul hn (Nat.le_refl (7100 + 1))
    omega
  · rw [List.nil_append, s1]; exact fun q hq => by have := (hlo q hq).2; omega
  · rw [e2, s2]; exact fun q hq => by have := (hf q (List.mem_reverse.1 hq)).2; omega
end Rcc
end Go.Proofs.YtbeefhmnoihmcaaGreatDoor
