/-
  ZoneBent. (Written by gen/gen_zeh.py.)
-/
import Derived.Test.YthefgagmjamdkaaGreatDoorZeW
import Derived.Test.YthefgagmjamdkaaGreatDoorZeH
namespace Go.Proofs.YthefgagmjamdkaaGreatDoor
open Go.RowKit
namespace Zon
open Sol Clk Cel Rul Rs

theorem uu_mod (n : Int) {k : Int} (h : 1 ≤ k ∧ k ≤ 1000000) : ∃ m, (0 ≤ m ∧ m < k) ∧ Hid ((IntKind.u64.wrap n).tmod k = m ∧ IntKind.i64.wrap m = m) := by
  have u0 : 0 ≤ IntKind.u64.wrap n := by rw [IntKind.wrap_u64]; omega
  have e := Int.tmod_eq_emod_of_nonneg (b := k) u0
  have b : 0 ≤ IntKind.u64.wrap n % k ∧ IntKind.u64.wrap n % k < k := ⟨Int.emod_nonneg _ (by omega), Int.emod_lt_of_pos _ (by omega)⟩
  refine ⟨_, b, Lib.hid ⟨e, ?_⟩⟩
  generalize IntKind.u64.wrap n % k = m at b
  rw [IntKind.wrap_i64]
  omega
def SmE (L : List EV) : Prop := ∀ e ∈ L, e.ru.length ≤ 1000000 ∧ e.fm.length ≤ 1000000
theorem SmE.set {L : List EV} (h : SmE L) (k : Nat) {e : EV} (he : e.ru.length ≤ 1000000 ∧ e.fm.length ≤ 1000000) : SmE (L.set k e) := fun x hx => by
  rcases List.mem_or_eq_of_mem_set hx with h1 | h1
  · exact h x h1
  · rw [h1]; exact he
/-- An era out of order bends the zone. -/
theorem bent_at {NM : List UInt8} {L : List EV} {k : Nat} (hk : k < L.length) (h : eAt L k L[k] = false) : znB NM L = false := by
  rw [znB, erG_no hk hk h]; simp
theorem bent_set {NM : List UInt8} {L : List EV} {k : Nat} {e : EV} (hk : k < L.length) (h : eAt L k e = false) : znB NM (L.set k e) = false := by
  refine bent_at (k := k) (by simpa using hk) ?_
  rw [List.getElem_set_self]
  unfold eAt at h ⊢
  rw [List.length_set]
  exact h
theorem all_of {L : List EV} (h : erG L L.length = true) {k : Nat} (hk : k < L.length) : eAt L k L[k] = true := by
  cases hq : eAt L k L[k] with
  | true => rfl
  | false => rw [erG_no hk hk hq] at h; cases h
/-- One more era behind the last one. -/
theorem bent_more {NM : List UInt8} {L : List EV} (h : erG L L.length = true) (h0 : 0 < L.length) (e : EV) : znB NM (L ++ [e]) = false := by
  have hl : L.length - 1 < L.length := by omega
  have h1 := all_of h hl
  refine bent_at (k := L.length - 1) (by simp; omega) ?_
  rw [List.getElem_append_left hl]
  unfold eAt at h1 ⊢
  rw [decide_eq_true (show L.length - 1 + 1 = L.length by omega)] at h1
  rw [List.length_append, decide_eq_false (by simp; omega)]
  simp only [Bool.and_eq_true, bne_iff_ne, ne_eq, Bool.not_eq_true] at h1
  rw [h1.2]; simp
theorem nm_nil : nameB [] = false := by decide +kernel
theorem fm_ss : Fm.fmtB [37, 115, 37, 115] = false := by decide +kernel
theorem bd_no : bday (-86400) = false := by decide +kernel
/-- As long as operation 10 has not come up. -/
def Bf (S : World → Prop) (up : Array Bool) (x : World) : Prop := up.getD 10 false = false → S x
theorem appOp1 {w : World} {o : Oper} {a : Act} {K : Act → World → Prop} {Q : Exit → Act → World → Prop} (s x : Operand)
    (ho : o.op = .call { callee := .builtin .append, args := #[s, x], argTypes := #[22, 22] })
    (B : Nat) (v : Value) (L : List EV) (M : Nat) (hM : L.length = M) (hs : a.eval s = v) (hown : RowE B w v L) (g : Nat) (e : EV) (hc : Cs g w (erC e)) (hx : a.eval x = .slice (some ⟨g, 0, none⟩) 1 1) (hn : M ≤ 1000) (hB : B ≤ w.heap.size)
    (h : ∀ w' A' c', RowE B w' (.slice A' (M + 1) c') (L ++ [e]) → Below B w w' → (∀ g vs, Cs g w vs → v.ownBlock ≠ some g → Cs g w' vs) → K (a.put o.dst (.slice A' (M + 1) c')) w') : Oper.wp Tryz.prog o a w K Q := by
  obtain ⟨i0, hi0, hz0, hz1, hz2⟩ := info_parts infoE
  have hcell : ∀ j u, (erC e)[j]? = some u → w.cell? ((⟨g, 0, none⟩ : Addr).add j) = some u := fun j u hj => by
    rw [show (⟨g, 0, none⟩ : Addr).add j = ⟨g, j, none⟩ from by simp [Addr.add]; exact fun h => h.symm]
    exact (hc.2 j u hj).1
  obtain ⟨v', w', hrun, h2, h3, h4, h5⟩ := run_append_own_at (P := Tryz.prog) w B 22 o.type 30 i0 _ 13 120 Tryz.underlying22 hi0 hz0 hz1 hz2 rfl (by decide) v M (flt erC L) (by rw [← hM]; exact hown) ⟨g, 0, none⟩ 1 1 (erC e) rfl hcell (erC_one e) (by unfold maxLen; omega) (by omega) hB
  have h2' : RowE B w' v' (L ++ [e]) := by
    unfold RowE RowT
    have e1 : flt erC (L ++ [e]) = flt erC L ++ erC e := by simp [flt]
    rw [e1, List.length_append, hM]
    exact h2
  obtain ⟨A', c', hv⟩ := RowT.forms h2'
  rw [List.length_append, hM, List.length_singleton] at hv
  subst hv
  have hb2 : Below B w w' := (⟨rfl, rfl, rfl, Nat.le_refl _, fun _ _ => rfl⟩ : Below B w w).grown h3 hB (fun k hk => by
    rcases hown.2 with ⟨q, _⟩ | ⟨g, cap, cur, q, q2, _⟩
    · rw [q] at hk; cases hk
    · rw [q] at hk; have hk : g = k := by simpa [Value.ownBlock] using hk
      omega)
  unfold Oper.wp execOp
  simp only [ho, resolve, invoke, builtin, Sem.run_bind, Sem.run_pure, Result.andThen_ok, List.map_toArray, List.map_cons, List.map_nil, hs, hx, hrun]
  exact h w' A' c' h2' hb2 (fun g vs hc hne => Cs.stay hc hb2.size (h3.block g hc.1 (fun e => hne e.symm)))
noncomputable def zbT18C : Code := (Tryz.f4.body.bind (Tl.from_ 18)).getD .skip
set_option maxHeartbeats 25600000 in
set_option maxRecDepth 100000 in
theorem zbT18 (NM NM' : List UInt8) (v v' : Value) (L L' : List EV) (g0 gz : Nat) (w x : World) (HP : Hid (Pow w)) (HA : Hid (Civ.Ahead w)) (HM : Hid (Wrd.MaxL w)) (m : NM.length ≤ 1000) (m' : NM'.length ≤ 1000) (hl : L.length ≤ maxLen) (hl' : L'.length ≤ maxLen) (hb : Hid (SmE L)) (hb' : Hid (SmE L')) (E : Hid (znB NM L = true)) (E' : Hid (znB NM' L' = false)) (C : Hid (Cs g0 x [.string ⟨NM.toArray⟩, v])) (CZ : Hid (Cs gz x [.string ⟨NM'.toArray⟩, v'])) (V : Hid (ErV x v L)) (V' : Hid (ErV x v' L')) (B : Hid (Below w.heap.size w x)) (z0 z1 z2 z4 z5 z6 z8 z9 z10 z11 z12 z13 z14 z15 z16 z17 z18 z19 z20 z21 z22 z23 z24 z25 z26 z27 z28 z29 z30 z31 z32 z33 z34 z35 z36 z37 z38 z39 z40 z41 z42 z43 z44 z45 z46 z47 z48 z49 z50 z51 z52 z53 z54 z55 z56 z57 z58 z59 z60 z61 z62 z63 z64 z65 z66 z67 z68 z69 z70 z71 z72 z73 z74 z75 z76 z77 z78 z79 z80 z81 z82 z83 z84 z85 : Value) : Code.wp Tryz.prog zbT18C (bodyPost Tryz.prog Tryz.f4 (fun e w' => e = .returned (.bool true) ∧ Below w.heap.size w w')) ⟨List.toArray (z0 :: z1 :: z2 :: .pointer (some ⟨g0, 0, none⟩) :: z4 :: z5 :: z6 :: .pointer (some ⟨gz, 0, none⟩) :: z8 :: z9 :: z10 :: z11 :: z12 :: z13 :: z14 :: z15 :: z16 :: z17 :: z18 :: z19 :: z20 :: z21 :: z22 :: z23 :: z24 :: z25 :: z26 :: z27 :: z28 :: z29 :: z30 :: z31 :: z32 :: z33 :: z34 :: z35 :: z36 :: z37 :: z38 :: z39 :: z40 :: z41 :: z42 :: z43 :: z44 :: z45 :: z46 :: z47 :: z48 :: z49 :: z50 :: z51 :: z52 :: z53 :: z54 :: z55 :: z56 :: z57 :: z58 :: z59 :: z60 :: z61 :: z62 :: z63 :: z64 :: z65 :: z66 :: z67 :: z68 :: z69 :: z70 :: z71 :: z72 :: z73 :: z74 :: z75 :: z76 :: z77 :: z78 :: z79 :: z80 :: z81 :: z82 :: z83 :: z84 :: z85 :: []), []⟩ x := by
  conv => arg 2; whnf
  have C1 := Lib.hid C.out.range
  have E0 : Hid ((if znB NM L = true then (0 : Int) else 11) = 0) := Lib.hid (if_pos E.out)
  have E1 : Hid ((if znB NM' L' = true then (0 : Int) else 11) = 11) := Lib.hid (by rw [E'.out]; rfl)
  go_wp2_with (refine ldZ C1.out rfl (by rfl) (by rfl) (by rfl) ?_; intro K2 hK2; go_simp)
  refine (zck_to NM v L 0 _ (HA.out.stays B.out) (HM.out.stays B.out) V.out m hl hb.out E0).mono ?_
  rintro e w1 ⟨rfl, k1⟩
  have D1 := Lib.hid (CZ.out.below k1).range
  have V1 := Lib.hid (RowV.below V'.out k1)
  have B1 := Lib.hid (bstep B.out k1)
  clear k1 C C1 V
  go_wp2_with (refine ldZ D1.out rfl (by rfl) (by rfl) (by rfl) ?_; intro K2 hK2; go_simp)
  refine (zck_to NM' v' L' 11 _ (HA.out.stays B1.out) (HM.out.stays B1.out) V1.out m' hl' hb'.out E1).mono ?_
  rintro e w2 ⟨rfl, k2⟩
  have B2 := Lib.hid (bstep B1.out k2)
  clear k2 D1 V1 B1
  go_wp2_with fail
  refine (wakes10_any _ (HP.out.stays B2.out) (HA.out.stays B2.out) (HM.out.stays B2.out)).mono ?_
  rintro e w3 ⟨rfl, k3⟩
  have B3 := Lib.hid (bstep B2.out k3)
  clear k3
  go_wp2
  go_ret
  exact ⟨rfl, B3.out⟩

set_option maxHeartbeats 25600000 in
set_option maxRecDepth 100000 in
theorem zbent_any (NM : List UInt8) (v : Value) (L : List EV) (at0 how : Int) (w : World) (hp : Pow w) (hA : Civ.Ahead w) (hm : Wrd.MaxL w) (hv : ErV w v L) (m : NM.length ≤ maxLen) (hl : L.length ≤ maxLen) (hbd : ∀ e ∈ L, BdE e) :
    Calls Tryz.prog 4 #[.agg #[.string ⟨NM.toArray⟩, v], .int .i64 at0, .int .i64 how] w fun e w' => e = .returned (.bool true) ∧ Below w.heap.size w w' := by
  obtain ⟨a, c0, rfl⟩ := hv.slice
  obtain ⟨N, hN⟩ : ∃ N, L.length = N := ⟨_, rfl⟩
  have HN := Lib.hid hN
  have V0 := Lib.hid hv
  have HP := Lib.hid hp
  have HA := Lib.hid hA
  have HM := Lib.hid hm
  have HBD := Lib.hid hbd
  rw [hN] at V0 ⊢
  clear hv hN hp hA hm hbd
  have C0 := Lib.hid (Cs.new w [.string ⟨NM.toArray⟩, .slice a N c0] 24)
  have B0 := Lib.hid ((Below.refl w.heap.size w).alloc (Nat.le_refl _) (Obj.cells #[.string ⟨NM.toArray⟩, .slice a N c0] 24))
  have R0 := Lib.hid C0.out.range
  have V1 := Lib.hid (RowV.below V0.out B0.out)
  go_enter Tryz.func4, Tryz.ntmps4
  go_wp2_with (refine ldZ R0.out rfl (by rfl) (by rfl) (by rfl) ?_; intro K2 hK2; go_simp)
  refine (hvz_to NM _ L _ V1.out m hl HBD).mono ?_
  rintro e w1 ⟨⟨bh, rfl, hbh⟩, k1⟩
  have B1 := Lib.hid (bstep B0.out k1)
  have C1 := Lib.hid (C0.out.below k1)
  have V2 := Lib.hid (RowV.below V1.out k1)
  have R1 := Lib.hid C1.out.range
  clear k1 C0 R0 V1
  cases bh with
  | true =>
    go_wp2
    go_ret
    exact ⟨rfl, B1.out⟩
  | false =>
  have LT := Lib.hid (hbh rfl)
  clear hbh
  have m1 : NM.length ≤ 1000 := by have := LT.out.nm; omega
  have lb := LT.out.ln
  rw [HN.out] at lb
  obtain ⟨q, hq⟩ : ∃ q, znB NM L = q := ⟨_, rfl⟩
  have HQ := Lib.hid hq
  clear hq
  go_wp2_with (refine ldZ R1.out rfl (by rfl) (by rfl) (by rfl) ?_; intro K2 hK2; go_simp)
  refine (rzn_to NM _ L q _ V2.out m1 hl (fun e he => by have := LT.out.es e he; omega) HQ).mono ?_
  rintro e w2 ⟨rfl, k2⟩
  have B2 := Lib.hid (bstep B1.out k2)
  have C2 := Lib.hid (C1.out.below k2)
  have V3 := Lib.hid (RowV.below V2.out k2)
  clear k2 C1 R1 V2 B1
  cases q with
  | false =>
    go_wp2
    go_ret
    exact ⟨rfl, B2.out⟩
  | true =>
  have ZQ : nameB NM = true ∧ (1 ≤ L.length ∧ L.length ≤ 30) ∧ erG L L.length = true := by
    have := HQ.out
    rw [znB] at this
    simp only [Bool.and_eq_true, decide_eq_true_eq] at this
    exact ⟨this.1, this.2.1, this.2.2⟩
  obtain ⟨zn, zl, zg⟩ := ZQ
  have ZG := Lib.hid zg
  have h01 : 0 < N := by have := HN.out; omega
  have hn30 : N ≤ 30 := by have := HN.out; omega
  have hn6 : N ≤ 1000000 := by omega
  obtain ⟨b, off, c2, e1, hbl, hrow⟩ := RowV.form V0.out (by rw [HN.out]; exact h01)
  rw [HN.out] at e1
  injection e1 with e1 e2 e3
  subst e1 e3
  have HR := Lib.hid hrow
  clear e2 zl zg hrow
  obtain ⟨wo, rfl⟩ : ∃ x : World, x = w2 := ⟨_, rfl⟩
  go_upto_region 3 with fail
  go_cut [7] (fun p wz => ∃ gz A' c', p = .pointer (some ⟨gz, 0, none⟩) ∧ w.heap.size < gz ∧ Hid (RowE (w.heap.size + 1) wz (.slice A' N c') L) ∧ Hid (Cs gz wz [.string ⟨NM.toArray⟩, .slice A' N c']) ∧ Hid (Cs w.heap.size wz [.string ⟨NM.toArray⟩, .slice (some ⟨b, off, none⟩) N c0] ∧ Below w.heap.size w wz))
  case first =>
    have CO := C2
    have BO := B2
    clear lb
    refine Hr.Walk.region (R := fun _ x => Cs w.heap.size x [.string ⟨NM.toArray⟩, .slice (some ⟨b, off, none⟩) N c0] ∧ Below w.heap.size w x) (by kernel_rfl) ?_
    obtain ⟨w1, hw1⟩ : ∃ z, wo.drew = z := ⟨_, rfl⟩
    have S1 : Hid (Cs w.heap.size w1 [.string ⟨NM.toArray⟩, .slice (some ⟨b, off, none⟩) N c0] ∧ Below w.heap.size w w1) := Lib.hid (by rw [← hw1]; exact ⟨CO.out.drewN 1, below_drewN BO.out 1⟩)
    rw [hw1]
    clear hw1 CO BO
    refine Hr.Walk.take (i := 0) (v := ?va0) (fun x => Cs w.heap.size x [.string ⟨NM.toArray⟩, .slice (some ⟨b, off, none⟩) N c0] ∧ Below w.heap.size w x) (fun _ => True) rfl (by kernel_rfl) (by kernel_rfl) (by kernel_rfl) (fun _ _ _ h => h) (fun _ _ _ _ _ _ => trivial) (fun _ _ _ h => h) (fun _ _ h => h) trivial (Or.inl ⟨by rfl, ?hya0⟩) S1.out S1.out ?resta0
    case hya0 => intro x hx; have q0 := (hx.1.2 0 _ rfl).1; have q1 := (hx.1.2 1 _ rfl).1; clear hx; go_simp; try with_reducible rfl
    (try go_simp)
    refine Hr.Walk.take (i := 1) (v := ?va1) (fun x => Cs w.heap.size x [.string ⟨NM.toArray⟩, .slice (some ⟨b, off, none⟩) N c0] ∧ Below w.heap.size w x) (fun _ => True) rfl (by kernel_rfl) (by kernel_rfl) (by kernel_rfl) (fun _ _ _ h => h) (fun _ _ _ _ _ _ => trivial) (fun _ _ _ h => h) (fun _ _ h => h) trivial (Or.inl ⟨by rfl, ?hya1⟩) S1.out S1.out ?resta1
    case hya1 => intro x hx; have q0 := (hx.1.2 0 _ rfl).1; have q1 := (hx.1.2 1 _ rfl).1; clear hx; go_simp; try with_reducible rfl
    (try go_simp)
    refine Hr.Walk.take (i := 3) (v := ?va3) (fun x => Cs w.heap.size x [.string ⟨NM.toArray⟩, .slice (some ⟨b, off, none⟩) N c0] ∧ Below w.heap.size w x) (fun _ => True) rfl (by kernel_rfl) (by kernel_rfl) (by kernel_rfl) (fun _ _ _ h => h) (fun _ _ _ _ _ _ => trivial) (fun _ _ _ h => h) (fun _ _ h => h) trivial (Or.inl ⟨by rfl, ?hya3⟩) S1.out S1.out ?resta3
    case hya3 => intro x hx; have q0 := (hx.1.2 0 _ rfl).1; have q1 := (hx.1.2 1 _ rfl).1; clear hx; go_simp; try with_reducible rfl
    (try go_simp)
    refine Hr.Walk.take (i := 4) (v := ?va4) (fun x => Cs w.heap.size x [.string ⟨NM.toArray⟩, .slice (some ⟨b, off, none⟩) N c0] ∧ Below w.heap.size w x) (fun _ => True) rfl (by kernel_rfl) (by kernel_rfl) (by kernel_rfl) (fun _ _ _ h => h) (fun _ _ _ _ _ _ => trivial) (fun _ _ _ h => h) (fun _ _ h => h) trivial (Or.inl ⟨by rfl, ?hya4⟩) S1.out S1.out ?resta4
    case hya4 => intro x hx; have q0 := (hx.1.2 0 _ rfl).1; have q1 := (hx.1.2 1 _ rfl).1; clear hx; go_simp; try with_reducible rfl
    (try go_simp)
    refine Hr.Walk.two (i := 2) (j := 7) (by kernel_rfl) rfl rfl (fun K hK => ?_) (fun K hK => ?_)
    · go_simp
      have S2 : Hid (Cs w.heap.size (w1.alloc (Obj.cells #[] 30)) [.string ⟨NM.toArray⟩, .slice (some ⟨b, off, none⟩) N c0] ∧ Below w.heap.size w (w1.alloc (Obj.cells #[] 30))) := Lib.hid ⟨S1.out.1.alloc _, S1.out.2.alloc S1.out.2.size _⟩
      have n2 : w1.heap.size < (w1.alloc (Obj.cells #[] 30)).heap.size := by simp
      have R2 := Lib.hid (RowT.less (RowE.empty w1) (S1.out.1.1))
      refine hK.out _ _ S2.out ?_
      clear hK K
      obtain ⟨w2, hw2⟩ : ∃ z, (w1.alloc (Obj.cells #[] 30)) = z := ⟨_, rfl⟩
      rw [hw2] at S2 n2 R2 ⊢
      clear hw2
      refine Hr.Walk.two (i := 5) (j := 7) (by kernel_rfl) rfl rfl (fun K hK => ?_) (fun K hK => ?_)
      · rw [if_pos (by rfl)]
        refine appOp (.tmp 18) (.tmp 20) rfl (w.heap.size + 1) _ (by rfl) R2.out b off c0 N L HN.out (by rfl) hn6 h01 (S2.out.1.1) (fun j hj => range_below hbl (HR.out j hj) S2.out.2) ?_
        intro w3 A3 c3 rx bx kx
        have S3 : Hid (Cs w.heap.size w3 [.string ⟨NM.toArray⟩, .slice (some ⟨b, off, none⟩) N c0] ∧ Below w.heap.size w w3) := Lib.hid ⟨kx _ _ S2.out.1 (fun q => absurd (Option.some.inj q) (Nat.ne_of_gt S1.out.1.1)), S2.out.2.trans (bx.mono (Nat.le_succ _))⟩
        have R3 := Lib.hid rx
        clear rx bx kx
        refine hK.out _ _ S3.out ?_
        clear hK K
        refine Hr.Walk.take (i := 6) (v := ?vb6) (fun x => Cs w.heap.size x [.string ⟨NM.toArray⟩, .slice (some ⟨b, off, none⟩) N c0] ∧ Below w.heap.size w x) (fun _ => True) rfl (by kernel_rfl) (by kernel_rfl) (by kernel_rfl) (fun _ _ _ h => h) (fun _ _ _ _ _ _ => trivial) (fun _ _ _ h => h) (fun _ _ h => h) trivial (Or.inl ⟨by rfl, ?hyb6⟩) S3.out S3.out ?restb6
        case hyb6 => intro x hx; have q0 := (hx.1.2 0 _ rfl).1; have q1 := (hx.1.2 1 _ rfl).1; clear hx; go_simp; try with_reducible rfl
        (try go_simp)
        refine Hr.Walk.one (i := 7) (by kernel_rfl) rfl (fun K hK => ?_)
        go_simp
        have S4 : Hid (Cs w.heap.size (w3.alloc (Obj.cells #[.string ⟨#[]⟩, .slice none 0 0] 24)) [.string ⟨NM.toArray⟩, .slice (some ⟨b, off, none⟩) N c0] ∧ Below w.heap.size w (w3.alloc (Obj.cells #[.string ⟨#[]⟩, .slice none 0 0] 24))) := Lib.hid ⟨S3.out.1.alloc _, S3.out.2.alloc S3.out.2.size _⟩
        have n4 : w3.heap.size < (w3.alloc (Obj.cells #[.string ⟨#[]⟩, .slice none 0 0] 24)).heap.size := by simp
        have Z4 := Lib.hid (Cs.new w3 [.string ⟨#[]⟩, .slice none 0 0] 24)
        have R4 := Lib.hid (RowT.below R3.out ((Below.refl w3.heap.size w3).alloc (Nat.le_refl _) (Obj.cells #[.string ⟨#[]⟩, .slice none 0 0] 24)))
        refine hK.out _ _ S4.out ?_
        clear hK K
        obtain ⟨w4, hw4⟩ : ∃ z, (w3.alloc (Obj.cells #[.string ⟨#[]⟩, .slice none 0 0] 24)) = z := ⟨_, rfl⟩
        rw [hw4] at S4 n4 Z4 R4 ⊢
        clear hw4
        have GZ : w.heap.size < w3.heap.size := S3.out.1.1
        refine Hr.Walk.one (i := 8) (by kernel_rfl) rfl (fun K hK => ?_)
        have z0 := (Z4.out.2 0 _ rfl).1
        have z1 := (Z4.out.2 0 _ rfl).2
        have z2 := (Z4.out.2 1 _ rfl).1
        have z3 := (Z4.out.2 1 _ rfl).2
        go_simp
        have AP := RowE.apart R4.out HN.out h01 Z4.out
        have ZF := Lib.hid ((Z4.out.set 0 (by simp) (.string ⟨NM.toArray⟩)).set 1 (by simp) (.slice A3 N c3))
        have RF := Lib.hid (RowE.other (i := 1) (RowE.other (i := 0) R4.out AP (.string ⟨NM.toArray⟩)) AP (.slice A3 N c3))
        have SF : Hid (Cs w.heap.size ((w4.setCell ⟨w3.heap.size, 0, none⟩ (.string ⟨NM.toArray⟩)).setCell ⟨w3.heap.size, 1, none⟩ (.slice A3 N c3)) [.string ⟨NM.toArray⟩, .slice (some ⟨b, off, none⟩) N c0] ∧ Below w.heap.size w ((w4.setCell ⟨w3.heap.size, 0, none⟩ (.string ⟨NM.toArray⟩)).setCell ⟨w3.heap.size, 1, none⟩ (.slice A3 N c3))) := Lib.hid ⟨(S4.out.1.other (Nat.ne_of_gt GZ) _).other (Nat.ne_of_gt GZ) _, (S4.out.2.setCell (Nat.le_of_lt GZ) _).setCell (Nat.le_of_lt GZ) _⟩
        refine hK.out _ _ SF.out ?_
        clear hK K z0 z1 z2 z3
        refine Hr.Walk.done (by kernel_rfl) ?_ _
        go_wp2
        go_meet
        exact ⟨w3.heap.size, _, _, rfl, GZ, RF, ZF, SF⟩
      · go_simp
        have S5 : Hid (Cs w.heap.size (w2.alloc (Obj.cells #[.string ⟨#[]⟩, .slice none 0 0] 24)) [.string ⟨NM.toArray⟩, .slice (some ⟨b, off, none⟩) N c0] ∧ Below w.heap.size w (w2.alloc (Obj.cells #[.string ⟨#[]⟩, .slice none 0 0] 24))) := Lib.hid ⟨S2.out.1.alloc _, S2.out.2.alloc S2.out.2.size _⟩
        have n5 : w2.heap.size < (w2.alloc (Obj.cells #[.string ⟨#[]⟩, .slice none 0 0] 24)).heap.size := by simp
        have Z5 := Lib.hid (Cs.new w2 [.string ⟨#[]⟩, .slice none 0 0] 24)
        have R5 := Lib.hid (RowT.below R2.out ((Below.refl w2.heap.size w2).alloc (Nat.le_refl _) (Obj.cells #[.string ⟨#[]⟩, .slice none 0 0] 24)))
        refine hK.out _ _ S5.out ?_
        clear hK K
        obtain ⟨w5, hw5⟩ : ∃ z, (w2.alloc (Obj.cells #[.string ⟨#[]⟩, .slice none 0 0] 24)) = z := ⟨_, rfl⟩
        rw [hw5] at S5 n5 Z5 R5 ⊢
        clear hw5
        refine Hr.Walk.one (i := 5) (by kernel_rfl) rfl (fun K hK => ?_)
        rw [if_pos (by rfl)]
        refine appOp (.tmp 18) (.tmp 20) rfl (w.heap.size + 1) _ (by rfl) R5.out b off c0 N L HN.out (by rfl) hn6 h01 (S5.out.1.1) (fun j hj => range_below hbl (HR.out j hj) S5.out.2) ?_
        intro w6 A6 c6 rx bx kx
        have S6 : Hid (Cs w.heap.size w6 [.string ⟨NM.toArray⟩, .slice (some ⟨b, off, none⟩) N c0] ∧ Below w.heap.size w w6) := Lib.hid ⟨kx _ _ S5.out.1 (fun q => absurd (Option.some.inj q) (Nat.ne_of_gt S1.out.1.1)), S5.out.2.trans (bx.mono (Nat.le_succ _))⟩
        have R6 := Lib.hid rx
        have Z6 := Lib.hid (kx _ _ Z5.out (fun q => absurd (Option.some.inj q) (Nat.ne_of_lt n2)))
        clear rx bx kx
        refine hK.out _ _ S6.out ?_
        clear hK K
        refine Hr.Walk.one (i := 6) (by kernel_rfl) rfl (fun K hK => ?_)
        go_simp
        refine hK.out _ _ S6.out ?_
        clear hK K
        have GZ : w.heap.size < w2.heap.size := S2.out.1.1
        refine Hr.Walk.one (i := 8) (by kernel_rfl) rfl (fun K hK => ?_)
        have z0 := (Z6.out.2 0 _ rfl).1
        have z1 := (Z6.out.2 0 _ rfl).2
        have z2 := (Z6.out.2 1 _ rfl).1
        have z3 := (Z6.out.2 1 _ rfl).2
        go_simp
        have AP := RowE.apart R6.out HN.out h01 Z6.out
        have ZF := Lib.hid ((Z6.out.set 0 (by simp) (.string ⟨NM.toArray⟩)).set 1 (by simp) (.slice A6 N c6))
        have RF := Lib.hid (RowE.other (i := 1) (RowE.other (i := 0) R6.out AP (.string ⟨NM.toArray⟩)) AP (.slice A6 N c6))
        have SF : Hid (Cs w.heap.size ((w6.setCell ⟨w2.heap.size, 0, none⟩ (.string ⟨NM.toArray⟩)).setCell ⟨w2.heap.size, 1, none⟩ (.slice A6 N c6)) [.string ⟨NM.toArray⟩, .slice (some ⟨b, off, none⟩) N c0] ∧ Below w.heap.size w ((w6.setCell ⟨w2.heap.size, 0, none⟩ (.string ⟨NM.toArray⟩)).setCell ⟨w2.heap.size, 1, none⟩ (.slice A6 N c6))) := Lib.hid ⟨(S6.out.1.other (Nat.ne_of_gt GZ) _).other (Nat.ne_of_gt GZ) _, (S6.out.2.setCell (Nat.le_of_lt GZ) _).setCell (Nat.le_of_lt GZ) _⟩
        refine hK.out _ _ SF.out ?_
        clear hK K z0 z1 z2 z3
        refine Hr.Walk.done (by kernel_rfl) ?_ _
        go_wp2
        go_meet
        exact ⟨w2.heap.size, _, _, rfl, GZ, RF, ZF, SF⟩
    · go_simp
      have S7 : Hid (Cs w.heap.size (w1.alloc (Obj.cells #[.string ⟨#[]⟩, .slice none 0 0] 24)) [.string ⟨NM.toArray⟩, .slice (some ⟨b, off, none⟩) N c0] ∧ Below w.heap.size w (w1.alloc (Obj.cells #[.string ⟨#[]⟩, .slice none 0 0] 24))) := Lib.hid ⟨S1.out.1.alloc _, S1.out.2.alloc S1.out.2.size _⟩
      have n7 : w1.heap.size < (w1.alloc (Obj.cells #[.string ⟨#[]⟩, .slice none 0 0] 24)).heap.size := by simp
      have Z7 := Lib.hid (Cs.new w1 [.string ⟨#[]⟩, .slice none 0 0] 24)
      refine hK.out _ _ S7.out ?_
      clear hK K
      obtain ⟨w7, hw7⟩ : ∃ z, (w1.alloc (Obj.cells #[.string ⟨#[]⟩, .slice none 0 0] 24)) = z := ⟨_, rfl⟩
      rw [hw7] at S7 n7 Z7 ⊢
      clear hw7
      refine Hr.Walk.one (i := 2) (by kernel_rfl) rfl (fun K hK => ?_)
      go_simp
      have S8 : Hid (Cs w.heap.size (w7.alloc (Obj.cells #[] 30)) [.string ⟨NM.toArray⟩, .slice (some ⟨b, off, none⟩) N c0] ∧ Below w.heap.size w (w7.alloc (Obj.cells #[] 30))) := Lib.hid ⟨S7.out.1.alloc _, S7.out.2.alloc S7.out.2.size _⟩
      have n8 : w7.heap.size < (w7.alloc (Obj.cells #[] 30)).heap.size := by simp
      have R8 := Lib.hid (RowT.less (RowE.empty w7) (S7.out.1.1))
      have Z8 := Lib.hid (Z7.out.alloc (Obj.cells #[] 30))
      refine hK.out _ _ S8.out ?_
      clear hK K
      obtain ⟨w8, hw8⟩ : ∃ z, (w7.alloc (Obj.cells #[] 30)) = z := ⟨_, rfl⟩
      rw [hw8] at S8 n8 R8 Z8 ⊢
      clear hw8
      refine Hr.Walk.one (i := 5) (by kernel_rfl) rfl (fun K hK => ?_)
      rw [if_pos (by rfl)]
      refine appOp (.tmp 18) (.tmp 20) rfl (w.heap.size + 1) _ (by rfl) R8.out b off c0 N L HN.out (by rfl) hn6 h01 (S8.out.1.1) (fun j hj => range_below hbl (HR.out j hj) S8.out.2) ?_
      intro w9 A9 c9 rx bx kx
      have S9 : Hid (Cs w.heap.size w9 [.string ⟨NM.toArray⟩, .slice (some ⟨b, off, none⟩) N c0] ∧ Below w.heap.size w w9) := Lib.hid ⟨kx _ _ S8.out.1 (fun q => absurd (Option.some.inj q) (Nat.ne_of_gt S7.out.1.1)), S8.out.2.trans (bx.mono (Nat.le_succ _))⟩
      have R9 := Lib.hid rx
      have Z9 := Lib.hid (kx _ _ Z8.out (fun q => absurd (Option.some.inj q) (Nat.ne_of_gt n7)))
      clear rx bx kx
      refine hK.out _ _ S9.out ?_
      clear hK K
      refine Hr.Walk.one (i := 6) (by kernel_rfl) rfl (fun K hK => ?_)
      go_simp
      refine hK.out _ _ S9.out ?_
      clear hK K
      have GZ : w.heap.size < w1.heap.size := S1.out.1.1
      refine Hr.Walk.one (i := 8) (by kernel_rfl) rfl (fun K hK => ?_)
      have z0 := (Z9.out.2 0 _ rfl).1
      have z1 := (Z9.out.2 0 _ rfl).2
      have z2 := (Z9.out.2 1 _ rfl).1
      have z3 := (Z9.out.2 1 _ rfl).2
      go_simp
      have AP := RowE.apart R9.out HN.out h01 Z9.out
      have ZF := Lib.hid ((Z9.out.set 0 (by simp) (.string ⟨NM.toArray⟩)).set 1 (by simp) (.slice A9 N c9))
      have RF := Lib.hid (RowE.other (i := 1) (RowE.other (i := 0) R9.out AP (.string ⟨NM.toArray⟩)) AP (.slice A9 N c9))
      have SF : Hid (Cs w.heap.size ((w9.setCell ⟨w1.heap.size, 0, none⟩ (.string ⟨NM.toArray⟩)).setCell ⟨w1.heap.size, 1, none⟩ (.slice A9 N c9)) [.string ⟨NM.toArray⟩, .slice (some ⟨b, off, none⟩) N c0] ∧ Below w.heap.size w ((w9.setCell ⟨w1.heap.size, 0, none⟩ (.string ⟨NM.toArray⟩)).setCell ⟨w1.heap.size, 1, none⟩ (.slice A9 N c9))) := Lib.hid ⟨(S9.out.1.other (Nat.ne_of_gt GZ) _).other (Nat.ne_of_gt GZ) _, (S9.out.2.setCell (Nat.le_of_lt GZ) _).setCell (Nat.le_of_lt GZ) _⟩
      refine hK.out _ _ SF.out ?_
      clear hK K z0 z1 z2 z3
      refine Hr.Walk.done (by kernel_rfl) ?_ _
      go_wp2
      go_meet
      exact ⟨w1.heap.size, _, _, rfl, GZ, RF, ZF, SF⟩
  case rest =>
  obtain ⟨w3, rfl⟩ : ∃ x : World, x = wc := ⟨_, rfl⟩
  obtain ⟨gz, A', c', rfl, GZ, RE, CZ, SS⟩ := hcut
  obtain ⟨g, c3, ge, gB, gl, gr, gf⟩ := RowT.form erC_len RE.out (by rw [HN.out]; exact h01)
  rw [HN.out] at ge
  injection ge with ge ge2 ge3
  subst ge ge3
  obtain ⟨nn, rfl⟩ : ∃ n, N = n + 1 := ⟨N - 1, by omega⟩
  have AP := RowE.apart RE.out HN.out h01 CZ.out
  have gne : g ≠ gz := fun e => AP (by rw [e]; rfl)
  have C3 := Lib.hid SS.out.1
  have B3 := Lib.hid SS.out.2
  have V4 := Lib.hid (RowV.below V0.out B3.out)
  have GR := Lib.hid gr
  have GF := Lib.hid gf
  have SM : Hid (SmE L) := Lib.hid (fun e he => by have := LT.out.es e he; omega)
  have LM : Hid (L.length ≤ maxLen) := Lib.hid hl
  have HAP := Lib.hid AP
  clear C2 B2 V3 SS AP gr gf ge2
  obtain ⟨k, ⟨k0, kN⟩, HK⟩ := uu_mod at0 (k := ((nn + 1 : Nat) : Int)) (by omega)
  obtain ⟨hw, ⟨h0, h6⟩, HW⟩ := uu_mod how (k := 6) (by omega)
  obtain ⟨kn, rfl⟩ : ∃ n : Nat, k = n := ⟨k.toNat, by omega⟩
  have kL : kn < nn + 1 := by omega
  have wn : IntKind.u64.wrap ((nn + 1 : Nat) : Int) = ((nn + 1 : Nat) : Int) := by rw [IntKind.wrap_u64]; omega
  have wl : IntKind.i64.wrap (((nn + 1 : Nat) : Int) - 1) = (nn : Int) := by rw [IntKind.wrap_i64]; omega
  have hk1 : (IntKind.u64.wrap at0).tmod ((nn : Int) + 1) = (kn : Int) := HK.out.1
  have hk2 := HK.out.2
  have hw1 := HW.out.1
  have z1 := (CZ.out.2 1 _ rfl).1
  have nz : ¬ ((nn + 1 : Nat) : Int) = 0 := by omega
  go_upto_region 6 with fail
  rename_i K18 hK18 Kc hKc
  have HGN := Lib.hid gne
  clear nz gne
  rcases (show hw = 0 ∨ hw = 1 ∨ hw = 2 ∨ hw = 3 ∨ hw = 4 ∨ hw = 5 by omega) with rfl | rfl | rfl | rfl | rfl | rfl
  · go_upto_region 9 with fail
    have z1f := (CZ.out.2 1 _ rfl).2
    have BF : Hid (Below w.heap.size w (w3.setCell ⟨gz, 1, none⟩ (.slice none 0 0))) := Lib.hid (B3.out.setCell (Nat.le_of_lt GZ) _)
    have CF := Lib.hid (C3.out.other (Nat.ne_of_gt GZ) (i := 1) (.slice none 0 0))
    have ZF := Lib.hid (CZ.out.set 1 (by simp) (.slice none 0 0))
    have VF := Lib.hid (RowV.below V0.out BF.out)
    have RF := Lib.hid (RowV.nil erC 13 (w3.setCell ⟨gz, 1, none⟩ (.slice none 0 0)))
    have EF : Hid (znB NM [] = false) := Lib.hid (by rw [znB]; simp)
    have SL : Hid (SmE ([] : List EV)) := Lib.hid (fun e he => by cases he)
    have LL : ([] : List EV).length ≤ maxLen := by simp
    repeat (first | (exact hK18 _ _ (zbT18 NM NM _ _ L [] w.heap.size gz w _ HP HA HM m1 m1 LM.out LL SM SL HQ EF CF ZF VF RF BF _ _ _ _ _ _ _ _ _ _ _ _ _ _ _ _ _ _ _ _ _ _ _ _ _ _ _ _ _ _ _ _ _ _ _ _ _ _ _ _ _ _ _ _ _ _ _ _ _ _ _ _ _ _ _ _ _ _ _ _ _ _ _ _ _ _ _ _ _ _ _ _ _ _ _ _ _ _ _ _ _ _ _ _)) | (go_not_at_region 18; first | (go_says fail) | go_values | go_skip | go_guarded | go_step | go_upon | go_back | (simp only [Int.not_lt, Int.not_le] at *; go_simp) | (go_values <;> (try go_simp)) | (go_ite <;> go_prune <;> (try go_simp))))
  · go_upto_region 11 with fail
    have HKL : Hid (nn < L.length) := Lib.hid (by rw [HN.out]; omega)
    have hn1 : nn < nn + 1 := Nat.lt_succ_self nn
    obtain ⟨r, hr⟩ : ∃ r, L[nn]'HKL.out = r := ⟨_, rfl⟩
    have r0 := GR.out nn HKL.out
    rw [hr] at r0
    have sm := SM.out r (hr ▸ List.getElem_mem HKL.out)
    obtain ⟨st, kd, sv, ru, fm, un, yr, mo, k9, v, d, n, c⟩ := r
    have cc : w3.cell? ⟨g, nn * 13 + 5, none⟩ = _ := r0 5 _ rfl
    have cf : w3.frozen? ⟨g, nn * 13 + 5, none⟩ = false := GF.out _
    have RS := row_set gl GR.out nn 5 HKL.out (by decide) (.bool true) ⟨st, kd, sv, ru, fm, true, yr, mo, k9, v, d, n, c⟩ (by rw [hr]; rfl) c'
    rw [HN.out] at RS
    clear r0
    have BF : Hid (Below w.heap.size w (w3.setCell ⟨g, nn * 13 + 5, none⟩ (.bool true))) := Lib.hid (B3.out.setCell (show w.heap.size ≤ g by omega) _)
    have CF := Lib.hid (C3.out.other (show g ≠ w.heap.size by omega) (i := nn * 13 + 5) (.bool true))
    have ZF := Lib.hid (CZ.out.other HGN.out (i := nn * 13 + 5) (.bool true))
    have VF := Lib.hid (RowV.below V0.out BF.out)
    have RF : Hid (ErV (w3.setCell ⟨g, nn * 13 + 5, none⟩ (.bool true)) _ _) := Lib.hid RS
    have EF : Hid (znB NM (L.set nn ⟨st, kd, sv, ru, fm, true, yr, mo, k9, v, d, n, c⟩) = false) := Lib.hid (bent_set HKL.out (by rw [eAt, decide_eq_true HN.out.symm]; simp))
    have SL : Hid (SmE (L.set nn ⟨st, kd, sv, ru, fm, true, yr, mo, k9, v, d, n, c⟩)) := Lib.hid (SM.out.set nn ⟨by exact sm.1, by exact sm.2⟩)
    have LL : (L.set nn ⟨st, kd, sv, ru, fm, true, yr, mo, k9, v, d, n, c⟩).length ≤ maxLen := by rw [List.length_set]; exact LM.out
    clear RS sm hr
    repeat (first | (exact hK18 _ _ (zbT18 NM NM _ _ L _ w.heap.size gz w _ HP HA HM m1 m1 LM.out LL SM SL HQ EF CF ZF VF RF BF _ _ _ _ _ _ _ _ _ _ _ _ _ _ _ _ _ _ _ _ _ _ _ _ _ _ _ _ _ _ _ _ _ _ _ _ _ _ _ _ _ _ _ _ _ _ _ _ _ _ _ _ _ _ _ _ _ _ _ _ _ _ _ _ _ _ _ _ _ _ _ _ _ _ _ _ _ _ _ _ _ _ _ _)) | (go_not_at_region 18; first | (go_says fail) | go_values | go_skip | go_guarded | go_step | go_upon | go_back | (simp only [Int.not_lt, Int.not_le] at *; go_simp) | (go_values <;> (try go_simp)) | (go_ite <;> go_prune <;> (try go_simp))))
  · go_upto_region 13 with fail
    have HKL : Hid (nn < L.length) := Lib.hid (by rw [HN.out]; omega)
    have hn1 : nn < nn + 1 := Nat.lt_succ_self nn
    have hn2 : (nn : Int) < (nn : Int) + 1 := by omega
    obtain ⟨r, hr⟩ : ∃ r, L[nn]'HKL.out = r := ⟨_, rfl⟩
    have r0 := GR.out nn HKL.out
    rw [hr] at r0
    have sm := Lib.hid (SM.out r (hr ▸ List.getElem_mem HKL.out))
    clear hr
    obtain ⟨st, kd, sv, ru, fm, un, yr, mo, k9, v, d, n, c⟩ := r
    have r0 : w3.rangeAt g (nn * 13) [.int .i64 st, .int .i64 kd, .int .i64 sv, .string ⟨ru.toArray⟩, .string ⟨fm.toArray⟩, .bool un, .int .i64 yr, .int .i64 mo, .int .i64 k9, .int .i64 v, .int .i64 d, .int .i64 n, .int .i64 c] := r0
    refine Hr.Walk.region (R := fun up x => Bf (fun x => Cs gz x [.string ⟨NM.toArray⟩, .slice (some ⟨g, 0, none⟩) (nn + 1) c']) up x) (by kernel_rfl) ?_
    obtain ⟨w1, hw1⟩ : ∃ z, w3.drew = z := ⟨_, rfl⟩
    have D1 : Below w3.heap.size w3 w1 := by rw [← hw1]; exact below_drewN (Below.refl _ _) 1
    have Sd : Hid (Cs gz w1 [.string ⟨NM.toArray⟩, .slice (some ⟨g, 0, none⟩) (nn + 1) c']) := Lib.hid (CZ.out.below D1)
    have G1 := Lib.hid (C3.out.below D1)
    have E1 := Lib.hid (RowT.below RE.out D1)
    have B1 := Lib.hid (bstep B3.out D1)
    have Q1 := Lib.hid (range_below gl r0 D1)
    rw [hw1]
    clear hw1 D1 r0 CZ z1
    refine Hr.Walk.take (i := 0) (v := ?vm0) (fun x => Cs gz x [.string ⟨NM.toArray⟩, .slice (some ⟨g, 0, none⟩) (nn + 1) c']) (fun up => up.getD 10 false = false) rfl (by kernel_rfl) (by kernel_rfl) (by kernel_rfl) (fun _ _ _ h => h) (Hr.keepI (s := 10) rfl (by kernel_rfl)) (fun _ _ hu hr => hr hu) (fun up y => Hr.keepR (s := 10) (i := 0) (S := fun x => Cs gz x [.string ⟨NM.toArray⟩, .slice (some ⟨g, 0, none⟩) (nn + 1) c']) (by decide) up y) rfl (Or.inl ⟨by rfl, ?hym0⟩) Sd.out (fun _ => Sd.out) ?restm0
    case hym0 => intro x hx; have q1 := (hx.2 1 _ rfl).1; clear hx; go_simp; try with_reducible rfl
    (try go_simp)
    refine Hr.Walk.take (i := 1) (v := ?vm1) (fun x => Cs gz x [.string ⟨NM.toArray⟩, .slice (some ⟨g, 0, none⟩) (nn + 1) c']) (fun up => up.getD 10 false = false) rfl (by kernel_rfl) (by kernel_rfl) (by kernel_rfl) (fun _ _ _ h => h) (Hr.keepI (s := 10) rfl (by kernel_rfl)) (fun _ _ hu hr => hr hu) (fun up y => Hr.keepR (s := 10) (i := 1) (S := fun x => Cs gz x [.string ⟨NM.toArray⟩, .slice (some ⟨g, 0, none⟩) (nn + 1) c']) (by decide) up y) rfl (Or.inl ⟨by rfl, ?hym1⟩) Sd.out (fun _ => Sd.out) ?restm1
    case hym1 => intro x hx; have q1 := (hx.2 1 _ rfl).1; clear hx; go_simp; try with_reducible rfl
    (try go_simp)
    refine Hr.Walk.take (i := 2) (v := ?vm2) (fun x => Cs gz x [.string ⟨NM.toArray⟩, .slice (some ⟨g, 0, none⟩) (nn + 1) c']) (fun up => up.getD 10 false = false) rfl (by kernel_rfl) (by kernel_rfl) (by kernel_rfl) (fun _ _ _ h => h) (Hr.keepI (s := 10) rfl (by kernel_rfl)) (fun _ _ hu hr => hr hu) (fun up y => Hr.keepR (s := 10) (i := 2) (S := fun x => Cs gz x [.string ⟨NM.toArray⟩, .slice (some ⟨g, 0, none⟩) (nn + 1) c']) (by decide) up y) rfl (Or.inl ⟨by rfl, ?hym2⟩) Sd.out (fun _ => Sd.out) ?restm2
    case hym2 => intro x hx; have q1 := (hx.2 1 _ rfl).1; clear hx; go_simp; try with_reducible rfl
    (try go_simp)
    refine Hr.Walk.take (i := 3) (v := ?vm3) (fun x => Cs gz x [.string ⟨NM.toArray⟩, .slice (some ⟨g, 0, none⟩) (nn + 1) c']) (fun up => up.getD 10 false = false) rfl (by kernel_rfl) (by kernel_rfl) (by kernel_rfl) (fun _ _ _ h => h) (Hr.keepI (s := 10) rfl (by kernel_rfl)) (fun _ _ hu hr => hr hu) (fun up y => Hr.keepR (s := 10) (i := 3) (S := fun x => Cs gz x [.string ⟨NM.toArray⟩, .slice (some ⟨g, 0, none⟩) (nn + 1) c']) (by decide) up y) rfl (Or.inl ⟨by rfl, ?hym3⟩) Sd.out (fun _ => Sd.out) ?restm3
    case hym3 => intro x hx; have q1 := (hx.2 1 _ rfl).1; clear hx; go_simp; try with_reducible rfl
    (try go_simp)
    refine Hr.Walk.one (i := 4) (by kernel_rfl) rfl (fun K hK => ?_)
    go_simp
    refine hK.out _ _ (fun _ => Sd.out) ?_
    clear hK K
    refine Hr.Walk.one (i := 5) (by kernel_rfl) rfl (fun K hK => ?_)
    go_simp
    refine hK.out _ _ (fun _ => Sd.out) ?_
    clear hK K
    refine Hr.Walk.one (i := 6) (by kernel_rfl) rfl (fun K hK => ?_)
    rw [if_pos (by rfl)]
    refine ldE1 Q1.out rfl (by rfl) (by rfl) ?_
    refine hK.out _ _ (fun _ => Sd.out) ?_
    clear hK K
    refine Hr.Walk.one (i := 7) (by kernel_rfl) rfl (fun K hK => ?_)
    go_simp
    have CN := Lib.hid (Cs.new w1 [.int .i64 st, .int .i64 kd, .int .i64 sv, .string ⟨ru.toArray⟩, .string ⟨fm.toArray⟩, .bool un, .int .i64 yr, .int .i64 mo, .int .i64 k9, .int .i64 v, .int .i64 d, .int .i64 n, .int .i64 c] 30)
    have Sd := Lib.hid (Sd.out.alloc (Obj.cells #[.int .i64 st, .int .i64 kd, .int .i64 sv, .string ⟨ru.toArray⟩, .string ⟨fm.toArray⟩, .bool un, .int .i64 yr, .int .i64 mo, .int .i64 k9, .int .i64 v, .int .i64 d, .int .i64 n, .int .i64 c] 30))
    have G2 := Lib.hid (G1.out.alloc (Obj.cells #[.int .i64 st, .int .i64 kd, .int .i64 sv, .string ⟨ru.toArray⟩, .string ⟨fm.toArray⟩, .bool un, .int .i64 yr, .int .i64 mo, .int .i64 k9, .int .i64 v, .int .i64 d, .int .i64 n, .int .i64 c] 30))
    have BA := (Below.refl w1.heap.size w1).alloc (Nat.le_refl _) (Obj.cells #[.int .i64 st, .int .i64 kd, .int .i64 sv, .string ⟨ru.toArray⟩, .string ⟨fm.toArray⟩, .bool un, .int .i64 yr, .int .i64 mo, .int .i64 k9, .int .i64 v, .int .i64 d, .int .i64 n, .int .i64 c] 30)
    have E2 := Lib.hid (RowT.below E1.out BA)
    have B2 := Lib.hid (bstep B1.out BA)
    refine hK.out _ _ (fun _ => Sd.out) ?_
    clear hK K BA Q1 G1 E1 B1
    obtain ⟨w2, hw2⟩ : ∃ z, (w1.alloc (Obj.cells #[.int .i64 st, .int .i64 kd, .int .i64 sv, .string ⟨ru.toArray⟩, .string ⟨fm.toArray⟩, .bool un, .int .i64 yr, .int .i64 mo, .int .i64 k9, .int .i64 v, .int .i64 d, .int .i64 n, .int .i64 c] 30)) = z := ⟨_, rfl⟩
    rw [hw2] at CN Sd G2 E2 B2 ⊢
    clear hw2
    refine Hr.Walk.one (i := 8) (by kernel_rfl) rfl (fun K hK => ?_)
    rw [if_pos (by rfl)]
    refine appOp1 (.tmp 56) (.tmp 62) rfl (w.heap.size + 1) _ L (nn + 1) HN.out (by rfl) E2.out w1.heap.size ⟨st, kd, sv, ru, fm, un, yr, mo, k9, v, d, n, c⟩ CN.out (by rfl) (by omega) (G2.out.1) ?_
    intro w5 A5 c5 rx bx kx
    have Sd := Lib.hid (kx _ _ Sd.out (fun q => HGN.out (Option.some.inj q)))
    have G5 := Lib.hid (kx _ _ G2.out (fun q => absurd (Option.some.inj q) (show g ≠ w.heap.size by omega)))
    have B5 := Lib.hid (B2.out.trans (bx.mono (Nat.le_succ _)))
    have E5 := Lib.hid rx
    clear rx bx kx G2 E2 B2 CN
    refine hK.out _ _ (fun _ => Sd.out) ?_
    clear hK K
    refine Hr.Walk.one (i := 9) (by kernel_rfl) rfl (fun K hK => ?_)
    go_simp
    refine hK.out _ _ (fun _ => Sd.out) ?_
    clear hK K
    refine Hr.Walk.one (i := 10) (by kernel_rfl) rfl (fun K hK => ?_)
    have z1 := (Sd.out.2 1 _ rfl).1
    have z2 := (Sd.out.2 1 _ rfl).2
    go_simp
    have AP := RowE.apart E5.out (by rw [List.length_append, HN.out]; rfl) (Nat.succ_pos _) Sd.out
    refine hK.out _ _ (fun h => absurd (show true = false from h) (by decide)) ?_
    clear hK K z1 z2
    refine Hr.Walk.done (by kernel_rfl) ?_ _
    have BF : Hid (Below w.heap.size w (w5.setCell ⟨gz, 1, none⟩ (.slice A5 (nn + 1 + 1) c5))) := Lib.hid (B5.out.setCell (Nat.le_of_lt GZ) _)
    have CF := Lib.hid (G5.out.other (Nat.ne_of_gt GZ) (i := 1) (.slice A5 (nn + 1 + 1) c5))
    have ZF := Lib.hid (Sd.out.set 1 (by simp) (.slice A5 (nn + 1 + 1) c5))
    have VF := Lib.hid (RowV.below V0.out BF.out)
    have RF := Lib.hid (RowT.val erC_len (RowE.other (i := 1) E5.out AP (.slice A5 (nn + 1 + 1) c5)))
    have EF : Hid (znB NM (L ++ [⟨st, kd, sv, ru, fm, un, yr, mo, k9, v, d, n, c⟩]) = false) := Lib.hid (bent_more ZG.out (by rw [HN.out]; omega) _)
    have SL : Hid (SmE (L ++ [⟨st, kd, sv, ru, fm, un, yr, mo, k9, v, d, n, c⟩])) := Lib.hid (fun x hx => by
      rcases List.mem_append.1 hx with q | q
      · exact SM.out x q
      · rw [List.mem_singleton.1 q]; exact sm.out)
    have LL : (L ++ [(⟨st, kd, sv, ru, fm, un, yr, mo, k9, v, d, n, c⟩ : EV)]).length ≤ maxLen := by rw [List.length_append, HN.out]; unfold maxLen; simp; omega
    clear AP
    repeat (first | (exact hK18 _ _ (zbT18 NM NM _ _ L _ w.heap.size gz w _ HP HA HM m1 m1 LM.out LL SM SL HQ EF CF ZF VF RF BF _ _ _ _ _ _ _ _ _ _ _ _ _ _ _ _ _ _ _ _ _ _ _ _ _ _ _ _ _ _ _ _ _ _ _ _ _ _ _ _ _ _ _ _ _ _ _ _ _ _ _ _ _ _ _ _ _ _ _ _ _ _ _ _ _ _ _ _ _ _ _ _ _ _ _ _ _ _ _ _ _ _ _ _)) | (go_not_at_region 18; first | (go_says fail) | go_values | go_skip | go_guarded | go_step | go_upon | go_back | (simp only [Int.not_lt, Int.not_le] at *; go_simp) | (go_values <;> (try go_simp)) | (go_ite <;> go_prune <;> (try go_simp))))
  · go_upto_region 15 with fail
    have z0 := (CZ.out.2 0 _ rfl).1
    have z0f := (CZ.out.2 0 _ rfl).2
    have BF : Hid (Below w.heap.size w (w3.setCell ⟨gz, 0, none⟩ (.string ⟨#[]⟩))) := Lib.hid (B3.out.setCell (Nat.le_of_lt GZ) _)
    have CF := Lib.hid (C3.out.other (Nat.ne_of_gt GZ) (i := 0) (.string ⟨#[]⟩))
    have ZF := Lib.hid (CZ.out.set 0 (by simp) (.string ⟨#[]⟩))
    have VF := Lib.hid (RowV.below V0.out BF.out)
    have RF := Lib.hid (RowT.val erC_len (RowE.other (i := 0) RE.out HAP.out (.string ⟨#[]⟩)))
    have EF : Hid (znB [] L = false) := Lib.hid (by rw [znB, nm_nil]; rfl)
    have SL : Hid (SmE L) := Lib.hid (SM.out)
    have LL : L.length ≤ maxLen := LM.out
    repeat (first | (exact hK18 _ _ (zbT18 NM [] _ _ L L w.heap.size gz w _ HP HA HM m1 (by decide) LM.out LL SM SL HQ EF CF ZF VF RF BF _ _ _ _ _ _ _ _ _ _ _ _ _ _ _ _ _ _ _ _ _ _ _ _ _ _ _ _ _ _ _ _ _ _ _ _ _ _ _ _ _ _ _ _ _ _ _ _ _ _ _ _ _ _ _ _ _ _ _ _ _ _ _ _ _ _ _ _ _ _ _ _ _ _ _ _ _ _ _ _ _ _ _ _)) | (go_not_at_region 18; first | (go_says fail) | go_values | go_skip | go_guarded | go_step | go_upon | go_back | (simp only [Int.not_lt, Int.not_le] at *; go_simp) | (go_values <;> (try go_simp)) | (go_ite <;> go_prune <;> (try go_simp))))
  · go_upto_region 17 with fail
    have HKL : Hid (kn < L.length) := Lib.hid (by rw [HN.out]; exact kL)
    obtain ⟨r, hr⟩ : ∃ r, L[kn]'HKL.out = r := ⟨_, rfl⟩
    have r0 := GR.out kn HKL.out
    rw [hr] at r0
    have sm := SM.out r (hr ▸ List.getElem_mem HKL.out)
    obtain ⟨st, kd, sv, ru, fm, un, yr, mo, k9, v, d, n, c⟩ := r
    have cc : w3.cell? ⟨g, kn * 13 + 4, none⟩ = _ := r0 4 _ rfl
    have cf : w3.frozen? ⟨g, kn * 13 + 4, none⟩ = false := GF.out _
    have RS := row_set gl GR.out kn 4 HKL.out (by decide) (.string ⟨#[37, 115, 37, 115]⟩) ⟨st, kd, sv, ru, [37, 115, 37, 115], un, yr, mo, k9, v, d, n, c⟩ (by rw [hr]; rfl) c'
    rw [HN.out] at RS
    clear r0
    have BF : Hid (Below w.heap.size w (w3.setCell ⟨g, kn * 13 + 4, none⟩ (.string ⟨#[37, 115, 37, 115]⟩))) := Lib.hid (B3.out.setCell (show w.heap.size ≤ g by omega) _)
    have CF := Lib.hid (C3.out.other (show g ≠ w.heap.size by omega) (i := kn * 13 + 4) (.string ⟨#[37, 115, 37, 115]⟩))
    have ZF := Lib.hid (CZ.out.other HGN.out (i := kn * 13 + 4) (.string ⟨#[37, 115, 37, 115]⟩))
    have VF := Lib.hid (RowV.below V0.out BF.out)
    have RF : Hid (ErV (w3.setCell ⟨g, kn * 13 + 4, none⟩ (.string ⟨#[37, 115, 37, 115]⟩)) _ _) := Lib.hid RS
    have EF : Hid (znB NM (L.set kn ⟨st, kd, sv, ru, [37, 115, 37, 115], un, yr, mo, k9, v, d, n, c⟩) = false) := Lib.hid (bent_set HKL.out (by rw [eAt, rgB, fm_ss]; simp))
    have SL : Hid (SmE (L.set kn ⟨st, kd, sv, ru, [37, 115, 37, 115], un, yr, mo, k9, v, d, n, c⟩)) := Lib.hid (SM.out.set kn ⟨by exact sm.1, by show ([37, 115, 37, 115] : List UInt8).length ≤ 1000000; decide⟩)
    have LL : (L.set kn ⟨st, kd, sv, ru, [37, 115, 37, 115], un, yr, mo, k9, v, d, n, c⟩).length ≤ maxLen := by rw [List.length_set]; exact LM.out
    clear RS sm hr
    repeat (first | (exact hK18 _ _ (zbT18 NM NM _ _ L _ w.heap.size gz w _ HP HA HM m1 m1 LM.out LL SM SL HQ EF CF ZF VF RF BF _ _ _ _ _ _ _ _ _ _ _ _ _ _ _ _ _ _ _ _ _ _ _ _ _ _ _ _ _ _ _ _ _ _ _ _ _ _ _ _ _ _ _ _ _ _ _ _ _ _ _ _ _ _ _ _ _ _ _ _ _ _ _ _ _ _ _ _ _ _ _ _ _ _ _ _ _ _ _ _ _ _ _ _)) | (go_not_at_region 18; first | (go_says fail) | go_values | go_skip | go_guarded | go_step | go_upon | go_back | (simp only [Int.not_lt, Int.not_le] at *; go_simp) | (go_values <;> (try go_simp)) | (go_ite <;> go_prune <;> (try go_simp))))
  · go_upto_region 7 with fail
    have HKL : Hid (kn < L.length) := Lib.hid (by rw [HN.out]; exact kL)
    obtain ⟨r, hr⟩ : ∃ r, L[kn]'HKL.out = r := ⟨_, rfl⟩
    have r0 := GR.out kn HKL.out
    rw [hr] at r0
    have sm := SM.out r (hr ▸ List.getElem_mem HKL.out)
    obtain ⟨st, kd, sv, ru, fm, un, yr, mo, k9, v, d, n, c⟩ := r
    have cc : w3.cell? ⟨g, kn * 13, none⟩ = _ := r0 0 _ rfl
    have cf : w3.frozen? ⟨g, kn * 13, none⟩ = false := GF.out _
    have RS := row_set gl GR.out kn 0 HKL.out (by decide) (.int .i64 (-86400)) ⟨-86400, kd, sv, ru, fm, un, yr, mo, k9, v, d, n, c⟩ (by rw [hr]; rfl) c'
    rw [HN.out] at RS
    clear r0
    have BF : Hid (Below w.heap.size w (w3.setCell ⟨g, kn * 13, none⟩ (.int .i64 (-86400)))) := Lib.hid (B3.out.setCell (show w.heap.size ≤ g by omega) _)
    have CF := Lib.hid (C3.out.other (show g ≠ w.heap.size by omega) (i := kn * 13) (.int .i64 (-86400)))
    have ZF := Lib.hid (CZ.out.other HGN.out (i := kn * 13) (.int .i64 (-86400)))
    have VF := Lib.hid (RowV.below V0.out BF.out)
    have RF : Hid (ErV (w3.setCell ⟨g, kn * 13, none⟩ (.int .i64 (-86400))) _ _) := Lib.hid RS
    have EF : Hid (znB NM (L.set kn ⟨-86400, kd, sv, ru, fm, un, yr, mo, k9, v, d, n, c⟩) = false) := Lib.hid (bent_set HKL.out (by rw [eAt, rgB, bd_no]; simp))
    have SL : Hid (SmE (L.set kn ⟨-86400, kd, sv, ru, fm, un, yr, mo, k9, v, d, n, c⟩)) := Lib.hid (SM.out.set kn ⟨by exact sm.1, by exact sm.2⟩)
    have LL : (L.set kn ⟨-86400, kd, sv, ru, fm, un, yr, mo, k9, v, d, n, c⟩).length ≤ maxLen := by rw [List.length_set]; exact LM.out
    clear RS sm hr
    repeat (first | (exact hK18 _ _ (zbT18 NM NM _ _ L _ w.heap.size gz w _ HP HA HM m1 m1 LM.out LL SM SL HQ EF CF ZF VF RF BF _ _ _ _ _ _ _ _ _ _ _ _ _ _ _ _ _ _ _ _ _ _ _ _ _ _ _ _ _ _ _ _ _ _ _ _ _ _ _ _ _ _ _ _ _ _ _ _ _ _ _ _ _ _ _ _ _ _ _ _ _ _ _ _ _ _ _ _ _ _ _ _ _ _ _ _ _ _ _ _ _ _ _ _)) | (go_not_at_region 18; first | (go_says fail) | go_values | go_skip | go_guarded | go_step | go_upon | go_back | (simp only [Int.not_lt, Int.not_le] at *; go_simp) | (go_values <;> (try go_simp)) | (go_ite <;> go_prune <;> (try go_simp))))
end Zon
end Go.Proofs.YthefgagmjamdkaaGreatDoor
