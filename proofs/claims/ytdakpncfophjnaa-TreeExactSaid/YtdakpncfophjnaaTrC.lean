/-
  Package tree: Check of whatever list of components. (Written by gen/gen_trc.py.)
-/
import Derived.Test.YtdakpncfophjnaaTrB
import Derived.Test.YtdakpncfophjnaaTrK
import Derived.Test.YtdakpncfophjnaaHeldR
namespace Go.Proofs.Ytdakpncfophjnaa
open Go.RowKit
namespace Tre
open Lin CutB Cel Ap
open Opn (TxtV)
theorem infoO : (Try.prog.info? 88).map (fun i => (i.zero, i.size, i.bytes)) = some (some (.agg #[.int .i64 0, .int .i64 0]), 2, 16) := by kernel_rfl
theorem appO {w : World} {ops : Array Oper} {rest : List Oper} {o : Oper} {a : Act} {Q : Exit → Act → World → Prop} (hgd : o.guard = none) (s x : Operand)
    (ho : o.op = .call { callee := .builtin .append, args := #[s, x], argTypes := #[85, 85] })
    (B : Nat) (v : Value) (K : Stk) (hs : a.eval s = v) (hown : RowO B w v K) (y z : Int)
    (hx : a.eval x = .slice (some ⟨w.heap.size, 0, none⟩) 1 1) (hn : K.length ≤ 100000000) (hB : B ≤ w.heap.size)
    (h : ∀ w' g cap, RowO B w' (.slice (some ⟨g, 0, none⟩) (K.length + 1) cap) ((y, z) :: K) → Grew B v w w' → wpList Try.prog ops Q rest (a.put o.dst (.slice (some ⟨g, 0, none⟩) (K.length + 1) cap)) w') :
    wpList Try.prog ops Q (o :: rest) a (w.alloc (.cells #[.int .i64 y, .int .i64 z] 88)) := by
  obtain ⟨i0, hi0, hz0, hz1, hz2⟩ := info_parts infoO
  refine appX hgd s x 85 ho B 88 i0 (.agg #[.int .i64 0, .int .i64 0]) 2 16 (by kernel_rfl) hi0 hz0 hz1 hz2 rfl (by decide) v K.length _ hs hown #[.int .i64 y, .int .i64 z] 88 rfl (by intro u hu; simp at hu; rcases hu with rfl | rfl <;> rfl) hx hn (by decide) hB ?_
  intro w' g cap r3 g3 _
  refine h w' g cap ?_ g3
  unfold RowO
  rw [List.reverse_cons, List.flatMap_append]
  exact r3
/-- The stack behind the first component: its last one is that one, no end lies beyond. -/
def StkOk (n : Nat) (K : Stk) : Prop := (∃ K0 a, K = K0 ++ [(a, (n : Int))]) ∧ ∀ x ∈ K, 0 ≤ x.2 ∧ x.2 ≤ n
theorem StkOk.leave {n k : Nat} {K : Stk} (h : StkOk n K) (hk : k < n) : StkOk n (lvK K k) := by
  obtain ⟨⟨K0, a, rfl⟩, h2⟩ := h
  have hb : ¬ ((n : Int) = (k : Int)) := by omega
  constructor
  · clear h2
    induction K0 with
    | nil => exact ⟨[], a, by rw [List.nil_append, lv_cons, if_neg hb]⟩
    | cons x K0 ih =>
      rw [List.cons_append, lv_cons]
      split
      · exact ih
      · exact ⟨x :: K0, a, rfl⟩
  · intro x hx
    exact h2 x ((List.dropWhile_sublist _).subset hx)
theorem StkOk.cons {n : Nat} {K : Stk} (h : StkOk n K) {a b : Int} (h0 : 0 ≤ b) (hb : b ≤ n) : StkOk n ((a, b) :: K) := by
  obtain ⟨⟨K0, c, rfl⟩, h2⟩ := h
  refine ⟨⟨(a, b) :: K0, c, rfl⟩, fun x hx => ?_⟩
  rcases List.mem_cons.1 hx with rfl | hx
  · exact ⟨h0, hb⟩
  · exact h2 x hx
theorem StkOk.top {n : Nat} {K : Stk} (h : StkOk n K) : ∃ y K', K = y :: K' ∧ 0 ≤ y.2 ∧ y.2 ≤ n := by
  obtain ⟨⟨K0, a, hK⟩, h2⟩ := h
  cases K with
  | nil => have := congrArg List.length hK; simp at this
  | cons y K' => exact ⟨y, K', rfl, h2 y (by simp)⟩
theorem chk_drop {L : List CV} {k : Nat} (hk : k < L.length) (K : Stk) : chkG k K (L.drop k) = (stpB k K L[k] && chkG ((k + 1 : Nat) : Int) (((k : Int), (k : Int) + 1 + L[k].own) :: lvK K k) (L.drop (k + 1))) := by
  rw [List.drop_eq_getElem_cons hk, chkG]
  rfl
/-- A component's cells, each with a name. -/
theorem cmp_at {w : World} {b off k : Nat} {L : List CV} (hc : CmpC w b off L) (hk : k < L.length) : ∃ sa sn sc, w.cell? ⟨b, off + k * 3, none⟩ = some (.string ⟨(L[k]).nm.toArray⟩) ∧ w.cell? ⟨b, off + k * 3 + 1, none⟩ = some (.slice sa sn sc) ∧ w.cell? ⟨b, off + k * 3 + 2, none⟩ = some (.int .i64 (L[k]).own) ∧ LinsV w (.slice sa sn sc) (L[k]).ls := by
  obtain ⟨sv, c0, c1, c2, hv⟩ := hc k hk
  obtain ⟨a, c, e⟩ := hv.slice
  rw [e] at hv c1
  exact ⟨a, _, c, c0, c1, c2, hv⟩
theorem cir_o (c : CV) (o : Int) (nm : ByteArray) (v : Value) (r : Bool) (w : World) (ho : c.own = o) (hN : nm = ⟨c.nm.toArray⟩) (hv : LinsV w v c.ls) (hsm : smlC c) (hr : Hid (cmpB c = r)) :
    Calls Try.prog 59 #[.agg #[.string nm, v, .int .i64 o]] w fun e w' => e = .returned (.bool r) ∧ Below w.heap.size w w' := by
  subst ho
  exact cir_to c nm v r w hN hv hsm hr
/-- What Check tells. -/
def CkQ (r : Bool) (w : World) (e : Ending) (w' : World) : Prop := e = .returned (.int .i64 (if r = true then 0 else 20)) ∧ Below w.heap.size w w'
set_option maxHeartbeats 3200000 in
set_option maxRecDepth 100000 in
theorem ck_nil (A : Option Addr) (c : Nat) (w : World) :
    Calls Try.prog 35 #[.slice A 0 c] w (CkQ false w) := by
  go_enter Try.func35, Try.ntmps35
  go_wp2
  go_ret
  exact ⟨rfl, Below.refl _ _⟩
set_option maxHeartbeats 3200000 in
set_option maxRecDepth 100000 in
theorem ck_no (b off n c : Nat) (o : Int) (w : World) (hn0 : 0 < n) (hn : n ≤ 1000000) (hc : w.cell? ⟨b, off + 2, none⟩ = some (.int .i64 o)) (h : ¬ o = (n : Int) - 1) :
    Calls Try.prog 35 #[.slice (some ⟨b, off, none⟩) n c] w (CkQ false w) := by
  have x0 : ((n : Int) == 0) = false := beq_eq_false_iff_ne.2 (by omega)
  have x2 : ¬ n = 0 := by omega
  have x1 : (o != (n : Int) - 1) = true := bne_iff_ne.2 h
  go_enter Try.func35, Try.ntmps35
  go_wp2
  go_ret
  exact ⟨rfl, Below.refl _ _⟩
set_option maxHeartbeats 25600000 in
set_option maxRecDepth 100000 in
theorem ck_ok (b off n c : Nat) (L : List CV) (r : Bool) (w : World) (hnl : Hid (L.length = n)) (hn0 : 0 < n) (hn : n ≤ 1000000) (hbl : b < w.heap.size) (hc0 : w.cell? ⟨b, off + 2, none⟩ = some (.int .i64 ((n : Int) - 1))) (hc : Hid (CmpC w b off L)) (hL : Hid (∀ c ∈ L, i64B c.own)) (hsm : Hid (∀ c ∈ L, smlC c)) (h0n : Hid (ownAt L 0 = (n : Int) - 1))
    (hR : Hid (chkG 0 [] L = r)) :
    Calls Try.prog 35 #[.slice (some ⟨b, off, none⟩) n c] w (CkQ r w) := by
  have x0 : ((n : Int) == 0) = false := beq_eq_false_iff_ne.2 (by omega)
  have xn : ¬ n = 0 := by omega
  have x1 : ((n : Int) - 1 != (n : Int) - 1) = false := by simp
  go_enter Try.func35, Try.ntmps35
  go_wp2_with fail
  go_loopw [3, 21] (fun sv iv wr => ∃ (k : Nat) (K : Stk) (A : Option Addr) (m : Nat) (cp : Nat), sv = .slice A m cp ∧ iv = .int .i64 k ∧ k ≤ n ∧ m ≤ 8 ∧ Hid (K.length = m) ∧ Hid (RowO w.heap.size wr (.slice A m cp) K) ∧ Hid (chkG k K (L.drop k) = r) ∧ Hid ((k = 0 → K = []) ∧ (0 < k → k ≤ n → StkOk n K)) ∧ Below w.heap.size w wr) (fun _ iv _ => n - (intOf iv).toNat)
  case atStart => exact ⟨0, [], none, 0, 0, rfl, rfl, by omega, by omega, Lib.hid rfl, Lib.hid (RowO.nil _ _), hR, Lib.hid ⟨fun _ => rfl, fun h => by omega⟩, Below.refl _ _⟩
  case round =>
    obtain ⟨k, K, A, m, cp, rfl, rfl, hk, hm, hKm, hrow, hG, hst, hb⟩ := hrel
    by_cases hlt : k < n
    · have hkl : k < L.length := by rw [hnl.out]; exact hlt
      obtain ⟨sa, sn, sc, c0, c1, c2, hlv⟩ := cmp_at hc.out hkl
      obtain ⟨cv, hcv⟩ : ∃ c, L[k]'hkl = c := ⟨_, rfl⟩
      have hG' := hG.out
      rw [chk_drop hkl, hcv] at hG'
      obtain ⟨o1, o2⟩ := hL.out _ (List.getElem_mem hkl)
      have SMC := Lib.hid (hsm.out _ (List.getElem_mem hkl))
      rw [hcv] at c0 c2 hlv o1 o2 SMC
      obtain ⟨o, ho⟩ : ∃ o, cv.own = o := ⟨_, rfl⟩
      have HO := Lib.hid ho
      rw [ho] at c2 hG' o1 o2
      have H0O : Hid (k = 0 → o = (n : Int) - 1) := Lib.hid (fun e => by
        subst e
        rw [← h0n.out, ← ho, ← hcv]
        exact (own_nat L 0 hkl).symm)
      obtain ⟨X0, hX0⟩ : ∃ X : ByteArray, ⟨cv.nm.toArray⟩ = X := ⟨_, rfl⟩
      rw [hX0] at c0
      have H0 := Lib.hid hX0.symm
      have d0 := (hb.cell (p := ⟨b, off + k * 3, none⟩) hbl).trans c0
      have d1 := (hb.cell (p := ⟨b, off + k * 3 + 1, none⟩) hbl).trans c1
      have d2 := (hb.cell (p := ⟨b, off + k * 3 + 2, none⟩) hbl).trans c2
      have HLV := Lib.hid hlv
      obtain ⟨K', hK'⟩ : ∃ K', lvK K k = K' := ⟨_, rfl⟩
      have HK := Lib.hid hK'
      rw [hK'] at hG'
      have HG := Lib.hid hG'
      have hql : K'.length ≤ m := by rw [← hK', ← hKm.out]; exact lv_len K k
      obtain ⟨q, hq⟩ : ∃ q, K'.length = q := ⟨_, rfl⟩
      have HQ := Lib.hid hq
      rw [hq] at hql
      have D1 := Lib.hid (Cs.new wr [.string X0, .slice sa sn sc, .int .i64 o] 63)
      have BW := Lib.hid (hb.alloc hb.size (Obj.cells #[.string X0, .slice sa sn sc, .int .i64 o] 63))
      have R1 := Lib.hid (hrow.out.below ((Below.refl wr.heap.size wr).alloc (Nat.le_refl _) (Obj.cells #[.string X0, .slice sa sn sc, .int .i64 o] 63)))
      obtain ⟨cb, hcb⟩ : ∃ x, cmpB cv = x := ⟨_, rfl⟩
      have HCB := Lib.hid hcb
      have HST1 := hst
      clear c0 c1 c2 hlv hX0 hcv ho hG' hG hK' hq hrow hb hst hcb
      go_wp2_with fail
      refine (lv_to w.heap.size A m cp K K' k _ R1.out (by omega) HK).mono ?_
      rintro e w2 ⟨rfl, hR2, rfl⟩
      have DZ := D1
      have BZ := BW
      have RZ := Lib.hid hR2
      rw [HQ.out] at RZ ⊢
      have gz := DZ.out.1
      have y0 := (DZ.out.2 0 _ rfl).1
      have y1 := (DZ.out.2 1 _ rfl).1
      have y2 := (DZ.out.2 2 _ rfl).1
      clear hR2 R1 d0 d1 d2
      have HS8 : Hid (q = 8 → r = false) := Lib.hid (fun e => by rw [← HG.out, stpB, HK.out, HQ.out, decide_eq_true e]; simp)
      have HSC : Hid (cb = false → r = false) := Lib.hid (fun e => by rw [← HG.out, stpB, HCB.out, e]; simp)
      by_cases ho0 : o < 0
      · have HF : Hid (r = false) := Lib.hid (by rw [← HG.out, stpB, HO.out, decide_eq_false (by omega)]; rfl)
        have DZ := Lib.hid (DZ.out.below (Below.refl _ _).drew)
        have BZ := Lib.hid BZ.out.drew
        have RZ := Lib.hid (RZ.out.below (Below.refl _ _).drew)
        have SZ : Hid (Cs wr.heap.size (wr.alloc (Obj.cells #[.string X0, .slice sa sn sc, .int .i64 o] 63)).drew [.string X0, .slice sa sn sc, .int .i64 o]) := Lib.hid DZ.out
        go_upto_region 8 with fail
        refine Hr.Walk.region (R := fun _ x => Cs wr.heap.size x [.string X0, .slice sa sn sc, .int .i64 o]) (by kernel_rfl) ?_
        refine Hr.Walk.one (i := 0) (by kernel_rfl) rfl (fun K hK => ?_)
        go_simp
        refine hK.out _ _ SZ.out ?_
        clear hK K
        refine Hr.Walk.one (i := 1) (by kernel_rfl) rfl (fun K hK => ?_)
        go_simp
        refine hK.out _ _ SZ.out ?_
        clear hK K
        refine Hr.Walk.one (i := 2) (by kernel_rfl) rfl (fun K hK => ?_)
        go_simp
        refine hK.out _ _ SZ.out ?_
        clear hK K
        refine Hr.Walk.one (i := 3) (by kernel_rfl) rfl (fun K hK => ?_)
        go_simp
        refine hK.out _ _ SZ.out ?_
        clear hK K
        refine Hr.Walk.one (i := 4) (by kernel_rfl) rfl (fun K hK => ?_)
        go_simp
        refine hK.out _ _ SZ.out ?_
        clear hK K
        refine Hr.Walk.one (i := 5) (by kernel_rfl) rfl (fun K hK => ?_)
        go_simp
        refine hK.out _ _ SZ.out ?_
        clear hK K
        refine Hr.Walk.one (i := 6) (by kernel_rfl) rfl (fun K hK => ?_)
        go_simp
        refine hK.out _ _ SZ.out ?_
        clear hK K
        refine Hr.Walk.take (i := 7) (v := undef) (fun x => Cs wr.heap.size x [.string X0, .slice sa sn sc, .int .i64 o]) (fun _ => True) rfl (by kernel_rfl) (by kernel_rfl) (by kernel_rfl) (fun _ _ _ h => h) (fun _ _ _ _ _ _ => trivial) (fun _ _ _ h => h) (fun _ _ h => h) trivial (Or.inr ⟨by rfl, rfl⟩) SZ.out SZ.out ?_
        (try go_simp)
        refine Hr.Walk.take (i := 8) (v := undef) (fun x => Cs wr.heap.size x [.string X0, .slice sa sn sc, .int .i64 o]) (fun _ => True) rfl (by kernel_rfl) (by kernel_rfl) (by kernel_rfl) (fun _ _ _ h => h) (fun _ _ _ _ _ _ => trivial) (fun _ _ _ h => h) (fun _ _ h => h) trivial (Or.inr ⟨by rfl, rfl⟩) SZ.out SZ.out ?_
        (try go_simp)
        refine Hr.Walk.take (i := 9) (v := undef) (fun x => Cs wr.heap.size x [.string X0, .slice sa sn sc, .int .i64 o]) (fun _ => True) rfl (by kernel_rfl) (by kernel_rfl) (by kernel_rfl) (fun _ _ _ h => h) (fun _ _ _ _ _ _ => trivial) (fun _ _ _ h => h) (fun _ _ h => h) trivial (Or.inr ⟨by rfl, rfl⟩) SZ.out SZ.out ?_
        (try go_simp)
        refine Hr.Walk.take (i := 10) (v := undef) (fun x => Cs wr.heap.size x [.string X0, .slice sa sn sc, .int .i64 o]) (fun _ => True) rfl (by kernel_rfl) (by kernel_rfl) (by kernel_rfl) (fun _ _ _ h => h) (fun _ _ _ _ _ _ => trivial) (fun _ _ _ h => h) (fun _ _ h => h) trivial (Or.inr ⟨by rfl, rfl⟩) SZ.out SZ.out ?_
        (try go_simp)
        refine Hr.Walk.take (i := 11) (v := undef) (fun x => Cs wr.heap.size x [.string X0, .slice sa sn sc, .int .i64 o]) (fun _ => True) rfl (by kernel_rfl) (by kernel_rfl) (by kernel_rfl) (fun _ _ _ h => h) (fun _ _ _ _ _ _ => trivial) (fun _ _ _ h => h) (fun _ _ h => h) trivial (Or.inr ⟨by rfl, rfl⟩) SZ.out SZ.out ?_
        (try go_simp)
        refine Hr.Walk.take (i := 12) (v := undef) (fun x => Cs wr.heap.size x [.string X0, .slice sa sn sc, .int .i64 o]) (fun _ => True) rfl (by kernel_rfl) (by kernel_rfl) (by kernel_rfl) (fun _ _ _ h => h) (fun _ _ _ _ _ _ => trivial) (fun _ _ _ h => h) (fun _ _ h => h) trivial (Or.inr ⟨by rfl, rfl⟩) SZ.out SZ.out ?_
        (try go_simp)
        refine Hr.Walk.take (i := 13) (v := undef) (fun x => Cs wr.heap.size x [.string X0, .slice sa sn sc, .int .i64 o]) (fun _ => True) rfl (by kernel_rfl) (by kernel_rfl) (by kernel_rfl) (fun _ _ _ h => h) (fun _ _ _ _ _ _ => trivial) (fun _ _ _ h => h) (fun _ _ h => h) trivial (Or.inr ⟨by rfl, rfl⟩) SZ.out SZ.out ?_
        (try go_simp)
        refine Hr.Walk.take (i := 14) (v := undef) (fun x => Cs wr.heap.size x [.string X0, .slice sa sn sc, .int .i64 o]) (fun _ => True) rfl (by kernel_rfl) (by kernel_rfl) (by kernel_rfl) (fun _ _ _ h => h) (fun _ _ _ _ _ _ => trivial) (fun _ _ _ h => h) (fun _ _ h => h) trivial (Or.inr ⟨by rfl, rfl⟩) SZ.out SZ.out ?_
        (try go_simp)
        refine Hr.Walk.take (i := 15) (v := undef) (fun x => Cs wr.heap.size x [.string X0, .slice sa sn sc, .int .i64 o]) (fun _ => True) rfl (by kernel_rfl) (by kernel_rfl) (by kernel_rfl) (fun _ _ _ h => h) (fun _ _ _ _ _ _ => trivial) (fun _ _ _ h => h) (fun _ _ h => h) trivial (Or.inr ⟨by rfl, rfl⟩) SZ.out SZ.out ?_
        (try go_simp)
        refine Hr.Walk.one (i := 16) (by kernel_rfl) rfl (fun K hK => ?_)
        go_simp
        refine hK.out _ _ SZ.out ?_
        clear hK K
        refine Hr.Walk.one (i := 17) (by kernel_rfl) rfl (fun K hK => ?_)
        go_simp
        refine hK.out _ _ SZ.out ?_
        clear hK K
        refine Hr.Walk.one (i := 18) (by kernel_rfl) rfl (fun K hK => ?_)
        go_simp
        refine hK.out _ _ SZ.out ?_
        clear hK K
        refine Hr.Walk.one (i := 19) (by kernel_rfl) rfl (fun K hK => ?_)
        go_simp
        refine hK.out _ _ SZ.out ?_
        clear hK K
        refine Hr.Walk.one (i := 20) (by kernel_rfl) rfl (fun K hK => ?_)
        go_simp
        refine hK.out _ _ SZ.out ?_
        clear hK K
        refine Hr.Walk.one (i := 21) (by kernel_rfl) rfl (fun K hK => ?_)
        go_simp
        refine hK.out _ _ SZ.out ?_
        clear hK K
        refine Hr.Walk.done (by kernel_rfl) ?_ _
        go_wp2
        go_ret
        exact ⟨by rw [HF.out]; rfl, BZ.out⟩
      · by_cases hk0 : k = 0
        · have ho := H0O.out hk0
          have hKe := HST1.out.1 hk0
          have hk' : (k : Int) = 0 := by omega
          have HSY : Hid (¬ q = 8 → cb = true → chkG ((k + 1 : Nat) : Int) (((0 : Int), 1 + o) :: K') (L.drop (k + 1)) = r) := Lib.hid (fun e1 e2 => by
            rw [← HG.out, stpB, HO.out, HK.out, HQ.out, HCB.out, e2, decide_eq_true (show (0 : Int) ≤ o by omega), decide_eq_true hk', decide_eq_false e1, hk']; simp)
          have HST : Hid ((k + 1 = 0 → ((0 : Int), 1 + o) :: K' = []) ∧ (0 < k + 1 → k + 1 ≤ n → StkOk n (((0 : Int), 1 + o) :: K'))) := Lib.hid ⟨fun h => by omega, fun _ _ => by
            have : K' = [] := by rw [← HK.out, hKe]; rfl
            rw [this, ho]
            refine ⟨⟨[], 0, ?_⟩, fun x hx => ?_⟩
            · simp
              omega
            · simp at hx
              subst hx
              constructor <;> (simp only; omega)⟩
          have ob : o < 1000001 := by omega
          clear ho hKe hk'
          subst hk0
          have DZ := Lib.hid (DZ.out.below (Below.refl _ _).drew)
          have BZ := Lib.hid BZ.out.drew
          have RZ := Lib.hid (RZ.out.below (Below.refl _ _).drew)
          have SZ : Hid (Cs wr.heap.size (wr.alloc (Obj.cells #[.string X0, .slice sa sn sc, .int .i64 o] 63)).drew [.string X0, .slice sa sn sc, .int .i64 o]) := Lib.hid DZ.out
          go_upto_region 8 with fail
          refine Hr.Walk.region (R := fun _ x => Cs wr.heap.size x [.string X0, .slice sa sn sc, .int .i64 o]) (by kernel_rfl) ?_
          refine Hr.Walk.one (i := 0) (by kernel_rfl) rfl (fun K hK => ?_)
          go_simp
          refine hK.out _ _ SZ.out ?_
          clear hK K
          refine Hr.Walk.one (i := 1) (by kernel_rfl) rfl (fun K hK => ?_)
          go_simp
          refine hK.out _ _ SZ.out ?_
          clear hK K
          refine Hr.Walk.one (i := 2) (by kernel_rfl) rfl (fun K hK => ?_)
          go_simp
          refine hK.out _ _ SZ.out ?_
          clear hK K
          refine Hr.Walk.one (i := 3) (by kernel_rfl) rfl (fun K hK => ?_)
          go_simp
          refine hK.out _ _ SZ.out ?_
          clear hK K
          refine Hr.Walk.one (i := 4) (by kernel_rfl) rfl (fun K hK => ?_)
          go_simp
          refine hK.out _ _ SZ.out ?_
          clear hK K
          refine Hr.Walk.one (i := 5) (by kernel_rfl) rfl (fun K hK => ?_)
          go_simp
          refine hK.out _ _ SZ.out ?_
          clear hK K
          refine Hr.Walk.one (i := 6) (by kernel_rfl) rfl (fun K hK => ?_)
          go_simp
          refine hK.out _ _ SZ.out ?_
          clear hK K
          refine Hr.Walk.take (i := 7) (v := undef) (fun x => Cs wr.heap.size x [.string X0, .slice sa sn sc, .int .i64 o]) (fun _ => True) rfl (by kernel_rfl) (by kernel_rfl) (by kernel_rfl) (fun _ _ _ h => h) (fun _ _ _ _ _ _ => trivial) (fun _ _ _ h => h) (fun _ _ h => h) trivial (Or.inr ⟨by rfl, rfl⟩) SZ.out SZ.out ?_
          (try go_simp)
          refine Hr.Walk.take (i := 8) (v := undef) (fun x => Cs wr.heap.size x [.string X0, .slice sa sn sc, .int .i64 o]) (fun _ => True) rfl (by kernel_rfl) (by kernel_rfl) (by kernel_rfl) (fun _ _ _ h => h) (fun _ _ _ _ _ _ => trivial) (fun _ _ _ h => h) (fun _ _ h => h) trivial (Or.inr ⟨by rfl, rfl⟩) SZ.out SZ.out ?_
          (try go_simp)
          refine Hr.Walk.take (i := 9) (v := undef) (fun x => Cs wr.heap.size x [.string X0, .slice sa sn sc, .int .i64 o]) (fun _ => True) rfl (by kernel_rfl) (by kernel_rfl) (by kernel_rfl) (fun _ _ _ h => h) (fun _ _ _ _ _ _ => trivial) (fun _ _ _ h => h) (fun _ _ h => h) trivial (Or.inr ⟨by rfl, rfl⟩) SZ.out SZ.out ?_
          (try go_simp)
          refine Hr.Walk.take (i := 10) (v := undef) (fun x => Cs wr.heap.size x [.string X0, .slice sa sn sc, .int .i64 o]) (fun _ => True) rfl (by kernel_rfl) (by kernel_rfl) (by kernel_rfl) (fun _ _ _ h => h) (fun _ _ _ _ _ _ => trivial) (fun _ _ _ h => h) (fun _ _ h => h) trivial (Or.inr ⟨by rfl, rfl⟩) SZ.out SZ.out ?_
          (try go_simp)
          refine Hr.Walk.take (i := 11) (v := undef) (fun x => Cs wr.heap.size x [.string X0, .slice sa sn sc, .int .i64 o]) (fun _ => True) rfl (by kernel_rfl) (by kernel_rfl) (by kernel_rfl) (fun _ _ _ h => h) (fun _ _ _ _ _ _ => trivial) (fun _ _ _ h => h) (fun _ _ h => h) trivial (Or.inr ⟨by rfl, rfl⟩) SZ.out SZ.out ?_
          (try go_simp)
          refine Hr.Walk.take (i := 12) (v := undef) (fun x => Cs wr.heap.size x [.string X0, .slice sa sn sc, .int .i64 o]) (fun _ => True) rfl (by kernel_rfl) (by kernel_rfl) (by kernel_rfl) (fun _ _ _ h => h) (fun _ _ _ _ _ _ => trivial) (fun _ _ _ h => h) (fun _ _ h => h) trivial (Or.inr ⟨by rfl, rfl⟩) SZ.out SZ.out ?_
          (try go_simp)
          refine Hr.Walk.take (i := 13) (v := undef) (fun x => Cs wr.heap.size x [.string X0, .slice sa sn sc, .int .i64 o]) (fun _ => True) rfl (by kernel_rfl) (by kernel_rfl) (by kernel_rfl) (fun _ _ _ h => h) (fun _ _ _ _ _ _ => trivial) (fun _ _ _ h => h) (fun _ _ h => h) trivial (Or.inr ⟨by rfl, rfl⟩) SZ.out SZ.out ?_
          (try go_simp)
          refine Hr.Walk.take (i := 14) (v := undef) (fun x => Cs wr.heap.size x [.string X0, .slice sa sn sc, .int .i64 o]) (fun _ => True) rfl (by kernel_rfl) (by kernel_rfl) (by kernel_rfl) (fun _ _ _ h => h) (fun _ _ _ _ _ _ => trivial) (fun _ _ _ h => h) (fun _ _ h => h) trivial (Or.inr ⟨by rfl, rfl⟩) SZ.out SZ.out ?_
          (try go_simp)
          refine Hr.Walk.take (i := 15) (v := undef) (fun x => Cs wr.heap.size x [.string X0, .slice sa sn sc, .int .i64 o]) (fun _ => True) rfl (by kernel_rfl) (by kernel_rfl) (by kernel_rfl) (fun _ _ _ h => h) (fun _ _ _ _ _ _ => trivial) (fun _ _ _ h => h) (fun _ _ h => h) trivial (Or.inr ⟨by rfl, rfl⟩) SZ.out SZ.out ?_
          (try go_simp)
          refine Hr.Walk.one (i := 16) (by kernel_rfl) rfl (fun K hK => ?_)
          go_simp
          refine hK.out _ _ SZ.out ?_
          clear hK K
          refine Hr.Walk.one (i := 17) (by kernel_rfl) rfl (fun K hK => ?_)
          go_simp
          refine hK.out _ _ SZ.out ?_
          clear hK K
          refine Hr.Walk.one (i := 18) (by kernel_rfl) rfl (fun K hK => ?_)
          go_simp
          refine hK.out _ _ SZ.out ?_
          clear hK K
          refine Hr.Walk.one (i := 19) (by kernel_rfl) rfl (fun K hK => ?_)
          go_simp
          refine hK.out _ _ SZ.out ?_
          clear hK K
          refine Hr.Walk.one (i := 20) (by kernel_rfl) rfl (fun K hK => ?_)
          go_simp
          refine hK.out _ _ SZ.out ?_
          clear hK K
          refine Hr.Walk.one (i := 21) (by kernel_rfl) rfl (fun K hK => ?_)
          go_simp
          refine hK.out _ _ SZ.out ?_
          clear hK K
          refine Hr.Walk.done (by kernel_rfl) ?_ _
          have y0' := y0
          by_cases h8 : q = 8
          · have HF := Lib.hid (HS8.out h8)
            subst h8
            clear y0'
            go_wp2
            go_ret
            exact ⟨by rw [HF.out]; rfl, BZ.out⟩
          · have x8 : ((q : Int) == 8) = false := beq_eq_false_iff_ne.2 (by omega)
            go_wp2_with fail
            refine (cir_o cv o X0 (.slice sa sn sc) cb _ HO.out H0.out (HLV.out.below BZ.out) SMC.out HCB).mono ?_
            rintro e w3 ⟨rfl, k1⟩
            have D3 := Lib.hid (DZ.out.below k1)
            have B3 := Lib.hid (bstep BZ.out k1)
            have R3 := Lib.hid (RZ.out.below k1)
            have g3 := D3.out.1
            have v2 := (D3.out.2 2 _ rfl).1
            clear k1 y0 y1 y2 y0'
            cases cb with
            | false =>
              have HF := Lib.hid (HSC.out rfl)
              go_wp2
              go_ret
              exact ⟨by rw [HF.out]; rfl, B3.out⟩
            | true =>
              have HN := Lib.hid (HSY.out h8 rfl)
              have s3 := B3.out.size
              go_wp2_with (at_builtin; refine appO rfl _ _ rfl w.heap.size _ K' rfl R3.out 0 (1 + o) rfl (by rw [HQ.out]; omega) s3 ?_)
              intro w4 g cap r5 g5
              have B4 := Lib.hid (g5.below w.heap.size w (Nat.le_refl _) B3.out s3)
              have R4 := Lib.hid r5
              rw [HQ.out] at R4 ⊢
              clear r5 g5
              go_wp2
              go_roundw
              case rel => exact ⟨0 + 1, _, _, q + 1, cap, rfl, by go_num, by omega, by omega, Lib.hid (by rw [List.length_cons, HQ.out]), R4, HN, HST, B4.out⟩
              case measure => simp [intOf]; omega
        · have hs1 := (HST1.out.2 (by omega) hk).leave hlt
          rw [HK.out] at hs1
          obtain ⟨y, K2, hKy, hy0, hyn⟩ := hs1.top
          have HKY := Lib.hid hKy
          have HS1 := Lib.hid hs1
          obtain ⟨t, ht⟩ : ∃ t, y.2 = t := ⟨_, rfl⟩
          rw [ht] at hy0 hyn
          have HTP : Hid (topE K' = t) := Lib.hid (by rw [hKy, ← ht]; rfl)
          have hq1 : K2.length + 1 = q := by rw [← HQ.out, hKy]; rfl
          obtain ⟨p, hp⟩ : ∃ p, K2.length = p := ⟨_, rfl⟩
          rw [hp] at hq1
          have htop : ∃ g, A = some ⟨g, 0, none⟩ ∧ (wr.alloc (Obj.cells #[.string X0, .slice sa sn sc, .int .i64 o] 63)).cell? ⟨g, p * 2 + 1, none⟩ = some (.int .i64 t) := by
            have h1 := RZ.out
            rw [hKy] at h1
            obtain ⟨g, c', hv, _, _, _, h2⟩ := h1.top
            injection hv with e1 _ _
            exact ⟨g, e1, by rw [← hp, ← ht]; exact h2⟩
          obtain ⟨g, rfl, ct⟩ := htop
          subst hq1
          clear hKy hs1 ht hp
          have w4 : (p : Int) < (p : Int) + 1 := by omega
          have w1 : IntKind.i64.wrap (p : Int) = (p : Int) := by rw [IntKind.wrap_i64]; omega
          have w2 : IntKind.i64.wrap (t - (k : Int)) = t - (k : Int) := by rw [IntKind.wrap_i64]; omega
          have w3 : IntKind.i64.wrap (t - (k : Int) - 1) = t - (k : Int) - 1 := by rw [IntKind.wrap_i64]; omega
          by_cases hbig : t - (k : Int) - 1 < o
          · have HF : Hid (r = false) := Lib.hid (by rw [← HG.out, stpB, HK.out, HTP.out, HO.out, decide_eq_false (show ¬ ((k : Int) = 0) by omega), decide_eq_false (show ¬ (o ≤ t - (k : Int) - 1) by omega)]; simp)
            have xk : (0 : Int) < (k : Int) := by omega
            have xk2 : 0 < k := by omega
            have DZ := Lib.hid (DZ.out.below (Below.refl _ _).drew)
            have BZ := Lib.hid BZ.out.drew
            have RZ := Lib.hid (RZ.out.below (Below.refl _ _).drew)
            have SZ : Hid (Cs wr.heap.size (wr.alloc (Obj.cells #[.string X0, .slice sa sn sc, .int .i64 o] 63)).drew [.string X0, .slice sa sn sc, .int .i64 o] ∧ (wr.alloc (Obj.cells #[.string X0, .slice sa sn sc, .int .i64 o] 63)).drew.cell? ⟨g, p * 2 + 1, none⟩ = some (.int .i64 t)) := Lib.hid ⟨DZ.out, ct⟩
            go_upto_region 8 with fail
            refine Hr.Walk.region (R := fun _ x => Cs wr.heap.size x [.string X0, .slice sa sn sc, .int .i64 o] ∧ x.cell? ⟨g, p * 2 + 1, none⟩ = some (.int .i64 t)) (by kernel_rfl) ?_
            refine Hr.Walk.one (i := 0) (by kernel_rfl) rfl (fun K hK => ?_)
            go_simp
            refine hK.out _ _ SZ.out ?_
            clear hK K
            refine Hr.Walk.one (i := 1) (by kernel_rfl) rfl (fun K hK => ?_)
            go_simp
            refine hK.out _ _ SZ.out ?_
            clear hK K
            refine Hr.Walk.one (i := 2) (by kernel_rfl) rfl (fun K hK => ?_)
            go_simp
            refine hK.out _ _ SZ.out ?_
            clear hK K
            refine Hr.Walk.one (i := 3) (by kernel_rfl) rfl (fun K hK => ?_)
            go_simp
            refine hK.out _ _ SZ.out ?_
            clear hK K
            refine Hr.Walk.one (i := 4) (by kernel_rfl) rfl (fun K hK => ?_)
            go_simp
            refine hK.out _ _ SZ.out ?_
            clear hK K
            refine Hr.Walk.one (i := 5) (by kernel_rfl) rfl (fun K hK => ?_)
            go_simp
            refine hK.out _ _ SZ.out ?_
            clear hK K
            refine Hr.Walk.one (i := 6) (by kernel_rfl) rfl (fun K hK => ?_)
            go_simp
            refine hK.out _ _ SZ.out ?_
            clear hK K
            refine Hr.Walk.take (i := 7) (v := ?v7) (fun x => Cs wr.heap.size x [.string X0, .slice sa sn sc, .int .i64 o] ∧ x.cell? ⟨g, p * 2 + 1, none⟩ = some (.int .i64 t)) (fun _ => True) rfl (by kernel_rfl) (by kernel_rfl) (by kernel_rfl) (fun _ _ _ h => h) (fun _ _ _ _ _ _ => trivial) (fun _ _ _ h => h) (fun _ _ h => h) trivial (Or.inl ⟨by rfl, ?hy7⟩) SZ.out SZ.out ?rest7
            case hy7 => intro x hx; have f2 := (hx.1.2 2 _ rfl).1; have f3 := hx.2; clear hx; go_simp; try with_reducible rfl
            (try go_simp)
            refine Hr.Walk.take (i := 8) (v := ?v8) (fun x => Cs wr.heap.size x [.string X0, .slice sa sn sc, .int .i64 o] ∧ x.cell? ⟨g, p * 2 + 1, none⟩ = some (.int .i64 t)) (fun _ => True) rfl (by kernel_rfl) (by kernel_rfl) (by kernel_rfl) (fun _ _ _ h => h) (fun _ _ _ _ _ _ => trivial) (fun _ _ _ h => h) (fun _ _ h => h) trivial (Or.inl ⟨by rfl, ?hy8⟩) SZ.out SZ.out ?rest8
            case hy8 => intro x hx; have f2 := (hx.1.2 2 _ rfl).1; have f3 := hx.2; clear hx; go_simp; try with_reducible rfl
            (try go_simp)
            refine Hr.Walk.take (i := 9) (v := ?v9) (fun x => Cs wr.heap.size x [.string X0, .slice sa sn sc, .int .i64 o] ∧ x.cell? ⟨g, p * 2 + 1, none⟩ = some (.int .i64 t)) (fun _ => True) rfl (by kernel_rfl) (by kernel_rfl) (by kernel_rfl) (fun _ _ _ h => h) (fun _ _ _ _ _ _ => trivial) (fun _ _ _ h => h) (fun _ _ h => h) trivial (Or.inl ⟨by rfl, ?hy9⟩) SZ.out SZ.out ?rest9
            case hy9 => intro x hx; have f2 := (hx.1.2 2 _ rfl).1; have f3 := hx.2; clear hx; go_simp; try with_reducible rfl
            (try go_simp)
            refine Hr.Walk.take (i := 10) (v := ?v10) (fun x => Cs wr.heap.size x [.string X0, .slice sa sn sc, .int .i64 o] ∧ x.cell? ⟨g, p * 2 + 1, none⟩ = some (.int .i64 t)) (fun _ => True) rfl (by kernel_rfl) (by kernel_rfl) (by kernel_rfl) (fun _ _ _ h => h) (fun _ _ _ _ _ _ => trivial) (fun _ _ _ h => h) (fun _ _ h => h) trivial (Or.inl ⟨by rfl, ?hy10⟩) SZ.out SZ.out ?rest10
            case hy10 => intro x hx; have f2 := (hx.1.2 2 _ rfl).1; have f3 := hx.2; clear hx; go_simp; try with_reducible rfl
            (try go_simp)
            refine Hr.Walk.take (i := 11) (v := ?v11) (fun x => Cs wr.heap.size x [.string X0, .slice sa sn sc, .int .i64 o] ∧ x.cell? ⟨g, p * 2 + 1, none⟩ = some (.int .i64 t)) (fun _ => True) rfl (by kernel_rfl) (by kernel_rfl) (by kernel_rfl) (fun _ _ _ h => h) (fun _ _ _ _ _ _ => trivial) (fun _ _ _ h => h) (fun _ _ h => h) trivial (Or.inl ⟨by rfl, ?hy11⟩) SZ.out SZ.out ?rest11
            case hy11 => intro x hx; have f2 := (hx.1.2 2 _ rfl).1; have f3 := hx.2; clear hx; go_simp; try with_reducible rfl
            (try go_simp)
            refine Hr.Walk.take (i := 12) (v := ?v12) (fun x => Cs wr.heap.size x [.string X0, .slice sa sn sc, .int .i64 o] ∧ x.cell? ⟨g, p * 2 + 1, none⟩ = some (.int .i64 t)) (fun _ => True) rfl (by kernel_rfl) (by kernel_rfl) (by kernel_rfl) (fun _ _ _ h => h) (fun _ _ _ _ _ _ => trivial) (fun _ _ _ h => h) (fun _ _ h => h) trivial (Or.inl ⟨by rfl, ?hy12⟩) SZ.out SZ.out ?rest12
            case hy12 => intro x hx; have f2 := (hx.1.2 2 _ rfl).1; have f3 := hx.2; clear hx; go_simp; try with_reducible rfl
            (try go_simp)
            refine Hr.Walk.take (i := 13) (v := ?v13) (fun x => Cs wr.heap.size x [.string X0, .slice sa sn sc, .int .i64 o] ∧ x.cell? ⟨g, p * 2 + 1, none⟩ = some (.int .i64 t)) (fun _ => True) rfl (by kernel_rfl) (by kernel_rfl) (by kernel_rfl) (fun _ _ _ h => h) (fun _ _ _ _ _ _ => trivial) (fun _ _ _ h => h) (fun _ _ h => h) trivial (Or.inl ⟨by rfl, ?hy13⟩) SZ.out SZ.out ?rest13
            case hy13 => intro x hx; have f2 := (hx.1.2 2 _ rfl).1; have f3 := hx.2; clear hx; go_simp; try with_reducible rfl
            (try go_simp)
            refine Hr.Walk.take (i := 14) (v := ?v14) (fun x => Cs wr.heap.size x [.string X0, .slice sa sn sc, .int .i64 o] ∧ x.cell? ⟨g, p * 2 + 1, none⟩ = some (.int .i64 t)) (fun _ => True) rfl (by kernel_rfl) (by kernel_rfl) (by kernel_rfl) (fun _ _ _ h => h) (fun _ _ _ _ _ _ => trivial) (fun _ _ _ h => h) (fun _ _ h => h) trivial (Or.inl ⟨by rfl, ?hy14⟩) SZ.out SZ.out ?rest14
            case hy14 => intro x hx; have f2 := (hx.1.2 2 _ rfl).1; have f3 := hx.2; clear hx; go_simp; try with_reducible rfl
            (try go_simp)
            refine Hr.Walk.take (i := 15) (v := ?v15) (fun x => Cs wr.heap.size x [.string X0, .slice sa sn sc, .int .i64 o] ∧ x.cell? ⟨g, p * 2 + 1, none⟩ = some (.int .i64 t)) (fun _ => True) rfl (by kernel_rfl) (by kernel_rfl) (by kernel_rfl) (fun _ _ _ h => h) (fun _ _ _ _ _ _ => trivial) (fun _ _ _ h => h) (fun _ _ h => h) trivial (Or.inl ⟨by rfl, ?hy15⟩) SZ.out SZ.out ?rest15
            case hy15 => intro x hx; have f2 := (hx.1.2 2 _ rfl).1; have f3 := hx.2; clear hx; go_simp; try with_reducible rfl
            (try go_simp)
            refine Hr.Walk.one (i := 16) (by kernel_rfl) rfl (fun K hK => ?_)
            go_simp
            refine hK.out _ _ SZ.out ?_
            clear hK K
            refine Hr.Walk.one (i := 17) (by kernel_rfl) rfl (fun K hK => ?_)
            go_simp
            refine hK.out _ _ SZ.out ?_
            clear hK K
            refine Hr.Walk.one (i := 18) (by kernel_rfl) rfl (fun K hK => ?_)
            go_simp
            refine hK.out _ _ SZ.out ?_
            clear hK K
            refine Hr.Walk.one (i := 19) (by kernel_rfl) rfl (fun K hK => ?_)
            go_simp
            refine hK.out _ _ SZ.out ?_
            clear hK K
            refine Hr.Walk.one (i := 20) (by kernel_rfl) rfl (fun K hK => ?_)
            go_simp
            refine hK.out _ _ SZ.out ?_
            clear hK K
            refine Hr.Walk.one (i := 21) (by kernel_rfl) rfl (fun K hK => ?_)
            go_simp
            refine hK.out _ _ SZ.out ?_
            clear hK K
            refine Hr.Walk.done (by kernel_rfl) ?_ _
            go_wp2
            go_ret
            exact ⟨by rw [HF.out]; rfl, BZ.out⟩
          · have HSY : Hid (¬ p + 1 = 8 → cb = true → chkG ((k + 1 : Nat) : Int) (((k : Int), (k : Int) + 1 + o) :: K') (L.drop (k + 1)) = r) := Lib.hid (fun e1 e2 => by
              rw [← HG.out, stpB, HO.out, HK.out, HQ.out, HTP.out, HCB.out, e2, decide_eq_true (show (0 : Int) ≤ o by omega), decide_eq_true (show o ≤ t - (k : Int) - 1 by omega), decide_eq_false e1]; simp)
            have HST : Hid ((k + 1 = 0 → ((k : Int), (k : Int) + 1 + o) :: K' = []) ∧ (0 < k + 1 → k + 1 ≤ n → StkOk n (((k : Int), (k : Int) + 1 + o) :: K'))) := Lib.hid ⟨fun h => by omega, fun _ _ => HS1.out.cons (by omega) (by omega)⟩
            have xk : (0 : Int) < (k : Int) := by omega
            have xk2 : 0 < k := by omega
            have DZ := Lib.hid (DZ.out.below (Below.refl _ _).drew)
            have BZ := Lib.hid BZ.out.drew
            have RZ := Lib.hid (RZ.out.below (Below.refl _ _).drew)
            have SZ : Hid (Cs wr.heap.size (wr.alloc (Obj.cells #[.string X0, .slice sa sn sc, .int .i64 o] 63)).drew [.string X0, .slice sa sn sc, .int .i64 o] ∧ (wr.alloc (Obj.cells #[.string X0, .slice sa sn sc, .int .i64 o] 63)).drew.cell? ⟨g, p * 2 + 1, none⟩ = some (.int .i64 t)) := Lib.hid ⟨DZ.out, ct⟩
            go_upto_region 8 with fail
            refine Hr.Walk.region (R := fun _ x => Cs wr.heap.size x [.string X0, .slice sa sn sc, .int .i64 o] ∧ x.cell? ⟨g, p * 2 + 1, none⟩ = some (.int .i64 t)) (by kernel_rfl) ?_
            refine Hr.Walk.one (i := 0) (by kernel_rfl) rfl (fun K hK => ?_)
            go_simp
            refine hK.out _ _ SZ.out ?_
            clear hK K
            refine Hr.Walk.one (i := 1) (by kernel_rfl) rfl (fun K hK => ?_)
            go_simp
            refine hK.out _ _ SZ.out ?_
            clear hK K
            refine Hr.Walk.one (i := 2) (by kernel_rfl) rfl (fun K hK => ?_)
            go_simp
            refine hK.out _ _ SZ.out ?_
            clear hK K
            refine Hr.Walk.one (i := 3) (by kernel_rfl) rfl (fun K hK => ?_)
            go_simp
            refine hK.out _ _ SZ.out ?_
            clear hK K
            refine Hr.Walk.one (i := 4) (by kernel_rfl) rfl (fun K hK => ?_)
            go_simp
            refine hK.out _ _ SZ.out ?_
            clear hK K
            refine Hr.Walk.one (i := 5) (by kernel_rfl) rfl (fun K hK => ?_)
            go_simp
            refine hK.out _ _ SZ.out ?_
            clear hK K
            refine Hr.Walk.one (i := 6) (by kernel_rfl) rfl (fun K hK => ?_)
            go_simp
            refine hK.out _ _ SZ.out ?_
            clear hK K
            refine Hr.Walk.take (i := 7) (v := ?vb7) (fun x => Cs wr.heap.size x [.string X0, .slice sa sn sc, .int .i64 o] ∧ x.cell? ⟨g, p * 2 + 1, none⟩ = some (.int .i64 t)) (fun _ => True) rfl (by kernel_rfl) (by kernel_rfl) (by kernel_rfl) (fun _ _ _ h => h) (fun _ _ _ _ _ _ => trivial) (fun _ _ _ h => h) (fun _ _ h => h) trivial (Or.inl ⟨by rfl, ?hyb7⟩) SZ.out SZ.out ?restb7
            case hyb7 => intro x hx; have f2 := (hx.1.2 2 _ rfl).1; have f3 := hx.2; clear hx; go_simp; try with_reducible rfl
            (try go_simp)
            refine Hr.Walk.take (i := 8) (v := ?vb8) (fun x => Cs wr.heap.size x [.string X0, .slice sa sn sc, .int .i64 o] ∧ x.cell? ⟨g, p * 2 + 1, none⟩ = some (.int .i64 t)) (fun _ => True) rfl (by kernel_rfl) (by kernel_rfl) (by kernel_rfl) (fun _ _ _ h => h) (fun _ _ _ _ _ _ => trivial) (fun _ _ _ h => h) (fun _ _ h => h) trivial (Or.inl ⟨by rfl, ?hyb8⟩) SZ.out SZ.out ?restb8
            case hyb8 => intro x hx; have f2 := (hx.1.2 2 _ rfl).1; have f3 := hx.2; clear hx; go_simp; try with_reducible rfl
            (try go_simp)
            refine Hr.Walk.take (i := 9) (v := ?vb9) (fun x => Cs wr.heap.size x [.string X0, .slice sa sn sc, .int .i64 o] ∧ x.cell? ⟨g, p * 2 + 1, none⟩ = some (.int .i64 t)) (fun _ => True) rfl (by kernel_rfl) (by kernel_rfl) (by kernel_rfl) (fun _ _ _ h => h) (fun _ _ _ _ _ _ => trivial) (fun _ _ _ h => h) (fun _ _ h => h) trivial (Or.inl ⟨by rfl, ?hyb9⟩) SZ.out SZ.out ?restb9
            case hyb9 => intro x hx; have f2 := (hx.1.2 2 _ rfl).1; have f3 := hx.2; clear hx; go_simp; try with_reducible rfl
            (try go_simp)
            refine Hr.Walk.take (i := 10) (v := ?vb10) (fun x => Cs wr.heap.size x [.string X0, .slice sa sn sc, .int .i64 o] ∧ x.cell? ⟨g, p * 2 + 1, none⟩ = some (.int .i64 t)) (fun _ => True) rfl (by kernel_rfl) (by kernel_rfl) (by kernel_rfl) (fun _ _ _ h => h) (fun _ _ _ _ _ _ => trivial) (fun _ _ _ h => h) (fun _ _ h => h) trivial (Or.inl ⟨by rfl, ?hyb10⟩) SZ.out SZ.out ?restb10
            case hyb10 => intro x hx; have f2 := (hx.1.2 2 _ rfl).1; have f3 := hx.2; clear hx; go_simp; try with_reducible rfl
            (try go_simp)
            refine Hr.Walk.take (i := 11) (v := ?vb11) (fun x => Cs wr.heap.size x [.string X0, .slice sa sn sc, .int .i64 o] ∧ x.cell? ⟨g, p * 2 + 1, none⟩ = some (.int .i64 t)) (fun _ => True) rfl (by kernel_rfl) (by kernel_rfl) (by kernel_rfl) (fun _ _ _ h => h) (fun _ _ _ _ _ _ => trivial) (fun _ _ _ h => h) (fun _ _ h => h) trivial (Or.inl ⟨by rfl, ?hyb11⟩) SZ.out SZ.out ?restb11
            case hyb11 => intro x hx; have f2 := (hx.1.2 2 _ rfl).1; have f3 := hx.2; clear hx; go_simp; try with_reducible rfl
            (try go_simp)
            refine Hr.Walk.take (i := 12) (v := ?vb12) (fun x => Cs wr.heap.size x [.string X0, .slice sa sn sc, .int .i64 o] ∧ x.cell? ⟨g, p * 2 + 1, none⟩ = some (.int .i64 t)) (fun _ => True) rfl (by kernel_rfl) (by kernel_rfl) (by kernel_rfl) (fun _ _ _ h => h) (fun _ _ _ _ _ _ => trivial) (fun _ _ _ h => h) (fun _ _ h => h) trivial (Or.inl ⟨by rfl, ?hyb12⟩) SZ.out SZ.out ?restb12
            case hyb12 => intro x hx; have f2 := (hx.1.2 2 _ rfl).1; have f3 := hx.2; clear hx; go_simp; try with_reducible rfl
            (try go_simp)
            refine Hr.Walk.take (i := 13) (v := ?vb13) (fun x => Cs wr.heap.size x [.string X0, .slice sa sn sc, .int .i64 o] ∧ x.cell? ⟨g, p * 2 + 1, none⟩ = some (.int .i64 t)) (fun _ => True) rfl (by kernel_rfl) (by kernel_rfl) (by kernel_rfl) (fun _ _ _ h => h) (fun _ _ _ _ _ _ => trivial) (fun _ _ _ h => h) (fun _ _ h => h) trivial (Or.inl ⟨by rfl, ?hyb13⟩) SZ.out SZ.out ?restb13
            case hyb13 => intro x hx; have f2 := (hx.1.2 2 _ rfl).1; have f3 := hx.2; clear hx; go_simp; try with_reducible rfl
            (try go_simp)
            refine Hr.Walk.take (i := 14) (v := ?vb14) (fun x => Cs wr.heap.size x [.string X0, .slice sa sn sc, .int .i64 o] ∧ x.cell? ⟨g, p * 2 + 1, none⟩ = some (.int .i64 t)) (fun _ => True) rfl (by kernel_rfl) (by kernel_rfl) (by kernel_rfl) (fun _ _ _ h => h) (fun _ _ _ _ _ _ => trivial) (fun _ _ _ h => h) (fun _ _ h => h) trivial (Or.inl ⟨by rfl, ?hyb14⟩) SZ.out SZ.out ?restb14
            case hyb14 => intro x hx; have f2 := (hx.1.2 2 _ rfl).1; have f3 := hx.2; clear hx; go_simp; try with_reducible rfl
            (try go_simp)
            refine Hr.Walk.take (i := 15) (v := ?vb15) (fun x => Cs wr.heap.size x [.string X0, .slice sa sn sc, .int .i64 o] ∧ x.cell? ⟨g, p * 2 + 1, none⟩ = some (.int .i64 t)) (fun _ => True) rfl (by kernel_rfl) (by kernel_rfl) (by kernel_rfl) (fun _ _ _ h => h) (fun _ _ _ _ _ _ => trivial) (fun _ _ _ h => h) (fun _ _ h => h) trivial (Or.inl ⟨by rfl, ?hyb15⟩) SZ.out SZ.out ?restb15
            case hyb15 => intro x hx; have f2 := (hx.1.2 2 _ rfl).1; have f3 := hx.2; clear hx; go_simp; try with_reducible rfl
            (try go_simp)
            refine Hr.Walk.one (i := 16) (by kernel_rfl) rfl (fun K hK => ?_)
            go_simp
            refine hK.out _ _ SZ.out ?_
            clear hK K
            refine Hr.Walk.one (i := 17) (by kernel_rfl) rfl (fun K hK => ?_)
            go_simp
            refine hK.out _ _ SZ.out ?_
            clear hK K
            refine Hr.Walk.one (i := 18) (by kernel_rfl) rfl (fun K hK => ?_)
            go_simp
            refine hK.out _ _ SZ.out ?_
            clear hK K
            refine Hr.Walk.one (i := 19) (by kernel_rfl) rfl (fun K hK => ?_)
            go_simp
            refine hK.out _ _ SZ.out ?_
            clear hK K
            refine Hr.Walk.one (i := 20) (by kernel_rfl) rfl (fun K hK => ?_)
            go_simp
            refine hK.out _ _ SZ.out ?_
            clear hK K
            refine Hr.Walk.one (i := 21) (by kernel_rfl) rfl (fun K hK => ?_)
            go_simp
            refine hK.out _ _ SZ.out ?_
            clear hK K
            refine Hr.Walk.done (by kernel_rfl) ?_ _
            have y0' := y0
            by_cases h8 : p + 1 = 8
            · have HF := Lib.hid (HS8.out h8)
              obtain rfl : p = 7 := by omega
              clear y0'
              go_wp2
              go_ret
              exact ⟨by rw [HF.out]; rfl, BZ.out⟩
            · have x8 : (((p : Int) + 1) == 8) = false := beq_eq_false_iff_ne.2 (by omega)
              go_wp2_with fail
              refine (cir_o cv o X0 (.slice sa sn sc) cb _ HO.out H0.out (HLV.out.below BZ.out) SMC.out HCB).mono ?_
              rintro e w3 ⟨rfl, k1⟩
              have D3 := Lib.hid (DZ.out.below k1)
              have B3 := Lib.hid (bstep BZ.out k1)
              have R3 := Lib.hid (RZ.out.below k1)
              have g3 := D3.out.1
              have v2 := (D3.out.2 2 _ rfl).1
              clear k1 y0 y1 y2 y0'
              cases cb with
              | false =>
                have HF := Lib.hid (HSC.out rfl)
                go_wp2
                go_ret
                exact ⟨by rw [HF.out]; rfl, B3.out⟩
              | true =>
                have HN := Lib.hid (HSY.out h8 rfl)
                have s3 := B3.out.size
                go_wp2_with (at_builtin; refine appO rfl _ _ rfl w.heap.size _ K' rfl R3.out (k : Int) ((k : Int) + 1 + o) rfl (by rw [HQ.out]; omega) s3 ?_)
                intro w4 g cap r5 g5
                have B4 := Lib.hid (g5.below w.heap.size w (Nat.le_refl _) B3.out s3)
                have R4 := Lib.hid r5
                rw [HQ.out] at R4 ⊢
                clear r5 g5
                go_wp2
                go_roundw
                case rel => exact ⟨k + 1, _, _, p + 1 + 1, cap, rfl, by go_num, by omega, by omega, Lib.hid (by rw [List.length_cons, HQ.out]), R4, HN, HST, B4.out⟩
                case measure => simp [intOf]; omega
    · have HR : Hid (r = true) := Lib.hid (by
        have h1 := hG.out
        rw [List.drop_of_length_le (by rw [hnl.out]; omega), chkG] at h1
        exact h1.symm)
      go_wp2
      go_ret
      exact ⟨by rw [HR.out]; rfl, hb⟩
theorem ck_to (v : Value) (L : List CV) (r : Bool) (w : World) (hv : CmpsV w v L) (hn : L.length ≤ 1000000) (hL : ∀ c ∈ L, i64B c.own) (hsm : ∀ c ∈ L, smlC c) (hR : Hid (chkB L = r)) :
    Calls Try.prog 35 #[v] w (CkQ r w) := by
  have hR' := hR.out
  cases hLc : L with
  | nil =>
    rw [hLc] at hv hR'
    obtain ⟨A, c, rfl⟩ := hv.slice
    have hR' : false = r := hR'
    subst hR'
    exact ck_nil A c w
  | cons x xs =>
    have hl : 0 < L.length := by rw [hLc]; simp
    obtain ⟨b, off, c, rfl, hb, hc⟩ := hv.form hl
    obtain ⟨sv, _, _, c2, _⟩ := hc 0 hl
    have e0 : (L[0]'hl) = x := by simp [hLc]
    have hown := own_nat L 0 hl
    rw [Nat.zero_mul, Nat.add_zero, e0] at c2
    rw [e0] at hown
    have hxl : (xs.length : Int) = (L.length : Int) - 1 := by rw [hLc]; simp
    rw [hLc, chkB, ← hLc, hxl] at hR'
    by_cases h : x.own = (L.length : Int) - 1
    · rw [decide_eq_true h, Bool.true_and] at hR'
      rw [h] at c2 hown
      exact ck_ok b off _ c L r w (Lib.hid rfl) hl hn hb c2 (Lib.hid hc) (Lib.hid hL) (Lib.hid hsm) (Lib.hid hown) (Lib.hid hR')
    · rw [decide_eq_false h, Bool.false_and] at hR'
      subst hR'
      exact ck_no b off _ c x.own w hl hn c2 h
end Tre
end Go.Proofs.Ytdakpncfophjnaa
