/-
  The reference's TreeText of whatever right tree. (Written by gen/gen_trtt.py.)
-/
import Derived.Test.YtdakpncfophjnaaTrOA
import Derived.Test.YtdakpncfophjnaaTrF
import Derived.Test.YtdakpncfophjnaaBdAK
import Derived.Test.YtdakpncfophjnaaLnRC
import Derived.Test.YtdakpncfophjnaaBdAC
import Derived.Test.YtdakpncfophjnaaBdX
import Derived.Test.YtdakpncfophjnaaTrU
namespace Go.Proofs.Ytdakpncfophjnaa
open Go.RowKit
namespace Hr
theorem Walk.two {P : Program} {ops : Array Oper} {Q : Exit → Act → World → Prop} {md : Region.Mode} {R : Array Bool → World → Prop} {i k : Nat} {oi ok : Oper} {n : Nat} {up : Array Bool} {a : Act} {w : World} (hr : Region.ready md ops up = [i, k]) (hi : ops[i]? = some oi) (hk : ops[k]? = some ok)
    (h1 : ∀ K' : Act → World → Prop, Shut (∀ a w, R (up.setIfInBounds i true) w → Walk P md ops Q R n (up.setIfInBounds i true) a w → K' a w) → if Region.wanted oi (yielded ops a.tmps) = true then Oper.wp P oi a w K' Q else K' (a.put oi.dst undef) w)
    (h2 : ∀ K' : Act → World → Prop, Shut (∀ a w, R (up.setIfInBounds k true) w → Walk P md ops Q R n (up.setIfInBounds k true) a w → K' a w) → if Region.wanted ok (yielded ops a.tmps) = true then Oper.wp P ok a w K' Q else K' (a.put ok.dst undef) w) : Walk P md ops Q R (n + 1) up a w := by
  refine ⟨fun h0 => (by rw [hr] at h0; cases h0), fun j hj => ?_⟩
  rw [hr] at hj
  rcases List.mem_cons.1 hj with rfl | hj
  · exact wpOp_step hi (fun K' hK => h1 K' (fun a w hS hW => hK a w ⟨hS, hW⟩))
  · obtain rfl := List.mem_singleton.1 hj
    exact wpOp_step hk (fun K' hK => h2 K' (fun a w hS hW => hK a w ⟨hS, hW⟩))
end Hr
namespace Tre
open Lin CutB Cel Ap
open Opn (TxtV)
open Rws (RowS)
attribute [local go_sem ↓] Go.wp_at_zero Go.wp_at_succ
theorem pops_cons (L : List CV) (i : Int) (x : Int × Int) (K : Stk) : pops L i (x :: K) = if x.2 = i then enV L x :: pops L i K else [] := by
  rw [pops, List.takeWhile_cons]
  by_cases h : x.2 = i
  · rw [if_pos h, if_pos (by simpa using h)]; rfl
  · rw [if_neg h, if_neg (by simpa using h)]; rfl
def rtN (L : List CV) (i : Int) (K : Stk) (cs : List CV) : Option (List UInt8) → Option (List UInt8)
  | none => none
  | some o => rtG L i K o cs
theorem rtG_cons (L : List CV) (i : Int) (K : Stk) (out : List UInt8) (c : CV) (cs : List CV) : rtG L i K out (c :: cs) = rtN L (i + 1) ((i, i + 1 + c.own) :: lvK K i) cs (rlW c.ls (out ++ ((pops L i K).map fl).flatten ++ fl ⟨bgL, [], c.nm⟩)) := by
  rw [rtG]
  cases rlW c.ls (out ++ ((pops L i K).map fl).flatten ++ fl ⟨bgL, [], c.nm⟩) <;> rfl
/-- The names of those that are open, the last one last. -/
def ns (L : List CV) (K : Stk) : List (List UInt8) := K.reverse.map (fun x => nmAt L x.1)
theorem ns_cons (L : List CV) (x : Int × Int) (K : Stk) : ns L (x :: K) = ns L K ++ [nmAt L x.1] := by simp [ns]
theorem ns_len (L : List CV) (K : Stk) : (ns L K).length = K.length := by simp [ns]
theorem rowS_top {B : Nat} {w : World} {v : Value} {L : List CV} {x : Int × Int} {K : Stk} (h : RowS B w v (ns L (x :: K))) : ∃ g c, v = .slice (some ⟨g, 0, none⟩) (K.length + 1) c ∧ g < w.heap.size ∧ w.cell? ⟨g, K.length, none⟩ = some (.string ⟨(nmAt L x.1).toArray⟩) := by
  have hl : (ns L (x :: K)).length = K.length + 1 := by rw [ns_len]; rfl
  obtain ⟨g, c, rfl, _, h2⟩ := World.ownsRow.form h (by omega)
  refine ⟨g, c, by rw [hl], h2, ?_⟩
  rw [World.ownsRow.cellAt h K.length (by omega), List.getElem?_map, ns_cons, List.getElem?_append_right (by rw [ns_len]; omega), ns_len, Nat.sub_self]
  rfl
theorem rowS_pop {B : Nat} {w : World} {g c : Nat} {L : List CV} {x : Int × Int} {K : Stk} (h : RowS B w (.slice (some ⟨g, 0, none⟩) (K.length + 1) c) (ns L (x :: K))) : RowS B w (.slice (some ⟨g, 0, none⟩) K.length c) (ns L K) := by
  unfold RowS at h ⊢
  rw [ns_cons, List.map_append, List.length_append, ns_len] at h
  rw [ns_len]
  exact ownsRow_pop (by simp [ns_len]) h
theorem rowS_slice {B : Nat} {w : World} {A : Option Addr} {m c : Nat} {L : List (List UInt8)} (h : RowS B w (.slice A m c) L) : m = L.length ∧ m ≤ c := by
  obtain ⟨e1, e2, _⟩ := own_cap h
  exact ⟨e1, e2⟩
theorem rlt_v (a b : ByteArray) (l : LV) (pv : Value) (w : World) (ha : a = ⟨l.nm.toArray⟩) (hb : b = ⟨l.vl.toArray⟩) (hok : lnB l = true) (hL : Light l) (hp : ParsV w pv l.ps) (T : List UInt8) (hT : Hid (lineF l = T)) :
    Calls Try.prog 24 #[.agg #[.string a, pv, .string b]] w fun e w' => e = .returned (.string ⟨T.toArray⟩) ∧ Below w.heap.size w w' := by
  subst ha hb
  exact rlt_to l.nm l.vl pv l.ps w (Lib.hid hok) (Lib.hid hL) hp T hT
theorem rfo_v (s : ByteArray) (S R : List UInt8) (w : World) (hs : s.size ≤ 60000) (hS : s.data.toList = S) (hR : Hid (Fld.foldL S = R)) :
    Calls Try.prog 60 #[.string s] w fun e w' => e = .returned (.string ⟨R.toArray⟩) ∧ Below w.heap.size w w' := by
  rw [← hR.out]
  exact Fld.rfold_to s S w hs (Lib.hid hS)
/-- append(ends, y), append(names, t), at a step of a region that draws its order; the element lies in a block of its own. -/
theorem stepIa {w : World} {ops : Array Oper} {o : Oper} {a : Act} {K : Act → World → Prop} {Q : Exit → Act → World → Prop} {E : Prop} (hgd : o.guard = none) (s x : Operand)
    (ho : o.op = .call { callee := .builtin .append, args := #[s, x], argTypes := #[47, 47] })
    (B : Nat) (v : Value) (L : List Int) (hs : a.eval s = v) (hown : RowI B w v L) (y : Int) (nb : Nat) (hnb : w.heap[nb]? = some (.cells #[.int .i64 y] 3)) (hx : a.eval x = .slice (some ⟨nb, 0, none⟩) 1 1)
    (hn : L.length ≤ 1000000) (hB : B ≤ w.heap.size)
    (h : ∀ w' g cap, RowI B w' (.slice (some ⟨g, 0, none⟩) (L.length + 1) cap) (L ++ [y]) → w.grownBy w' v.ownBlock → K (a.put o.dst (.slice (some ⟨g, 0, none⟩) (L.length + 1) cap)) w') :
    if Region.wanted o (yielded ops a.tmps) = true then Oper.wp Try.prog o a w K Q else E := by
  obtain ⟨i0, hi0, hz0, hz1, hz2⟩ := info_parts infoI
  refine step_append_lies _ hgd s x 47 ho B 3 i0 (.int .i64 0) 1 8 (by kernel_rfl) hi0 hz0 hz1 hz2 rfl (by decide) v L.length _ hs hown ⟨nb, 0, none⟩ 1 1 [.int .i64 y] hx rfl (World.news_of_block hnb) (by simp; rfl) (by decide) (by unfold maxLen; omega) (by omega) hB w.heap.size rfl ?_
  intro g cap w' r3 g3 _ _
  refine h w' g cap ?_ g3
  unfold RowI
  rw [List.length_append, List.map_append]
  exact r3
theorem stepSa {w : World} {ops : Array Oper} {o : Oper} {a : Act} {K : Act → World → Prop} {Q : Exit → Act → World → Prop} {E : Prop} (hgd : o.guard = none) (s x : Operand)
    (ho : o.op = .call { callee := .builtin .append, args := #[s, x], argTypes := #[32, 32] })
    (B : Nat) (v : Value) (L : List (List UInt8)) (hs : a.eval s = v) (hown : RowS B w v L) (t : List UInt8) (X : ByteArray) (hX : X = ⟨t.toArray⟩) (nb : Nat) (hnb : w.heap[nb]? = some (.cells #[.string X] 9)) (hx : a.eval x = .slice (some ⟨nb, 0, none⟩) 1 1)
    (hn : L.length ≤ 1000000) (hB : B ≤ w.heap.size)
    (h : ∀ w' g cap, RowS B w' (.slice (some ⟨g, 0, none⟩) (L.length + 1) cap) (L ++ [t]) → w.grownBy w' v.ownBlock → K (a.put o.dst (.slice (some ⟨g, 0, none⟩) (L.length + 1) cap)) w') :
    if Region.wanted o (yielded ops a.tmps) = true then Oper.wp Try.prog o a w K Q else E := by
  obtain ⟨i0, hi0, hz0, hz1, hz2⟩ := info_parts Esc.is
  subst hX
  refine step_append_lies _ hgd s x 32 ho B 9 i0 (.string ⟨#[]⟩) 1 16 (by kernel_rfl) hi0 hz0 hz1 hz2 rfl (by decide) v L.length _ hs hown ⟨nb, 0, none⟩ 1 1 [.string ⟨t.toArray⟩] hx rfl (World.news_of_block hnb) (by simp; rfl) (by decide) (by unfold maxLen; omega) (by omega) hB w.heap.size rfl ?_
  intro g cap w' r3 g3 _ _
  refine h w' g cap ?_ g3
  unfold RowS
  rw [List.length_append, List.map_append]
  exact r3
structure St19 (w0 : World) (v1 : Value) (E : List Int) (v2 : Value) (N : List (List UInt8)) (b c : Nat) (y : Int) (X : ByteArray) (x : World) : Prop where
  ri : RowI w0.heap.size x v1 E
  rs : RowS w0.heap.size x v2 N
  c2 : x.cell? ⟨b, c + 2, none⟩ = some (.int .i64 y)
  c0 : x.cell? ⟨b, c, none⟩ = some (.string X)
  bw : Below w0.heap.size w0 x
theorem St19.alloc {w0 x : World} {v1 v2 : Value} {E : List Int} {N : List (List UInt8)} {b c : Nat} {y : Int} {X : ByteArray} (h : St19 w0 v1 E v2 N b c y X x) (hb : b < w0.heap.size) (o : Obj) : St19 w0 v1 E v2 N b c y X (x.alloc o) := by
  have hB : Below x.heap.size x (x.alloc o) := (Below.refl _ _).alloc (Nat.le_refl _) _
  have hbx : b < x.heap.size := Nat.lt_of_lt_of_le hb h.bw.size
  exact ⟨h.ri.below hB, h.rs.below hB, (hB.cell (p := ⟨b, c + 2, none⟩) hbx).trans h.c2, (hB.cell (p := ⟨b, c, none⟩) hbx).trans h.c0, h.bw.alloc h.bw.size o⟩
theorem own_ge {B : Nat} {w : World} {e : TypeId} {s : Nat} {v : Value} {n : Nat} {xs : List Value} (h : w.ownsRow B e s v n xs) {b : Nat} (hb : b < B) : some b ≠ v.ownBlock := fun e => by
  have := (h.lt b e.symm).1
  omega
theorem St19.grownI {w0 x x' : World} {v1 v1' v2 : Value} {E E' : List Int} {N : List (List UInt8)} {b c : Nat} {y : Int} {X : ByteArray} (h : St19 w0 v1 E v2 N b c y X x) (hb : b < w0.heap.size) (hg : x.grownBy x' v1.ownBlock) (hr : RowI w0.heap.size x' v1' E') : St19 w0 v1' E' v2 N b c y X x' := by
  have hbx : b < x.heap.size := Nat.lt_of_lt_of_le hb h.bw.size
  exact ⟨hr, World.ownsRow.kept h.rs hg (Rws.apart h.rs h.ri (by decide)), (hg.cell_far ⟨b, c + 2, none⟩ hbx (own_ge h.ri hb)).trans h.c2, (hg.cell_far ⟨b, c, none⟩ hbx (own_ge h.ri hb)).trans h.c0, h.bw.grown hg h.bw.size (fun k hk => (h.ri.lt k hk).1)⟩
theorem St19.grownS {w0 x x' : World} {v1 v2 v2' : Value} {E : List Int} {N N' : List (List UInt8)} {b c : Nat} {y : Int} {X : ByteArray} (h : St19 w0 v1 E v2 N b c y X x) (hb : b < w0.heap.size) (hg : x.grownBy x' v2.ownBlock) (hr : RowS w0.heap.size x' v2' N') : St19 w0 v1 E v2' N' b c y X x' := by
  have hbx : b < x.heap.size := Nat.lt_of_lt_of_le hb h.bw.size
  exact ⟨World.ownsRow.kept h.ri hg (Rws.apart h.ri h.rs (by decide)), hr, (hg.cell_far ⟨b, c + 2, none⟩ hbx (own_ge h.rs hb)).trans h.c2, (hg.cell_far ⟨b, c, none⟩ hbx (own_ge h.rs hb)).trans h.c0, h.bw.grown hg h.bw.size (fun k hk => (World.ownsRow.lt h.rs k hk).1)⟩
theorem news_alloc {x : World} {nb : Nat} {o p : Obj} (h : x.heap[nb]? = some o) : (x.alloc p).heap[nb]? = some o := (Below.heap_alloc x p nb (Array.getElem?_eq_some_iff.1 h).1).trans h
theorem news_grown {B : Nat} {x x' : World} {e T : TypeId} {s : Nat} {v : Value} {n : Nat} {xs : List Value} {nb : Nat} {cs : Array Value} (h : x.heap[nb]? = some (.cells cs T)) (ho : x.ownsRow B e s v n xs) (hg : x.grownBy x' v.ownBlock) (hT : T ≠ e) : x'.heap[nb]? = some (.cells cs T) :=
  (hg.block nb (Array.getElem?_eq_some_iff.1 h).1 (fun e => own_far' ho h hT e.symm)).trans h
theorem lineF_le {l : LV} (h : Light l) : (lineF l).length ≤ 1000000 := by
  obtain ⟨h1, h2, h3, h4⟩ := h
  have h5 := psT_len l.ps h4 l.ps.length
  rw [List.take_length] at h5
  have h6 : (lineF l).length = l.nm.length + (psT l.ps).length + 1 + l.vl.length := lw_eq l
  have h7 : l.ps.length * 4300 ≤ 20 * 4300 := Nat.mul_le_mul_right _ h3
  omega
set_option maxHeartbeats 51200000 in
set_option maxRecDepth 100000 in
theorem rtt_1 (A0 : Option Addr) (n c0 : Nat) (L : List CV) (r : WS) (w : World) (hv : Hid (CmpsV w (.slice A0 n c0) L)) (hnl : Hid (L.length = n)) (hn : n ≤ 30) (hL : Hid (∀ c ∈ L, LightC c)) (hok : Hid (∀ c ∈ L, cmpB c = true)) (hO : Hid (∀ c ∈ L, 0 ≤ c.own ∧ c.own ≤ 30)) (hr : Hid (rtE (rtG L 0 [] [] L) = r)) :
    Calls Try.prog 37 #[.slice A0 n c0] w fun e w' => e = .returned (.tuple #[.string ⟨r.1.toArray⟩, .int .i64 r.2]) ∧ Below w.heap.size w w' := by
  go_enter Try.func37, Try.ntmps37
  go_wp2_with fail
  go_loopw [4, 5, 6, 7] (fun ov ev nv iv wr => ∃ (k m : Nat) (K : Stk) (O : ByteArray) (A : Option Addr) (cp : Nat) (A2 : Option Addr) (cp2 : Nat), ov = .string O ∧ ev = .slice A m cp ∧ nv = .slice A2 m cp2 ∧ iv = .int .i64 k ∧ k ≤ n ∧ m ≤ k ∧ O.size + 1000 * m ≤ 860000 + 2000 * k ∧ Hid (K.length = m) ∧ Hid (RowE w.heap.size wr (.slice A m cp) K) ∧ Hid (RowS w.heap.size wr (.slice A2 m cp2) (ns L K)) ∧ Hid (rtE (rtG L k K O.data.toList (L.drop k)) = r) ∧ Hid (∀ x ∈ K, (nmAt L x.1).length ≤ 200) ∧ Below w.heap.size w wr) (fun _ _ _ iv _ => n + 1 - (intOf iv).toNat)
  case atStart => exact ⟨0, 0, [], ⟨#[]⟩, none, 0, none, 0, rfl, rfl, rfl, rfl, Nat.zero_le _, Nat.le_refl _, by simp [ByteArray.size], Lib.hid rfl, Lib.hid (RowI.nil _ _), Lib.hid (Rws.RowS.nil _ _), hr, Lib.hid (by simp), Below.refl _ _⟩
  case round =>
    obtain ⟨k, m, K, O, A, cp, A2, cp2, rfl, rfl, rfl, rfl, hk, hmk, hOs, hKm, hRE, hRS, hG, hNK, hb⟩ := hrel
    obtain ⟨wo, rfl⟩ : ∃ wo : World, wo = wr := ⟨_, rfl⟩
    have HB := Lib.hid hb
    have hkk : ¬ n < k := by omega
    clear hb
    go_wp2_with fail
    go_loopw [4, 5, 6] (fun ov ev nv wr => ∃ (m1 : Nat) (K1 : Stk) (O1 : ByteArray), ov = .string O1 ∧ ev = .slice A m1 cp ∧ nv = .slice A2 m1 cp2 ∧ m1 ≤ m ∧ O1.size + 1000 * m1 ≤ 860000 + 2000 * k ∧ Hid (K1.length = m1) ∧ Hid (RowE w.heap.size wr (.slice A m1 cp) K1) ∧ Hid (RowS w.heap.size wr (.slice A2 m1 cp2) (ns L K1)) ∧ Hid (O1.data.toList ++ ((pops L k K1).map fl).flatten = O.data.toList ++ ((pops L k K).map fl).flatten) ∧ Hid (lvK K1 k = lvK K k) ∧ Hid (∀ x ∈ K1, (nmAt L x.1).length ≤ 200) ∧ Below w.heap.size w wr) (fun _ ev _ _ => lenOf ev)
    case atStart => exact ⟨m, K, O, rfl, rfl, rfl, Nat.le_refl _, hOs, hKm, hRE, hRS, Lib.hid rfl, Lib.hid rfl, hNK, HB.out⟩
    case round =>
      obtain ⟨m1, K1, O1, rfl, rfl, rfl, hm1, hO1, hK1, hE1, hS1, hP1, hL1, hN1, hb1⟩ := hrel
      obtain ⟨wp, rfl⟩ : ∃ wp : World, wp = wr := ⟨_, rfl⟩
      clear hRE hRS hNK HB hKm hOs
      have HB1 := Lib.hid hb1
      clear hb1
      cases K1 with
      | nil =>
        have hm0 : (0 : Nat) = m1 := hK1.out
        subst hm0
        have HKE : Hid (([] : Stk) = lvK K k) := Lib.hid (by rw [← hL1.out]; rfl)
        have HOE : Hid (O1.data.toList = O.data.toList ++ ((pops L k K).map fl).flatten) := Lib.hid (by rw [← hP1.out]; simp [pops])
        clear hP1 hL1
        have HMK : Hid ((([] : Stk) : Stk).length = 0) := Lib.hid (rfl)
        by_cases hkn : k = n
        · have HE : Hid (rtE (some O1.data.toList) = r) := Lib.hid (by
            have h := hG.out
            rw [List.drop_of_length_le (by rw [hnl.out]; omega), rtG, ← HOE.out] at h
            exact h)
          have hkq : ((k : Int) == (n : Int)) = true := by simp; omega
          have hkl : ¬ k < n := by omega
          clear hG
          by_cases h6 : 600000 < O1.size
          · have HF : Hid (r = ([], 2)) := Lib.hid (by rw [← HE.out, rtE, if_pos (by simpa using h6)])
            clear HE
            go_wp2
            go_ret2
            rw [HF.out]
            exact ⟨rfl, HB1.out⟩
          · have HF : Hid (r = (O1.data.toList, 0)) := Lib.hid (by rw [← HE.out, rtE, if_neg (by simpa using h6)])
            clear HE
            go_wp2
            go_ret2
            rw [HF.out]
            exact ⟨rfl, HB1.out⟩
        · have hlt : k < n := by omega
          have hkl : k < L.length := by rw [hnl.out]; exact hlt
          have hkq : ((k : Int) == (n : Int)) = false := beq_eq_false_iff_ne.2 (by omega)
          obtain ⟨b, off, c, hAv, hbl, hlc⟩ := hv.out.form (by omega)
          have hA : A0 = some ⟨b, off, none⟩ := by injection hAv
          subst hA
          obtain ⟨sa, sn, sc, c0', c1, c2, hlv⟩ := cmp_at hlc hkl
          have hGe := hG.out
          rw [List.drop_eq_getElem_cons hkl, rtG_cons, ← HOE.out, ← HKE.out] at hGe
          obtain ⟨cv, hcv⟩ : ∃ c, L[k]'hkl = c := ⟨_, rfl⟩
          have LC := Lib.hid (hL.out _ (List.getElem_mem hkl))
          have hcb := hok.out _ (List.getElem_mem hkl)
          have hob := hO.out _ (List.getElem_mem hkl)
          rw [cmpB, Bool.and_eq_true] at hcb
          have HLB := Lib.hid hcb.2
          have HNA : Hid (nmAt L (k : Int) = (L[k]'hkl).nm) := Lib.hid (nmAt_k L k hkl)
          rw [hcv] at c0' c2 hlv LC hGe HLB hob HNA
          obtain ⟨o, ho⟩ : ∃ o, cv.own = o := ⟨_, rfl⟩
          have HO := Lib.hid ho
          rw [ho] at c2 hGe hob
          obtain ⟨X0, hX0⟩ : ∃ X : ByteArray, ⟨cv.nm.toArray⟩ = X := ⟨_, rfl⟩
          rw [hX0] at c0'
          have H0 := Lib.hid hX0.symm
          have hX0s : X0.size ≤ 200 := by rw [← hX0]; exact LC.out.1
          have d0 := (HB1.out.cell (p := ⟨b, off + k * 3, none⟩) hbl).trans c0'
          have HLV := Lib.hid hlv
          have hsn : cv.ls.length = sn := by obtain ⟨_, _, e⟩ := hlv.slice; injection e with _ e _; exact e.symm
          have HSN := Lib.hid hsn
          have xsn : sn ≤ 20 := by rw [← hsn]; exact LC.out.2.1
          have C0 := Lib.hid c0'
          have C1 := Lib.hid c1
          have C2 := Lib.hid c2
          obtain ⟨RB, hRB⟩ : ∃ R, Fld.foldL (lineF ⟨bgL, [], cv.nm⟩) = R := ⟨_, rfl⟩
          have HRB := Lib.hid hRB
          have HXB : Hid ((⟨#[66, 69, 71, 73, 78, 58]⟩ ++ X0 : ByteArray).data.toList = lineF ⟨bgL, [], cv.nm⟩) := Lib.hid (by rw [Rws.cat_data, ← hX0]; rfl)
          have hRBl : RB.length ≤ 900 := by
            have h1 := Fld.foldL_len (lineF ⟨bgL, [], cv.nm⟩)
            have h2 : (lineF ⟨bgL, [], cv.nm⟩).length = 6 + cv.nm.length := bg_lw cv.nm
            have h3 := LC.out.1
            rw [← hRB]; omega
          have hszB : (⟨#[66, 69, 71, 73, 78, 58]⟩ ++ X0 : ByteArray).size ≤ 60000 := by rw [ByteArray.size_append]; show 6 + X0.size ≤ _; omega
          have hs6 : (⟨#[66, 69, 71, 73, 78, 58]⟩ : ByteArray).size = 6 := rfl
          have HGE := Lib.hid hGe
          clear hAv hlc c0' c1 c2 hlv hX0 hcv ho hsn hGe hG hcb hRB
          go_wp2_with fail
          refine (rfo_v _ (lineF ⟨bgL, [], cv.nm⟩) RB _ hszB HXB.out HRB).mono ?_
          rintro e w3 ⟨rfl, k3⟩
          obtain ⟨VB, hVB⟩ : ∃ V : ByteArray, ⟨RB.toArray⟩ = V := ⟨_, rfl⟩
          have hVBs : VB.size ≤ 900 := by rw [← hVB]; exact hRBl
          have HG2 : Hid (rtE (rtN L ((k : Int) + 1) (((k : Int), (k : Int) + 1 + o) :: ([] : Stk)) (L.drop (k + 1)) (rlW cv.ls (O1 ++ VB).data.toList)) = r) := Lib.hid (by
            have h := HGE.out
            have e : VB.data.toList = fl ⟨bgL, [], cv.nm⟩ := by rw [← hVB]; show RB = _; rw [← HRB.out]; rfl
            rw [Rws.cat_data, e]
            exact h)
          rw [hVB]
          have HB3 := Lib.hid (bstep HB1.out k3)
          have E3 : Hid (RowE w.heap.size w3 (.slice A 0 cp) ([] : Stk)) := Lib.hid (RowI.below hE1.out k3)
          have S3 := Lib.hid (Rws.RowS.below hS1.out k3)
          have hO2 : (O1 ++ VB).size + 1000 * (0) ≤ 861000 + 2000 * k := by rw [ByteArray.size_append]; omega
          obtain ⟨OB, hOB⟩ : ∃ X : ByteArray, O1 ++ VB = X := ⟨_, rfl⟩
          have HOB := Lib.hid hOB
          rw [hOB] at hO2 HG2
          have hO1s : O1.size ≤ 1000000 := by omega
          clear k3 hVB HGE hE1 hS1 d0 HRB HXB hOB
          go_wp2_with fail
          rw [HOB.out]
          go_loopw [4, 8] (fun ov jv wr => ∃ (j : Nat) (O2 : ByteArray), ov = .string O2 ∧ jv = .int .i64 j ∧ j ≤ sn ∧ O2.size + 1000 * (0) ≤ 861000 + 2000 * k ∧ Hid (rtE (rtN L ((k : Int) + 1) (((k : Int), (k : Int) + 1 + o) :: ([] : Stk)) (L.drop (k + 1)) (rlW (cv.ls.drop j) O2.data.toList)) = r) ∧ Hid (RowE w.heap.size wr (.slice A 0 cp) ([] : Stk)) ∧ Hid (RowS w.heap.size wr (.slice A2 0 cp2) (ns L (([] : Stk)))) ∧ Below w.heap.size w wr) (fun _ jv _ => sn - (intOf jv).toNat)
          case atStart => exact ⟨0, OB, rfl, rfl, Nat.zero_le _, hO2, HG2, E3, S3, HB3.out⟩
          case round =>
            obtain ⟨j, O2, rfl, rfl, hj, hO3, hG3, hE3, hS3, hb3⟩ := hrel
            obtain ⟨wz, rfl⟩ : ∃ wz : World, wz = wr := ⟨_, rfl⟩
            clear HG2 E3 S3 HB3 hO2
            have s1 := (hb3.cell (p := ⟨b, off + k * 3 + 1, none⟩) hbl).trans C1.out
            by_cases hjn : j < sn
            · have hjl : j < cv.ls.length := by rw [HSN.out]; exact hjn
              obtain ⟨lb, lo, lc, hAv2, hlb, hlc⟩ := HLV.out.form (by omega)
              have hA2 : sa = some ⟨lb, lo, none⟩ := by injection hAv2
              subst hA2
              obtain ⟨sv, e0, e1, e2, hpv⟩ := hlc j hjl
              obtain ⟨pa, pn, pc, hsv⟩ : ∃ a n c, sv = .slice a n c := by obtain ⟨a, n, c, h, _⟩ := hpv; exact ⟨a, n, c, h⟩
              subst hsv
              have hli := List.all_eq_true.1 HLB.out _ (List.getElem_mem hjl)
              have LT := Lib.hid (LC.out.2.2 _ (List.getElem_mem hjl))
              have hGf := hG3.out
              rw [List.drop_eq_getElem_cons hjl, rlW] at hGf
              obtain ⟨l, hl⟩ : ∃ l, cv.ls[j]'hjl = l := ⟨_, rfl⟩
              rw [hl] at e0 e2 hpv LT hli hGf
              have hlb2 : lnB l = true := by
                rw [linB, Bool.and_eq_true, Bool.and_eq_true] at hli
                exact hli.2.2
              have HLN := Lib.hid hlb2
              obtain ⟨Y0, hY0⟩ : ∃ X : ByteArray, ⟨l.nm.toArray⟩ = X := ⟨_, rfl⟩
              obtain ⟨Y2, hY2⟩ : ∃ X : ByteArray, ⟨l.vl.toArray⟩ = X := ⟨_, rfl⟩
              rw [hY0] at e0
              rw [hY2] at e2
              have W0 := Lib.hid hY0.symm
              have W2 := Lib.hid hY2.symm
              have f0 := (hb3.cell (p := ⟨lb, lo + j * 3, none⟩) hlb).trans e0
              have f1 := (hb3.cell (p := ⟨lb, lo + j * 3 + 1, none⟩) hlb).trans e1
              have f2 := (hb3.cell (p := ⟨lb, lo + j * 3 + 2, none⟩) hlb).trans e2
              have HP := Lib.hid (hpv.below hb3)
              obtain ⟨T, hT⟩ : ∃ T, lineF l = T := ⟨_, rfl⟩
              have HT := Lib.hid hT
              have HFL : Hid (fl l = Fld.foldL T) := Lib.hid (by rw [fl, hT])
              rw [hT] at hGf
              have HGF := Lib.hid hGf
              have HB3 := Lib.hid hb3
              have LT2 : Hid (T.length ≤ 1000000) := Lib.hid (by rw [← hT]; exact lineF_le LT.out)
              clear e0 e1 e2 hpv hl hY0 hY2 hlc hAv2 hli hlb2 hT hGf hG3 hb3
              go_wp2_with fail
              refine (rlt_v Y0 Y2 l (.slice pa pn pc) _ W0.out W2.out HLN.out LT.out HP.out T HT).mono ?_
              rintro e w4 ⟨rfl, k4⟩
              obtain ⟨TX, hTX⟩ : ∃ V : ByteArray, ⟨T.toArray⟩ = V := ⟨_, rfl⟩
              have hTs : TX.size = T.length := by rw [← hTX]; rfl
              have HTS := Lib.hid hTs
              have HTD : Hid (TX.data.toList = T) := Lib.hid (by rw [← hTX])
              rw [hTX]
              have HB4 := Lib.hid (bstep HB3.out k4)
              have E4 : Hid (RowE w.heap.size w4 (.slice A 0 cp) ([] : Stk)) := Lib.hid (RowI.below hE3.out k4)
              have S4 := Lib.hid (Rws.RowS.below hS3.out k4)
              have hTm : TX.size ≤ 1000000 := by rw [hTs]; exact LT2.out
              clear k4 hTX hTs f0 f1 f2 hE3 hS3 HB3
              by_cases h7 : 60000 < TX.size
              · have HF : Hid (r = ([], 2)) := Lib.hid (by
                  have h := HGF.out
                  rw [if_pos (Or.inl (by rw [← HTS.out]; exact h7))] at h
                  exact h.symm)
                clear HGF
                go_wp2
                go_ret2
                rw [HF.out]
                exact ⟨rfl, HB4.out⟩
              · by_cases h8 : 600000 < O2.size
                · have HF : Hid (r = ([], 2)) := Lib.hid (by
                    have h := HGF.out
                    rw [if_pos (Or.inr (by simpa using h8))] at h
                    exact h.symm)
                  clear HGF
                  go_wp2
                  go_ret2
                  rw [HF.out]
                  exact ⟨rfl, HB4.out⟩
                · have HG4 := HGF.out
                  rw [if_neg (by rintro (q | q); exact h7 (by rw [HTS.out]; exact q); exact h8 (by simpa using q))] at HG4
                  obtain ⟨RL, hRL⟩ : ∃ R, Fld.foldL T = R := ⟨_, rfl⟩
                  have HRL := Lib.hid hRL
                  have hRll : RL.length ≤ 240002 := by
                    have h1 := Fld.foldL_len T
                    have h2 := HTS.out
                    rw [← hRL]; omega
                  have hG5 := Lib.hid HG4
                  have hT6 : TX.size ≤ 60000 := by omega
                  clear HG4 HGF hRL
                  go_wp2_with fail
                  refine (rfo_v TX T RL _ hT6 HTD.out HRL).mono ?_
                  rintro e w5 ⟨rfl, k5⟩
                  obtain ⟨VL, hVL⟩ : ∃ V : ByteArray, ⟨RL.toArray⟩ = V := ⟨_, rfl⟩
                  have hVLs : VL.size ≤ 240002 := by rw [← hVL]; exact hRll
                  have HG6 : Hid (rtE (rtN L ((k : Int) + 1) (((k : Int), (k : Int) + 1 + o) :: ([] : Stk)) (L.drop (k + 1)) (rlW (cv.ls.drop (j + 1)) (O2 ++ VL).data.toList)) = r) := Lib.hid (by
                    have h := hG5.out
                    have e : VL.data.toList = fl l := by rw [← hVL]; show RL = _; rw [← HRL.out, HFL.out]
                    rw [Rws.cat_data, e]
                    exact h)
                  rw [hVL]
                  have HB5 := Lib.hid (bstep HB4.out k5)
                  have E5 : Hid (RowE w.heap.size w5 (.slice A 0 cp) ([] : Stk)) := Lib.hid (RowI.below E4.out k5)
                  have S5 := Lib.hid (Rws.RowS.below S4.out k5)
                  have hO5 : (O2 ++ VL).size + 1000 * (0) ≤ 861000 + 2000 * k := by rw [ByteArray.size_append]; omega
                  clear k5 hVL hG5 HB4 E4 S4
                  go_wp2
                  go_roundw
                  case rel => exact ⟨j + 1, O2 ++ VL, rfl, by go_num, by omega, hO5, HG6, E5, S5, HB5.out⟩
                  case measure => simp [intOf]; omega
            · have HGN : Hid (rtE (rtG L ((k + 1 : Nat) : Int) (((k : Int), (k : Int) + 1 + o) :: ([] : Stk)) O2.data.toList (L.drop (k + 1))) = r) := Lib.hid (by
                have h := hG3.out
                rw [show cv.ls.drop j = [] from List.drop_of_length_le (by rw [HSN.out]; omega), rlW, rtN] at h
                exact h)
              have HNN : Hid (∀ y ∈ (((k : Int), (k : Int) + 1 + o) :: ([] : Stk) : Stk), (nmAt L y.1).length ≤ 200) := Lib.hid (fun y hy => by
                rcases List.mem_cons.1 hy with rfl | hy
                · show (nmAt L (k : Int)).length ≤ 200
                  rw [HNA.out]; exact LC.out.1
                · exact hN1.out y hy)
              have ST0 : Hid (St19 w (.slice A 0 cp) (es (([] : Stk))) (.slice A2 0 cp2) (ns L (([] : Stk))) b (off + k * 3) o X0 wz.drew) := Lib.hid ⟨RowI.below hE3.out (Below.refl wz.heap.size wz).drew, Rws.RowS.below hS3.out (Below.refl wz.heap.size wz).drew, (hb3.cell (p := ⟨b, off + k * 3 + 2, none⟩) hbl).trans C2.out, (hb3.cell (p := ⟨b, off + k * 3, none⟩) hbl).trans C0.out, hb3.drew⟩
              have HEL : Hid ((es (([] : Stk))).length = 0) := Lib.hid (by rw [es_len]; exact HMK.out)
              have HNL : Hid ((ns L (([] : Stk))).length = 0) := Lib.hid (by rw [ns_len]; exact HMK.out)
              have wr1 : IntKind.i64.wrap ((k : Int) + 1) = (k : Int) + 1 := by rw [IntKind.wrap_i64]; omega
              have wr2 : IntKind.i64.wrap ((k : Int) + 1 + o) = (k : Int) + 1 + o := by rw [IntKind.wrap_i64]; omega
              have HO0 : Hid (X0 = ⟨(nmAt L (k : Int)).toArray⟩) := Lib.hid (by rw [H0.out, HNA.out])
              have sz0 : w.heap.size ≤ wz.heap.size := hb3.size
              have hML : (0 : Nat) ≤ 30 := by omega
              clear hG3 hE3 hS3 hb3
              go_wp2_with fail
              go_upto_region 19 with fail
              have SZ : Hid (wz.drew.cell? ⟨b, off + k * 3 + 2, none⟩ = some (.int .i64 o) ∧ wz.drew.cell? ⟨b, off + k * 3, none⟩ = some (.string X0)) := Lib.hid ⟨ST0.out.c2, ST0.out.c0⟩
              refine Hr.Walk.region (R := fun _ x => x.cell? ⟨b, off + k * 3 + 2, none⟩ = some (.int .i64 o) ∧ x.cell? ⟨b, off + k * 3, none⟩ = some (.string X0)) (by kernel_rfl) ?_
              refine Hr.Walk.take (i := 0) (v := ?av0) (fun x => x.cell? ⟨b, off + k * 3 + 2, none⟩ = some (.int .i64 o) ∧ x.cell? ⟨b, off + k * 3, none⟩ = some (.string X0)) (fun _ => True) rfl (by kernel_rfl) (by kernel_rfl) (by kernel_rfl) (fun _ _ _ h => h) (fun _ _ _ _ _ _ => trivial) (fun _ _ _ h => h) (fun _ _ h => h) trivial (Or.inl ⟨by rfl, ?ahy0⟩) SZ.out SZ.out ?arest0
              case ahy0 => intro x hx; have f2 := hx.1; have f3 := hx.2; clear hx; go_simp; try with_reducible rfl
              (try go_simp)
              refine Hr.Walk.take (i := 1) (v := ?av1) (fun x => x.cell? ⟨b, off + k * 3 + 2, none⟩ = some (.int .i64 o) ∧ x.cell? ⟨b, off + k * 3, none⟩ = some (.string X0)) (fun _ => True) rfl (by kernel_rfl) (by kernel_rfl) (by kernel_rfl) (fun _ _ _ h => h) (fun _ _ _ _ _ _ => trivial) (fun _ _ _ h => h) (fun _ _ h => h) trivial (Or.inl ⟨by rfl, ?ahy1⟩) SZ.out SZ.out ?arest1
              case ahy1 => intro x hx; have f2 := hx.1; have f3 := hx.2; clear hx; go_simp; try with_reducible rfl
              (try go_simp)
              refine Hr.Walk.take (i := 2) (v := ?av2) (fun x => x.cell? ⟨b, off + k * 3 + 2, none⟩ = some (.int .i64 o) ∧ x.cell? ⟨b, off + k * 3, none⟩ = some (.string X0)) (fun _ => True) rfl (by kernel_rfl) (by kernel_rfl) (by kernel_rfl) (fun _ _ _ h => h) (fun _ _ _ _ _ _ => trivial) (fun _ _ _ h => h) (fun _ _ h => h) trivial (Or.inl ⟨by rfl, ?ahy2⟩) SZ.out SZ.out ?arest2
              case ahy2 => intro x hx; have f2 := hx.1; have f3 := hx.2; clear hx; go_simp; try with_reducible rfl
              (try go_simp)
              refine Hr.Walk.take (i := 3) (v := ?av3) (fun x => x.cell? ⟨b, off + k * 3 + 2, none⟩ = some (.int .i64 o) ∧ x.cell? ⟨b, off + k * 3, none⟩ = some (.string X0)) (fun _ => True) rfl (by kernel_rfl) (by kernel_rfl) (by kernel_rfl) (fun _ _ _ h => h) (fun _ _ _ _ _ _ => trivial) (fun _ _ _ h => h) (fun _ _ h => h) trivial (Or.inl ⟨by rfl, ?ahy3⟩) SZ.out SZ.out ?arest3
              case ahy3 => intro x hx; have f2 := hx.1; have f3 := hx.2; clear hx; go_simp; try with_reducible rfl
              (try go_simp)
              refine Hr.Walk.take (i := 4) (v := ?av4) (fun x => x.cell? ⟨b, off + k * 3 + 2, none⟩ = some (.int .i64 o) ∧ x.cell? ⟨b, off + k * 3, none⟩ = some (.string X0)) (fun _ => True) rfl (by kernel_rfl) (by kernel_rfl) (by kernel_rfl) (fun _ _ _ h => h) (fun _ _ _ _ _ _ => trivial) (fun _ _ _ h => h) (fun _ _ h => h) trivial (Or.inl ⟨by rfl, ?ahy4⟩) SZ.out SZ.out ?arest4
              case ahy4 => intro x hx; have f2 := hx.1; have f3 := hx.2; clear hx; go_simp; try with_reducible rfl
              (try go_simp)
              refine Hr.Walk.take (i := 5) (v := ?av5) (fun x => x.cell? ⟨b, off + k * 3 + 2, none⟩ = some (.int .i64 o) ∧ x.cell? ⟨b, off + k * 3, none⟩ = some (.string X0)) (fun _ => True) rfl (by kernel_rfl) (by kernel_rfl) (by kernel_rfl) (fun _ _ _ h => h) (fun _ _ _ _ _ _ => trivial) (fun _ _ _ h => h) (fun _ _ h => h) trivial (Or.inl ⟨by rfl, ?ahy5⟩) SZ.out SZ.out ?arest5
              case ahy5 => intro x hx; have f2 := hx.1; have f3 := hx.2; clear hx; go_simp; try with_reducible rfl
              (try go_simp)
              refine Hr.Walk.take (i := 6) (v := ?av6) (fun x => x.cell? ⟨b, off + k * 3 + 2, none⟩ = some (.int .i64 o) ∧ x.cell? ⟨b, off + k * 3, none⟩ = some (.string X0)) (fun _ => True) rfl (by kernel_rfl) (by kernel_rfl) (by kernel_rfl) (fun _ _ _ h => h) (fun _ _ _ _ _ _ => trivial) (fun _ _ _ h => h) (fun _ _ h => h) trivial (Or.inl ⟨by rfl, ?ahy6⟩) SZ.out SZ.out ?arest6
              case ahy6 => intro x hx; have f2 := hx.1; have f3 := hx.2; clear hx; go_simp; try with_reducible rfl
              (try go_simp)
              refine Hr.Walk.take (i := 7) (v := ?av7) (fun x => x.cell? ⟨b, off + k * 3 + 2, none⟩ = some (.int .i64 o) ∧ x.cell? ⟨b, off + k * 3, none⟩ = some (.string X0)) (fun _ => True) rfl (by kernel_rfl) (by kernel_rfl) (by kernel_rfl) (fun _ _ _ h => h) (fun _ _ _ _ _ _ => trivial) (fun _ _ _ h => h) (fun _ _ h => h) trivial (Or.inl ⟨by rfl, ?ahy7⟩) SZ.out SZ.out ?arest7
              case ahy7 => intro x hx; have f2 := hx.1; have f3 := hx.2; clear hx; go_simp; try with_reducible rfl
              (try go_simp)
              refine Hr.Walk.take (i := 8) (v := ?av8) (fun x => x.cell? ⟨b, off + k * 3 + 2, none⟩ = some (.int .i64 o) ∧ x.cell? ⟨b, off + k * 3, none⟩ = some (.string X0)) (fun _ => True) rfl (by kernel_rfl) (by kernel_rfl) (by kernel_rfl) (fun _ _ _ h => h) (fun _ _ _ _ _ _ => trivial) (fun _ _ _ h => h) (fun _ _ h => h) trivial (Or.inl ⟨by rfl, ?ahy8⟩) SZ.out SZ.out ?arest8
              case ahy8 => intro x hx; have f2 := hx.1; have f3 := hx.2; clear hx; go_simp; try with_reducible rfl
              (try go_simp)
              refine Hr.Walk.take (i := 11) (v := ?av11) (fun x => x.cell? ⟨b, off + k * 3 + 2, none⟩ = some (.int .i64 o) ∧ x.cell? ⟨b, off + k * 3, none⟩ = some (.string X0)) (fun _ => True) rfl (by kernel_rfl) (by kernel_rfl) (by kernel_rfl) (fun _ _ _ h => h) (fun _ _ _ _ _ _ => trivial) (fun _ _ _ h => h) (fun _ _ h => h) trivial (Or.inl ⟨by rfl, ?ahy11⟩) SZ.out SZ.out ?arest11
              case ahy11 => intro x hx; have f2 := hx.1; have f3 := hx.2; clear hx; go_simp; try with_reducible rfl
              (try go_simp)
              refine Hr.Walk.take (i := 12) (v := ?av12) (fun x => x.cell? ⟨b, off + k * 3 + 2, none⟩ = some (.int .i64 o) ∧ x.cell? ⟨b, off + k * 3, none⟩ = some (.string X0)) (fun _ => True) rfl (by kernel_rfl) (by kernel_rfl) (by kernel_rfl) (fun _ _ _ h => h) (fun _ _ _ _ _ _ => trivial) (fun _ _ _ h => h) (fun _ _ h => h) trivial (Or.inl ⟨by rfl, ?ahy12⟩) SZ.out SZ.out ?arest12
              case ahy12 => intro x hx; have f2 := hx.1; have f3 := hx.2; clear hx; go_simp; try with_reducible rfl
              (try go_simp)
              refine Hr.Walk.take (i := 13) (v := ?av13) (fun x => x.cell? ⟨b, off + k * 3 + 2, none⟩ = some (.int .i64 o) ∧ x.cell? ⟨b, off + k * 3, none⟩ = some (.string X0)) (fun _ => True) rfl (by kernel_rfl) (by kernel_rfl) (by kernel_rfl) (fun _ _ _ h => h) (fun _ _ _ _ _ _ => trivial) (fun _ _ _ h => h) (fun _ _ h => h) trivial (Or.inl ⟨by rfl, ?ahy13⟩) SZ.out SZ.out ?arest13
              case ahy13 => intro x hx; have f2 := hx.1; have f3 := hx.2; clear hx; go_simp; try with_reducible rfl
              (try go_simp)
              refine Hr.Walk.take (i := 14) (v := ?av14) (fun x => x.cell? ⟨b, off + k * 3 + 2, none⟩ = some (.int .i64 o) ∧ x.cell? ⟨b, off + k * 3, none⟩ = some (.string X0)) (fun _ => True) rfl (by kernel_rfl) (by kernel_rfl) (by kernel_rfl) (fun _ _ _ h => h) (fun _ _ _ _ _ _ => trivial) (fun _ _ _ h => h) (fun _ _ h => h) trivial (Or.inl ⟨by rfl, ?ahy14⟩) SZ.out SZ.out ?arest14
              case ahy14 => intro x hx; have f2 := hx.1; have f3 := hx.2; clear hx; go_simp; try with_reducible rfl
              (try go_simp)
              refine Hr.Walk.take (i := 15) (v := ?av15) (fun x => x.cell? ⟨b, off + k * 3 + 2, none⟩ = some (.int .i64 o) ∧ x.cell? ⟨b, off + k * 3, none⟩ = some (.string X0)) (fun _ => True) rfl (by kernel_rfl) (by kernel_rfl) (by kernel_rfl) (fun _ _ _ h => h) (fun _ _ _ _ _ _ => trivial) (fun _ _ _ h => h) (fun _ _ h => h) trivial (Or.inl ⟨by rfl, ?ahy15⟩) SZ.out SZ.out ?arest15
              case ahy15 => intro x hx; have f2 := hx.1; have f3 := hx.2; clear hx; go_simp; try with_reducible rfl
              (try go_simp)
              refine Hr.Walk.take (i := 16) (v := ?av16) (fun x => x.cell? ⟨b, off + k * 3 + 2, none⟩ = some (.int .i64 o) ∧ x.cell? ⟨b, off + k * 3, none⟩ = some (.string X0)) (fun _ => True) rfl (by kernel_rfl) (by kernel_rfl) (by kernel_rfl) (fun _ _ _ h => h) (fun _ _ _ _ _ _ => trivial) (fun _ _ _ h => h) (fun _ _ h => h) trivial (Or.inl ⟨by rfl, ?ahy16⟩) SZ.out SZ.out ?arest16
              case ahy16 => intro x hx; have f2 := hx.1; have f3 := hx.2; clear hx; go_simp; try with_reducible rfl
              (try go_simp)
              clear wr1 wr2 SZ
              refine Hr.Walk.two (i := 9) (k := 17) (by kernel_rfl) rfl rfl (fun K hK => ?_) (fun K hK => ?_)
              · go_simp
                have STA1 := Lib.hid (ST0.out.alloc hbl (Obj.cells #[.int .i64 ((k : Int) + 1 + o)] 3))
                have NB9 : Hid ((wz.drew.alloc (Obj.cells #[.int .i64 ((k : Int) + 1 + o)] 3)).heap[wz.heap.size]? = some (Obj.cells #[.int .i64 ((k : Int) + 1 + o)] 3)) := Lib.hid (heap_alloc_new wz.drew _)
                refine hK.out _ _ ⟨STA1.out.c2, STA1.out.c0⟩ ?_
                clear hK K
                refine Hr.Walk.two (i := 10) (k := 17) (by kernel_rfl) rfl rfl (fun K hK => ?_) (fun K hK => ?_)
                · refine stepIa rfl _ _ rfl w.heap.size _ (es (([] : Stk))) rfl STA1.out.ri ((k : Int) + 1 + o) (wz.heap.size) NB9.out (by rfl) (by rw [HEL.out]; omega) STA1.out.bw.size ?_
                  intro wa2 g10 c10 r10 gr10
                  rw [HEL.out] at r10 ⊢
                  have STA2 := Lib.hid (STA1.out.grownI hbl gr10 r10)
                  clear r10 gr10
                  refine hK.out _ _ ⟨STA2.out.c2, STA2.out.c0⟩ ?_
                  clear hK K
                  refine Hr.Walk.one (i := 17) (by kernel_rfl) rfl (fun K hK => ?_)
                  go_simp
                  have STA3 := Lib.hid (STA2.out.alloc hbl (Obj.cells #[.string X0] 9))
                  have NB17 : Hid ((wa2.alloc (Obj.cells #[.string X0] 9)).heap[wa2.heap.size]? = some (Obj.cells #[.string X0] 9)) := Lib.hid (heap_alloc_new wa2 _)
                  refine hK.out _ _ ⟨STA3.out.c2, STA3.out.c0⟩ ?_
                  clear hK K
                  refine Hr.Walk.one (i := 18) (by kernel_rfl) rfl (fun K hK => ?_)
                  refine stepSa rfl _ _ rfl w.heap.size _ (ns L (([] : Stk))) rfl STA3.out.rs (nmAt L (k : Int)) X0 HO0.out (wa2.heap.size) NB17.out (by rfl) (by rw [HNL.out]; omega) STA3.out.bw.size ?_
                  intro wa4 g18 c18 r18 gr18
                  rw [HNL.out] at r18 ⊢
                  have STA4 := Lib.hid (STA3.out.grownS hbl gr18 r18)
                  clear r18 gr18
                  refine hK.out _ _ ⟨STA4.out.c2, STA4.out.c0⟩ ?_
                  clear hK K
                  refine Hr.Walk.one (i := 19) (by kernel_rfl) rfl (fun K hK => ?_)
                  go_simp
                  refine hK.out _ _ ⟨STA4.out.c2, STA4.out.c0⟩ ?_
                  clear hK K
                  refine Hr.Walk.one (i := 20) (by kernel_rfl) rfl (fun K hK => ?_)
                  go_simp
                  refine hK.out _ _ ⟨STA4.out.c2, STA4.out.c0⟩ ?_
                  clear hK K
                  refine Hr.Walk.done (by kernel_rfl) ?_ _
                  have EF : Hid (RowE w.heap.size wa4 (.slice (some ⟨g10, 0, none⟩) (0 + 1) c10) (((k : Int), (k : Int) + 1 + o) :: ([] : Stk))) := Lib.hid (by unfold RowE; rw [es_cons]; exact STA4.out.ri)
                  have SF : Hid (RowS w.heap.size wa4 (.slice (some ⟨g18, 0, none⟩) (0 + 1) c18) (ns L (((k : Int), (k : Int) + 1 + o) :: ([] : Stk)))) := Lib.hid (by rw [ns_cons]; exact STA4.out.rs)
                  have HMF : Hid ((((k : Int), (k : Int) + 1 + o) :: ([] : Stk) : Stk).length = 0 + 1) := Lib.hid (by rw [List.length_cons, HMK.out])
                  have BF := Lib.hid STA4.out.bw
                  go_wp2
                  go_roundw
                  case rel => exact ⟨k + 1, 0 + 1, _, O2, some ⟨g10, 0, none⟩, c10, some ⟨g18, 0, none⟩, c18, rfl, by first | rfl | go_num, by first | rfl | go_num, by go_num, by omega, by omega, by omega, HMF, EF, SF, HGN, HNN, BF.out⟩
                  case measure => simp [intOf]; omega
                · go_simp
                  have STA2 := Lib.hid (STA1.out.alloc hbl (Obj.cells #[.string X0] 9))
                  have NB17 : Hid (((wz.drew.alloc (Obj.cells #[.int .i64 ((k : Int) + 1 + o)] 3)).alloc (Obj.cells #[.string X0] 9)).heap[wz.heap.size + 1]? = some (Obj.cells #[.string X0] 9)) := Lib.hid (by have h := heap_alloc_new (wz.drew.alloc (Obj.cells #[.int .i64 ((k : Int) + 1 + o)] 3)) (Obj.cells #[.string X0] 9); rw [show (wz.drew.alloc (Obj.cells #[.int .i64 ((k : Int) + 1 + o)] 3)).heap.size = wz.heap.size + 1 from by simp] at h; exact h)
                  have NB9b : Hid (((wz.drew.alloc (Obj.cells #[.int .i64 ((k : Int) + 1 + o)] 3)).alloc (Obj.cells #[.string X0] 9)).heap[wz.heap.size]? = some (Obj.cells #[.int .i64 ((k : Int) + 1 + o)] 3)) := Lib.hid (news_alloc NB9.out)
                  refine hK.out _ _ ⟨STA2.out.c2, STA2.out.c0⟩ ?_
                  clear hK K
                  refine Hr.Walk.one (i := 10) (by kernel_rfl) rfl (fun K hK => ?_)
                  refine stepIa rfl _ _ rfl w.heap.size _ (es (([] : Stk))) rfl STA2.out.ri ((k : Int) + 1 + o) (wz.heap.size) NB9b.out (by rfl) (by rw [HEL.out]; omega) STA2.out.bw.size ?_
                  intro wa3 g10 c10 r10 gr10
                  rw [HEL.out] at r10 ⊢
                  have STA3 := Lib.hid (STA2.out.grownI hbl gr10 r10)
                  have NB17c : Hid (wa3.heap[wz.heap.size + 1]? = some (Obj.cells #[.string X0] 9)) := Lib.hid (news_grown NB17.out STA2.out.ri gr10 (by decide))
                  clear r10 gr10
                  refine hK.out _ _ ⟨STA3.out.c2, STA3.out.c0⟩ ?_
                  clear hK K
                  refine Hr.Walk.one (i := 18) (by kernel_rfl) rfl (fun K hK => ?_)
                  refine stepSa rfl _ _ rfl w.heap.size _ (ns L (([] : Stk))) rfl STA3.out.rs (nmAt L (k : Int)) X0 HO0.out (wz.heap.size + 1) NB17c.out (by rfl) (by rw [HNL.out]; omega) STA3.out.bw.size ?_
                  intro wa4 g18 c18 r18 gr18
                  rw [HNL.out] at r18 ⊢
                  have STA4 := Lib.hid (STA3.out.grownS hbl gr18 r18)
                  clear r18 gr18
                  refine hK.out _ _ ⟨STA4.out.c2, STA4.out.c0⟩ ?_
                  clear hK K
                  refine Hr.Walk.one (i := 19) (by kernel_rfl) rfl (fun K hK => ?_)
                  go_simp
                  refine hK.out _ _ ⟨STA4.out.c2, STA4.out.c0⟩ ?_
                  clear hK K
                  refine Hr.Walk.one (i := 20) (by kernel_rfl) rfl (fun K hK => ?_)
                  go_simp
                  refine hK.out _ _ ⟨STA4.out.c2, STA4.out.c0⟩ ?_
                  clear hK K
                  refine Hr.Walk.done (by kernel_rfl) ?_ _
                  have EF : Hid (RowE w.heap.size wa4 (.slice (some ⟨g10, 0, none⟩) (0 + 1) c10) (((k : Int), (k : Int) + 1 + o) :: ([] : Stk))) := Lib.hid (by unfold RowE; rw [es_cons]; exact STA4.out.ri)
                  have SF : Hid (RowS w.heap.size wa4 (.slice (some ⟨g18, 0, none⟩) (0 + 1) c18) (ns L (((k : Int), (k : Int) + 1 + o) :: ([] : Stk)))) := Lib.hid (by rw [ns_cons]; exact STA4.out.rs)
                  have HMF : Hid ((((k : Int), (k : Int) + 1 + o) :: ([] : Stk) : Stk).length = 0 + 1) := Lib.hid (by rw [List.length_cons, HMK.out])
                  have BF := Lib.hid STA4.out.bw
                  go_wp2
                  go_roundw
                  case rel => exact ⟨k + 1, 0 + 1, _, O2, some ⟨g10, 0, none⟩, c10, some ⟨g18, 0, none⟩, c18, rfl, by first | rfl | go_num, by first | rfl | go_num, by go_num, by omega, by omega, by omega, HMF, EF, SF, HGN, HNN, BF.out⟩
                  case measure => simp [intOf]; omega
              · go_simp
                have STA1 := Lib.hid (ST0.out.alloc hbl (Obj.cells #[.string X0] 9))
                have NB17 : Hid ((wz.drew.alloc (Obj.cells #[.string X0] 9)).heap[wz.heap.size]? = some (Obj.cells #[.string X0] 9)) := Lib.hid (heap_alloc_new wz.drew _)
                refine hK.out _ _ ⟨STA1.out.c2, STA1.out.c0⟩ ?_
                clear hK K
                refine Hr.Walk.one (i := 9) (by kernel_rfl) rfl (fun K hK => ?_)
                go_simp
                have STA2 := Lib.hid (STA1.out.alloc hbl (Obj.cells #[.int .i64 ((k : Int) + 1 + o)] 3))
                have NB9 : Hid (((wz.drew.alloc (Obj.cells #[.string X0] 9)).alloc (Obj.cells #[.int .i64 ((k : Int) + 1 + o)] 3)).heap[wz.heap.size + 1]? = some (Obj.cells #[.int .i64 ((k : Int) + 1 + o)] 3)) := Lib.hid (by have h := heap_alloc_new (wz.drew.alloc (Obj.cells #[.string X0] 9)) (Obj.cells #[.int .i64 ((k : Int) + 1 + o)] 3); rw [show (wz.drew.alloc (Obj.cells #[.string X0] 9)).heap.size = wz.heap.size + 1 from by simp] at h; exact h)
                have NB17b : Hid (((wz.drew.alloc (Obj.cells #[.string X0] 9)).alloc (Obj.cells #[.int .i64 ((k : Int) + 1 + o)] 3)).heap[wz.heap.size]? = some (Obj.cells #[.string X0] 9)) := Lib.hid (news_alloc NB17.out)
                refine hK.out _ _ ⟨STA2.out.c2, STA2.out.c0⟩ ?_
                clear hK K
                refine Hr.Walk.one (i := 10) (by kernel_rfl) rfl (fun K hK => ?_)
                refine stepIa rfl _ _ rfl w.heap.size _ (es (([] : Stk))) rfl STA2.out.ri ((k : Int) + 1 + o) (wz.heap.size + 1) NB9.out (by rfl) (by rw [HEL.out]; omega) STA2.out.bw.size ?_
                intro wa3 g10 c10 r10 gr10
                rw [HEL.out] at r10 ⊢
                have STA3 := Lib.hid (STA2.out.grownI hbl gr10 r10)
                have NB17bc : Hid (wa3.heap[wz.heap.size]? = some (Obj.cells #[.string X0] 9)) := Lib.hid (news_grown NB17b.out STA2.out.ri gr10 (by decide))
                clear r10 gr10
                refine hK.out _ _ ⟨STA3.out.c2, STA3.out.c0⟩ ?_
                clear hK K
                refine Hr.Walk.one (i := 18) (by kernel_rfl) rfl (fun K hK => ?_)
                refine stepSa rfl _ _ rfl w.heap.size _ (ns L (([] : Stk))) rfl STA3.out.rs (nmAt L (k : Int)) X0 HO0.out (wz.heap.size) NB17bc.out (by rfl) (by rw [HNL.out]; omega) STA3.out.bw.size ?_
                intro wa4 g18 c18 r18 gr18
                rw [HNL.out] at r18 ⊢
                have STA4 := Lib.hid (STA3.out.grownS hbl gr18 r18)
                clear r18 gr18
                refine hK.out _ _ ⟨STA4.out.c2, STA4.out.c0⟩ ?_
                clear hK K
                refine Hr.Walk.one (i := 19) (by kernel_rfl) rfl (fun K hK => ?_)
                go_simp
                refine hK.out _ _ ⟨STA4.out.c2, STA4.out.c0⟩ ?_
                clear hK K
                refine Hr.Walk.one (i := 20) (by kernel_rfl) rfl (fun K hK => ?_)
                go_simp
                refine hK.out _ _ ⟨STA4.out.c2, STA4.out.c0⟩ ?_
                clear hK K
                refine Hr.Walk.done (by kernel_rfl) ?_ _
                have EF : Hid (RowE w.heap.size wa4 (.slice (some ⟨g10, 0, none⟩) (0 + 1) c10) (((k : Int), (k : Int) + 1 + o) :: ([] : Stk))) := Lib.hid (by unfold RowE; rw [es_cons]; exact STA4.out.ri)
                have SF : Hid (RowS w.heap.size wa4 (.slice (some ⟨g18, 0, none⟩) (0 + 1) c18) (ns L (((k : Int), (k : Int) + 1 + o) :: ([] : Stk)))) := Lib.hid (by rw [ns_cons]; exact STA4.out.rs)
                have HMF : Hid ((((k : Int), (k : Int) + 1 + o) :: ([] : Stk) : Stk).length = 0 + 1) := Lib.hid (by rw [List.length_cons, HMK.out])
                have BF := Lib.hid STA4.out.bw
                go_wp2
                go_roundw
                case rel => exact ⟨k + 1, 0 + 1, _, O2, some ⟨g10, 0, none⟩, c10, some ⟨g18, 0, none⟩, c18, rfl, by first | rfl | go_num, by first | rfl | go_num, by go_num, by omega, by omega, by omega, HMF, EF, SF, HGN, HNN, BF.out⟩
                case measure => simp [intOf]; omega
      | cons x K1 =>
        have hm0 : K1.length + 1 = m1 := hK1.out
        obtain ⟨z, hz⟩ : ∃ z, K1.length = z := ⟨_, rfl⟩
        have HZ := Lib.hid hz
        obtain rfl : z + 1 = m1 := by omega
        obtain ⟨gE, cE, hvE, hgE, tE⟩ := hE1.out.top
        obtain ⟨gS, cS, hvS, hgS, tS⟩ := rowS_top hS1.out
        rw [hz] at hvE tE hvS tS
        obtain ⟨eE, eE3⟩ : A = some ⟨gE, 0, none⟩ ∧ cp = cE := by injection hvE with a b c; exact ⟨a, c⟩
        obtain ⟨eS, eS3⟩ : A2 = some ⟨gS, 0, none⟩ ∧ cp2 = cS := by injection hvS with a b c; exact ⟨a, c⟩
        subst eE eS eE3 eS3
        clear hz hm0 hvE hvS
        by_cases hx : x.2 = (k : Int)
        · rw [hx] at tE
          have HNM := Lib.hid (hN1.out x (by simp))
          obtain ⟨X, hX⟩ : ∃ X : ByteArray, ⟨(nmAt L x.1).toArray⟩ = X := ⟨_, rfl⟩
          have hXs : X.size ≤ 200 := by rw [← hX]; exact HNM.out
          rw [hX] at tS
          obtain ⟨R, hR⟩ : ∃ R, Fld.foldL (lineF (enV L x)) = R := ⟨_, rfl⟩
          have HR := Lib.hid hR
          have HXL : Hid ((⟨#[69, 78, 68, 58]⟩ ++ X : ByteArray).data.toList = lineF (enV L x)) := Lib.hid (by rw [Rws.cat_data, ← hX]; rfl)
          have hRl : R.length ≤ 900 := by
            have h1 := Fld.foldL_len (lineF (enV L x))
            have h2 : (lineF (enV L x)).length = 4 + (nmAt L x.1).length := by
              have := ends_lws L [x]
              simp only [lws, pot, List.map_cons, List.map_nil, List.sum_cons, List.sum_nil] at this
              have e : lw (enV L x) = 4 + (nmAt L x.1).length := by omega
              exact e
            have h3 := HNM.out
            rw [← hR]; omega
          have hsz : (⟨#[69, 78, 68, 58]⟩ ++ X : ByteArray).size ≤ 60000 := by rw [ByteArray.size_append]; show 4 + X.size ≤ _; omega
          have hs4 : (⟨#[69, 78, 68, 58]⟩ : ByteArray).size = 4 := rfl
          have hcE : z + 1 ≤ cp := (own_cap hE1.out).2.1
          have hcS : z + 1 ≤ cp2 := (own_cap hS1.out).2.1
          have TE := Lib.hid tE
          clear hX hR
          go_wp2_with fail
          refine (rfo_v _ (lineF (enV L x)) R _ hsz HXL.out HR).mono ?_
          rintro e w3 ⟨rfl, k3⟩
          obtain ⟨V, hV⟩ : ∃ V : ByteArray, ⟨R.toArray⟩ = V := ⟨_, rfl⟩
          have hVs : V.size ≤ 900 := by rw [← hV]; exact hRl
          have HVD : Hid (V.data.toList = fl (enV L x)) := Lib.hid (by rw [← hV]; show R = _; rw [← HR.out]; rfl)
          rw [hV]
          have HB3 := Lib.hid (bstep HB1.out k3)
          have E3 : Hid (RowE w.heap.size w3 (.slice (some ⟨gE, 0, none⟩) z cp) K1) := Lib.hid (by
            have h : RowE w.heap.size w3 (.slice (some ⟨gE, 0, none⟩) (z + 1) cp) (x :: K1) := RowI.below hE1.out k3
            rw [← HZ.out] at h ⊢
            exact h.pop)
          have S3 : Hid (RowS w.heap.size w3 (.slice (some ⟨gS, 0, none⟩) z cp2) (ns L K1)) := Lib.hid (by
            have h := Rws.RowS.below hS1.out k3
            rw [← HZ.out] at h ⊢
            exact rowS_pop h)
          have P3 : Hid ((O1 ++ V).data.toList ++ ((pops L k K1).map fl).flatten = O.data.toList ++ ((pops L k K).map fl).flatten) := Lib.hid (by
            rw [← hP1.out, pops_cons, if_pos hx, Rws.cat_data, HVD.out]; simp)
          have L3 : Hid (lvK K1 k = lvK K k) := Lib.hid (by rw [← hL1.out, lv_cons, if_pos hx])
          have N3 : Hid (∀ x ∈ K1, (nmAt L x.1).length ≤ 200) := Lib.hid (fun y hy => hN1.out y (by simp [hy]))
          have hsa : (O1 ++ V).size + 1000 * z ≤ 860000 + 2000 * k := by rw [ByteArray.size_append]; omega
          have hcE2 : z ≤ cp := by omega
          have hcS2 : z ≤ cp2 := by omega
          have hz0 : (0 : Int) ≤ (z : Int) := by omega
          have hw1 : IntKind.i64.wrap (z : Int) = (z : Int) := by rw [IntKind.wrap_i64]; omega
          have hzc : (z : Int) ≤ (cp : Int) := by omega
          have hzc2 : (z : Int) ≤ (cp2 : Int) := by omega
          clear k3 hV hP1 hL1 hN1 hE1 hS1 hx
          go_wp2_with fail
          go_quiet (fail)
          have HB4 := Lib.hid (below_drewN HB3.out nq)
          have E4 : Hid (RowE w.heap.size (w3.drewN nq) (.slice (some ⟨gE, 0, none⟩) z cp) K1) := Lib.hid (RowI.below E3.out (below_drewN (Below.refl _ _) nq))
          have S4 := Lib.hid (Rws.RowS.below S3.out (below_drewN (Below.refl w3.heap.size w3) nq))
          go_wp2
          go_roundw
          case rel => exact ⟨z, K1, O1 ++ V, rfl, by first | rfl | go_num, by first | rfl | go_num, by omega, hsa, HZ, E4, S4, P3, L3, N3, HB4.out⟩
          case measure => simp [lenOf]
        · have hne : (x.2 == (k : Int)) = false := beq_eq_false_iff_ne.2 hx
          have HKE : Hid (x :: K1 = lvK K k) := Lib.hid (by rw [← hL1.out, lv_cons, if_neg hx])
          have HOE : Hid (O1.data.toList = O.data.toList ++ ((pops L k K).map fl).flatten) := Lib.hid (by rw [← hP1.out, pops_cons, if_neg hx]; simp)
          clear hP1 hL1 hx tS
          have HMK : Hid (((x :: K1) : Stk).length = (z + 1)) := Lib.hid (by rw [List.length_cons, HZ.out])
          by_cases hkn : k = n
          · have HE : Hid (rtE (some O1.data.toList) = r) := Lib.hid (by
              have h := hG.out
              rw [List.drop_of_length_le (by rw [hnl.out]; omega), rtG, ← HOE.out] at h
              exact h)
            have hkq : ((k : Int) == (n : Int)) = true := by simp; omega
            have hkl : ¬ k < n := by omega
            clear hG
            by_cases h6 : 600000 < O1.size
            · have HF : Hid (r = ([], 2)) := Lib.hid (by rw [← HE.out, rtE, if_pos (by simpa using h6)])
              clear HE
              go_wp2
              go_ret2
              rw [HF.out]
              exact ⟨rfl, HB1.out⟩
            · have HF : Hid (r = (O1.data.toList, 0)) := Lib.hid (by rw [← HE.out, rtE, if_neg (by simpa using h6)])
              clear HE
              go_wp2
              go_ret2
              rw [HF.out]
              exact ⟨rfl, HB1.out⟩
          · have hlt : k < n := by omega
            have hkl : k < L.length := by rw [hnl.out]; exact hlt
            have hkq : ((k : Int) == (n : Int)) = false := beq_eq_false_iff_ne.2 (by omega)
            obtain ⟨b, off, c, hAv, hbl, hlc⟩ := hv.out.form (by omega)
            have hA : A0 = some ⟨b, off, none⟩ := by injection hAv
            subst hA
            obtain ⟨sa, sn, sc, c0', c1, c2, hlv⟩ := cmp_at hlc hkl
            have hGe := hG.out
            rw [List.drop_eq_getElem_cons hkl, rtG_cons, ← HOE.out, ← HKE.out] at hGe
            obtain ⟨cv, hcv⟩ : ∃ c, L[k]'hkl = c := ⟨_, rfl⟩
            have LC := Lib.hid (hL.out _ (List.getElem_mem hkl))
            have hcb := hok.out _ (List.getElem_mem hkl)
            have hob := hO.out _ (List.getElem_mem hkl)
            rw [cmpB, Bool.and_eq_true] at hcb
            have HLB := Lib.hid hcb.2
            have HNA : Hid (nmAt L (k : Int) = (L[k]'hkl).nm) := Lib.hid (nmAt_k L k hkl)
            rw [hcv] at c0' c2 hlv LC hGe HLB hob HNA
            obtain ⟨o, ho⟩ : ∃ o, cv.own = o := ⟨_, rfl⟩
            have HO := Lib.hid ho
            rw [ho] at c2 hGe hob
            obtain ⟨X0, hX0⟩ : ∃ X : ByteArray, ⟨cv.nm.toArray⟩ = X := ⟨_, rfl⟩
            rw [hX0] at c0'
            have H0 := Lib.hid hX0.symm
            have hX0s : X0.size ≤ 200 := by rw [← hX0]; exact LC.out.1
            have d0 := (HB1.out.cell (p := ⟨b, off + k * 3, none⟩) hbl).trans c0'
            have HLV := Lib.hid hlv
            have hsn : cv.ls.length = sn := by obtain ⟨_, _, e⟩ := hlv.slice; injection e with _ e _; exact e.symm
            have HSN := Lib.hid hsn
            have xsn : sn ≤ 20 := by rw [← hsn]; exact LC.out.2.1
            have C0 := Lib.hid c0'
            have C1 := Lib.hid c1
            have C2 := Lib.hid c2
            obtain ⟨RB, hRB⟩ : ∃ R, Fld.foldL (lineF ⟨bgL, [], cv.nm⟩) = R := ⟨_, rfl⟩
            have HRB := Lib.hid hRB
            have HXB : Hid ((⟨#[66, 69, 71, 73, 78, 58]⟩ ++ X0 : ByteArray).data.toList = lineF ⟨bgL, [], cv.nm⟩) := Lib.hid (by rw [Rws.cat_data, ← hX0]; rfl)
            have hRBl : RB.length ≤ 900 := by
              have h1 := Fld.foldL_len (lineF ⟨bgL, [], cv.nm⟩)
              have h2 : (lineF ⟨bgL, [], cv.nm⟩).length = 6 + cv.nm.length := bg_lw cv.nm
              have h3 := LC.out.1
              rw [← hRB]; omega
            have hszB : (⟨#[66, 69, 71, 73, 78, 58]⟩ ++ X0 : ByteArray).size ≤ 60000 := by rw [ByteArray.size_append]; show 6 + X0.size ≤ _; omega
            have hs6 : (⟨#[66, 69, 71, 73, 78, 58]⟩ : ByteArray).size = 6 := rfl
            have HGE := Lib.hid hGe
            clear hAv hlc c0' c1 c2 hlv hX0 hcv ho hsn hGe hG hcb hRB
            go_wp2_with fail
            refine (rfo_v _ (lineF ⟨bgL, [], cv.nm⟩) RB _ hszB HXB.out HRB).mono ?_
            rintro e w3 ⟨rfl, k3⟩
            obtain ⟨VB, hVB⟩ : ∃ V : ByteArray, ⟨RB.toArray⟩ = V := ⟨_, rfl⟩
            have hVBs : VB.size ≤ 900 := by rw [← hVB]; exact hRBl
            have HG2 : Hid (rtE (rtN L ((k : Int) + 1) (((k : Int), (k : Int) + 1 + o) :: (x :: K1)) (L.drop (k + 1)) (rlW cv.ls (O1 ++ VB).data.toList)) = r) := Lib.hid (by
              have h := HGE.out
              have e : VB.data.toList = fl ⟨bgL, [], cv.nm⟩ := by rw [← hVB]; show RB = _; rw [← HRB.out]; rfl
              rw [Rws.cat_data, e]
              exact h)
            rw [hVB]
            have HB3 := Lib.hid (bstep HB1.out k3)
            have E3 : Hid (RowE w.heap.size w3 (.slice (some ⟨gE, 0, none⟩) (z + 1) cp) (x :: K1)) := Lib.hid (RowI.below hE1.out k3)
            have S3 := Lib.hid (Rws.RowS.below hS1.out k3)
            have hO2 : (O1 ++ VB).size + 1000 * ((z + 1)) ≤ 861000 + 2000 * k := by rw [ByteArray.size_append]; omega
            obtain ⟨OB, hOB⟩ : ∃ X : ByteArray, O1 ++ VB = X := ⟨_, rfl⟩
            have HOB := Lib.hid hOB
            rw [hOB] at hO2 HG2
            have hO1s : O1.size ≤ 1000000 := by omega
            clear k3 hVB HGE hE1 hS1 d0 HRB HXB hOB
            go_wp2_with fail
            rw [HOB.out]
            go_loopw [4, 8] (fun ov jv wr => ∃ (j : Nat) (O2 : ByteArray), ov = .string O2 ∧ jv = .int .i64 j ∧ j ≤ sn ∧ O2.size + 1000 * ((z + 1)) ≤ 861000 + 2000 * k ∧ Hid (rtE (rtN L ((k : Int) + 1) (((k : Int), (k : Int) + 1 + o) :: (x :: K1)) (L.drop (k + 1)) (rlW (cv.ls.drop j) O2.data.toList)) = r) ∧ Hid (RowE w.heap.size wr (.slice (some ⟨gE, 0, none⟩) (z + 1) cp) (x :: K1)) ∧ Hid (RowS w.heap.size wr (.slice (some ⟨gS, 0, none⟩) (z + 1) cp2) (ns L ((x :: K1)))) ∧ Below w.heap.size w wr) (fun _ jv _ => sn - (intOf jv).toNat)
            case atStart => exact ⟨0, OB, rfl, rfl, Nat.zero_le _, hO2, HG2, E3, S3, HB3.out⟩
            case round =>
              obtain ⟨j, O2, rfl, rfl, hj, hO3, hG3, hE3, hS3, hb3⟩ := hrel
              obtain ⟨wz, rfl⟩ : ∃ wz : World, wz = wr := ⟨_, rfl⟩
              clear HG2 E3 S3 HB3 hO2
              have s1 := (hb3.cell (p := ⟨b, off + k * 3 + 1, none⟩) hbl).trans C1.out
              by_cases hjn : j < sn
              · have hjl : j < cv.ls.length := by rw [HSN.out]; exact hjn
                obtain ⟨lb, lo, lc, hAv2, hlb, hlc⟩ := HLV.out.form (by omega)
                have hA2 : sa = some ⟨lb, lo, none⟩ := by injection hAv2
                subst hA2
                obtain ⟨sv, e0, e1, e2, hpv⟩ := hlc j hjl
                obtain ⟨pa, pn, pc, hsv⟩ : ∃ a n c, sv = .slice a n c := by obtain ⟨a, n, c, h, _⟩ := hpv; exact ⟨a, n, c, h⟩
                subst hsv
                have hli := List.all_eq_true.1 HLB.out _ (List.getElem_mem hjl)
                have LT := Lib.hid (LC.out.2.2 _ (List.getElem_mem hjl))
                have hGf := hG3.out
                rw [List.drop_eq_getElem_cons hjl, rlW] at hGf
                obtain ⟨l, hl⟩ : ∃ l, cv.ls[j]'hjl = l := ⟨_, rfl⟩
                rw [hl] at e0 e2 hpv LT hli hGf
                have hlb2 : lnB l = true := by
                  rw [linB, Bool.and_eq_true, Bool.and_eq_true] at hli
                  exact hli.2.2
                have HLN := Lib.hid hlb2
                obtain ⟨Y0, hY0⟩ : ∃ X : ByteArray, ⟨l.nm.toArray⟩ = X := ⟨_, rfl⟩
                obtain ⟨Y2, hY2⟩ : ∃ X : ByteArray, ⟨l.vl.toArray⟩ = X := ⟨_, rfl⟩
                rw [hY0] at e0
                rw [hY2] at e2
                have W0 := Lib.hid hY0.symm
                have W2 := Lib.hid hY2.symm
                have f0 := (hb3.cell (p := ⟨lb, lo + j * 3, none⟩) hlb).trans e0
                have f1 := (hb3.cell (p := ⟨lb, lo + j * 3 + 1, none⟩) hlb).trans e1
                have f2 := (hb3.cell (p := ⟨lb, lo + j * 3 + 2, none⟩) hlb).trans e2
                have HP := Lib.hid (hpv.below hb3)
                obtain ⟨T, hT⟩ : ∃ T, lineF l = T := ⟨_, rfl⟩
                have HT := Lib.hid hT
                have HFL : Hid (fl l = Fld.foldL T) := Lib.hid (by rw [fl, hT])
                rw [hT] at hGf
                have HGF := Lib.hid hGf
                have HB3 := Lib.hid hb3
                have LT2 : Hid (T.length ≤ 1000000) := Lib.hid (by rw [← hT]; exact lineF_le LT.out)
                clear e0 e1 e2 hpv hl hY0 hY2 hlc hAv2 hli hlb2 hT hGf hG3 hb3
                go_wp2_with fail
                refine (rlt_v Y0 Y2 l (.slice pa pn pc) _ W0.out W2.out HLN.out LT.out HP.out T HT).mono ?_
                rintro e w4 ⟨rfl, k4⟩
                obtain ⟨TX, hTX⟩ : ∃ V : ByteArray, ⟨T.toArray⟩ = V := ⟨_, rfl⟩
                have hTs : TX.size = T.length := by rw [← hTX]; rfl
                have HTS := Lib.hid hTs
                have HTD : Hid (TX.data.toList = T) := Lib.hid (by rw [← hTX])
                rw [hTX]
                have HB4 := Lib.hid (bstep HB3.out k4)
                have E4 : Hid (RowE w.heap.size w4 (.slice (some ⟨gE, 0, none⟩) (z + 1) cp) (x :: K1)) := Lib.hid (RowI.below hE3.out k4)
                have S4 := Lib.hid (Rws.RowS.below hS3.out k4)
                have hTm : TX.size ≤ 1000000 := by rw [hTs]; exact LT2.out
                clear k4 hTX hTs f0 f1 f2 hE3 hS3 HB3
                by_cases h7 : 60000 < TX.size
                · have HF : Hid (r = ([], 2)) := Lib.hid (by
                    have h := HGF.out
                    rw [if_pos (Or.inl (by rw [← HTS.out]; exact h7))] at h
                    exact h.symm)
                  clear HGF
                  go_wp2
                  go_ret2
                  rw [HF.out]
                  exact ⟨rfl, HB4.out⟩
                · by_cases h8 : 600000 < O2.size
                  · have HF : Hid (r = ([], 2)) := Lib.hid (by
                      have h := HGF.out
                      rw [if_pos (Or.inr (by simpa using h8))] at h
                      exact h.symm)
                    clear HGF
                    go_wp2
                    go_ret2
                    rw [HF.out]
                    exact ⟨rfl, HB4.out⟩
                  · have HG4 := HGF.out
                    rw [if_neg (by rintro (q | q); exact h7 (by rw [HTS.out]; exact q); exact h8 (by simpa using q))] at HG4
                    obtain ⟨RL, hRL⟩ : ∃ R, Fld.foldL T = R := ⟨_, rfl⟩
                    have HRL := Lib.hid hRL
                    have hRll : RL.length ≤ 240002 := by
                      have h1 := Fld.foldL_len T
                      have h2 := HTS.out
                      rw [← hRL]; omega
                    have hG5 := Lib.hid HG4
                    have hT6 : TX.size ≤ 60000 := by omega
                    clear HG4 HGF hRL
                    go_wp2_with fail
                    refine (rfo_v TX T RL _ hT6 HTD.out HRL).mono ?_
                    rintro e w5 ⟨rfl, k5⟩
                    obtain ⟨VL, hVL⟩ : ∃ V : ByteArray, ⟨RL.toArray⟩ = V := ⟨_, rfl⟩
                    have hVLs : VL.size ≤ 240002 := by rw [← hVL]; exact hRll
                    have HG6 : Hid (rtE (rtN L ((k : Int) + 1) (((k : Int), (k : Int) + 1 + o) :: (x :: K1)) (L.drop (k + 1)) (rlW (cv.ls.drop (j + 1)) (O2 ++ VL).data.toList)) = r) := Lib.hid (by
                      have h := hG5.out
                      have e : VL.data.toList = fl l := by rw [← hVL]; show RL = _; rw [← HRL.out, HFL.out]
                      rw [Rws.cat_data, e]
                      exact h)
                    rw [hVL]
                    have HB5 := Lib.hid (bstep HB4.out k5)
                    have E5 : Hid (RowE w.heap.size w5 (.slice (some ⟨gE, 0, none⟩) (z + 1) cp) (x :: K1)) := Lib.hid (RowI.below E4.out k5)
                    have S5 := Lib.hid (Rws.RowS.below S4.out k5)
                    have hO5 : (O2 ++ VL).size + 1000 * ((z + 1)) ≤ 861000 + 2000 * k := by rw [ByteArray.size_append]; omega
                    clear k5 hVL hG5 HB4 E4 S4
                    go_wp2
                    go_roundw
                    case rel => exact ⟨j + 1, O2 ++ VL, rfl, by go_num, by omega, hO5, HG6, E5, S5, HB5.out⟩
                    case measure => simp [intOf]; omega
              · have HGN : Hid (rtE (rtG L ((k + 1 : Nat) : Int) (((k : Int), (k : Int) + 1 + o) :: (x :: K1)) O2.data.toList (L.drop (k + 1))) = r) := Lib.hid (by
                  have h := hG3.out
                  rw [show cv.ls.drop j = [] from List.drop_of_length_le (by rw [HSN.out]; omega), rlW, rtN] at h
                  exact h)
                have HNN : Hid (∀ y ∈ (((k : Int), (k : Int) + 1 + o) :: (x :: K1) : Stk), (nmAt L y.1).length ≤ 200) := Lib.hid (fun y hy => by
                  rcases List.mem_cons.1 hy with rfl | hy
                  · show (nmAt L (k : Int)).length ≤ 200
                    rw [HNA.out]; exact LC.out.1
                  · exact hN1.out y hy)
                have ST0 : Hid (St19 w (.slice (some ⟨gE, 0, none⟩) (z + 1) cp) (es ((x :: K1))) (.slice (some ⟨gS, 0, none⟩) (z + 1) cp2) (ns L ((x :: K1))) b (off + k * 3) o X0 wz.drew) := Lib.hid ⟨RowI.below hE3.out (Below.refl wz.heap.size wz).drew, Rws.RowS.below hS3.out (Below.refl wz.heap.size wz).drew, (hb3.cell (p := ⟨b, off + k * 3 + 2, none⟩) hbl).trans C2.out, (hb3.cell (p := ⟨b, off + k * 3, none⟩) hbl).trans C0.out, hb3.drew⟩
                have HEL : Hid ((es ((x :: K1))).length = (z + 1)) := Lib.hid (by rw [es_len]; exact HMK.out)
                have HNL : Hid ((ns L ((x :: K1))).length = (z + 1)) := Lib.hid (by rw [ns_len]; exact HMK.out)
                have wr1 : IntKind.i64.wrap ((k : Int) + 1) = (k : Int) + 1 := by rw [IntKind.wrap_i64]; omega
                have wr2 : IntKind.i64.wrap ((k : Int) + 1 + o) = (k : Int) + 1 + o := by rw [IntKind.wrap_i64]; omega
                have HO0 : Hid (X0 = ⟨(nmAt L (k : Int)).toArray⟩) := Lib.hid (by rw [H0.out, HNA.out])
                have sz0 : w.heap.size ≤ wz.heap.size := hb3.size
                have hML : ((z + 1) : Nat) ≤ 30 := by omega
                clear hG3 hE3 hS3 hb3
                go_wp2_with fail
                go_upto_region 19 with fail
                have SZ : Hid (wz.drew.cell? ⟨b, off + k * 3 + 2, none⟩ = some (.int .i64 o) ∧ wz.drew.cell? ⟨b, off + k * 3, none⟩ = some (.string X0)) := Lib.hid ⟨ST0.out.c2, ST0.out.c0⟩
                refine Hr.Walk.region (R := fun _ x => x.cell? ⟨b, off + k * 3 + 2, none⟩ = some (.int .i64 o) ∧ x.cell? ⟨b, off + k * 3, none⟩ = some (.string X0)) (by kernel_rfl) ?_
                refine Hr.Walk.take (i := 0) (v := ?bv0) (fun x => x.cell? ⟨b, off + k * 3 + 2, none⟩ = some (.int .i64 o) ∧ x.cell? ⟨b, off + k * 3, none⟩ = some (.string X0)) (fun _ => True) rfl (by kernel_rfl) (by kernel_rfl) (by kernel_rfl) (fun _ _ _ h => h) (fun _ _ _ _ _ _ => trivial) (fun _ _ _ h => h) (fun _ _ h => h) trivial (Or.inl ⟨by rfl, ?bhy0⟩) SZ.out SZ.out ?brest0
                case bhy0 => intro x hx; have f2 := hx.1; have f3 := hx.2; clear hx; go_simp; try with_reducible rfl
                (try go_simp)
                refine Hr.Walk.take (i := 1) (v := ?bv1) (fun x => x.cell? ⟨b, off + k * 3 + 2, none⟩ = some (.int .i64 o) ∧ x.cell? ⟨b, off + k * 3, none⟩ = some (.string X0)) (fun _ => True) rfl (by kernel_rfl) (by kernel_rfl) (by kernel_rfl) (fun _ _ _ h => h) (fun _ _ _ _ _ _ => trivial) (fun _ _ _ h => h) (fun _ _ h => h) trivial (Or.inl ⟨by rfl, ?bhy1⟩) SZ.out SZ.out ?brest1
                case bhy1 => intro x hx; have f2 := hx.1; have f3 := hx.2; clear hx; go_simp; try with_reducible rfl
                (try go_simp)
                refine Hr.Walk.take (i := 2) (v := ?bv2) (fun x => x.cell? ⟨b, off + k * 3 + 2, none⟩ = some (.int .i64 o) ∧ x.cell? ⟨b, off + k * 3, none⟩ = some (.string X0)) (fun _ => True) rfl (by kernel_rfl) (by kernel_rfl) (by kernel_rfl) (fun _ _ _ h => h) (fun _ _ _ _ _ _ => trivial) (fun _ _ _ h => h) (fun _ _ h => h) trivial (Or.inl ⟨by rfl, ?bhy2⟩) SZ.out SZ.out ?brest2
                case bhy2 => intro x hx; have f2 := hx.1; have f3 := hx.2; clear hx; go_simp; try with_reducible rfl
                (try go_simp)
                refine Hr.Walk.take (i := 3) (v := ?bv3) (fun x => x.cell? ⟨b, off + k * 3 + 2, none⟩ = some (.int .i64 o) ∧ x.cell? ⟨b, off + k * 3, none⟩ = some (.string X0)) (fun _ => True) rfl (by kernel_rfl) (by kernel_rfl) (by kernel_rfl) (fun _ _ _ h => h) (fun _ _ _ _ _ _ => trivial) (fun _ _ _ h => h) (fun _ _ h => h) trivial (Or.inl ⟨by rfl, ?bhy3⟩) SZ.out SZ.out ?brest3
                case bhy3 => intro x hx; have f2 := hx.1; have f3 := hx.2; clear hx; go_simp; try with_reducible rfl
                (try go_simp)
                refine Hr.Walk.take (i := 4) (v := ?bv4) (fun x => x.cell? ⟨b, off + k * 3 + 2, none⟩ = some (.int .i64 o) ∧ x.cell? ⟨b, off + k * 3, none⟩ = some (.string X0)) (fun _ => True) rfl (by kernel_rfl) (by kernel_rfl) (by kernel_rfl) (fun _ _ _ h => h) (fun _ _ _ _ _ _ => trivial) (fun _ _ _ h => h) (fun _ _ h => h) trivial (Or.inl ⟨by rfl, ?bhy4⟩) SZ.out SZ.out ?brest4
                case bhy4 => intro x hx; have f2 := hx.1; have f3 := hx.2; clear hx; go_simp; try with_reducible rfl
                (try go_simp)
                refine Hr.Walk.take (i := 5) (v := ?bv5) (fun x => x.cell? ⟨b, off + k * 3 + 2, none⟩ = some (.int .i64 o) ∧ x.cell? ⟨b, off + k * 3, none⟩ = some (.string X0)) (fun _ => True) rfl (by kernel_rfl) (by kernel_rfl) (by kernel_rfl) (fun _ _ _ h => h) (fun _ _ _ _ _ _ => trivial) (fun _ _ _ h => h) (fun _ _ h => h) trivial (Or.inl ⟨by rfl, ?bhy5⟩) SZ.out SZ.out ?brest5
                case bhy5 => intro x hx; have f2 := hx.1; have f3 := hx.2; clear hx; go_simp; try with_reducible rfl
                (try go_simp)
                refine Hr.Walk.take (i := 6) (v := ?bv6) (fun x => x.cell? ⟨b, off + k * 3 + 2, none⟩ = some (.int .i64 o) ∧ x.cell? ⟨b, off + k * 3, none⟩ = some (.string X0)) (fun _ => True) rfl (by kernel_rfl) (by kernel_rfl) (by kernel_rfl) (fun _ _ _ h => h) (fun _ _ _ _ _ _ => trivial) (fun _ _ _ h => h) (fun _ _ h => h) trivial (Or.inl ⟨by rfl, ?bhy6⟩) SZ.out SZ.out ?brest6
                case bhy6 => intro x hx; have f2 := hx.1; have f3 := hx.2; clear hx; go_simp; try with_reducible rfl
                (try go_simp)
                refine Hr.Walk.take (i := 7) (v := ?bv7) (fun x => x.cell? ⟨b, off + k * 3 + 2, none⟩ = some (.int .i64 o) ∧ x.cell? ⟨b, off + k * 3, none⟩ = some (.string X0)) (fun _ => True) rfl (by kernel_rfl) (by kernel_rfl) (by kernel_rfl) (fun _ _ _ h => h) (fun _ _ _ _ _ _ => trivial) (fun _ _ _ h => h) (fun _ _ h => h) trivial (Or.inl ⟨by rfl, ?bhy7⟩) SZ.out SZ.out ?brest7
                case bhy7 => intro x hx; have f2 := hx.1; have f3 := hx.2; clear hx; go_simp; try with_reducible rfl
                (try go_simp)
                refine Hr.Walk.take (i := 8) (v := ?bv8) (fun x => x.cell? ⟨b, off + k * 3 + 2, none⟩ = some (.int .i64 o) ∧ x.cell? ⟨b, off + k * 3, none⟩ = some (.string X0)) (fun _ => True) rfl (by kernel_rfl) (by kernel_rfl) (by kernel_rfl) (fun _ _ _ h => h) (fun _ _ _ _ _ _ => trivial) (fun _ _ _ h => h) (fun _ _ h => h) trivial (Or.inl ⟨by rfl, ?bhy8⟩) SZ.out SZ.out ?brest8
                case bhy8 => intro x hx; have f2 := hx.1; have f3 := hx.2; clear hx; go_simp; try with_reducible rfl
                (try go_simp)
                refine Hr.Walk.take (i := 11) (v := ?bv11) (fun x => x.cell? ⟨b, off + k * 3 + 2, none⟩ = some (.int .i64 o) ∧ x.cell? ⟨b, off + k * 3, none⟩ = some (.string X0)) (fun _ => True) rfl (by kernel_rfl) (by kernel_rfl) (by kernel_rfl) (fun _ _ _ h => h) (fun _ _ _ _ _ _ => trivial) (fun _ _ _ h => h) (fun _ _ h => h) trivial (Or.inl ⟨by rfl, ?bhy11⟩) SZ.out SZ.out ?brest11
                case bhy11 => intro x hx; have f2 := hx.1; have f3 := hx.2; clear hx; go_simp; try with_reducible rfl
                (try go_simp)
                refine Hr.Walk.take (i := 12) (v := ?bv12) (fun x => x.cell? ⟨b, off + k * 3 + 2, none⟩ = some (.int .i64 o) ∧ x.cell? ⟨b, off + k * 3, none⟩ = some (.string X0)) (fun _ => True) rfl (by kernel_rfl) (by kernel_rfl) (by kernel_rfl) (fun _ _ _ h => h) (fun _ _ _ _ _ _ => trivial) (fun _ _ _ h => h) (fun _ _ h => h) trivial (Or.inl ⟨by rfl, ?bhy12⟩) SZ.out SZ.out ?brest12
                case bhy12 => intro x hx; have f2 := hx.1; have f3 := hx.2; clear hx; go_simp; try with_reducible rfl
                (try go_simp)
                refine Hr.Walk.take (i := 13) (v := ?bv13) (fun x => x.cell? ⟨b, off + k * 3 + 2, none⟩ = some (.int .i64 o) ∧ x.cell? ⟨b, off + k * 3, none⟩ = some (.string X0)) (fun _ => True) rfl (by kernel_rfl) (by kernel_rfl) (by kernel_rfl) (fun _ _ _ h => h) (fun _ _ _ _ _ _ => trivial) (fun _ _ _ h => h) (fun _ _ h => h) trivial (Or.inl ⟨by rfl, ?bhy13⟩) SZ.out SZ.out ?brest13
                case bhy13 => intro x hx; have f2 := hx.1; have f3 := hx.2; clear hx; go_simp; try with_reducible rfl
                (try go_simp)
                refine Hr.Walk.take (i := 14) (v := ?bv14) (fun x => x.cell? ⟨b, off + k * 3 + 2, none⟩ = some (.int .i64 o) ∧ x.cell? ⟨b, off + k * 3, none⟩ = some (.string X0)) (fun _ => True) rfl (by kernel_rfl) (by kernel_rfl) (by kernel_rfl) (fun _ _ _ h => h) (fun _ _ _ _ _ _ => trivial) (fun _ _ _ h => h) (fun _ _ h => h) trivial (Or.inl ⟨by rfl, ?bhy14⟩) SZ.out SZ.out ?brest14
                case bhy14 => intro x hx; have f2 := hx.1; have f3 := hx.2; clear hx; go_simp; try with_reducible rfl
                (try go_simp)
                refine Hr.Walk.take (i := 15) (v := ?bv15) (fun x => x.cell? ⟨b, off + k * 3 + 2, none⟩ = some (.int .i64 o) ∧ x.cell? ⟨b, off + k * 3, none⟩ = some (.string X0)) (fun _ => True) rfl (by kernel_rfl) (by kernel_rfl) (by kernel_rfl) (fun _ _ _ h => h) (fun _ _ _ _ _ _ => trivial) (fun _ _ _ h => h) (fun _ _ h => h) trivial (Or.inl ⟨by rfl, ?bhy15⟩) SZ.out SZ.out ?brest15
                case bhy15 => intro x hx; have f2 := hx.1; have f3 := hx.2; clear hx; go_simp; try with_reducible rfl
                (try go_simp)
                refine Hr.Walk.take (i := 16) (v := ?bv16) (fun x => x.cell? ⟨b, off + k * 3 + 2, none⟩ = some (.int .i64 o) ∧ x.cell? ⟨b, off + k * 3, none⟩ = some (.string X0)) (fun _ => True) rfl (by kernel_rfl) (by kernel_rfl) (by kernel_rfl) (fun _ _ _ h => h) (fun _ _ _ _ _ _ => trivial) (fun _ _ _ h => h) (fun _ _ h => h) trivial (Or.inl ⟨by rfl, ?bhy16⟩) SZ.out SZ.out ?brest16
                case bhy16 => intro x hx; have f2 := hx.1; have f3 := hx.2; clear hx; go_simp; try with_reducible rfl
                (try go_simp)
                clear wr1 wr2 SZ
                refine Hr.Walk.two (i := 9) (k := 17) (by kernel_rfl) rfl rfl (fun K hK => ?_) (fun K hK => ?_)
                · go_simp
                  have STA1 := Lib.hid (ST0.out.alloc hbl (Obj.cells #[.int .i64 ((k : Int) + 1 + o)] 3))
                  have NB9 : Hid ((wz.drew.alloc (Obj.cells #[.int .i64 ((k : Int) + 1 + o)] 3)).heap[wz.heap.size]? = some (Obj.cells #[.int .i64 ((k : Int) + 1 + o)] 3)) := Lib.hid (heap_alloc_new wz.drew _)
                  refine hK.out _ _ ⟨STA1.out.c2, STA1.out.c0⟩ ?_
                  clear hK K
                  refine Hr.Walk.two (i := 10) (k := 17) (by kernel_rfl) rfl rfl (fun K hK => ?_) (fun K hK => ?_)
                  · refine stepIa rfl _ _ rfl w.heap.size _ (es ((x :: K1))) rfl STA1.out.ri ((k : Int) + 1 + o) (wz.heap.size) NB9.out (by rfl) (by rw [HEL.out]; omega) STA1.out.bw.size ?_
                    intro wa2 g10 c10 r10 gr10
                    rw [HEL.out] at r10 ⊢
                    have STA2 := Lib.hid (STA1.out.grownI hbl gr10 r10)
                    clear r10 gr10
                    refine hK.out _ _ ⟨STA2.out.c2, STA2.out.c0⟩ ?_
                    clear hK K
                    refine Hr.Walk.one (i := 17) (by kernel_rfl) rfl (fun K hK => ?_)
                    go_simp
                    have STA3 := Lib.hid (STA2.out.alloc hbl (Obj.cells #[.string X0] 9))
                    have NB17 : Hid ((wa2.alloc (Obj.cells #[.string X0] 9)).heap[wa2.heap.size]? = some (Obj.cells #[.string X0] 9)) := Lib.hid (heap_alloc_new wa2 _)
                    refine hK.out _ _ ⟨STA3.out.c2, STA3.out.c0⟩ ?_
                    clear hK K
                    refine Hr.Walk.one (i := 18) (by kernel_rfl) rfl (fun K hK => ?_)
                    refine stepSa rfl _ _ rfl w.heap.size _ (ns L ((x :: K1))) rfl STA3.out.rs (nmAt L (k : Int)) X0 HO0.out (wa2.heap.size) NB17.out (by rfl) (by rw [HNL.out]; omega) STA3.out.bw.size ?_
                    intro wa4 g18 c18 r18 gr18
                    rw [HNL.out] at r18 ⊢
                    have STA4 := Lib.hid (STA3.out.grownS hbl gr18 r18)
                    clear r18 gr18
                    refine hK.out _ _ ⟨STA4.out.c2, STA4.out.c0⟩ ?_
                    clear hK K
                    refine Hr.Walk.one (i := 19) (by kernel_rfl) rfl (fun K hK => ?_)
                    go_simp
                    refine hK.out _ _ ⟨STA4.out.c2, STA4.out.c0⟩ ?_
                    clear hK K
                    refine Hr.Walk.one (i := 20) (by kernel_rfl) rfl (fun K hK => ?_)
                    go_simp
                    refine hK.out _ _ ⟨STA4.out.c2, STA4.out.c0⟩ ?_
                    clear hK K
                    refine Hr.Walk.done (by kernel_rfl) ?_ _
                    have EF : Hid (RowE w.heap.size wa4 (.slice (some ⟨g10, 0, none⟩) ((z + 1) + 1) c10) (((k : Int), (k : Int) + 1 + o) :: (x :: K1))) := Lib.hid (by unfold RowE; rw [es_cons]; exact STA4.out.ri)
                    have SF : Hid (RowS w.heap.size wa4 (.slice (some ⟨g18, 0, none⟩) ((z + 1) + 1) c18) (ns L (((k : Int), (k : Int) + 1 + o) :: (x :: K1)))) := Lib.hid (by rw [ns_cons]; exact STA4.out.rs)
                    have HMF : Hid ((((k : Int), (k : Int) + 1 + o) :: (x :: K1) : Stk).length = (z + 1) + 1) := Lib.hid (by rw [List.length_cons, HMK.out])
                    have BF := Lib.hid STA4.out.bw
                    go_wp2
                    go_roundw
                    case rel => exact ⟨k + 1, (z + 1) + 1, _, O2, some ⟨g10, 0, none⟩, c10, some ⟨g18, 0, none⟩, c18, rfl, by first | rfl | go_num, by first | rfl | go_num, by go_num, by omega, by omega, by omega, HMF, EF, SF, HGN, HNN, BF.out⟩
                    case measure => simp [intOf]; omega
                  · go_simp
                    have STA2 := Lib.hid (STA1.out.alloc hbl (Obj.cells #[.string X0] 9))
                    have NB17 : Hid (((wz.drew.alloc (Obj.cells #[.int .i64 ((k : Int) + 1 + o)] 3)).alloc (Obj.cells #[.string X0] 9)).heap[wz.heap.size + 1]? = some (Obj.cells #[.string X0] 9)) := Lib.hid (by have h := heap_alloc_new (wz.drew.alloc (Obj.cells #[.int .i64 ((k : Int) + 1 + o)] 3)) (Obj.cells #[.string X0] 9); rw [show (wz.drew.alloc (Obj.cells #[.int .i64 ((k : Int) + 1 + o)] 3)).heap.size = wz.heap.size + 1 from by simp] at h; exact h)
                    have NB9b : Hid (((wz.drew.alloc (Obj.cells #[.int .i64 ((k : Int) + 1 + o)] 3)).alloc (Obj.cells #[.string X0] 9)).heap[wz.heap.size]? = some (Obj.cells #[.int .i64 ((k : Int) + 1 + o)] 3)) := Lib.hid (news_alloc NB9.out)
                    refine hK.out _ _ ⟨STA2.out.c2, STA2.out.c0⟩ ?_
                    clear hK K
                    refine Hr.Walk.one (i := 10) (by kernel_rfl) rfl (fun K hK => ?_)
                    refine stepIa rfl _ _ rfl w.heap.size _ (es ((x :: K1))) rfl STA2.out.ri ((k : Int) + 1 + o) (wz.heap.size) NB9b.out (by rfl) (by rw [HEL.out]; omega) STA2.out.bw.size ?_
                    intro wa3 g10 c10 r10 gr10
                    rw [HEL.out] at r10 ⊢
                    have STA3 := Lib.hid (STA2.out.grownI hbl gr10 r10)
                    have NB17c : Hid (wa3.heap[wz.heap.size + 1]? = some (Obj.cells #[.string X0] 9)) := Lib.hid (news_grown NB17.out STA2.out.ri gr10 (by decide))
                    clear r10 gr10
                    refine hK.out _ _ ⟨STA3.out.c2, STA3.out.c0⟩ ?_
                    clear hK K
                    refine Hr.Walk.one (i := 18) (by kernel_rfl) rfl (fun K hK => ?_)
                    refine stepSa rfl _ _ rfl w.heap.size _ (ns L ((x :: K1))) rfl STA3.out.rs (nmAt L (k : Int)) X0 HO0.out (wz.heap.size + 1) NB17c.out (by rfl) (by rw [HNL.out]; omega) STA3.out.bw.size ?_
                    intro wa4 g18 c18 r18 gr18
                    rw [HNL.out] at r18 ⊢
                    have STA4 := Lib.hid (STA3.out.grownS hbl gr18 r18)
                    clear r18 gr18
                    refine hK.out _ _ ⟨STA4.out.c2, STA4.out.c0⟩ ?_
                    clear hK K
                    refine Hr.Walk.one (i := 19) (by kernel_rfl) rfl (fun K hK => ?_)
                    go_simp
                    refine hK.out _ _ ⟨STA4.out.c2, STA4.out.c0⟩ ?_
                    clear hK K
                    refine Hr.Walk.one (i := 20) (by kernel_rfl) rfl (fun K hK => ?_)
                    go_simp
                    refine hK.out _ _ ⟨STA4.out.c2, STA4.out.c0⟩ ?_
                    clear hK K
                    refine Hr.Walk.done (by kernel_rfl) ?_ _
                    have EF : Hid (RowE w.heap.size wa4 (.slice (some ⟨g10, 0, none⟩) ((z + 1) + 1) c10) (((k : Int), (k : Int) + 1 + o) :: (x :: K1))) := Lib.hid (by unfold RowE; rw [es_cons]; exact STA4.out.ri)
                    have SF : Hid (RowS w.heap.size wa4 (.slice (some ⟨g18, 0, none⟩) ((z + 1) + 1) c18) (ns L (((k : Int), (k : Int) + 1 + o) :: (x :: K1)))) := Lib.hid (by rw [ns_cons]; exact STA4.out.rs)
                    have HMF : Hid ((((k : Int), (k : Int) + 1 + o) :: (x :: K1) : Stk).length = (z + 1) + 1) := Lib.hid (by rw [List.length_cons, HMK.out])
                    have BF := Lib.hid STA4.out.bw
                    go_wp2
                    go_roundw
                    case rel => exact ⟨k + 1, (z + 1) + 1, _, O2, some ⟨g10, 0, none⟩, c10, some ⟨g18, 0, none⟩, c18, rfl, by first | rfl | go_num, by first | rfl | go_num, by go_num, by omega, by omega, by omega, HMF, EF, SF, HGN, HNN, BF.out⟩
                    case measure => simp [intOf]; omega
                · go_simp
                  have STA1 := Lib.hid (ST0.out.alloc hbl (Obj.cells #[.string X0] 9))
                  have NB17 : Hid ((wz.drew.alloc (Obj.cells #[.string X0] 9)).heap[wz.heap.size]? = some (Obj.cells #[.string X0] 9)) := Lib.hid (heap_alloc_new wz.drew _)
                  refine hK.out _ _ ⟨STA1.out.c2, STA1.out.c0⟩ ?_
                  clear hK K
                  refine Hr.Walk.one (i := 9) (by kernel_rfl) rfl (fun K hK => ?_)
                  go_simp
                  have STA2 := Lib.hid (STA1.out.alloc hbl (Obj.cells #[.int .i64 ((k : Int) + 1 + o)] 3))
                  have NB9 : Hid (((wz.drew.alloc (Obj.cells #[.string X0] 9)).alloc (Obj.cells #[.int .i64 ((k : Int) + 1 + o)] 3)).heap[wz.heap.size + 1]? = some (Obj.cells #[.int .i64 ((k : Int) + 1 + o)] 3)) := Lib.hid (by have h := heap_alloc_new (wz.drew.alloc (Obj.cells #[.string X0] 9)) (Obj.cells #[.int .i64 ((k : Int) + 1 + o)] 3); rw [show (wz.drew.alloc (Obj.cells #[.string X0] 9)).heap.size = wz.heap.size + 1 from by simp] at h; exact h)
                  have NB17b : Hid (((wz.drew.alloc (Obj.cells #[.string X0] 9)).alloc (Obj.cells #[.int .i64 ((k : Int) + 1 + o)] 3)).heap[wz.heap.size]? = some (Obj.cells #[.string X0] 9)) := Lib.hid (news_alloc NB17.out)
                  refine hK.out _ _ ⟨STA2.out.c2, STA2.out.c0⟩ ?_
                  clear hK K
                  refine Hr.Walk.one (i := 10) (by kernel_rfl) rfl (fun K hK => ?_)
                  refine stepIa rfl _ _ rfl w.heap.size _ (es ((x :: K1))) rfl STA2.out.ri ((k : Int) + 1 + o) (wz.heap.size + 1) NB9.out (by rfl) (by rw [HEL.out]; omega) STA2.out.bw.size ?_
                  intro wa3 g10 c10 r10 gr10
                  rw [HEL.out] at r10 ⊢
                  have STA3 := Lib.hid (STA2.out.grownI hbl gr10 r10)
                  have NB17bc : Hid (wa3.heap[wz.heap.size]? = some (Obj.cells #[.string X0] 9)) := Lib.hid (news_grown NB17b.out STA2.out.ri gr10 (by decide))
                  clear r10 gr10
                  refine hK.out _ _ ⟨STA3.out.c2, STA3.out.c0⟩ ?_
                  clear hK K
                  refine Hr.Walk.one (i := 18) (by kernel_rfl) rfl (fun K hK => ?_)
                  refine stepSa rfl _ _ rfl w.heap.size _ (ns L ((x :: K1))) rfl STA3.out.rs (nmAt L (k : Int)) X0 HO0.out (wz.heap.size) NB17bc.out (by rfl) (by rw [HNL.out]; omega) STA3.out.bw.size ?_
                  intro wa4 g18 c18 r18 gr18
                  rw [HNL.out] at r18 ⊢
                  have STA4 := Lib.hid (STA3.out.grownS hbl gr18 r18)
                  clear r18 gr18
                  refine hK.out _ _ ⟨STA4.out.c2, STA4.out.c0⟩ ?_
                  clear hK K
                  refine Hr.Walk.one (i := 19) (by kernel_rfl) rfl (fun K hK => ?_)
                  go_simp
                  refine hK.out _ _ ⟨STA4.out.c2, STA4.out.c0⟩ ?_
                  clear hK K
                  refine Hr.Walk.one (i := 20) (by kernel_rfl) rfl (fun K hK => ?_)
                  go_simp
                  refine hK.out _ _ ⟨STA4.out.c2, STA4.out.c0⟩ ?_
                  clear hK K
                  refine Hr.Walk.done (by kernel_rfl) ?_ _
                  have EF : Hid (RowE w.heap.size wa4 (.slice (some ⟨g10, 0, none⟩) ((z + 1) + 1) c10) (((k : Int), (k : Int) + 1 + o) :: (x :: K1))) := Lib.hid (by unfold RowE; rw [es_cons]; exact STA4.out.ri)
                  have SF : Hid (RowS w.heap.size wa4 (.slice (some ⟨g18, 0, none⟩) ((z + 1) + 1) c18) (ns L (((k : Int), (k : Int) + 1 + o) :: (x :: K1)))) := Lib.hid (by rw [ns_cons]; exact STA4.out.rs)
                  have HMF : Hid ((((k : Int), (k : Int) + 1 + o) :: (x :: K1) : Stk).length = (z + 1) + 1) := Lib.hid (by rw [List.length_cons, HMK.out])
                  have BF := Lib.hid STA4.out.bw
                  go_wp2
                  go_roundw
                  case rel => exact ⟨k + 1, (z + 1) + 1, _, O2, some ⟨g10, 0, none⟩, c10, some ⟨g18, 0, none⟩, c18, rfl, by first | rfl | go_num, by first | rfl | go_num, by go_num, by omega, by omega, by omega, HMF, EF, SF, HGN, HNN, BF.out⟩
                  case measure => simp [intOf]; omega
theorem rtt_to (v : Value) (L : List CV) (r : WS) (w : World) (hv : CmpsV w v L) (hn : L.length ≤ 30) (hL : ∀ c ∈ L, LightC c) (hc : chkB L = true) (hr : Hid (rtT L = r)) :
    Calls Try.prog 37 #[v] w fun e w' => e = .returned (.tuple #[.string ⟨r.1.toArray⟩, .int .i64 r.2]) ∧ Below w.heap.size w w' := by
  obtain ⟨A, c, rfl⟩ := hv.slice
  obtain ⟨h0, hN⟩ := nst_of hc
  have hall : ∀ c ∈ L, cmpB c = true := by
    have hc' := hc
    cases L with
    | nil => cases hc'
    | cons x xs =>
      rw [chkB, Bool.and_eq_true] at hc'
      exact chk_cmp _ _ _ hc'.2
  refine rtt_1 A _ c L r w (Lib.hid hv) (Lib.hid rfl) hn (Lib.hid hL) (Lib.hid hall) (Lib.hid (fun d hd => ?_)) (Lib.hid hr.out)
  obtain ⟨j, hj, rfl⟩ := List.mem_iff_getElem.1 hd
  have h1 := hN.own j hj
  have h2 := hN.le j hj
  rw [ed, own_nat L j hj] at h2
  rw [own_nat L j hj] at h1
  exact ⟨h1, by omega⟩
end Tre
end Go.Proofs.Ytdakpncfophjnaa
