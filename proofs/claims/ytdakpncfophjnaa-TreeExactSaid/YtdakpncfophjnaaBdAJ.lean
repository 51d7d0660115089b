/-
  Several texts in one (LnRG, LnRH).
-/
import Derived.Test.YtdakpncfophjnaaBdAF
import Derived.Test.YtdakpncfophjnaaLinU
import Derived.Test.YtdakpncfophjnaaHeldR
import Derived.Deep.RegionHeldLaw
import Derived.Deep.AppendLies
import Derived.Deep.DrawnRows
/-
  Twins of texts, wherever they came from.
-/
namespace Go.Proofs.Ytdakpncfophjnaa
open Go.RowKit
namespace Lin
open CutB Cel
open Opn (TxtV)
open Rws (RowS)
set_option maxHeartbeats 3200000 in
set_option maxRecDepth 100000 in
theorem twt_to (v : Value) (L : List (List UInt8)) (w : World) (hv : TxtV w v L) (hL : L.length ≤ 1000000) :
    Calls Try.prog 38 #[v] w fun e w' => ∃ u, e = .returned u ∧ RowS w.heap.size w' u L ∧ Below w.heap.size w w' := by
  obtain ⟨i0, hi, hz0, hz1, hz2⟩ := info_parts Esc.is
  by_cases h0 : L.length = 0
  · obtain rfl : L = [] := List.length_eq_zero_iff.1 h0
    obtain ⟨A, c, rfl⟩ := hv.nil
    by_cases hA : A = none
    · subst hA
      go_enter Try.func38, Try.ntmps38
      go_wp2
      go_ret
      exact ⟨_, rfl, RowS.nil _ _, Below.refl _ _⟩
    · obtain ⟨ad, rfl⟩ : ∃ ad, A = some ad := Option.ne_none_iff_exists'.1 hA
      go_enter Try.func38, Try.ntmps38
      go_wp2_with (at_builtin; refine wpList_append_own _ rfl _ _ 32 rfl w.heap.size 9 i0 (.string ⟨#[]⟩) 1 16 (by kernel_rfl) hi hz0 hz1 hz2 rfl (by decide) _ _ _ rfl (World.ownsRow_nil w _ _ _) ad 0 c [] rfl rfl ?d1 ?d2 ?d3 ?d4 ?d5 ?_)
      case d1 => intro j u hj; simp at hj
      case d2 => intro u hu; simp at hu
      case d3 => unfold maxLen; omega
      case d4 => omega
      case d5 => omega
      intro v' w5 r3 g3 hne
      have hb5 : Below w.heap.size w w5 := (Below.refl _ _).grown g3 (Nat.le_refl _) (fun j hj => by simp [Value.ownBlock] at hj)
      have hT : Hid (RowS w.heap.size w5 v' []) := Lib.hid (by first | exact r3 | (unfold RowS; simpa using r3))
      clear r3 g3 hne
      go_wp2
      go_ret
      exact ⟨_, rfl, hT.out, hb5⟩
  · obtain ⟨bk, off, c, rfl, hbk, hcell⟩ := hv.form (by omega)
    have HC := Lib.hid hcell
    obtain ⟨n, hn⟩ : ∃ n, L.length = n := ⟨_, rfl⟩
    have HN := Lib.hid hn
    rw [hn] at hL h0 ⊢
    clear hv hcell hn
    go_enter Try.func38, Try.ntmps38
    go_wp2_with (at_builtin; refine wpList_append_own _ rfl _ _ 32 rfl w.heap.size 9 i0 (.string ⟨#[]⟩) 1 16 (by kernel_rfl) hi hz0 hz1 hz2 rfl (by decide) _ _ _ rfl (World.ownsRow_nil w _ _ _) ⟨bk, off, none⟩ n c (L.map Opn.sv) rfl ?d0 ?d1 ?d2 ?d3 ?d4 ?d5 ?_)
    case d0 => rw [List.length_map, HN.out, Nat.mul_one]
    case d1 =>
      intro j u hj
      rw [List.getElem?_map] at hj
      have hj2 : j < L.length := by
        rcases Nat.lt_or_ge j L.length with h | h
        · exact h
        · rw [List.getElem?_eq_none h] at hj; cases hj
      rw [List.getElem?_eq_getElem hj2] at hj
      injection hj with hj
      subst hj
      rw [show (⟨bk, off, none⟩ : Addr).add j = ⟨bk, off + j, none⟩ from by simp [Addr.add]]
      exact HC.out j hj2
    case d2 =>
      intro u hu
      obtain ⟨t, _, rfl⟩ := List.mem_map.1 hu
      rfl
    case d3 => unfold maxLen; omega
    case d4 => omega
    case d5 => omega
    intro v' w5 r3 g3 hne
    have hb5 : Below w.heap.size w w5 := (Below.refl _ _).grown g3 (Nat.le_refl _) (fun j hj => by simp [Value.ownBlock] at hj)
    have hT : Hid (RowS w.heap.size w5 v' L) := Lib.hid (by
      have h := r3
      rw [← HN.out] at h
      first | exact h | (unfold RowS; simpa using h))
    clear r3 g3 hne
    go_wp2
    go_ret
    exact ⟨_, rfl, hT.out, hb5⟩
end Lin
end Go.Proofs.Ytdakpncfophjnaa
/-
  Twins of lines, wherever they came from.
-/
namespace Go.Proofs.Ytdakpncfophjnaa
open Go.RowKit
namespace Lin
open CutB Cel
open Opn (TxtV)
open Rws (RowS)
attribute [local go_sem ↓] Go.wp_at_zero Go.wp_at_succ
/-- append(ps, p), at a step of a region that draws its order. -/
theorem stepP {w : World} {ops : Array Oper} {o : Oper} {a : Act} {K : Act → World → Prop} {Q : Exit → Act → World → Prop} {E : Prop} (hgd : o.guard = none) (s x : Operand)
    (ho : o.op = .call { callee := .builtin .append, args := #[s, x], argTypes := #[22, 22] })
    (B : Nat) (v : Value) (ps : List PV) (hs : a.eval s = v) (hown : ParR B w v ps) (p : PV) (y : ByteArray) (u : Value) (hy : y = ⟨p.nm.toArray⟩) (hu : RowS B w u p.vs) (hx : a.eval x = .slice (some ⟨w.heap.size, 0, none⟩) 1 1)
    (hlen : ps.length ≤ 1000000000) (hB : B ≤ w.heap.size)
    (h : ∀ w' g cap, ParR B w' (.slice (some ⟨g, 0, none⟩) (ps.length + 1) cap) (ps ++ [p]) → (∀ (B0 : Nat) (W0 : World), B0 ≤ B → Below B0 W0 w → B0 ≤ w.heap.size → Below B0 W0 w') → w.heap.size ≤ w'.heap.size → K (a.put o.dst (.slice (some ⟨g, 0, none⟩) (ps.length + 1) cap)) w') :
    if Region.wanted o (yielded ops a.tmps) = true then Oper.wp Try.prog o a (w.alloc (.cells #[.string y, u] 45)) K Q else E := by
  obtain ⟨i0, hi0, hz0, hz1, hz2⟩ := info_parts infoP
  obtain ⟨xs, h1, h2⟩ := hown
  have huf : u.oneCell' = true := by
    rcases hu.2 with ⟨rfl, _⟩ | ⟨g, cap, cur, rfl, _⟩ <;> rfl
  refine step_append_lies _ hgd s x 22 ho B 45 i0 (.agg #[.string ⟨#[]⟩, .slice none 0 0]) 2 40 (by kernel_rfl) hi0 hz0 hz1 hz2 rfl (by decide) v ps.length _ hs (h1.alloc _) ⟨w.heap.size, 0, none⟩ 1 1 [.string y, u] hx rfl ?_ ?_ (by decide) (by unfold maxLen; omega) (by omega) (by simp; omega) _ rfl ?_
  · intro j z hj
    match j, hj with
    | 0, hj =>
      simp at hj; subst hj
      rw [show (⟨w.heap.size, 0, none⟩ : Addr).add 0 = ⟨w.heap.size, 0, none⟩ from by simp [Addr.add], World.cell?_alloc_new]
      rfl
    | 1, hj =>
      simp at hj; subst hj
      rw [show (⟨w.heap.size, 0, none⟩ : Addr).add 1 = ⟨w.heap.size, 1, none⟩ from by simp [Addr.add], World.cell?_alloc_new]
      rfl
    | j + 2, hj => simp at hj
  · intro z hz
    simp only [List.mem_cons, List.mem_nil_iff, or_false] at hz
    rcases hz with rfl | rfl
    · rfl
    · exact huf
  · intro g cap w' r3 g3 hat hlt
    have hl : (ps ++ [p]).length = ps.length + 1 := by simp
    have keep : ∀ (sv : Value) (L : List (List UInt8)), RowS B w sv L → RowS B w' sv L := fun sv L hL =>
      World.ownsRow.kept (World.ownsRow.alloc hL _) g3 (Rws.apart hL h1 (by decide))
    have hp : ParR B w' (.slice (some ⟨g, 0, none⟩) (ps.length + 1) cap) (ps ++ [p]) := by
      refine ⟨xs ++ [.string y, u], by rw [hl]; exact r3, fun j hj => ?_⟩
      have hxl : xs.length = ps.length * 2 := h1.1
      by_cases hjp : j < ps.length
      · obtain ⟨sv, a1, b1, c1⟩ := h2 j hjp
        have e : (ps ++ [p])[j] = ps[j] := List.getElem_append_left hjp
        rw [e]
        exact ⟨sv, by rw [List.getElem?_append_left (by omega)]; exact a1, by rw [List.getElem?_append_left (by omega)]; exact b1, keep _ _ c1⟩
      · obtain rfl : j = ps.length := by omega
        have e : (ps ++ [p])[ps.length] = p := by simp
        rw [e]
        refine ⟨u, ?_, ?_, keep _ _ hu⟩
        · rw [List.getElem?_append_right (by omega), hxl, Nat.sub_self, hy]; rfl
        · rw [List.getElem?_append_right (by omega), hxl, show ps.length * 2 + 1 - ps.length * 2 = 1 by omega]; rfl
    exact h w' g cap hp (fun B0 W0 hB0 hb hw => (hb.alloc hw _).grown g3 (by simp; omega) (fun k hk => Nat.le_trans hB0 (h1.lt k hk).1)) (Nat.le_trans (by simp) g3.size)
def TwK (w : World) (nm vl : ByteArray) (src pvo : Value) (L : List PV) (x : World) : Prop := Cs w.heap.size x [.string nm, src, .string vl] ∧ Cs (w.heap.size + 1) x [.string ⟨#[]⟩, .slice none 0 0, .string ⟨#[]⟩] ∧ Cs (w.heap.size + 2) x [.string nm, pvo, .string vl] ∧ ParR (w.heap.size + 3) x pvo L ∧ Below w.heap.size w x
theorem TwK.below {w : World} {nm vl : ByteArray} {src pvo : Value} {L : List PV} {x y : World} (h : TwK w nm vl src pvo L x) (hb : Below x.heap.size x y) : TwK w nm vl src pvo L y :=
  ⟨h.1.below hb, h.2.1.below hb, h.2.2.1.below hb, h.2.2.2.1.below hb, bstep h.2.2.2.2 hb⟩
/-- What TwinLine hands back: a line of its own. -/
def TlQ (nm vl : ByteArray) (ps : List PV) (w : World) (e : Ending) (w' : World) : Prop := ∃ u, e = .returned (.agg #[.string nm, u, .string vl]) ∧ ParR w.heap.size w' u ps ∧ Below w.heap.size w w'
theorem ParR.low {B B' : Nat} {w : World} {v : Value} {ps : List PV} (hB : B' ≤ B) (h : ParR B w v ps) : ParR B' w v ps := by
  obtain ⟨xs, h1, h2⟩ := h
  refine ⟨xs, h1.mono hB, fun j hj => ?_⟩
  obtain ⟨sv, a, b, c⟩ := h2 j hj
  exact ⟨sv, a, b, World.ownsRow.mono c hB⟩
theorem tw_keep {w : World} {src pvo v0 v1 : Value} {b o q : Nat} {x y : World} (hbl : b < w.heap.size)
    (h : x.cell? ⟨w.heap.size, 1, none⟩ = some src ∧ x.cell? ⟨w.heap.size + 1 + 1, 1, none⟩ = some pvo ∧ x.cell? ⟨b, o, none⟩ = some v0 ∧ x.cell? ⟨b, o + 1, none⟩ = some v1 ∧ w.heap.size + 2 < x.heap.size ∧ Below w.heap.size w x) (hq : w.heap.size + 3 ≤ q) (hb : Below q x y) (hs : x.heap.size ≤ y.heap.size) :
    y.cell? ⟨w.heap.size, 1, none⟩ = some src ∧ y.cell? ⟨w.heap.size + 1 + 1, 1, none⟩ = some pvo ∧ y.cell? ⟨b, o, none⟩ = some v0 ∧ y.cell? ⟨b, o + 1, none⟩ = some v1 ∧ w.heap.size + 2 < y.heap.size ∧ Below w.heap.size w y := by
  obtain ⟨h1, h2, h3, h4, h5, h6⟩ := h
  exact ⟨(hb.cell (p := ⟨_, _, none⟩) (by show w.heap.size < q; omega)).trans h1, (hb.cell (p := ⟨_, _, none⟩) (by show w.heap.size + 1 + 1 < q; omega)).trans h2, (hb.cell (p := ⟨_, _, none⟩) (by show b < q; omega)).trans h3, (hb.cell (p := ⟨_, _, none⟩) (by show b < q; omega)).trans h4, by omega, h6.trans (hb.mono (by omega))⟩
set_option maxHeartbeats 12800000 in
set_option maxRecDepth 100000 in
theorem twl_4 (nm vl : ByteArray) (b off c N : Nat) (ps : List PV) (w : World) (hN : Hid (ps.length = N)) (h20 : N ≤ 20) (hbl : b < w.heap.size) (hp : Hid (∀ (j : Nat) (hj : j < ps.length), ∃ sv, w.cell? ⟨b, off + j * 2, none⟩ = some (.string ⟨(ps[j]).nm.toArray⟩) ∧ w.cell? ⟨b, off + j * 2 + 1, none⟩ = some sv ∧ TxtV w sv (ps[j]).vs)) (hL : Hid (∀ p ∈ ps, LightP p)) :
    Calls Try.prog 13 #[.agg #[.string nm, .slice (some ⟨b, off, none⟩) N c, .string vl]] w (TlQ nm vl ps w) := by
  obtain ⟨i0, hi0, hz0, hz1, hz2⟩ := info_parts infoP
  have C0 := Lib.hid (Cs.alloc (Cs.alloc (Cs.new w [.string nm, .slice (some ⟨b, off, none⟩) N c, .string vl] 24) (Obj.cells #[.string ⟨#[]⟩, .slice none 0 0, .string ⟨#[]⟩] 24)) (Obj.cells #[.string nm, .slice none 0 0, .string vl] 24))
  go_enter Try.func13, Try.ntmps13
  go_wp2_with fail
  go_loopw [4] (fun i wr => ∃ k : Nat, k ≤ N ∧ i = .int .i64 k ∧ ∃ pvo, TwK w nm vl (.slice (some ⟨b, off, none⟩) N c) pvo (ps.take k) wr) (fun i _ => N - (intOf i).toNat)
  case atStart =>
    refine ⟨0, Nat.zero_le _, rfl, .slice none 0 0, C0.out, ?_, ?_, ParR.nil _ _, ?_⟩
    · have h := Cs.alloc (Cs.new (w.alloc (Obj.cells #[.string nm, .slice (some ⟨b, off, none⟩) N c, .string vl] 24)) [.string ⟨#[]⟩, .slice none 0 0, .string ⟨#[]⟩] 24) (Obj.cells #[.string nm, .slice none 0 0, .string vl] 24)
      rw [show (w.alloc (Obj.cells #[.string nm, .slice (some ⟨b, off, none⟩) N c, .string vl] 24)).heap.size = w.heap.size + 1 from by simp] at h
      exact h
    · have h := Cs.new ((w.alloc (Obj.cells #[.string nm, .slice (some ⟨b, off, none⟩) N c, .string vl] 24)).alloc (Obj.cells #[.string ⟨#[]⟩, .slice none 0 0, .string ⟨#[]⟩] 24)) [.string nm, .slice none 0 0, .string vl] 24
      rw [show ((w.alloc (Obj.cells #[.string nm, .slice (some ⟨b, off, none⟩) N c, .string vl] 24)).alloc (Obj.cells #[.string ⟨#[]⟩, .slice none 0 0, .string ⟨#[]⟩] 24)).heap.size = w.heap.size + 2 from by simp] at h
      exact h
    · exact (((Below.refl w.heap.size w).alloc (Nat.le_refl _) _).alloc (by simp) _).alloc (by simp; omega) _
  case round =>
    obtain ⟨k, hk, rfl, pvo, hK⟩ := hrel
    have HK := Lib.hid hK
    have z1 := (hK.1.2 1 _ rfl).1
    have gq : w.heap.size < wr.heap.size := hK.1.1
    clear hK C0
    by_cases hlt : k < N
    · have hkp : k < ps.length := by rw [hN.out]; exact hlt
      obtain ⟨sv, c0, c1, ht⟩ := hp.out k hkp
      obtain ⟨p, hpk⟩ : ∃ p, ps[k]'hkp = p := ⟨_, rfl⟩
      rw [hpk] at c0 ht
      have hvl := (hL.out p (hpk ▸ List.getElem_mem hkp)).2.1
      have HTK : Hid (ps.take (k + 1) = ps.take k ++ [p]) := Lib.hid (by rw [List.take_succ_eq_append_getElem hkp, hpk])
      obtain ⟨Y, hY⟩ : ∃ Y : ByteArray, ⟨p.nm.toArray⟩ = Y := ⟨_, rfl⟩
      have HYE := Lib.hid hY.symm
      rw [hY] at c0
      obtain ⟨pa, pc, hpv⟩ := HK.out.2.2.2.1.form
      have hlk : (ps.take k).length = k := by rw [List.length_take]; omega
      rw [hlk] at hpv
      subst hpv
      have S0 := Lib.hid (show wr.cell? ⟨w.heap.size, 1, none⟩ = some (.slice (some ⟨b, off, none⟩) N c) ∧ wr.cell? ⟨w.heap.size + 1 + 1, 1, none⟩ = some (.slice pa k pc) ∧ wr.cell? ⟨b, off + k * 2, none⟩ = some (.string Y) ∧ wr.cell? ⟨b, off + k * 2 + 1, none⟩ = some sv ∧ w.heap.size + 2 < wr.heap.size ∧ Below w.heap.size w wr from
        ⟨z1, (HK.out.2.2.1.2 1 _ rfl).1, (HK.out.2.2.2.2.cell (p := ⟨b, _, none⟩) hbl).trans c0, (HK.out.2.2.2.2.cell (p := ⟨b, _, none⟩) hbl).trans c1, HK.out.2.2.1.1, HK.out.2.2.2.2⟩)
      have HPR := Lib.hid (HK.out.2.2.2.1.below (Below.refl wr.heap.size wr).drew)
      have HTW := Lib.hid ((ht.below HK.out.2.2.2.2).below (Below.refl wr.heap.size wr).drew)
      have gk : w.heap.size + 2 < wr.heap.size := HK.out.2.2.1.1
      have YF : Hid (wr.drew.frozen? ⟨w.heap.size + 1 + 1, 1, none⟩ = false ∧ wr.drew.cell? ⟨w.heap.size + 1 + 1, 1, none⟩ = some (.slice pa k pc)) := Lib.hid ⟨(HK.out.2.2.1.2 1 _ rfl).2, (HK.out.2.2.1.2 1 _ rfl).1⟩
      have hk20 : k ≤ 20 := by omega
      clear c0 c1 ht hpk hkp hY
      go_upto_region 5 with fail
      have Sd := Lib.hid (tw_keep hbl S0.out gk (Below.refl _ _).drew (Nat.le_refl _))
      refine Hr.Walk.region (R := fun up x => up.getD 19 false = false → x.cell? ⟨w.heap.size, 1, none⟩ = some (.slice (some ⟨b, off, none⟩) N c) ∧ x.cell? ⟨w.heap.size + 1 + 1, 1, none⟩ = some (.slice pa k pc) ∧ x.cell? ⟨b, off + k * 2, none⟩ = some (.string Y) ∧ x.cell? ⟨b, off + k * 2 + 1, none⟩ = some sv ∧ w.heap.size + 2 < x.heap.size ∧ Below w.heap.size w x) (by kernel_rfl) ?_
      refine Hr.Walk.take (i := 0) (v := ?v0) (fun x => x.cell? ⟨w.heap.size, 1, none⟩ = some (.slice (some ⟨b, off, none⟩) N c) ∧ x.cell? ⟨w.heap.size + 1 + 1, 1, none⟩ = some (.slice pa k pc) ∧ x.cell? ⟨b, off + k * 2, none⟩ = some (.string Y) ∧ x.cell? ⟨b, off + k * 2 + 1, none⟩ = some sv ∧ w.heap.size + 2 < x.heap.size ∧ Below w.heap.size w x) (fun up => up.getD 19 false = false) rfl (by kernel_rfl) (by kernel_rfl) (by kernel_rfl) (fun _ _ _ h => h) (Hr.keepI (s := 19) rfl (by kernel_rfl)) (fun _ _ hu hr => hr hu) (fun up y => Hr.keepR (s := 19) (i := 0) (S := fun x => x.cell? ⟨w.heap.size, 1, none⟩ = some (.slice (some ⟨b, off, none⟩) N c) ∧ x.cell? ⟨w.heap.size + 1 + 1, 1, none⟩ = some (.slice pa k pc) ∧ x.cell? ⟨b, off + k * 2, none⟩ = some (.string Y) ∧ x.cell? ⟨b, off + k * 2 + 1, none⟩ = some sv ∧ w.heap.size + 2 < x.heap.size ∧ Below w.heap.size w x) (by decide) up y) rfl (Or.inl ⟨by rfl, ?hy0⟩) Sd.out (fun _ => Sd.out) ?rest0
      case hy0 => intro x hx; (try dsimp only at hx); go_simp; try with_reducible rfl
      refine Hr.Walk.take (i := 1) (v := ?v1) (fun x => x.cell? ⟨w.heap.size, 1, none⟩ = some (.slice (some ⟨b, off, none⟩) N c) ∧ x.cell? ⟨w.heap.size + 1 + 1, 1, none⟩ = some (.slice pa k pc) ∧ x.cell? ⟨b, off + k * 2, none⟩ = some (.string Y) ∧ x.cell? ⟨b, off + k * 2 + 1, none⟩ = some sv ∧ w.heap.size + 2 < x.heap.size ∧ Below w.heap.size w x) (fun up => up.getD 19 false = false) rfl (by kernel_rfl) (by kernel_rfl) (by kernel_rfl) (fun _ _ _ h => h) (Hr.keepI (s := 19) rfl (by kernel_rfl)) (fun _ _ hu hr => hr hu) (fun up y => Hr.keepR (s := 19) (i := 1) (S := fun x => x.cell? ⟨w.heap.size, 1, none⟩ = some (.slice (some ⟨b, off, none⟩) N c) ∧ x.cell? ⟨w.heap.size + 1 + 1, 1, none⟩ = some (.slice pa k pc) ∧ x.cell? ⟨b, off + k * 2, none⟩ = some (.string Y) ∧ x.cell? ⟨b, off + k * 2 + 1, none⟩ = some sv ∧ w.heap.size + 2 < x.heap.size ∧ Below w.heap.size w x) (by decide) up y) rfl (Or.inl ⟨by rfl, ?hy1⟩) Sd.out (fun _ => Sd.out) ?rest1
      case hy1 => intro x hx; (try dsimp only at hx); go_simp; try with_reducible rfl
      refine Hr.Walk.take (i := 2) (v := ?v2) (fun x => x.cell? ⟨w.heap.size, 1, none⟩ = some (.slice (some ⟨b, off, none⟩) N c) ∧ x.cell? ⟨w.heap.size + 1 + 1, 1, none⟩ = some (.slice pa k pc) ∧ x.cell? ⟨b, off + k * 2, none⟩ = some (.string Y) ∧ x.cell? ⟨b, off + k * 2 + 1, none⟩ = some sv ∧ w.heap.size + 2 < x.heap.size ∧ Below w.heap.size w x) (fun up => up.getD 19 false = false) rfl (by kernel_rfl) (by kernel_rfl) (by kernel_rfl) (fun _ _ _ h => h) (Hr.keepI (s := 19) rfl (by kernel_rfl)) (fun _ _ hu hr => hr hu) (fun up y => Hr.keepR (s := 19) (i := 2) (S := fun x => x.cell? ⟨w.heap.size, 1, none⟩ = some (.slice (some ⟨b, off, none⟩) N c) ∧ x.cell? ⟨w.heap.size + 1 + 1, 1, none⟩ = some (.slice pa k pc) ∧ x.cell? ⟨b, off + k * 2, none⟩ = some (.string Y) ∧ x.cell? ⟨b, off + k * 2 + 1, none⟩ = some sv ∧ w.heap.size + 2 < x.heap.size ∧ Below w.heap.size w x) (by decide) up y) rfl (Or.inl ⟨by rfl, ?hy2⟩) Sd.out (fun _ => Sd.out) ?rest2
      case hy2 => intro x hx; (try dsimp only at hx); go_simp; try with_reducible rfl
      refine Hr.Walk.take (i := 3) (v := ?v3) (fun x => x.cell? ⟨w.heap.size, 1, none⟩ = some (.slice (some ⟨b, off, none⟩) N c) ∧ x.cell? ⟨w.heap.size + 1 + 1, 1, none⟩ = some (.slice pa k pc) ∧ x.cell? ⟨b, off + k * 2, none⟩ = some (.string Y) ∧ x.cell? ⟨b, off + k * 2 + 1, none⟩ = some sv ∧ w.heap.size + 2 < x.heap.size ∧ Below w.heap.size w x) (fun up => up.getD 19 false = false) rfl (by kernel_rfl) (by kernel_rfl) (by kernel_rfl) (fun _ _ _ h => h) (Hr.keepI (s := 19) rfl (by kernel_rfl)) (fun _ _ hu hr => hr hu) (fun up y => Hr.keepR (s := 19) (i := 3) (S := fun x => x.cell? ⟨w.heap.size, 1, none⟩ = some (.slice (some ⟨b, off, none⟩) N c) ∧ x.cell? ⟨w.heap.size + 1 + 1, 1, none⟩ = some (.slice pa k pc) ∧ x.cell? ⟨b, off + k * 2, none⟩ = some (.string Y) ∧ x.cell? ⟨b, off + k * 2 + 1, none⟩ = some sv ∧ w.heap.size + 2 < x.heap.size ∧ Below w.heap.size w x) (by decide) up y) rfl (Or.inl ⟨by rfl, ?hy3⟩) Sd.out (fun _ => Sd.out) ?rest3
      case hy3 => intro x hx; (try dsimp only at hx); go_simp; try with_reducible rfl
      refine Hr.Walk.take (i := 4) (v := ?v4) (fun x => x.cell? ⟨w.heap.size, 1, none⟩ = some (.slice (some ⟨b, off, none⟩) N c) ∧ x.cell? ⟨w.heap.size + 1 + 1, 1, none⟩ = some (.slice pa k pc) ∧ x.cell? ⟨b, off + k * 2, none⟩ = some (.string Y) ∧ x.cell? ⟨b, off + k * 2 + 1, none⟩ = some sv ∧ w.heap.size + 2 < x.heap.size ∧ Below w.heap.size w x) (fun up => up.getD 19 false = false) rfl (by kernel_rfl) (by kernel_rfl) (by kernel_rfl) (fun _ _ _ h => h) (Hr.keepI (s := 19) rfl (by kernel_rfl)) (fun _ _ hu hr => hr hu) (fun up y => Hr.keepR (s := 19) (i := 4) (S := fun x => x.cell? ⟨w.heap.size, 1, none⟩ = some (.slice (some ⟨b, off, none⟩) N c) ∧ x.cell? ⟨w.heap.size + 1 + 1, 1, none⟩ = some (.slice pa k pc) ∧ x.cell? ⟨b, off + k * 2, none⟩ = some (.string Y) ∧ x.cell? ⟨b, off + k * 2 + 1, none⟩ = some sv ∧ w.heap.size + 2 < x.heap.size ∧ Below w.heap.size w x) (by decide) up y) rfl (Or.inl ⟨by rfl, ?hy4⟩) Sd.out (fun _ => Sd.out) ?rest4
      case hy4 => intro x hx; (try dsimp only at hx); go_simp; try with_reducible rfl
      refine Hr.Walk.take (i := 5) (v := ?v5) (fun x => x.cell? ⟨w.heap.size, 1, none⟩ = some (.slice (some ⟨b, off, none⟩) N c) ∧ x.cell? ⟨w.heap.size + 1 + 1, 1, none⟩ = some (.slice pa k pc) ∧ x.cell? ⟨b, off + k * 2, none⟩ = some (.string Y) ∧ x.cell? ⟨b, off + k * 2 + 1, none⟩ = some sv ∧ w.heap.size + 2 < x.heap.size ∧ Below w.heap.size w x) (fun up => up.getD 19 false = false) rfl (by kernel_rfl) (by kernel_rfl) (by kernel_rfl) (fun _ _ _ h => h) (Hr.keepI (s := 19) rfl (by kernel_rfl)) (fun _ _ hu hr => hr hu) (fun up y => Hr.keepR (s := 19) (i := 5) (S := fun x => x.cell? ⟨w.heap.size, 1, none⟩ = some (.slice (some ⟨b, off, none⟩) N c) ∧ x.cell? ⟨w.heap.size + 1 + 1, 1, none⟩ = some (.slice pa k pc) ∧ x.cell? ⟨b, off + k * 2, none⟩ = some (.string Y) ∧ x.cell? ⟨b, off + k * 2 + 1, none⟩ = some sv ∧ w.heap.size + 2 < x.heap.size ∧ Below w.heap.size w x) (by decide) up y) rfl (Or.inl ⟨by rfl, ?hy5⟩) Sd.out (fun _ => Sd.out) ?rest5
      case hy5 => intro x hx; (try dsimp only at hx); go_simp; try with_reducible rfl
      refine Hr.Walk.take (i := 6) (v := ?v6) (fun x => x.cell? ⟨w.heap.size, 1, none⟩ = some (.slice (some ⟨b, off, none⟩) N c) ∧ x.cell? ⟨w.heap.size + 1 + 1, 1, none⟩ = some (.slice pa k pc) ∧ x.cell? ⟨b, off + k * 2, none⟩ = some (.string Y) ∧ x.cell? ⟨b, off + k * 2 + 1, none⟩ = some sv ∧ w.heap.size + 2 < x.heap.size ∧ Below w.heap.size w x) (fun up => up.getD 19 false = false) rfl (by kernel_rfl) (by kernel_rfl) (by kernel_rfl) (fun _ _ _ h => h) (Hr.keepI (s := 19) rfl (by kernel_rfl)) (fun _ _ hu hr => hr hu) (fun up y => Hr.keepR (s := 19) (i := 6) (S := fun x => x.cell? ⟨w.heap.size, 1, none⟩ = some (.slice (some ⟨b, off, none⟩) N c) ∧ x.cell? ⟨w.heap.size + 1 + 1, 1, none⟩ = some (.slice pa k pc) ∧ x.cell? ⟨b, off + k * 2, none⟩ = some (.string Y) ∧ x.cell? ⟨b, off + k * 2 + 1, none⟩ = some sv ∧ w.heap.size + 2 < x.heap.size ∧ Below w.heap.size w x) (by decide) up y) rfl (Or.inl ⟨by rfl, ?hy6⟩) Sd.out (fun _ => Sd.out) ?rest6
      case hy6 => intro x hx; (try dsimp only at hx); go_simp; try with_reducible rfl
      refine Hr.Walk.take (i := 7) (v := ?v7) (fun x => x.cell? ⟨w.heap.size, 1, none⟩ = some (.slice (some ⟨b, off, none⟩) N c) ∧ x.cell? ⟨w.heap.size + 1 + 1, 1, none⟩ = some (.slice pa k pc) ∧ x.cell? ⟨b, off + k * 2, none⟩ = some (.string Y) ∧ x.cell? ⟨b, off + k * 2 + 1, none⟩ = some sv ∧ w.heap.size + 2 < x.heap.size ∧ Below w.heap.size w x) (fun up => up.getD 19 false = false) rfl (by kernel_rfl) (by kernel_rfl) (by kernel_rfl) (fun _ _ _ h => h) (Hr.keepI (s := 19) rfl (by kernel_rfl)) (fun _ _ hu hr => hr hu) (fun up y => Hr.keepR (s := 19) (i := 7) (S := fun x => x.cell? ⟨w.heap.size, 1, none⟩ = some (.slice (some ⟨b, off, none⟩) N c) ∧ x.cell? ⟨w.heap.size + 1 + 1, 1, none⟩ = some (.slice pa k pc) ∧ x.cell? ⟨b, off + k * 2, none⟩ = some (.string Y) ∧ x.cell? ⟨b, off + k * 2 + 1, none⟩ = some sv ∧ w.heap.size + 2 < x.heap.size ∧ Below w.heap.size w x) (by decide) up y) rfl (Or.inl ⟨by rfl, ?hy7⟩) Sd.out (fun _ => Sd.out) ?rest7
      case hy7 => intro x hx; (try dsimp only at hx); go_simp; try with_reducible rfl
      refine Hr.Walk.take (i := 8) (v := ?v8) (fun x => x.cell? ⟨w.heap.size, 1, none⟩ = some (.slice (some ⟨b, off, none⟩) N c) ∧ x.cell? ⟨w.heap.size + 1 + 1, 1, none⟩ = some (.slice pa k pc) ∧ x.cell? ⟨b, off + k * 2, none⟩ = some (.string Y) ∧ x.cell? ⟨b, off + k * 2 + 1, none⟩ = some sv ∧ w.heap.size + 2 < x.heap.size ∧ Below w.heap.size w x) (fun up => up.getD 19 false = false) rfl (by kernel_rfl) (by kernel_rfl) (by kernel_rfl) (fun _ _ _ h => h) (Hr.keepI (s := 19) rfl (by kernel_rfl)) (fun _ _ hu hr => hr hu) (fun up y => Hr.keepR (s := 19) (i := 8) (S := fun x => x.cell? ⟨w.heap.size, 1, none⟩ = some (.slice (some ⟨b, off, none⟩) N c) ∧ x.cell? ⟨w.heap.size + 1 + 1, 1, none⟩ = some (.slice pa k pc) ∧ x.cell? ⟨b, off + k * 2, none⟩ = some (.string Y) ∧ x.cell? ⟨b, off + k * 2 + 1, none⟩ = some sv ∧ w.heap.size + 2 < x.heap.size ∧ Below w.heap.size w x) (by decide) up y) rfl (Or.inl ⟨by rfl, ?hy8⟩) Sd.out (fun _ => Sd.out) ?rest8
      case hy8 => intro x hx; (try dsimp only at hx); go_simp; try with_reducible rfl
      refine Hr.Walk.take (i := 9) (v := ?v9) (fun x => x.cell? ⟨w.heap.size, 1, none⟩ = some (.slice (some ⟨b, off, none⟩) N c) ∧ x.cell? ⟨w.heap.size + 1 + 1, 1, none⟩ = some (.slice pa k pc) ∧ x.cell? ⟨b, off + k * 2, none⟩ = some (.string Y) ∧ x.cell? ⟨b, off + k * 2 + 1, none⟩ = some sv ∧ w.heap.size + 2 < x.heap.size ∧ Below w.heap.size w x) (fun up => up.getD 19 false = false) rfl (by kernel_rfl) (by kernel_rfl) (by kernel_rfl) (fun _ _ _ h => h) (Hr.keepI (s := 19) rfl (by kernel_rfl)) (fun _ _ hu hr => hr hu) (fun up y => Hr.keepR (s := 19) (i := 9) (S := fun x => x.cell? ⟨w.heap.size, 1, none⟩ = some (.slice (some ⟨b, off, none⟩) N c) ∧ x.cell? ⟨w.heap.size + 1 + 1, 1, none⟩ = some (.slice pa k pc) ∧ x.cell? ⟨b, off + k * 2, none⟩ = some (.string Y) ∧ x.cell? ⟨b, off + k * 2 + 1, none⟩ = some sv ∧ w.heap.size + 2 < x.heap.size ∧ Below w.heap.size w x) (by decide) up y) rfl (Or.inl ⟨by rfl, ?hy9⟩) Sd.out (fun _ => Sd.out) ?rest9
      case hy9 => intro x hx; (try dsimp only at hx); go_simp; try with_reducible rfl
      refine Hr.Walk.take (i := 10) (v := ?v10) (fun x => x.cell? ⟨w.heap.size, 1, none⟩ = some (.slice (some ⟨b, off, none⟩) N c) ∧ x.cell? ⟨w.heap.size + 1 + 1, 1, none⟩ = some (.slice pa k pc) ∧ x.cell? ⟨b, off + k * 2, none⟩ = some (.string Y) ∧ x.cell? ⟨b, off + k * 2 + 1, none⟩ = some sv ∧ w.heap.size + 2 < x.heap.size ∧ Below w.heap.size w x) (fun up => up.getD 19 false = false) rfl (by kernel_rfl) (by kernel_rfl) (by kernel_rfl) (fun _ _ _ h => h) (Hr.keepI (s := 19) rfl (by kernel_rfl)) (fun _ _ hu hr => hr hu) (fun up y => Hr.keepR (s := 19) (i := 10) (S := fun x => x.cell? ⟨w.heap.size, 1, none⟩ = some (.slice (some ⟨b, off, none⟩) N c) ∧ x.cell? ⟨w.heap.size + 1 + 1, 1, none⟩ = some (.slice pa k pc) ∧ x.cell? ⟨b, off + k * 2, none⟩ = some (.string Y) ∧ x.cell? ⟨b, off + k * 2 + 1, none⟩ = some sv ∧ w.heap.size + 2 < x.heap.size ∧ Below w.heap.size w x) (by decide) up y) rfl (Or.inl ⟨by rfl, ?hy10⟩) Sd.out (fun _ => Sd.out) ?rest10
      case hy10 => intro x hx; (try dsimp only at hx); go_simp; try with_reducible rfl
      refine Hr.Walk.take (i := 11) (v := ?v11) (fun x => x.cell? ⟨w.heap.size, 1, none⟩ = some (.slice (some ⟨b, off, none⟩) N c) ∧ x.cell? ⟨w.heap.size + 1 + 1, 1, none⟩ = some (.slice pa k pc) ∧ x.cell? ⟨b, off + k * 2, none⟩ = some (.string Y) ∧ x.cell? ⟨b, off + k * 2 + 1, none⟩ = some sv ∧ w.heap.size + 2 < x.heap.size ∧ Below w.heap.size w x) (fun up => up.getD 19 false = false) rfl (by kernel_rfl) (by kernel_rfl) (by kernel_rfl) (fun _ _ _ h => h) (Hr.keepI (s := 19) rfl (by kernel_rfl)) (fun _ _ hu hr => hr hu) (fun up y => Hr.keepR (s := 19) (i := 11) (S := fun x => x.cell? ⟨w.heap.size, 1, none⟩ = some (.slice (some ⟨b, off, none⟩) N c) ∧ x.cell? ⟨w.heap.size + 1 + 1, 1, none⟩ = some (.slice pa k pc) ∧ x.cell? ⟨b, off + k * 2, none⟩ = some (.string Y) ∧ x.cell? ⟨b, off + k * 2 + 1, none⟩ = some sv ∧ w.heap.size + 2 < x.heap.size ∧ Below w.heap.size w x) (by decide) up y) rfl (Or.inl ⟨by rfl, ?hy11⟩) Sd.out (fun _ => Sd.out) ?rest11
      case hy11 => intro x hx; (try dsimp only at hx); go_simp; try with_reducible rfl
      refine Hr.Walk.take (i := 12) (v := ?v12) (fun x => x.cell? ⟨w.heap.size, 1, none⟩ = some (.slice (some ⟨b, off, none⟩) N c) ∧ x.cell? ⟨w.heap.size + 1 + 1, 1, none⟩ = some (.slice pa k pc) ∧ x.cell? ⟨b, off + k * 2, none⟩ = some (.string Y) ∧ x.cell? ⟨b, off + k * 2 + 1, none⟩ = some sv ∧ w.heap.size + 2 < x.heap.size ∧ Below w.heap.size w x) (fun up => up.getD 19 false = false) rfl (by kernel_rfl) (by kernel_rfl) (by kernel_rfl) (fun _ _ _ h => h) (Hr.keepI (s := 19) rfl (by kernel_rfl)) (fun _ _ hu hr => hr hu) (fun up y => Hr.keepR (s := 19) (i := 12) (S := fun x => x.cell? ⟨w.heap.size, 1, none⟩ = some (.slice (some ⟨b, off, none⟩) N c) ∧ x.cell? ⟨w.heap.size + 1 + 1, 1, none⟩ = some (.slice pa k pc) ∧ x.cell? ⟨b, off + k * 2, none⟩ = some (.string Y) ∧ x.cell? ⟨b, off + k * 2 + 1, none⟩ = some sv ∧ w.heap.size + 2 < x.heap.size ∧ Below w.heap.size w x) (by decide) up y) rfl (Or.inl ⟨by rfl, ?hy12⟩) Sd.out (fun _ => Sd.out) ?rest12
      case hy12 => intro x hx; (try dsimp only at hx); go_simp; try with_reducible rfl
      refine Hr.Walk.take (i := 13) (v := ?v13) (fun x => x.cell? ⟨w.heap.size, 1, none⟩ = some (.slice (some ⟨b, off, none⟩) N c) ∧ x.cell? ⟨w.heap.size + 1 + 1, 1, none⟩ = some (.slice pa k pc) ∧ x.cell? ⟨b, off + k * 2, none⟩ = some (.string Y) ∧ x.cell? ⟨b, off + k * 2 + 1, none⟩ = some sv ∧ w.heap.size + 2 < x.heap.size ∧ Below w.heap.size w x) (fun up => up.getD 19 false = false) rfl (by kernel_rfl) (by kernel_rfl) (by kernel_rfl) (fun _ _ _ h => h) (Hr.keepI (s := 19) rfl (by kernel_rfl)) (fun _ _ hu hr => hr hu) (fun up y => Hr.keepR (s := 19) (i := 13) (S := fun x => x.cell? ⟨w.heap.size, 1, none⟩ = some (.slice (some ⟨b, off, none⟩) N c) ∧ x.cell? ⟨w.heap.size + 1 + 1, 1, none⟩ = some (.slice pa k pc) ∧ x.cell? ⟨b, off + k * 2, none⟩ = some (.string Y) ∧ x.cell? ⟨b, off + k * 2 + 1, none⟩ = some sv ∧ w.heap.size + 2 < x.heap.size ∧ Below w.heap.size w x) (by decide) up y) rfl (Or.inl ⟨by rfl, ?hy13⟩) Sd.out (fun _ => Sd.out) ?rest13
      case hy13 => intro x hx; (try dsimp only at hx); go_simp; try with_reducible rfl
      refine Hr.Walk.one (i := 14) (by kernel_rfl) rfl (fun K hK => ?_)
      go_simp
      go_wp2_with ((go_at_call 38; (with_reducible refine (twt_to _ p.vs _ HTW.out (by omega)).mono ?_); rintro e w' ⟨u, rfl, hu, hq1⟩; obtain ⟨ua, uc, hux⟩ := hu.txt.slice; subst hux))
      have Sw := Lib.hid (tw_keep hbl Sd.out (show w.heap.size + 3 ≤ wr.drew.heap.size from gk) hq1 hq1.size)
      have gw' : w.heap.size + 3 ≤ w'.heap.size := Nat.le_trans (show w.heap.size + 3 ≤ wr.drew.heap.size from gk) hq1.size
      refine hK.out _ _ (fun _ => Sw.out) ?_
      clear hK K
      refine Hr.Walk.one (i := 15) (by kernel_rfl) rfl (fun K hK => ?_)
      go_simp
      refine hK.out _ _ (fun _ => Sw.out) ?_
      clear hK K
      have Sa := Lib.hid (tw_keep hbl Sw.out gw' ((Below.refl w'.heap.size w').alloc (Nat.le_refl _) (Obj.cells #[.string Y, .slice ua p.vs.length uc] 45)) (by simp))
      refine Hr.Walk.one (i := 16) (by kernel_rfl) rfl (fun K hK => ?_)
      go_simp
      refine hK.out _ _ (fun _ => Sa.out) ?_
      clear hK K
      refine Hr.Walk.one (i := 17) (by kernel_rfl) rfl (fun K hK => ?_)
      refine stepP rfl _ _ rfl (w.heap.size + 3) _ (ps.take k) rfl (HPR.out.below hq1) p Y _ HYE.out (World.ownsRow.mono hu (show w.heap.size + 3 ≤ wr.drew.heap.size from gk)) rfl (by omega) gw' ?_
      intro w5 gg gcap r5 bb s5
      have b5 := bb (w.heap.size + 3) _ (Nat.le_refl _) (Below.refl _ _) gw'
      have S5 := Lib.hid (tw_keep hbl Sw.out (Nat.le_refl _) b5 s5)
      have T' := (HK.out.below (Below.refl _ _).drew).below hq1
      have C1 := cs_lo T'.1 b5 (by omega) s5
      have C2 := cs_lo T'.2.1 b5 (by omega) s5
      have C3 := cs_lo T'.2.2.1 b5 (by omega) s5
      have B5 := bb w.heap.size w (by omega) T'.2.2.2.2 T'.2.2.2.2.size
      have D3 := C3.set 1 (by simp) (.slice (some ⟨gg, 0, none⟩) ((ps.take k).length + 1) gcap)
      simp only [List.set_cons_succ, List.set_cons_zero] at D3
      have TK := Lib.hid (show TwK w nm vl (.slice (some ⟨b, off, none⟩) N c) (.slice (some ⟨gg, 0, none⟩) ((ps.take k).length + 1) gcap) (ps.take (k + 1)) (w5.setCell ⟨w.heap.size + 2, 1, none⟩ (.slice (some ⟨gg, 0, none⟩) ((ps.take k).length + 1) gcap)) from
        ⟨C1.other (by omega) _, C2.other (by omega) _, D3, by rw [HTK.out]; exact r5.set (by omega) 1 _, B5.setCell (p := ⟨w.heap.size + 2, 1, none⟩) (by show w.heap.size ≤ w.heap.size + 2; omega) _⟩)
      clear T' C1 C2 C3 B5 D3
      have yf := (b5.frozen (p := ⟨w.heap.size + 1 + 1, 1, none⟩) (by show w.heap.size + 1 + 1 < _; omega)).trans ((hq1.frozen (p := ⟨w.heap.size + 1 + 1, 1, none⟩) (by show w.heap.size + 1 + 1 < wr.drew.heap.size; exact Nat.lt_of_lt_of_le (Nat.lt_succ_self _) gk)).trans YF.out.1)
      have xf := S5.out.2.1
      refine hK.out _ _ (fun _ => S5.out) ?_
      clear hK K
      refine Hr.Walk.one (i := 18) (by kernel_rfl) rfl (fun K hK => ?_)
      go_simp
      refine hK.out _ _ (fun _ => S5.out) ?_
      clear hK K
      refine Hr.Walk.one (i := 19) (by kernel_rfl) rfl (fun K hK => ?_)
      go_simp
      refine hK.out _ _ (fun h => by cases h) ?_
      clear hK K
      refine Hr.Walk.done (by kernel_rfl) ?_ _
      go_wp2
      go_roundw
      case rel => exact ⟨k + 1, by omega, by go_num, _, by have h := TK.out; rw [hlk] at h; exact h⟩
      case measure => simp [intOf]; omega
    · have hkN : k = N := by omega
      have hall : ps.take k = ps := List.take_of_length_le (by rw [hN.out]; omega)
      have HF := HK.out
      rw [hall] at HF
      obtain ⟨pa, pc, hpv⟩ := HF.2.2.2.1.form
      have a0 := (HF.2.1.2 0 _ rfl).1
      have b0 := (HF.2.1.2 0 _ rfl).2
      have a1 := (HF.2.1.2 1 _ rfl).1
      have b1 := (HF.2.1.2 1 _ rfl).2
      have a2 := (HF.2.1.2 2 _ rfl).1
      have b2 := (HF.2.1.2 2 _ rfl).2
      have d0 := (HF.2.2.1.2 0 _ rfl).1
      have d1 := (HF.2.2.1.2 1 _ rfl).1
      have d2 := (HF.2.2.1.2 2 _ rfl).1
      have g12 : w.heap.size + 1 ≠ w.heap.size + 2 := by omega
      have g21 : w.heap.size + 2 ≠ w.heap.size + 1 := by omega
      have HFF := Lib.hid HF
      rw [hpv] at d1
      have HPV := Lib.hid hpv
      have HBf : Hid (Below w.heap.size w wr) := Lib.hid HFF.out.2.2.2.2
      clear hpv HF
      go_wp2
      refine bodyPost_ret (v := .agg #[.string nm, .slice pa ps.length pc, .string vl]) (by simp (maxDischargeDepth := 9) [results, Try.results13, go_sem, a0, a1, a2]) rfl ⟨_, rfl, ?_, by repeat (first | with_reducible exact HBf.out | with_reducible refine Below.setCell ?_ (by show w.heap.size ≤ w.heap.size + 1; omega) _)⟩
      have h := HFF.out.2.2.2.1
      rw [HPV.out] at h
      exact ParR.low (B := w.heap.size + 3) (by omega) (by repeat (first | with_reducible exact h | with_reducible refine ParR.set ?_ (by omega) _ _))
end Lin
end Go.Proofs.Ytdakpncfophjnaa
