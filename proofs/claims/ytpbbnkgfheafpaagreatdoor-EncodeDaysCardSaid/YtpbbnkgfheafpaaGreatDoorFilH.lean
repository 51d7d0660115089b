/-
  Package filter: isNth.
-/
import Derived.Test.YtpbbnkgfheafpaaGreatDoorBdFc
import Derived.Test.YtpbbnkgfheafpaaGreatDoorBdCl
namespace Go.Proofs.YtpbbnkgfheafpaaGreatDoor
open Go.RowKit
namespace Hr
theorem Walk.two2 {P : Program} {ops : Array Oper} {Q : Exit → Act → World → Prop} {md : Region.Mode} {R : Array Bool → World → Prop} {i k : Nat} {oi ok : Oper} {n : Nat} {up : Array Bool} {a : Act} {w : World} (hr : Region.ready md ops up = [i, k]) (hi : ops[i]? = some oi) (hk : ops[k]? = some ok)
    (h1 : ∀ K' : Act → World → Prop, Shut (∀ a w, R (up.setIfInBounds i true) w → Walk P md ops Q R n (up.setIfInBounds i true) a w → K' a w) → if Region.wanted oi (yielded ops a.tmps) = true then Oper.wp P oi a w K' Q else K' (a.put oi.dst undef) w)
    (h2 : ∀ K' : Act → World → Prop, Shut (∀ a w, R (up.setIfInBounds k true) w → Walk P md ops Q R n (up.setIfInBounds k true) a w → K' a w) → if Region.wanted ok (yielded ops a.tmps) = true then Oper.wp P ok a w K' Q else K' (a.put ok.dst undef) w) : Walk P md ops Q R (n + 1) up a w := by
  refine ⟨fun h0 => (by rw [hr] at h0; cases h0), fun j hj => ?_⟩
  rw [hr] at hj
  rcases List.mem_cons.1 hj with rfl | hj
  · exact wpOp_step hi (fun K' hK => h1 K' (fun a w hS hW => hK a w ⟨hS, hW⟩))
  · obtain rfl := List.mem_singleton.1 hj
    exact wpOp_step hk (fun K' hK => h2 K' (fun a w hS hW => hK a w ⟨hS, hW⟩))
theorem Walk.three {P : Program} {ops : Array Oper} {Q : Exit → Act → World → Prop} {md : Region.Mode} {R : Array Bool → World → Prop} {i k l : Nat} {oi ok ol : Oper} {n : Nat} {up : Array Bool} {a : Act} {w : World} (hr : Region.ready md ops up = [i, k, l]) (hi : ops[i]? = some oi) (hk : ops[k]? = some ok) (hl : ops[l]? = some ol)
    (h1 : ∀ K' : Act → World → Prop, Shut (∀ a w, R (up.setIfInBounds i true) w → Walk P md ops Q R n (up.setIfInBounds i true) a w → K' a w) → if Region.wanted oi (yielded ops a.tmps) = true then Oper.wp P oi a w K' Q else K' (a.put oi.dst undef) w)
    (h2 : ∀ K' : Act → World → Prop, Shut (∀ a w, R (up.setIfInBounds k true) w → Walk P md ops Q R n (up.setIfInBounds k true) a w → K' a w) → if Region.wanted ok (yielded ops a.tmps) = true then Oper.wp P ok a w K' Q else K' (a.put ok.dst undef) w)
    (h3 : ∀ K' : Act → World → Prop, Shut (∀ a w, R (up.setIfInBounds l true) w → Walk P md ops Q R n (up.setIfInBounds l true) a w → K' a w) → if Region.wanted ol (yielded ops a.tmps) = true then Oper.wp P ol a w K' Q else K' (a.put ol.dst undef) w) : Walk P md ops Q R (n + 1) up a w := by
  refine ⟨fun h0 => (by rw [hr] at h0; cases h0), fun j hj => ?_⟩
  rw [hr] at hj
  rcases List.mem_cons.1 hj with rfl | hj
  · exact wpOp_step hi (fun K' hK => h1 K' (fun a w hS hW => hK a w ⟨hS, hW⟩))
  · rcases List.mem_cons.1 hj with rfl | hj
    · exact wpOp_step hk (fun K' hK => h2 K' (fun a w hS hW => hK a w ⟨hS, hW⟩))
    · obtain rfl := List.mem_singleton.1 hj
      exact wpOp_step hl (fun K' hK => h3 K' (fun a w hS hW => hK a w ⟨hS, hW⟩))
end Hr
namespace Fil
open Rcv (CV LisV IntV DayV)
open Rck (ckE ckB Small)
open Civ (numV numE dY dM dD dnE ydV Ahead)
open Wk (noY noN noE wkV wkE nthV nthB)
open Cel
structure NtS (w : World) (Rl Dl Ml : List Value) (x : World) : Prop where
  rb : Cs w.heap.size x Rl
  db : Cs (w.heap.size + 1) x Dl
  mb : Cs (w.heap.size + 2) x Ml
  bw : Below w.heap.size w x
theorem NtS.alloc {w x : World} {Rl Dl Ml : List Value} (h : NtS w Rl Dl Ml x) (o : Obj) : NtS w Rl Dl Ml (x.alloc o) := ⟨h.rb.alloc o, h.db.alloc o, h.mb.alloc o, h.bw.alloc h.bw.size o⟩
theorem NtS.below {w x y : World} {Rl Dl Ml : List Value} (h : NtS w Rl Dl Ml x) (k : Below x.heap.size x y) : NtS w Rl Dl Ml y := ⟨h.rb.below k, h.db.below k, h.mb.below k, bstep h.bw k⟩
theorem NtS.set {w x : World} {Rl Dl Ml : List Value} {b : Nat} (h : NtS w Rl Dl Ml x) (hb : w.heap.size + 2 < b) (i : Nat) (v : Value) : NtS w Rl Dl Ml (x.setCell ⟨b, i, none⟩ v) :=
  ⟨h.rb.other (by omega) v, h.db.other (by omega) v, h.mb.other (by omega) v, h.bw.setCell (show w.heap.size ≤ b by omega) v⟩
theorem yd_v (y v : Int) (o : Bool) (w : World) (hA : Ahead w) (h : yfV y = v) (k : yfO y = o) :
    Calls Tryz.prog 66 #[.int .i64 y] w fun e w' => e = .returned (.agg #[.int .i64 v, .bool o]) ∧ Below w.heap.size w w' := yd_to y v o w hA (Lib.hid h) (Lib.hid k)
set_option maxHeartbeats 12800000 in
set_option maxRecDepth 100000 in
theorem nt_to (x : CV) (s6 s7 s8 s9 s10 s11 s12 s13 s14 : Value) (u v n0 n1 n2 n3 n4 n5 n6 n7 : Int) (b : Bool) (w : World) (hA : Ahead w) (hl : IntV w s13 x.mo) (hn : 0 ≤ n1 ∧ n1 ≤ 10000) (hm : 0 ≤ n2 ∧ n2 ≤ 12) (hY : Hid (dY n0 = n1)) (hM : Hid (dM n0 = n2)) (hb : Hid (nthIs x n0 (u, v) = b)) :
    Calls Tryz.prog 83 #[.agg #[.int .i64 x.fq, .int .i64 x.iv, .int .i64 x.ct, .bool x.un, .int .i64 x.ua, .bool x.ut, s6, s7, s8, s9, s10, s11, s12, s13, s14, .int .i64 x.wk], .agg #[.int .i64 u, .int .i64 v], .agg #[.int .i64 n0, .int .i64 n1, .int .i64 n2, .int .i64 n3, .int .i64 n4, .int .i64 n5, .int .i64 n6, .int .i64 n7]] w fun e w' => e = .returned (.bool b) ∧ Below w.heap.size w w' := by
  obtain ⟨a13, c13, rfl⟩ := hl.slice
  have HA := Lib.hid hA
  clear hl hA
  obtain ⟨m, hm0⟩ : ∃ m, mthB x = m := ⟨_, rfl⟩
  obtain ⟨F, hF⟩ : ∃ F, fromV x n0 = F := ⟨_, rfl⟩
  obtain ⟨G, hG⟩ : ∃ G, behV x n0 = G := ⟨_, rfl⟩
  obtain ⟨per, hp⟩ : ∃ p, 12 * n1 + n2 - 1 = p := ⟨_, rfl⟩
  obtain ⟨V, hV⟩ : ∃ V, nthV F (G - 1) u v = V := ⟨_, rfl⟩
  obtain ⟨c, hc⟩ : ∃ c, nthB F (G - 1) u v = c := ⟨_, rfl⟩
  have HB : Hid (b = (c && (V == n0))) := Lib.hid (by
    rw [← hb.out, nthIs, hF, hG]
    show (nthB F (G - 1) u v && decide (nthV F (G - 1) u v = n0)) = _
    rw [hV, hc]
    rfl)
  have HM := Lib.hid (And.intro (show mthB x = m from hm0) (And.intro (show (if m = true then mfV per else yfV n1) = F by rw [← hF, fromV, hm0, hY.out, hM.out, hp]) (show (if m = true then mfV (per + 1) else yfV (n1 + 1)) = G by rw [← hG, behV, hm0, hY.out, hM.out, hp])))
  have fb : -1000000000 ≤ F ∧ F ≤ 1000000000 := by
    rw [← hF, fromV]
    split
    · exact pl_bd _ _ _
    · exact pl_bd _ _ _
  have gb : -1000000000 ≤ G ∧ G ≤ 1000000000 := by
    rw [← hG, behV]
    split
    · exact pl_bd _ _ _
    · exact pl_bd _ _ _
  have HV := Lib.hid (And.intro hV hc)
  have HPER := Lib.hid hp
  have pb : -1000000 ≤ per ∧ per ≤ 1000000 := by omega
  clear hm0 hF hG hV hc hb hY hM hp
  obtain ⟨n1a, n1b⟩ := hn
  obtain ⟨n2a, n2b⟩ := hm
  obtain ⟨fb1, fb2⟩ := fb
  obtain ⟨gb1, gb2⟩ := gb
  go_enter Tryz.func83, Tryz.ntmps83
  go_upto_region 0 with fail
  go_cut [3, 4, 5] (fun p q r wz => p = .pointer (some ⟨w.heap.size, 0, none⟩) ∧ q = .pointer (some ⟨w.heap.size + 1, 0, none⟩) ∧ r = .pointer (some ⟨w.heap.size + 2, 0, none⟩) ∧ Hid (NtS w [.int .i64 x.fq, .int .i64 x.iv, .int .i64 x.ct, .bool x.un, .int .i64 x.ua, .bool x.ut, s6, s7, s8, s9, s10, s11, s12, .slice a13 x.mo.length c13, s14, .int .i64 x.wk] [.int .i64 u, .int .i64 v] [.int .i64 n0, .int .i64 n1, .int .i64 n2, .int .i64 n3, .int .i64 n4, .int .i64 n5, .int .i64 n6, .int .i64 n7] wz))
  case first =>
    go_wp2
    go_meet
    exact ⟨rfl, rfl, rfl, Lib.hid ⟨((Cs.new w _ _).alloc _).alloc _, (cs_at (by simp) _ _).alloc _, cs_at (by simp) _ _, (((Below.refl _ _).alloc (Nat.le_refl _) _).alloc (by simp) _).alloc (by simp; try omega) _⟩⟩
  case rest =>
  obtain ⟨w1, rfl⟩ : ∃ x : World, x = wc := ⟨_, rfl⟩
  obtain ⟨rfl, rfl, rfl, NS⟩ := hcut
  obtain ⟨q, hq⟩ : ∃ q, n1 + 1 = q := ⟨_, rfl⟩
  obtain ⟨va, hva⟩ : ∃ q, yfV n1 = q := ⟨_, rfl⟩
  obtain ⟨vb, hvb⟩ : ∃ z, yfV q = z := ⟨_, rfl⟩
  obtain ⟨oa, hoa⟩ : ∃ z, yfO n1 = z := ⟨_, rfl⟩
  obtain ⟨ob, hob⟩ : ∃ z, yfO q = z := ⟨_, rfl⟩
  have YA := Lib.hid (And.intro hva hoa)
  have YB := Lib.hid (And.intro hvb hob)
  have YV := Lib.hid (And.intro hva (show yfV (n1 + 1) = vb by rw [hq]; exact hvb))
  clear hva hvb hoa hob
  go_upto_region 1 with fail
  go_cut [7, 8] (fun a b wz => ∃ g7 g8, a = .pointer (some ⟨g7, 0, none⟩) ∧ b = .pointer (some ⟨g8, 0, none⟩) ∧ w.heap.size + 2 < g7 ∧ w.heap.size + 2 < g8 ∧ g7 ≠ g8 ∧ Hid (Cs g7 wz [.int .i64 va, .bool oa]) ∧ Hid (Cs g8 wz [.int .i64 vb, .bool ob]) ∧ Hid (NtS w [.int .i64 x.fq, .int .i64 x.iv, .int .i64 x.ct, .bool x.un, .int .i64 x.ua, .bool x.ut, s6, s7, s8, s9, s10, s11, s12, .slice a13 x.mo.length c13, s14, .int .i64 x.wk] [.int .i64 u, .int .i64 v] [.int .i64 n0, .int .i64 n1, .int .i64 n2, .int .i64 n3, .int .i64 n4, .int .i64 n5, .int .i64 n6, .int .i64 n7] wz))
  case first =>
    have r1 : IntKind.i64.wrap q = q := IntWalk.i64_in _ (by omega)
    have SZ : Hid (NtS w [.int .i64 x.fq, .int .i64 x.iv, .int .i64 x.ct, .bool x.un, .int .i64 x.ua, .bool x.ut, s6, s7, s8, s9, s10, s11, s12, .slice a13 x.mo.length c13, s14, .int .i64 x.wk] [.int .i64 u, .int .i64 v] [.int .i64 n0, .int .i64 n1, .int .i64 n2, .int .i64 n3, .int .i64 n4, .int .i64 n5, .int .i64 n6, .int .i64 n7] w1.drew) := Lib.hid ⟨NS.out.rb.drewN 1, NS.out.db.drewN 1, NS.out.mb.drewN 1, drw NS.out.bw⟩
    refine Hr.Walk.region (R := fun _ X0 => NtS w [.int .i64 x.fq, .int .i64 x.iv, .int .i64 x.ct, .bool x.un, .int .i64 x.ua, .bool x.ut, s6, s7, s8, s9, s10, s11, s12, .slice a13 x.mo.length c13, s14, .int .i64 x.wk] [.int .i64 u, .int .i64 v] [.int .i64 n0, .int .i64 n1, .int .i64 n2, .int .i64 n3, .int .i64 n4, .int .i64 n5, .int .i64 n6, .int .i64 n7] X0) (by kernel_rfl) ?_
    refine Hr.Walk.take (i := 0) (v := ?v0) (fun X0 => NtS w [.int .i64 x.fq, .int .i64 x.iv, .int .i64 x.ct, .bool x.un, .int .i64 x.ua, .bool x.ut, s6, s7, s8, s9, s10, s11, s12, .slice a13 x.mo.length c13, s14, .int .i64 x.wk] [.int .i64 u, .int .i64 v] [.int .i64 n0, .int .i64 n1, .int .i64 n2, .int .i64 n3, .int .i64 n4, .int .i64 n5, .int .i64 n6, .int .i64 n7] X0) (fun _ => True) rfl (by kernel_rfl) (by kernel_rfl) (by kernel_rfl) (fun _ _ _ h => h) (fun _ _ _ _ _ _ => trivial) (fun _ _ _ h => h) (fun _ _ h => h) trivial (Or.inl ⟨by rfl, ?hy0⟩) SZ.out SZ.out ?rest0
    case hy0 => intro X0 hx; have e1 := (hx.mb.2 1 _ rfl).1; clear hx; go_simp; try with_reducible rfl
    (try go_simp)
    refine Hr.Walk.take (i := 1) (v := ?v1) (fun X0 => NtS w [.int .i64 x.fq, .int .i64 x.iv, .int .i64 x.ct, .bool x.un, .int .i64 x.ua, .bool x.ut, s6, s7, s8, s9, s10, s11, s12, .slice a13 x.mo.length c13, s14, .int .i64 x.wk] [.int .i64 u, .int .i64 v] [.int .i64 n0, .int .i64 n1, .int .i64 n2, .int .i64 n3, .int .i64 n4, .int .i64 n5, .int .i64 n6, .int .i64 n7] X0) (fun _ => True) rfl (by kernel_rfl) (by kernel_rfl) (by kernel_rfl) (fun _ _ _ h => h) (fun _ _ _ _ _ _ => trivial) (fun _ _ _ h => h) (fun _ _ h => h) trivial (Or.inl ⟨by rfl, ?hy1⟩) SZ.out SZ.out ?rest1
    case hy1 => intro X0 hx; have e1 := (hx.mb.2 1 _ rfl).1; clear hx; go_simp; try with_reducible rfl
    (try go_simp)
    refine Hr.Walk.take (i := 2) (v := ?v2) (fun X0 => NtS w [.int .i64 x.fq, .int .i64 x.iv, .int .i64 x.ct, .bool x.un, .int .i64 x.ua, .bool x.ut, s6, s7, s8, s9, s10, s11, s12, .slice a13 x.mo.length c13, s14, .int .i64 x.wk] [.int .i64 u, .int .i64 v] [.int .i64 n0, .int .i64 n1, .int .i64 n2, .int .i64 n3, .int .i64 n4, .int .i64 n5, .int .i64 n6, .int .i64 n7] X0) (fun _ => True) rfl (by kernel_rfl) (by kernel_rfl) (by kernel_rfl) (fun _ _ _ h => h) (fun _ _ _ _ _ _ => trivial) (fun _ _ _ h => h) (fun _ _ h => h) trivial (Or.inl ⟨by rfl, ?hy2⟩) SZ.out SZ.out ?rest2
    case hy2 => intro X0 hx; have e1 := (hx.mb.2 1 _ rfl).1; clear hx; go_simp; try with_reducible rfl
    (try go_simp)
    refine Hr.Walk.take (i := 4) (v := ?v4) (fun X0 => NtS w [.int .i64 x.fq, .int .i64 x.iv, .int .i64 x.ct, .bool x.un, .int .i64 x.ua, .bool x.ut, s6, s7, s8, s9, s10, s11, s12, .slice a13 x.mo.length c13, s14, .int .i64 x.wk] [.int .i64 u, .int .i64 v] [.int .i64 n0, .int .i64 n1, .int .i64 n2, .int .i64 n3, .int .i64 n4, .int .i64 n5, .int .i64 n6, .int .i64 n7] X0) (fun _ => True) rfl (by kernel_rfl) (by kernel_rfl) (by kernel_rfl) (fun _ _ _ h => h) (fun _ _ _ _ _ _ => trivial) (fun _ _ _ h => h) (fun _ _ h => h) trivial (Or.inl ⟨by rfl, ?hy4⟩) SZ.out SZ.out ?rest4
    case hy4 => intro X0 hx; have e1 := (hx.mb.2 1 _ rfl).1; clear hx; go_simp; try with_reducible rfl
    (try go_simp)
    refine Hr.Walk.take (i := 5) (v := ?v5) (fun X0 => NtS w [.int .i64 x.fq, .int .i64 x.iv, .int .i64 x.ct, .bool x.un, .int .i64 x.ua, .bool x.ut, s6, s7, s8, s9, s10, s11, s12, .slice a13 x.mo.length c13, s14, .int .i64 x.wk] [.int .i64 u, .int .i64 v] [.int .i64 n0, .int .i64 n1, .int .i64 n2, .int .i64 n3, .int .i64 n4, .int .i64 n5, .int .i64 n6, .int .i64 n7] X0) (fun _ => True) rfl (by kernel_rfl) (by kernel_rfl) (by kernel_rfl) (fun _ _ _ h => h) (fun _ _ _ _ _ _ => trivial) (fun _ _ _ h => h) (fun _ _ h => h) trivial (Or.inl ⟨by rfl, ?hy5⟩) SZ.out SZ.out ?rest5
    case hy5 => intro X0 hx; have e1 := (hx.mb.2 1 _ rfl).1; clear hx; go_simp; try with_reducible rfl
    (try go_simp)
    refine Hr.Walk.take (i := 6) (v := ?v6) (fun X0 => NtS w [.int .i64 x.fq, .int .i64 x.iv, .int .i64 x.ct, .bool x.un, .int .i64 x.ua, .bool x.ut, s6, s7, s8, s9, s10, s11, s12, .slice a13 x.mo.length c13, s14, .int .i64 x.wk] [.int .i64 u, .int .i64 v] [.int .i64 n0, .int .i64 n1, .int .i64 n2, .int .i64 n3, .int .i64 n4, .int .i64 n5, .int .i64 n6, .int .i64 n7] X0) (fun _ => True) rfl (by kernel_rfl) (by kernel_rfl) (by kernel_rfl) (fun _ _ _ h => h) (fun _ _ _ _ _ _ => trivial) (fun _ _ _ h => h) (fun _ _ h => h) trivial (Or.inl ⟨by rfl, ?hy6⟩) SZ.out SZ.out ?rest6
    case hy6 => intro X0 hx; have e1 := (hx.mb.2 1 _ rfl).1; clear hx; go_simp; try with_reducible rfl
    (try go_simp)
    refine Hr.Walk.take (i := 7) (v := ?v7) (fun X0 => NtS w [.int .i64 x.fq, .int .i64 x.iv, .int .i64 x.ct, .bool x.un, .int .i64 x.ua, .bool x.ut, s6, s7, s8, s9, s10, s11, s12, .slice a13 x.mo.length c13, s14, .int .i64 x.wk] [.int .i64 u, .int .i64 v] [.int .i64 n0, .int .i64 n1, .int .i64 n2, .int .i64 n3, .int .i64 n4, .int .i64 n5, .int .i64 n6, .int .i64 n7] X0) (fun _ => True) rfl (by kernel_rfl) (by kernel_rfl) (by kernel_rfl) (fun _ _ _ h => h) (fun _ _ _ _ _ _ => trivial) (fun _ _ _ h => h) (fun _ _ h => h) trivial (Or.inl ⟨by rfl, ?hy7⟩) SZ.out SZ.out ?rest7
    case hy7 => intro X0 hx; have e1 := (hx.mb.2 1 _ rfl).1; clear hx; go_simp; try with_reducible rfl
    (try go_simp)
    obtain ⟨y1, hy1⟩ : ∃ z, w1.drew = z := ⟨_, rfl⟩
    rw [hy1] at SZ ⊢
    clear hy1
    refine Hr.Walk.three (i := 3) (k := 9) (l := 10) (by kernel_rfl) rfl rfl rfl (fun K hK => ?_) (fun K hK => ?_) (fun K hK => ?_)
    · go_simp
      refine (yd_v n1 va oa _ (HA.out.stays SZ.out.bw) YA.out.1 YA.out.2).mono ?_
      rintro e x3 ⟨rfl, k2⟩
      have S1 := Lib.hid (SZ.out.below k2)
      go_simp
      refine hK.out _ _ S1.out ?_
      clear hK K k2
      refine Hr.Walk.three (i := 8) (k := 9) (l := 10) (by kernel_rfl) rfl rfl rfl (fun K hK => ?_) (fun K hK => ?_) (fun K hK => ?_)
      · go_simp
        refine (yd_v q vb ob _ (HA.out.stays S1.out.bw) YB.out.1 YB.out.2).mono ?_
        rintro e x6 ⟨rfl, k5⟩
        have S4 := Lib.hid (S1.out.below k5)
        go_simp
        refine hK.out _ _ S4.out ?_
        clear hK K k5
        refine Hr.Walk.two2 (i := 9) (k := 10) (by kernel_rfl) rfl rfl (fun K hK => ?_) (fun K hK => ?_)
        · go_simp
          have S7 := Lib.hid (S4.out.alloc (Obj.cells #[.int .i64 0, .bool false] 111))
          have Z8 : Hid (Cs x6.heap.size (x6.alloc (Obj.cells #[.int .i64 0, .bool false] 111)) [.int .i64 0, .bool false]) := Lib.hid (cs_at rfl _ _)
          have q9 : Hid (w.heap.size + 2 < x6.heap.size) := Lib.hid S4.out.mb.1
          refine hK.out _ _ S7.out ?_
          clear hK K
          obtain ⟨x10, hx11⟩ : ∃ z, (x6.alloc (Obj.cells #[.int .i64 0, .bool false] 111)) = z := ⟨_, rfl⟩
          rw [hx11] at S7 Z8 ⊢
          clear hx11
          refine Hr.Walk.one (i := 10) (by kernel_rfl) rfl (fun K hK => ?_)
          go_simp
          have S12 := Lib.hid (S7.out.alloc (Obj.cells #[.int .i64 0, .bool false] 111))
          have Z13 : Hid (Cs x10.heap.size (x10.alloc (Obj.cells #[.int .i64 0, .bool false] 111)) [.int .i64 0, .bool false]) := Lib.hid (cs_at rfl _ _)
          have q14 : Hid (w.heap.size + 2 < x10.heap.size) := Lib.hid S7.out.mb.1
          have hn17 : Hid (x6.heap.size < x10.heap.size) := Lib.hid Z8.out.1
          have Z18 := Lib.hid (Z8.out.alloc (Obj.cells #[.int .i64 0, .bool false] 111))
          refine hK.out _ _ S12.out ?_
          clear hK K
          obtain ⟨x15, hx16⟩ : ∃ z, (x10.alloc (Obj.cells #[.int .i64 0, .bool false] 111)) = z := ⟨_, rfl⟩
          rw [hx16] at S12 Z13 Z18 ⊢
          clear hx16
          refine Hr.Walk.one (i := 11) (by kernel_rfl) rfl (fun K hK => ?_)
          have z22 := (Z18.out.2 0 _ rfl).1
          have z23 := (Z18.out.2 0 _ rfl).2
          have z24 := (Z18.out.2 1 _ rfl).1
          have z25 := (Z18.out.2 1 _ rfl).2
          go_simp
          have Z19 := Lib.hid ((Z18.out.set 0 (by simp) (.int .i64 va)).set 1 (by simp) (.bool oa))
          have Z20 := Lib.hid ((Z13.out.other (Nat.ne_of_lt hn17.out) (.int .i64 va) (i := 0)).other (Nat.ne_of_lt hn17.out) (.bool oa) (i := 1))
          have S21 := Lib.hid ((S12.out.set q9.out 0 (.int .i64 va)).set q9.out 1 (.bool oa))
          refine hK.out _ _ S21.out ?_
          clear hK K z22 z23 z24 z25
          refine Hr.Walk.one (i := 12) (by kernel_rfl) rfl (fun K hK => ?_)
          have z29 := (Z20.out.2 0 _ rfl).1
          have z30 := (Z20.out.2 0 _ rfl).2
          have z31 := (Z20.out.2 1 _ rfl).1
          have z32 := (Z20.out.2 1 _ rfl).2
          go_simp
          have Z26 := Lib.hid ((Z20.out.set 0 (by simp) (.int .i64 vb)).set 1 (by simp) (.bool ob))
          have Z27 := Lib.hid ((Z19.out.other (Nat.ne_of_gt hn17.out) (.int .i64 vb) (i := 0)).other (Nat.ne_of_gt hn17.out) (.bool ob) (i := 1))
          have S28 := Lib.hid ((S21.out.set q14.out 0 (.int .i64 vb)).set q14.out 1 (.bool ob))
          refine hK.out _ _ S28.out ?_
          clear hK K z29 z30 z31 z32
          refine Hr.Walk.done (by kernel_rfl) ?_ _
          go_wp2
          go_meet
          exact ⟨_, _, rfl, rfl, q9.out, q14.out, (Nat.ne_of_lt hn17.out), Z27, Z26, S28⟩
        · go_simp
          have S33 := Lib.hid (S4.out.alloc (Obj.cells #[.int .i64 0, .bool false] 111))
          have Z34 : Hid (Cs x6.heap.size (x6.alloc (Obj.cells #[.int .i64 0, .bool false] 111)) [.int .i64 0, .bool false]) := Lib.hid (cs_at rfl _ _)
          have q35 : Hid (w.heap.size + 2 < x6.heap.size) := Lib.hid S4.out.mb.1
          refine hK.out _ _ S33.out ?_
          clear hK K
          obtain ⟨x36, hx37⟩ : ∃ z, (x6.alloc (Obj.cells #[.int .i64 0, .bool false] 111)) = z := ⟨_, rfl⟩
          rw [hx37] at S33 Z34 ⊢
          clear hx37
          refine Hr.Walk.one (i := 9) (by kernel_rfl) rfl (fun K hK => ?_)
          go_simp
          have S38 := Lib.hid (S33.out.alloc (Obj.cells #[.int .i64 0, .bool false] 111))
          have Z39 : Hid (Cs x36.heap.size (x36.alloc (Obj.cells #[.int .i64 0, .bool false] 111)) [.int .i64 0, .bool false]) := Lib.hid (cs_at rfl _ _)
          have q40 : Hid (w.heap.size + 2 < x36.heap.size) := Lib.hid S33.out.mb.1
          have hn43 : Hid (x6.heap.size < x36.heap.size) := Lib.hid Z34.out.1
          have Z44 := Lib.hid (Z34.out.alloc (Obj.cells #[.int .i64 0, .bool false] 111))
          refine hK.out _ _ S38.out ?_
          clear hK K
          obtain ⟨x41, hx42⟩ : ∃ z, (x36.alloc (Obj.cells #[.int .i64 0, .bool false] 111)) = z := ⟨_, rfl⟩
          rw [hx42] at S38 Z39 Z44 ⊢
          clear hx42
          refine Hr.Walk.one (i := 11) (by kernel_rfl) rfl (fun K hK => ?_)
          have z48 := (Z39.out.2 0 _ rfl).1
          have z49 := (Z39.out.2 0 _ rfl).2
          have z50 := (Z39.out.2 1 _ rfl).1
          have z51 := (Z39.out.2 1 _ rfl).2
          go_simp
          have Z45 := Lib.hid ((Z39.out.set 0 (by simp) (.int .i64 va)).set 1 (by simp) (.bool oa))
          have Z46 := Lib.hid ((Z44.out.other (Nat.ne_of_gt hn43.out) (.int .i64 va) (i := 0)).other (Nat.ne_of_gt hn43.out) (.bool oa) (i := 1))
          have S47 := Lib.hid ((S38.out.set q40.out 0 (.int .i64 va)).set q40.out 1 (.bool oa))
          refine hK.out _ _ S47.out ?_
          clear hK K z48 z49 z50 z51
          refine Hr.Walk.one (i := 12) (by kernel_rfl) rfl (fun K hK => ?_)
          have z55 := (Z46.out.2 0 _ rfl).1
          have z56 := (Z46.out.2 0 _ rfl).2
          have z57 := (Z46.out.2 1 _ rfl).1
          have z58 := (Z46.out.2 1 _ rfl).2
          go_simp
          have Z52 := Lib.hid ((Z46.out.set 0 (by simp) (.int .i64 vb)).set 1 (by simp) (.bool ob))
          have Z53 := Lib.hid ((Z45.out.other (Nat.ne_of_lt hn43.out) (.int .i64 vb) (i := 0)).other (Nat.ne_of_lt hn43.out) (.bool ob) (i := 1))
          have S54 := Lib.hid ((S47.out.set q35.out 0 (.int .i64 vb)).set q35.out 1 (.bool ob))
          refine hK.out _ _ S54.out ?_
          clear hK K z55 z56 z57 z58
          refine Hr.Walk.done (by kernel_rfl) ?_ _
          go_wp2
          go_meet
          exact ⟨_, _, rfl, rfl, q40.out, q35.out, (Nat.ne_of_gt hn43.out), Z53, Z52, S54⟩
      · go_simp
        have S59 := Lib.hid (S1.out.alloc (Obj.cells #[.int .i64 0, .bool false] 111))
        have Z60 : Hid (Cs x3.heap.size (x3.alloc (Obj.cells #[.int .i64 0, .bool false] 111)) [.int .i64 0, .bool false]) := Lib.hid (cs_at rfl _ _)
        have q61 : Hid (w.heap.size + 2 < x3.heap.size) := Lib.hid S1.out.mb.1
        refine hK.out _ _ S59.out ?_
        clear hK K
        obtain ⟨x62, hx63⟩ : ∃ z, (x3.alloc (Obj.cells #[.int .i64 0, .bool false] 111)) = z := ⟨_, rfl⟩
        rw [hx63] at S59 Z60 ⊢
        clear hx63
        refine Hr.Walk.two2 (i := 8) (k := 10) (by kernel_rfl) rfl rfl (fun K hK => ?_) (fun K hK => ?_)
        · go_simp
          refine (yd_v q vb ob _ (HA.out.stays S59.out.bw) YB.out.1 YB.out.2).mono ?_
          rintro e x66 ⟨rfl, k65⟩
          have S64 := Lib.hid (S59.out.below k65)
          have Z67 := Lib.hid (Z60.out.below k65)
          go_simp
          refine hK.out _ _ S64.out ?_
          clear hK K k65
          refine Hr.Walk.one (i := 10) (by kernel_rfl) rfl (fun K hK => ?_)
          go_simp
          have S68 := Lib.hid (S64.out.alloc (Obj.cells #[.int .i64 0, .bool false] 111))
          have Z69 : Hid (Cs x66.heap.size (x66.alloc (Obj.cells #[.int .i64 0, .bool false] 111)) [.int .i64 0, .bool false]) := Lib.hid (cs_at rfl _ _)
          have q70 : Hid (w.heap.size + 2 < x66.heap.size) := Lib.hid S64.out.mb.1
          have hn73 : Hid (x3.heap.size < x66.heap.size) := Lib.hid Z67.out.1
          have Z74 := Lib.hid (Z67.out.alloc (Obj.cells #[.int .i64 0, .bool false] 111))
          refine hK.out _ _ S68.out ?_
          clear hK K
          obtain ⟨x71, hx72⟩ : ∃ z, (x66.alloc (Obj.cells #[.int .i64 0, .bool false] 111)) = z := ⟨_, rfl⟩
          rw [hx72] at S68 Z69 Z74 ⊢
          clear hx72
          refine Hr.Walk.one (i := 11) (by kernel_rfl) rfl (fun K hK => ?_)
          have z78 := (Z74.out.2 0 _ rfl).1
          have z79 := (Z74.out.2 0 _ rfl).2
          have z80 := (Z74.out.2 1 _ rfl).1
          have z81 := (Z74.out.2 1 _ rfl).2
          go_simp
          have Z75 := Lib.hid ((Z74.out.set 0 (by simp) (.int .i64 va)).set 1 (by simp) (.bool oa))
          have Z76 := Lib.hid ((Z69.out.other (Nat.ne_of_lt hn73.out) (.int .i64 va) (i := 0)).other (Nat.ne_of_lt hn73.out) (.bool oa) (i := 1))
          have S77 := Lib.hid ((S68.out.set q61.out 0 (.int .i64 va)).set q61.out 1 (.bool oa))
          refine hK.out _ _ S77.out ?_
          clear hK K z78 z79 z80 z81
          refine Hr.Walk.one (i := 12) (by kernel_rfl) rfl (fun K hK => ?_)
          have z85 := (Z76.out.2 0 _ rfl).1
          have z86 := (Z76.out.2 0 _ rfl).2
          have z87 := (Z76.out.2 1 _ rfl).1
          have z88 := (Z76.out.2 1 _ rfl).2
          go_simp
          have Z82 := Lib.hid ((Z76.out.set 0 (by simp) (.int .i64 vb)).set 1 (by simp) (.bool ob))
          have Z83 := Lib.hid ((Z75.out.other (Nat.ne_of_gt hn73.out) (.int .i64 vb) (i := 0)).other (Nat.ne_of_gt hn73.out) (.bool ob) (i := 1))
          have S84 := Lib.hid ((S77.out.set q70.out 0 (.int .i64 vb)).set q70.out 1 (.bool ob))
          refine hK.out _ _ S84.out ?_
          clear hK K z85 z86 z87 z88
          refine Hr.Walk.done (by kernel_rfl) ?_ _
          go_wp2
          go_meet
          exact ⟨_, _, rfl, rfl, q61.out, q70.out, (Nat.ne_of_lt hn73.out), Z83, Z82, S84⟩
        · go_simp
          have S89 := Lib.hid (S59.out.alloc (Obj.cells #[.int .i64 0, .bool false] 111))
          have Z90 : Hid (Cs x62.heap.size (x62.alloc (Obj.cells #[.int .i64 0, .bool false] 111)) [.int .i64 0, .bool false]) := Lib.hid (cs_at rfl _ _)
          have q91 : Hid (w.heap.size + 2 < x62.heap.size) := Lib.hid S59.out.mb.1
          have hn94 : Hid (x3.heap.size < x62.heap.size) := Lib.hid Z60.out.1
          have Z95 := Lib.hid (Z60.out.alloc (Obj.cells #[.int .i64 0, .bool false] 111))
          refine hK.out _ _ S89.out ?_
          clear hK K
          obtain ⟨x92, hx93⟩ : ∃ z, (x62.alloc (Obj.cells #[.int .i64 0, .bool false] 111)) = z := ⟨_, rfl⟩
          rw [hx93] at S89 Z90 Z95 ⊢
          clear hx93
          refine Hr.Walk.one (i := 8) (by kernel_rfl) rfl (fun K hK => ?_)
          go_simp
          refine (yd_v q vb ob _ (HA.out.stays S89.out.bw) YB.out.1 YB.out.2).mono ?_
          rintro e x98 ⟨rfl, k97⟩
          have S96 := Lib.hid (S89.out.below k97)
          have Z99 := Lib.hid (Z95.out.below k97)
          have Z100 := Lib.hid (Z90.out.below k97)
          go_simp
          refine hK.out _ _ S96.out ?_
          clear hK K k97
          refine Hr.Walk.one (i := 11) (by kernel_rfl) rfl (fun K hK => ?_)
          have z104 := (Z99.out.2 0 _ rfl).1
          have z105 := (Z99.out.2 0 _ rfl).2
          have z106 := (Z99.out.2 1 _ rfl).1
          have z107 := (Z99.out.2 1 _ rfl).2
          go_simp
          have Z101 := Lib.hid ((Z99.out.set 0 (by simp) (.int .i64 va)).set 1 (by simp) (.bool oa))
          have Z102 := Lib.hid ((Z100.out.other (Nat.ne_of_lt hn94.out) (.int .i64 va) (i := 0)).other (Nat.ne_of_lt hn94.out) (.bool oa) (i := 1))
          have S103 := Lib.hid ((S96.out.set q61.out 0 (.int .i64 va)).set q61.out 1 (.bool oa))
          refine hK.out _ _ S103.out ?_
          clear hK K z104 z105 z106 z107
          refine Hr.Walk.one (i := 12) (by kernel_rfl) rfl (fun K hK => ?_)
          have z111 := (Z102.out.2 0 _ rfl).1
          have z112 := (Z102.out.2 0 _ rfl).2
          have z113 := (Z102.out.2 1 _ rfl).1
          have z114 := (Z102.out.2 1 _ rfl).2
          go_simp
          have Z108 := Lib.hid ((Z102.out.set 0 (by simp) (.int .i64 vb)).set 1 (by simp) (.bool ob))
          have Z109 := Lib.hid ((Z101.out.other (Nat.ne_of_gt hn94.out) (.int .i64 vb) (i := 0)).other (Nat.ne_of_gt hn94.out) (.bool ob) (i := 1))
          have S110 := Lib.hid ((S103.out.set q91.out 0 (.int .i64 vb)).set q91.out 1 (.bool ob))
          refine hK.out _ _ S110.out ?_
          clear hK K z111 z112 z113 z114
          refine Hr.Walk.done (by kernel_rfl) ?_ _
          go_wp2
          go_meet
          exact ⟨_, _, rfl, rfl, q61.out, q91.out, (Nat.ne_of_lt hn94.out), Z109, Z108, S110⟩
      · go_simp
        have S115 := Lib.hid (S1.out.alloc (Obj.cells #[.int .i64 0, .bool false] 111))
        have Z116 : Hid (Cs x3.heap.size (x3.alloc (Obj.cells #[.int .i64 0, .bool false] 111)) [.int .i64 0, .bool false]) := Lib.hid (cs_at rfl _ _)
        have q117 : Hid (w.heap.size + 2 < x3.heap.size) := Lib.hid S1.out.mb.1
        refine hK.out _ _ S115.out ?_
        clear hK K
        obtain ⟨x118, hx119⟩ : ∃ z, (x3.alloc (Obj.cells #[.int .i64 0, .bool false] 111)) = z := ⟨_, rfl⟩
        rw [hx119] at S115 Z116 ⊢
        clear hx119
        refine Hr.Walk.two2 (i := 8) (k := 9) (by kernel_rfl) rfl rfl (fun K hK => ?_) (fun K hK => ?_)
        · go_simp
          refine (yd_v q vb ob _ (HA.out.stays S115.out.bw) YB.out.1 YB.out.2).mono ?_
          rintro e x122 ⟨rfl, k121⟩
          have S120 := Lib.hid (S115.out.below k121)
          have Z123 := Lib.hid (Z116.out.below k121)
          go_simp
          refine hK.out _ _ S120.out ?_
          clear hK K k121
          refine Hr.Walk.one (i := 9) (by kernel_rfl) rfl (fun K hK => ?_)
          go_simp
          have S124 := Lib.hid (S120.out.alloc (Obj.cells #[.int .i64 0, .bool false] 111))
          have Z125 : Hid (Cs x122.heap.size (x122.alloc (Obj.cells #[.int .i64 0, .bool false] 111)) [.int .i64 0, .bool false]) := Lib.hid (cs_at rfl _ _)
          have q126 : Hid (w.heap.size + 2 < x122.heap.size) := Lib.hid S120.out.mb.1
          have hn129 : Hid (x3.heap.size < x122.heap.size) := Lib.hid Z123.out.1
          have Z130 := Lib.hid (Z123.out.alloc (Obj.cells #[.int .i64 0, .bool false] 111))
          refine hK.out _ _ S124.out ?_
          clear hK K
          obtain ⟨x127, hx128⟩ : ∃ z, (x122.alloc (Obj.cells #[.int .i64 0, .bool false] 111)) = z := ⟨_, rfl⟩
          rw [hx128] at S124 Z125 Z130 ⊢
          clear hx128
          refine Hr.Walk.one (i := 11) (by kernel_rfl) rfl (fun K hK => ?_)
          have z134 := (Z125.out.2 0 _ rfl).1
          have z135 := (Z125.out.2 0 _ rfl).2
          have z136 := (Z125.out.2 1 _ rfl).1
          have z137 := (Z125.out.2 1 _ rfl).2
          go_simp
          have Z131 := Lib.hid ((Z125.out.set 0 (by simp) (.int .i64 va)).set 1 (by simp) (.bool oa))
          have Z132 := Lib.hid ((Z130.out.other (Nat.ne_of_gt hn129.out) (.int .i64 va) (i := 0)).other (Nat.ne_of_gt hn129.out) (.bool oa) (i := 1))
          have S133 := Lib.hid ((S124.out.set q126.out 0 (.int .i64 va)).set q126.out 1 (.bool oa))
          refine hK.out _ _ S133.out ?_
          clear hK K z134 z135 z136 z137
          refine Hr.Walk.one (i := 12) (by kernel_rfl) rfl (fun K hK => ?_)
          have z141 := (Z132.out.2 0 _ rfl).1
          have z142 := (Z132.out.2 0 _ rfl).2
          have z143 := (Z132.out.2 1 _ rfl).1
          have z144 := (Z132.out.2 1 _ rfl).2
          go_simp
          have Z138 := Lib.hid ((Z132.out.set 0 (by simp) (.int .i64 vb)).set 1 (by simp) (.bool ob))
          have Z139 := Lib.hid ((Z131.out.other (Nat.ne_of_lt hn129.out) (.int .i64 vb) (i := 0)).other (Nat.ne_of_lt hn129.out) (.bool ob) (i := 1))
          have S140 := Lib.hid ((S133.out.set q117.out 0 (.int .i64 vb)).set q117.out 1 (.bool ob))
          refine hK.out _ _ S140.out ?_
          clear hK K z141 z142 z143 z144
          refine Hr.Walk.done (by kernel_rfl) ?_ _
          go_wp2
          go_meet
          exact ⟨_, _, rfl, rfl, q126.out, q117.out, (Nat.ne_of_gt hn129.out), Z139, Z138, S140⟩
        · go_simp
          have S145 := Lib.hid (S115.out.alloc (Obj.cells #[.int .i64 0, .bool false] 111))
          have Z146 : Hid (Cs x118.heap.size (x118.alloc (Obj.cells #[.int .i64 0, .bool false] 111)) [.int .i64 0, .bool false]) := Lib.hid (cs_at rfl _ _)
          have q147 : Hid (w.heap.size + 2 < x118.heap.size) := Lib.hid S115.out.mb.1
          have hn150 : Hid (x3.heap.size < x118.heap.size) := Lib.hid Z116.out.1
          have Z151 := Lib.hid (Z116.out.alloc (Obj.cells #[.int .i64 0, .bool false] 111))
          refine hK.out _ _ S145.out ?_
          clear hK K
          obtain ⟨x148, hx149⟩ : ∃ z, (x118.alloc (Obj.cells #[.int .i64 0, .bool false] 111)) = z := ⟨_, rfl⟩
          rw [hx149] at S145 Z146 Z151 ⊢
          clear hx149
          refine Hr.Walk.one (i := 8) (by kernel_rfl) rfl (fun K hK => ?_)
          go_simp
          refine (yd_v q vb ob _ (HA.out.stays S145.out.bw) YB.out.1 YB.out.2).mono ?_
          rintro e x154 ⟨rfl, k153⟩
          have S152 := Lib.hid (S145.out.below k153)
          have Z155 := Lib.hid (Z146.out.below k153)
          have Z156 := Lib.hid (Z151.out.below k153)
          go_simp
          refine hK.out _ _ S152.out ?_
          clear hK K k153
          refine Hr.Walk.one (i := 11) (by kernel_rfl) rfl (fun K hK => ?_)
          have z160 := (Z155.out.2 0 _ rfl).1
          have z161 := (Z155.out.2 0 _ rfl).2
          have z162 := (Z155.out.2 1 _ rfl).1
          have z163 := (Z155.out.2 1 _ rfl).2
          go_simp
          have Z157 := Lib.hid ((Z155.out.set 0 (by simp) (.int .i64 va)).set 1 (by simp) (.bool oa))
          have Z158 := Lib.hid ((Z156.out.other (Nat.ne_of_gt hn150.out) (.int .i64 va) (i := 0)).other (Nat.ne_of_gt hn150.out) (.bool oa) (i := 1))
          have S159 := Lib.hid ((S152.out.set q147.out 0 (.int .i64 va)).set q147.out 1 (.bool oa))
          refine hK.out _ _ S159.out ?_
          clear hK K z160 z161 z162 z163
          refine Hr.Walk.one (i := 12) (by kernel_rfl) rfl (fun K hK => ?_)
          have z167 := (Z158.out.2 0 _ rfl).1
          have z168 := (Z158.out.2 0 _ rfl).2
          have z169 := (Z158.out.2 1 _ rfl).1
          have z170 := (Z158.out.2 1 _ rfl).2
          go_simp
          have Z164 := Lib.hid ((Z158.out.set 0 (by simp) (.int .i64 vb)).set 1 (by simp) (.bool ob))
          have Z165 := Lib.hid ((Z157.out.other (Nat.ne_of_lt hn150.out) (.int .i64 vb) (i := 0)).other (Nat.ne_of_lt hn150.out) (.bool ob) (i := 1))
          have S166 := Lib.hid ((S159.out.set q117.out 0 (.int .i64 vb)).set q117.out 1 (.bool ob))
          refine hK.out _ _ S166.out ?_
          clear hK K z167 z168 z169 z170
          refine Hr.Walk.done (by kernel_rfl) ?_ _
          go_wp2
          go_meet
          exact ⟨_, _, rfl, rfl, q147.out, q117.out, (Nat.ne_of_gt hn150.out), Z165, Z164, S166⟩
    · go_simp
      have S171 := Lib.hid (SZ.out.alloc (Obj.cells #[.int .i64 0, .bool false] 111))
      have Z172 : Hid (Cs y1.heap.size (y1.alloc (Obj.cells #[.int .i64 0, .bool false] 111)) [.int .i64 0, .bool false]) := Lib.hid (cs_at rfl _ _)
      have q173 : Hid (w.heap.size + 2 < y1.heap.size) := Lib.hid SZ.out.mb.1
      refine hK.out _ _ S171.out ?_
      clear hK K
      obtain ⟨x174, hx175⟩ : ∃ z, (y1.alloc (Obj.cells #[.int .i64 0, .bool false] 111)) = z := ⟨_, rfl⟩
      rw [hx175] at S171 Z172 ⊢
      clear hx175
      refine Hr.Walk.two2 (i := 3) (k := 10) (by kernel_rfl) rfl rfl (fun K hK => ?_) (fun K hK => ?_)
      · go_simp
        refine (yd_v n1 va oa _ (HA.out.stays S171.out.bw) YA.out.1 YA.out.2).mono ?_
        rintro e x178 ⟨rfl, k177⟩
        have S176 := Lib.hid (S171.out.below k177)
        have Z179 := Lib.hid (Z172.out.below k177)
        go_simp
        refine hK.out _ _ S176.out ?_
        clear hK K k177
        refine Hr.Walk.two2 (i := 8) (k := 10) (by kernel_rfl) rfl rfl (fun K hK => ?_) (fun K hK => ?_)
        · go_simp
          refine (yd_v q vb ob _ (HA.out.stays S176.out.bw) YB.out.1 YB.out.2).mono ?_
          rintro e x182 ⟨rfl, k181⟩
          have S180 := Lib.hid (S176.out.below k181)
          have Z183 := Lib.hid (Z179.out.below k181)
          go_simp
          refine hK.out _ _ S180.out ?_
          clear hK K k181
          refine Hr.Walk.one (i := 10) (by kernel_rfl) rfl (fun K hK => ?_)
          go_simp
          have S184 := Lib.hid (S180.out.alloc (Obj.cells #[.int .i64 0, .bool false] 111))
          have Z185 : Hid (Cs x182.heap.size (x182.alloc (Obj.cells #[.int .i64 0, .bool false] 111)) [.int .i64 0, .bool false]) := Lib.hid (cs_at rfl _ _)
          have q186 : Hid (w.heap.size + 2 < x182.heap.size) := Lib.hid S180.out.mb.1
          have hn189 : Hid (y1.heap.size < x182.heap.size) := Lib.hid Z183.out.1
          have Z190 := Lib.hid (Z183.out.alloc (Obj.cells #[.int .i64 0, .bool false] 111))
          refine hK.out _ _ S184.out ?_
          clear hK K
          obtain ⟨x187, hx188⟩ : ∃ z, (x182.alloc (Obj.cells #[.int .i64 0, .bool false] 111)) = z := ⟨_, rfl⟩
          rw [hx188] at S184 Z185 Z190 ⊢
          clear hx188
          refine Hr.Walk.one (i := 11) (by kernel_rfl) rfl (fun K hK => ?_)
          have z194 := (Z190.out.2 0 _ rfl).1
          have z195 := (Z190.out.2 0 _ rfl).2
          have z196 := (Z190.out.2 1 _ rfl).1
          have z197 := (Z190.out.2 1 _ rfl).2
          go_simp
          have Z191 := Lib.hid ((Z190.out.set 0 (by simp) (.int .i64 va)).set 1 (by simp) (.bool oa))
          have Z192 := Lib.hid ((Z185.out.other (Nat.ne_of_lt hn189.out) (.int .i64 va) (i := 0)).other (Nat.ne_of_lt hn189.out) (.bool oa) (i := 1))
          have S193 := Lib.hid ((S184.out.set q173.out 0 (.int .i64 va)).set q173.out 1 (.bool oa))
          refine hK.out _ _ S193.out ?_
          clear hK K z194 z195 z196 z197
          refine Hr.Walk.one (i := 12) (by kernel_rfl) rfl (fun K hK => ?_)
          have z201 := (Z192.out.2 0 _ rfl).1
          have z202 := (Z192.out.2 0 _ rfl).2
          have z203 := (Z192.out.2 1 _ rfl).1
          have z204 := (Z192.out.2 1 _ rfl).2
          go_simp
          have Z198 := Lib.hid ((Z192.out.set 0 (by simp) (.int .i64 vb)).set 1 (by simp) (.bool ob))
          have Z199 := Lib.hid ((Z191.out.other (Nat.ne_of_gt hn189.out) (.int .i64 vb) (i := 0)).other (Nat.ne_of_gt hn189.out) (.bool ob) (i := 1))
          have S200 := Lib.hid ((S193.out.set q186.out 0 (.int .i64 vb)).set q186.out 1 (.bool ob))
          refine hK.out _ _ S200.out ?_
          clear hK K z201 z202 z203 z204
          refine Hr.Walk.done (by kernel_rfl) ?_ _
          go_wp2
          go_meet
          exact ⟨_, _, rfl, rfl, q173.out, q186.out, (Nat.ne_of_lt hn189.out), Z199, Z198, S200⟩
        · go_simp
          have S205 := Lib.hid (S176.out.alloc (Obj.cells #[.int .i64 0, .bool false] 111))
          have Z206 : Hid (Cs x178.heap.size (x178.alloc (Obj.cells #[.int .i64 0, .bool false] 111)) [.int .i64 0, .bool false]) := Lib.hid (cs_at rfl _ _)
          have q207 : Hid (w.heap.size + 2 < x178.heap.size) := Lib.hid S176.out.mb.1
          have hn210 : Hid (y1.heap.size < x178.heap.size) := Lib.hid Z179.out.1
          have Z211 := Lib.hid (Z179.out.alloc (Obj.cells #[.int .i64 0, .bool false] 111))
          refine hK.out _ _ S205.out ?_
          clear hK K
          obtain ⟨x208, hx209⟩ : ∃ z, (x178.alloc (Obj.cells #[.int .i64 0, .bool false] 111)) = z := ⟨_, rfl⟩
          rw [hx209] at S205 Z206 Z211 ⊢
          clear hx209
          refine Hr.Walk.one (i := 8) (by kernel_rfl) rfl (fun K hK => ?_)
          go_simp
          refine (yd_v q vb ob _ (HA.out.stays S205.out.bw) YB.out.1 YB.out.2).mono ?_
          rintro e x214 ⟨rfl, k213⟩
          have S212 := Lib.hid (S205.out.below k213)
          have Z215 := Lib.hid (Z211.out.below k213)
          have Z216 := Lib.hid (Z206.out.below k213)
          go_simp
          refine hK.out _ _ S212.out ?_
          clear hK K k213
          refine Hr.Walk.one (i := 11) (by kernel_rfl) rfl (fun K hK => ?_)
          have z220 := (Z215.out.2 0 _ rfl).1
          have z221 := (Z215.out.2 0 _ rfl).2
          have z222 := (Z215.out.2 1 _ rfl).1
          have z223 := (Z215.out.2 1 _ rfl).2
          go_simp
          have Z217 := Lib.hid ((Z215.out.set 0 (by simp) (.int .i64 va)).set 1 (by simp) (.bool oa))
          have Z218 := Lib.hid ((Z216.out.other (Nat.ne_of_lt hn210.out) (.int .i64 va) (i := 0)).other (Nat.ne_of_lt hn210.out) (.bool oa) (i := 1))
          have S219 := Lib.hid ((S212.out.set q173.out 0 (.int .i64 va)).set q173.out 1 (.bool oa))
          refine hK.out _ _ S219.out ?_
          clear hK K z220 z221 z222 z223
          refine Hr.Walk.one (i := 12) (by kernel_rfl) rfl (fun K hK => ?_)
          have z227 := (Z218.out.2 0 _ rfl).1
          have z228 := (Z218.out.2 0 _ rfl).2
          have z229 := (Z218.out.2 1 _ rfl).1
          have z230 := (Z218.out.2 1 _ rfl).2
          go_simp
          have Z224 := Lib.hid ((Z218.out.set 0 (by simp) (.int .i64 vb)).set 1 (by simp) (.bool ob))
          have Z225 := Lib.hid ((Z217.out.other (Nat.ne_of_gt hn210.out) (.int .i64 vb) (i := 0)).other (Nat.ne_of_gt hn210.out) (.bool ob) (i := 1))
          have S226 := Lib.hid ((S219.out.set q207.out 0 (.int .i64 vb)).set q207.out 1 (.bool ob))
          refine hK.out _ _ S226.out ?_
          clear hK K z227 z228 z229 z230
          refine Hr.Walk.done (by kernel_rfl) ?_ _
          go_wp2
          go_meet
          exact ⟨_, _, rfl, rfl, q173.out, q207.out, (Nat.ne_of_lt hn210.out), Z225, Z224, S226⟩
      · go_simp
        have S231 := Lib.hid (S171.out.alloc (Obj.cells #[.int .i64 0, .bool false] 111))
        have Z232 : Hid (Cs x174.heap.size (x174.alloc (Obj.cells #[.int .i64 0, .bool false] 111)) [.int .i64 0, .bool false]) := Lib.hid (cs_at rfl _ _)
        have q233 : Hid (w.heap.size + 2 < x174.heap.size) := Lib.hid S171.out.mb.1
        have hn236 : Hid (y1.heap.size < x174.heap.size) := Lib.hid Z172.out.1
        have Z237 := Lib.hid (Z172.out.alloc (Obj.cells #[.int .i64 0, .bool false] 111))
        refine hK.out _ _ S231.out ?_
        clear hK K
        obtain ⟨x234, hx235⟩ : ∃ z, (x174.alloc (Obj.cells #[.int .i64 0, .bool false] 111)) = z := ⟨_, rfl⟩
        rw [hx235] at S231 Z232 Z237 ⊢
        clear hx235
        refine Hr.Walk.one (i := 3) (by kernel_rfl) rfl (fun K hK => ?_)
        go_simp
        refine (yd_v n1 va oa _ (HA.out.stays S231.out.bw) YA.out.1 YA.out.2).mono ?_
        rintro e x240 ⟨rfl, k239⟩
        have S238 := Lib.hid (S231.out.below k239)
        have Z241 := Lib.hid (Z237.out.below k239)
        have Z242 := Lib.hid (Z232.out.below k239)
        go_simp
        refine hK.out _ _ S238.out ?_
        clear hK K k239
        refine Hr.Walk.one (i := 8) (by kernel_rfl) rfl (fun K hK => ?_)
        go_simp
        refine (yd_v q vb ob _ (HA.out.stays S238.out.bw) YB.out.1 YB.out.2).mono ?_
        rintro e x245 ⟨rfl, k244⟩
        have S243 := Lib.hid (S238.out.below k244)
        have Z246 := Lib.hid (Z241.out.below k244)
        have Z247 := Lib.hid (Z242.out.below k244)
        go_simp
        refine hK.out _ _ S243.out ?_
        clear hK K k244
        refine Hr.Walk.one (i := 11) (by kernel_rfl) rfl (fun K hK => ?_)
        have z251 := (Z246.out.2 0 _ rfl).1
        have z252 := (Z246.out.2 0 _ rfl).2
        have z253 := (Z246.out.2 1 _ rfl).1
        have z254 := (Z246.out.2 1 _ rfl).2
        go_simp
        have Z248 := Lib.hid ((Z246.out.set 0 (by simp) (.int .i64 va)).set 1 (by simp) (.bool oa))
        have Z249 := Lib.hid ((Z247.out.other (Nat.ne_of_lt hn236.out) (.int .i64 va) (i := 0)).other (Nat.ne_of_lt hn236.out) (.bool oa) (i := 1))
        have S250 := Lib.hid ((S243.out.set q173.out 0 (.int .i64 va)).set q173.out 1 (.bool oa))
        refine hK.out _ _ S250.out ?_
        clear hK K z251 z252 z253 z254
        refine Hr.Walk.one (i := 12) (by kernel_rfl) rfl (fun K hK => ?_)
        have z258 := (Z249.out.2 0 _ rfl).1
        have z259 := (Z249.out.2 0 _ rfl).2
        have z260 := (Z249.out.2 1 _ rfl).1
        have z261 := (Z249.out.2 1 _ rfl).2
        go_simp
        have Z255 := Lib.hid ((Z249.out.set 0 (by simp) (.int .i64 vb)).set 1 (by simp) (.bool ob))
        have Z256 := Lib.hid ((Z248.out.other (Nat.ne_of_gt hn236.out) (.int .i64 vb) (i := 0)).other (Nat.ne_of_gt hn236.out) (.bool ob) (i := 1))
        have S257 := Lib.hid ((S250.out.set q233.out 0 (.int .i64 vb)).set q233.out 1 (.bool ob))
        refine hK.out _ _ S257.out ?_
        clear hK K z258 z259 z260 z261
        refine Hr.Walk.done (by kernel_rfl) ?_ _
        go_wp2
        go_meet
        exact ⟨_, _, rfl, rfl, q173.out, q233.out, (Nat.ne_of_lt hn236.out), Z256, Z255, S257⟩
    · go_simp
      have S262 := Lib.hid (SZ.out.alloc (Obj.cells #[.int .i64 0, .bool false] 111))
      have Z263 : Hid (Cs y1.heap.size (y1.alloc (Obj.cells #[.int .i64 0, .bool false] 111)) [.int .i64 0, .bool false]) := Lib.hid (cs_at rfl _ _)
      have q264 : Hid (w.heap.size + 2 < y1.heap.size) := Lib.hid SZ.out.mb.1
      refine hK.out _ _ S262.out ?_
      clear hK K
      obtain ⟨x265, hx266⟩ : ∃ z, (y1.alloc (Obj.cells #[.int .i64 0, .bool false] 111)) = z := ⟨_, rfl⟩
      rw [hx266] at S262 Z263 ⊢
      clear hx266
      refine Hr.Walk.two2 (i := 3) (k := 9) (by kernel_rfl) rfl rfl (fun K hK => ?_) (fun K hK => ?_)
      · go_simp
        refine (yd_v n1 va oa _ (HA.out.stays S262.out.bw) YA.out.1 YA.out.2).mono ?_
        rintro e x269 ⟨rfl, k268⟩
        have S267 := Lib.hid (S262.out.below k268)
        have Z270 := Lib.hid (Z263.out.below k268)
        go_simp
        refine hK.out _ _ S267.out ?_
        clear hK K k268
        refine Hr.Walk.two2 (i := 8) (k := 9) (by kernel_rfl) rfl rfl (fun K hK => ?_) (fun K hK => ?_)
        · go_simp
          refine (yd_v q vb ob _ (HA.out.stays S267.out.bw) YB.out.1 YB.out.2).mono ?_
          rintro e x273 ⟨rfl, k272⟩
          have S271 := Lib.hid (S267.out.below k272)
          have Z274 := Lib.hid (Z270.out.below k272)
          go_simp
          refine hK.out _ _ S271.out ?_
          clear hK K k272
          refine Hr.Walk.one (i := 9) (by kernel_rfl) rfl (fun K hK => ?_)
          go_simp
          have S275 := Lib.hid (S271.out.alloc (Obj.cells #[.int .i64 0, .bool false] 111))
          have Z276 : Hid (Cs x273.heap.size (x273.alloc (Obj.cells #[.int .i64 0, .bool false] 111)) [.int .i64 0, .bool false]) := Lib.hid (cs_at rfl _ _)
          have q277 : Hid (w.heap.size + 2 < x273.heap.size) := Lib.hid S271.out.mb.1
          have hn280 : Hid (y1.heap.size < x273.heap.size) := Lib.hid Z274.out.1
          have Z281 := Lib.hid (Z274.out.alloc (Obj.cells #[.int .i64 0, .bool false] 111))
          refine hK.out _ _ S275.out ?_
          clear hK K
          obtain ⟨x278, hx279⟩ : ∃ z, (x273.alloc (Obj.cells #[.int .i64 0, .bool false] 111)) = z := ⟨_, rfl⟩
          rw [hx279] at S275 Z276 Z281 ⊢
          clear hx279
          refine Hr.Walk.one (i := 11) (by kernel_rfl) rfl (fun K hK => ?_)
          have z285 := (Z276.out.2 0 _ rfl).1
          have z286 := (Z276.out.2 0 _ rfl).2
          have z287 := (Z276.out.2 1 _ rfl).1
          have z288 := (Z276.out.2 1 _ rfl).2
          go_simp
          have Z282 := Lib.hid ((Z276.out.set 0 (by simp) (.int .i64 va)).set 1 (by simp) (.bool oa))
          have Z283 := Lib.hid ((Z281.out.other (Nat.ne_of_gt hn280.out) (.int .i64 va) (i := 0)).other (Nat.ne_of_gt hn280.out) (.bool oa) (i := 1))
          have S284 := Lib.hid ((S275.out.set q277.out 0 (.int .i64 va)).set q277.out 1 (.bool oa))
          refine hK.out _ _ S284.out ?_
          clear hK K z285 z286 z287 z288
          refine Hr.Walk.one (i := 12) (by kernel_rfl) rfl (fun K hK => ?_)
          have z292 := (Z283.out.2 0 _ rfl).1
          have z293 := (Z283.out.2 0 _ rfl).2
          have z294 := (Z283.out.2 1 _ rfl).1
          have z295 := (Z283.out.2 1 _ rfl).2
          go_simp
          have Z289 := Lib.hid ((Z283.out.set 0 (by simp) (.int .i64 vb)).set 1 (by simp) (.bool ob))
          have Z290 := Lib.hid ((Z282.out.other (Nat.ne_of_lt hn280.out) (.int .i64 vb) (i := 0)).other (Nat.ne_of_lt hn280.out) (.bool ob) (i := 1))
          have S291 := Lib.hid ((S284.out.set q264.out 0 (.int .i64 vb)).set q264.out 1 (.bool ob))
          refine hK.out _ _ S291.out ?_
          clear hK K z292 z293 z294 z295
          refine Hr.Walk.done (by kernel_rfl) ?_ _
          go_wp2
          go_meet
          exact ⟨_, _, rfl, rfl, q277.out, q264.out, (Nat.ne_of_gt hn280.out), Z290, Z289, S291⟩
        · go_simp
          have S296 := Lib.hid (S267.out.alloc (Obj.cells #[.int .i64 0, .bool false] 111))
          have Z297 : Hid (Cs x269.heap.size (x269.alloc (Obj.cells #[.int .i64 0, .bool false] 111)) [.int .i64 0, .bool false]) := Lib.hid (cs_at rfl _ _)
          have q298 : Hid (w.heap.size + 2 < x269.heap.size) := Lib.hid S267.out.mb.1
          have hn301 : Hid (y1.heap.size < x269.heap.size) := Lib.hid Z270.out.1
          have Z302 := Lib.hid (Z270.out.alloc (Obj.cells #[.int .i64 0, .bool false] 111))
          refine hK.out _ _ S296.out ?_
          clear hK K
          obtain ⟨x299, hx300⟩ : ∃ z, (x269.alloc (Obj.cells #[.int .i64 0, .bool false] 111)) = z := ⟨_, rfl⟩
          rw [hx300] at S296 Z297 Z302 ⊢
          clear hx300
          refine Hr.Walk.one (i := 8) (by kernel_rfl) rfl (fun K hK => ?_)
          go_simp
          refine (yd_v q vb ob _ (HA.out.stays S296.out.bw) YB.out.1 YB.out.2).mono ?_
          rintro e x305 ⟨rfl, k304⟩
          have S303 := Lib.hid (S296.out.below k304)
          have Z306 := Lib.hid (Z297.out.below k304)
          have Z307 := Lib.hid (Z302.out.below k304)
          go_simp
          refine hK.out _ _ S303.out ?_
          clear hK K k304
          refine Hr.Walk.one (i := 11) (by kernel_rfl) rfl (fun K hK => ?_)
          have z311 := (Z306.out.2 0 _ rfl).1
          have z312 := (Z306.out.2 0 _ rfl).2
          have z313 := (Z306.out.2 1 _ rfl).1
          have z314 := (Z306.out.2 1 _ rfl).2
          go_simp
          have Z308 := Lib.hid ((Z306.out.set 0 (by simp) (.int .i64 va)).set 1 (by simp) (.bool oa))
          have Z309 := Lib.hid ((Z307.out.other (Nat.ne_of_gt hn301.out) (.int .i64 va) (i := 0)).other (Nat.ne_of_gt hn301.out) (.bool oa) (i := 1))
          have S310 := Lib.hid ((S303.out.set q298.out 0 (.int .i64 va)).set q298.out 1 (.bool oa))
          refine hK.out _ _ S310.out ?_
          clear hK K z311 z312 z313 z314
          refine Hr.Walk.one (i := 12) (by kernel_rfl) rfl (fun K hK => ?_)
          have z318 := (Z309.out.2 0 _ rfl).1
          have z319 := (Z309.out.2 0 _ rfl).2
          have z320 := (Z309.out.2 1 _ rfl).1
          have z321 := (Z309.out.2 1 _ rfl).2
          go_simp
          have Z315 := Lib.hid ((Z309.out.set 0 (by simp) (.int .i64 vb)).set 1 (by simp) (.bool ob))
          have Z316 := Lib.hid ((Z308.out.other (Nat.ne_of_lt hn301.out) (.int .i64 vb) (i := 0)).other (Nat.ne_of_lt hn301.out) (.bool ob) (i := 1))
          have S317 := Lib.hid ((S310.out.set q264.out 0 (.int .i64 vb)).set q264.out 1 (.bool ob))
          refine hK.out _ _ S317.out ?_
          clear hK K z318 z319 z320 z321
          refine Hr.Walk.done (by kernel_rfl) ?_ _
          go_wp2
          go_meet
          exact ⟨_, _, rfl, rfl, q298.out, q264.out, (Nat.ne_of_gt hn301.out), Z316, Z315, S317⟩
      · go_simp
        have S322 := Lib.hid (S262.out.alloc (Obj.cells #[.int .i64 0, .bool false] 111))
        have Z323 : Hid (Cs x265.heap.size (x265.alloc (Obj.cells #[.int .i64 0, .bool false] 111)) [.int .i64 0, .bool false]) := Lib.hid (cs_at rfl _ _)
        have q324 : Hid (w.heap.size + 2 < x265.heap.size) := Lib.hid S262.out.mb.1
        have hn327 : Hid (y1.heap.size < x265.heap.size) := Lib.hid Z263.out.1
        have Z328 := Lib.hid (Z263.out.alloc (Obj.cells #[.int .i64 0, .bool false] 111))
        refine hK.out _ _ S322.out ?_
        clear hK K
        obtain ⟨x325, hx326⟩ : ∃ z, (x265.alloc (Obj.cells #[.int .i64 0, .bool false] 111)) = z := ⟨_, rfl⟩
        rw [hx326] at S322 Z323 Z328 ⊢
        clear hx326
        refine Hr.Walk.one (i := 3) (by kernel_rfl) rfl (fun K hK => ?_)
        go_simp
        refine (yd_v n1 va oa _ (HA.out.stays S322.out.bw) YA.out.1 YA.out.2).mono ?_
        rintro e x331 ⟨rfl, k330⟩
        have S329 := Lib.hid (S322.out.below k330)
        have Z332 := Lib.hid (Z323.out.below k330)
        have Z333 := Lib.hid (Z328.out.below k330)
        go_simp
        refine hK.out _ _ S329.out ?_
        clear hK K k330
        refine Hr.Walk.one (i := 8) (by kernel_rfl) rfl (fun K hK => ?_)
        go_simp
        refine (yd_v q vb ob _ (HA.out.stays S329.out.bw) YB.out.1 YB.out.2).mono ?_
        rintro e x336 ⟨rfl, k335⟩
        have S334 := Lib.hid (S329.out.below k335)
        have Z337 := Lib.hid (Z332.out.below k335)
        have Z338 := Lib.hid (Z333.out.below k335)
        go_simp
        refine hK.out _ _ S334.out ?_
        clear hK K k335
        refine Hr.Walk.one (i := 11) (by kernel_rfl) rfl (fun K hK => ?_)
        have z342 := (Z337.out.2 0 _ rfl).1
        have z343 := (Z337.out.2 0 _ rfl).2
        have z344 := (Z337.out.2 1 _ rfl).1
        have z345 := (Z337.out.2 1 _ rfl).2
        go_simp
        have Z339 := Lib.hid ((Z337.out.set 0 (by simp) (.int .i64 va)).set 1 (by simp) (.bool oa))
        have Z340 := Lib.hid ((Z338.out.other (Nat.ne_of_gt hn327.out) (.int .i64 va) (i := 0)).other (Nat.ne_of_gt hn327.out) (.bool oa) (i := 1))
        have S341 := Lib.hid ((S334.out.set q324.out 0 (.int .i64 va)).set q324.out 1 (.bool oa))
        refine hK.out _ _ S341.out ?_
        clear hK K z342 z343 z344 z345
        refine Hr.Walk.one (i := 12) (by kernel_rfl) rfl (fun K hK => ?_)
        have z349 := (Z340.out.2 0 _ rfl).1
        have z350 := (Z340.out.2 0 _ rfl).2
        have z351 := (Z340.out.2 1 _ rfl).1
        have z352 := (Z340.out.2 1 _ rfl).2
        go_simp
        have Z346 := Lib.hid ((Z340.out.set 0 (by simp) (.int .i64 vb)).set 1 (by simp) (.bool ob))
        have Z347 := Lib.hid ((Z339.out.other (Nat.ne_of_lt hn327.out) (.int .i64 vb) (i := 0)).other (Nat.ne_of_lt hn327.out) (.bool ob) (i := 1))
        have S348 := Lib.hid ((S341.out.set q264.out 0 (.int .i64 vb)).set q264.out 1 (.bool ob))
        refine hK.out _ _ S348.out ?_
        clear hK K z349 z350 z351 z352
        refine Hr.Walk.done (by kernel_rfl) ?_ _
        go_wp2
        go_meet
        exact ⟨_, _, rfl, rfl, q324.out, q264.out, (Nat.ne_of_gt hn327.out), Z347, Z346, S348⟩
  case rest =>
  obtain ⟨w2, rfl⟩ : ∃ x : World, x = wc := ⟨_, rfl⟩
  clear NS
  obtain ⟨g7, g8, rfl, rfl, hg7, hg8, hne, G7, G8, NS⟩ := hcut
  go_upto_region 2 with fail
  go_cut [29] (fun a wz => a = .bool m ∧ Hid (Cs g7 wz [.int .i64 va, .bool oa]) ∧ Hid (Cs g8 wz [.int .i64 vb, .bool ob]) ∧ Hid (NtS w [.int .i64 x.fq, .int .i64 x.iv, .int .i64 x.ct, .bool x.un, .int .i64 x.ua, .bool x.ut, s6, s7, s8, s9, s10, s11, s12, .slice a13 x.mo.length c13, s14, .int .i64 x.wk] [.int .i64 u, .int .i64 v] [.int .i64 n0, .int .i64 n1, .int .i64 n2, .int .i64 n3, .int .i64 n4, .int .i64 n5, .int .i64 n6, .int .i64 n7] wz))
  case first =>
    have l0 := (NS.out.rb.2 0 _ rfl).1
    have l13 := (NS.out.rb.2 13 _ rfl).1
    by_cases h6 : x.fq = 6
    · have e6 : (x.fq == 6) = true := beq_iff_eq.2 h6
      obtain rfl : m = true := by rw [← HM.out.1, mthB, decide_eq_true h6]; rfl
      clear h6
      go_wp2
      go_meet
      exact ⟨rfl, G7, G8, NS⟩
    · have e6 : (x.fq == 6) = false := beq_eq_false_iff_ne.2 h6
      by_cases he : x.mo = []
      · have z0 : x.mo.length = 0 := by rw [he]; rfl
        obtain rfl : m = false := by rw [← HM.out.1, mthB, decide_eq_false h6, he]; rfl
        rw [z0] at l13
        go_wp2
        go_meet
        exact ⟨rfl, G7, G8, NS⟩
      · have z0 : 0 < (x.mo.length : Int) := by
          have := mt List.length_eq_zero_iff.1 he
          omega
        obtain rfl : m = true := by rw [← HM.out.1, mthB, decide_eq_false h6, decide_eq_true he]; rfl
        go_wp2
        go_meet
        exact ⟨congrArg Value.bool (decide_eq_true (by omega)), G7, G8, NS⟩
  case rest =>
  obtain ⟨w3, rfl⟩ : ∃ x : World, x = wc := ⟨_, rfl⟩
  clear NS G7 G8
  obtain ⟨rfl, G7, G8, NS⟩ := hcut
  cases m with
  | false =>
    have hF : va = F := by rw [← YV.out.1]; exact HM.out.2.1
    have hG : vb = G := by rw [← YV.out.2]; exact HM.out.2.2
    rw [hF] at G7
    rw [hG] at G8
    go_upto_region 5 with fail
    go_cut [10, 11] (fun a d wz => a = .int .i64 V ∧ d = .bool c ∧ Hid (NtS w [.int .i64 x.fq, .int .i64 x.iv, .int .i64 x.ct, .bool x.un, .int .i64 x.ua, .bool x.ut, s6, s7, s8, s9, s10, s11, s12, .slice a13 x.mo.length c13, s14, .int .i64 x.wk] [.int .i64 u, .int .i64 v] [.int .i64 n0, .int .i64 n1, .int .i64 n2, .int .i64 n3, .int .i64 n4, .int .i64 n5, .int .i64 n6, .int .i64 n7] wz))
    case first =>
      have k70 := (G7.out.2 0 _ rfl).1
      have k80 := (G8.out.2 0 _ rfl).1
      have d0 := (NS.out.db.2 0 _ rfl).1
      have d1 := (NS.out.db.2 1 _ rfl).1
      go_wp2_with fail
      refine (Wk.nth_any F (G - 1) u v _ (by omega) (by omega) (by omega) (by omega)).mono ?_
      rintro e w9 ⟨rfl, rfl⟩
      rw [HV.out.1, HV.out.2]
      go_wp2
      go_meet
      exact ⟨rfl, rfl, NS⟩
    case rest =>
    obtain ⟨w7, rfl⟩ : ∃ x : World, x = wc := ⟨_, rfl⟩
    clear G7 G8 NS
    obtain ⟨rfl, rfl, NS⟩ := hcut
    have m0 := (NS.out.mb.2 0 _ rfl).1
    cases c with
    | false =>
      go_wp2
      go_ret
      exact ⟨ret_b (by rw [HB.out]; rfl), NS.out.bw⟩
    | true =>
      go_wp2
      go_ret
      exact ⟨ret_b (by rw [HB.out]; rfl), NS.out.bw⟩
  | true =>
    have HF := Lib.hid (show mfV per = F from HM.out.2.1)
    have HG := Lib.hid (show mfV (per + 1) = G from HM.out.2.2)
    obtain ⟨o1, ho1⟩ : ∃ z, mfO per = z := ⟨_, rfl⟩
    obtain ⟨o2, ho2⟩ : ∃ z, mfO (per + 1) = z := ⟨_, rfl⟩
    have O1 := Lib.hid ho1
    have O2 := Lib.hid ho2
    obtain ⟨pb1, pb2⟩ := pb
    clear ho1 ho2
    go_upto_region 3 with fail
    go_cut [9] (fun a wz => a = .int .i64 per ∧ Hid (Cs g7 wz [.int .i64 va, .bool oa]) ∧ Hid (Cs g8 wz [.int .i64 vb, .bool ob]) ∧ Hid (NtS w [.int .i64 x.fq, .int .i64 x.iv, .int .i64 x.ct, .bool x.un, .int .i64 x.ua, .bool x.ut, s6, s7, s8, s9, s10, s11, s12, .slice a13 x.mo.length c13, s14, .int .i64 x.wk] [.int .i64 u, .int .i64 v] [.int .i64 n0, .int .i64 n1, .int .i64 n2, .int .i64 n3, .int .i64 n4, .int .i64 n5, .int .i64 n6, .int .i64 n7] wz))
    case first =>
      have m1 := (NS.out.mb.2 1 _ rfl).1
      have m2 := (NS.out.mb.2 2 _ rfl).1
      go_wp2
      go_meet
      exact ⟨congrArg (Value.int .i64) (by have := HPER.out; omega), G7, G8, NS⟩
    case rest =>
    obtain ⟨w4, rfl⟩ : ∃ x : World, x = wc := ⟨_, rfl⟩
    clear NS G7 G8
    obtain ⟨rfl, G7, G8, NS⟩ := hcut
    go_upto_region 4 with fail
    go_cut [] (fun wz => Hid (Cs g7 wz [.int .i64 F, .bool o1]) ∧ Hid (Cs g8 wz [.int .i64 G, .bool o2]) ∧ Hid (NtS w [.int .i64 x.fq, .int .i64 x.iv, .int .i64 x.ct, .bool x.un, .int .i64 x.ua, .bool x.ut, s6, s7, s8, s9, s10, s11, s12, .slice a13 x.mo.length c13, s14, .int .i64 x.wk] [.int .i64 u, .int .i64 v] [.int .i64 n0, .int .i64 n1, .int .i64 n2, .int .i64 n3, .int .i64 n4, .int .i64 n5, .int .i64 n6, .int .i64 n7] wz))
    case first =>
      go_wp2_with fail
      refine (md_to per F o1 _ (HA.out.stays NS.out.bw) (by omega) (by omega) HF O1).mono ?_
      rintro e w5 ⟨rfl, k⟩
      have G7 := Lib.hid (G7.out.below k)
      have G8 := Lib.hid (G8.out.below k)
      have NS := Lib.hid (NS.out.below k)
      clear k
      go_wp2_with fail
      refine (md_to (per + 1) G o2 _ (HA.out.stays NS.out.bw) (by omega) (by omega) HG O2).mono ?_
      rintro e w6 ⟨rfl, k⟩
      have G7 := Lib.hid (G7.out.below k)
      have G8 := Lib.hid (G8.out.below k)
      have NS := Lib.hid (NS.out.below k)
      clear k
      have k1 := (G7.out.2 0 _ rfl).1
      have k2 := (G7.out.2 0 _ rfl).2
      have k3 := (G7.out.2 1 _ rfl).1
      have k4 := (G7.out.2 1 _ rfl).2
      have j1 := (G8.out.2 0 _ rfl).1
      have j2 := (G8.out.2 0 _ rfl).2
      have j3 := (G8.out.2 1 _ rfl).1
      have j4 := (G8.out.2 1 _ rfl).2
      go_wp2
      go_meet
      exact ⟨Lib.hid ((((G7.out.set 0 (by simp) _).set 1 (by simp) _).other (fun e => hne e.symm) _).other (fun e => hne e.symm) _), Lib.hid ((((G8.out.other hne _).other hne _).set 0 (by simp) _).set 1 (by simp) _), Lib.hid ((((NS.out.set hg7 0 _).set hg7 1 _).set hg8 0 _).set hg8 1 _)⟩
    case rest =>
    obtain ⟨w5, rfl⟩ : ∃ x : World, x = wc := ⟨_, rfl⟩
    clear NS G7 G8
    obtain ⟨G7, G8, NS⟩ := hcut
    go_upto_region 5 with fail
    go_cut [10, 11] (fun a d wz => a = .int .i64 V ∧ d = .bool c ∧ Hid (NtS w [.int .i64 x.fq, .int .i64 x.iv, .int .i64 x.ct, .bool x.un, .int .i64 x.ua, .bool x.ut, s6, s7, s8, s9, s10, s11, s12, .slice a13 x.mo.length c13, s14, .int .i64 x.wk] [.int .i64 u, .int .i64 v] [.int .i64 n0, .int .i64 n1, .int .i64 n2, .int .i64 n3, .int .i64 n4, .int .i64 n5, .int .i64 n6, .int .i64 n7] wz))
    case first =>
      have k70 := (G7.out.2 0 _ rfl).1
      have k80 := (G8.out.2 0 _ rfl).1
      have d0 := (NS.out.db.2 0 _ rfl).1
      have d1 := (NS.out.db.2 1 _ rfl).1
      go_wp2_with fail
      refine (Wk.nth_any F (G - 1) u v _ (by omega) (by omega) (by omega) (by omega)).mono ?_
      rintro e w9 ⟨rfl, rfl⟩
      rw [HV.out.1, HV.out.2]
      go_wp2
      go_meet
      exact ⟨rfl, rfl, NS⟩
    case rest =>
    obtain ⟨w7, rfl⟩ : ∃ x : World, x = wc := ⟨_, rfl⟩
    clear G7 G8 NS
    obtain ⟨rfl, rfl, NS⟩ := hcut
    have m0 := (NS.out.mb.2 0 _ rfl).1
    cases c with
    | false =>
      go_wp2
      go_ret
      exact ⟨ret_b (by rw [HB.out]; rfl), NS.out.bw⟩
    | true =>
      go_wp2
      go_ret
      exact ⟨ret_b (by rw [HB.out]; rfl), NS.out.bw⟩
end Fil
end Go.Proofs.YtpbbnkgfheafpaaGreatDoor
