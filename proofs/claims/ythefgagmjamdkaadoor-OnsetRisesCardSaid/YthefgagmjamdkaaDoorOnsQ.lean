/-
  Contracts of package onset: order; cmp.Or of three.
-/
import Derived.Test.YthefgagmjamdkaaDoorRvA
import Derived.Test.YthefgagmjamdkaaDoorOnsS
import Derived.Test.YthefgagmjamdkaaDoorShelf
import Derived.Test.YthefgagmjamdkaaDoorBdCl
import Derived.Sort.Grow
import Derived.Sort.Row
namespace Go.Proofs.YthefgagmjamdkaaDoor
open Go.RowKit
namespace Ons
open Rs
/-- Draws and new blocks alone. -/
def Gr (w w' : World) : Prop := ∃ q os', w' = Go.Sort.grow (w.drewN q) os'
theorem Gr.refl (w : World) : Gr w w := ⟨0, #[], by rw [Go.Sort.grow_empty]; rfl⟩
theorem Gr.alloc {w a : World} (h : Gr w a) (o : Obj) : Gr w (a.alloc o) := by
  obtain ⟨q, os, rfl⟩ := h
  exact ⟨q, os.push o, by simp [Go.Sort.grow, World.alloc]⟩
theorem Gr.drewN {w a : World} (h : Gr w a) (n : Nat) : Gr w (a.drewN n) := by
  obtain ⟨q, os, rfl⟩ := h
  exact ⟨q + n, os, by simp [Go.Sort.grow, World.drewN, Nat.add_assoc]⟩
theorem Gr.drew {w a : World} (h : Gr w a) : Gr w a.drew := h.drewN 1
def orV (a b c : Int) : Int := if a ≠ 0 then a else if b ≠ 0 then b else c
set_option maxHeartbeats 3200000 in
set_option maxRecDepth 100000 in
theorem or_to (g cap : Nat) (a b c v : Int) (w : World) (h0 : w.cell? ⟨g, 0, none⟩ = some (.int .i64 a)) (h1 : w.cell? ⟨g, 1, none⟩ = some (.int .i64 b)) (h2 : w.cell? ⟨g, 2, none⟩ = some (.int .i64 c)) (h : Hid (orV a b c = v)) :
    Calls Tryd.prog 36 #[.slice (some ⟨g, 0, none⟩) 3 cap] w fun e w' => e = .returned (.int .i64 v) ∧ w = w' := by
  have hh := h.out
  clear h
  rw [orV] at hh
  by_cases a0 : a = 0
  · subst a0
    rw [if_neg (by decide)] at hh
    by_cases b0 : b = 0
    · subst b0
      rw [if_neg (by decide)] at hh
      subst hh
      by_cases c0 : c = 0
      · subst c0
        go_enter Tryd.func36, Tryd.ntmps36
        go_wp2
        refine wp_loop_rounds 4 ?_
        rw [rounds_succ]
        go_wp2
        rw [rounds_succ]
        go_wp2
        rw [rounds_succ]
        go_wp2
        rw [rounds_succ]
        go_wp2
        go_ret
        exact ⟨rfl, rfl⟩
      · have c1 : (c == 0) = false := beq_eq_false_iff_ne.2 c0
        have c2 : (c != 0) = true := bne_iff_ne.2 c0
        go_enter Tryd.func36, Tryd.ntmps36
        go_wp2
        refine wp_loop_rounds 4 ?_
        rw [rounds_succ]
        go_wp2
        rw [rounds_succ]
        go_wp2
        rw [rounds_succ]
        go_wp2
        go_ret
        exact ⟨rfl, rfl⟩
    · rw [if_pos b0] at hh
      subst hh
      have c1 : (b == 0) = false := beq_eq_false_iff_ne.2 b0
      have c2 : (b != 0) = true := bne_iff_ne.2 b0
      go_enter Tryd.func36, Tryd.ntmps36
      go_wp2
      refine wp_loop_rounds 4 ?_
      rw [rounds_succ]
      go_wp2
      rw [rounds_succ]
      go_wp2
      go_ret
      exact ⟨rfl, rfl⟩
  · rw [if_pos a0] at hh
    subst hh
    have c1 : (a == 0) = false := beq_eq_false_iff_ne.2 a0
    have c2 : (a != 0) = true := bne_iff_ne.2 a0
    go_enter Tryd.func36, Tryd.ntmps36
    go_wp2
    refine wp_loop_rounds 4 ?_
    rw [rounds_succ]
    go_wp2
    go_ret
    exact ⟨rfl, rfl⟩
theorem cmp_to (x y c : Int) (w : World) (h : Hid (Lib.compareInt x y = c)) :
    Calls Tryd.prog 37 #[.int .i64 x, .int .i64 y] w fun e w' => e = .returned (.int .i64 c) ∧ w = w' :=
  (Tryd.cmp_Compare_int x y w).mono fun _ _ ⟨he, hw⟩ => ⟨by rw [he, h.out], hw.symm⟩
structure OrS (w : World) (A B : List Value) (x : World) : Prop where
  a : Cel.Cs w.heap.size x A
  b : Cel.Cs (w.heap.size + 1) x B
  g : Gr w x
theorem OrS.alloc {w x : World} {A B : List Value} (h : OrS w A B x) (o : Obj) : OrS w A B (x.alloc o) := ⟨h.a.alloc o, h.b.alloc o, h.g.alloc o⟩
theorem cs_at {g : Nat} {w : World} (hg : g = w.heap.size) (vs : List Value) (t : TypeId) : Cel.Cs g (w.alloc (Obj.cells vs.toArray t)) vs := by subst hg; exact Cel.Cs.new w vs t
open Cel
set_option maxHeartbeats 6400000 in
set_option maxRecDepth 100000 in
theorem ord_to (a1 a2 a3 b1 b2 b3 v : Int) (w : World) (h : Hid (oCf (a1, a2, a3) (b1, b2, b3) = v)) :
    Calls Tryd.prog 22 #[.agg #[.int .i64 a1, .int .i64 a2, .int .i64 a3], .agg #[.int .i64 b1, .int .i64 b2, .int .i64 b3]] w fun e w' => e = .returned (.int .i64 v) ∧ Gr w w' := by
  obtain ⟨c1, h1⟩ : ∃ c, Lib.compareInt a3 b3 = c := ⟨_, rfl⟩
  obtain ⟨c2, h2⟩ : ∃ c, Lib.compareInt a1 b1 = c := ⟨_, rfl⟩
  obtain ⟨c3, h3⟩ : ∃ c, Lib.compareInt a2 b2 = c := ⟨_, rfl⟩
  have HV : Hid (orV c1 c2 c3 = v) := Lib.hid (by rw [← h.out, oCf, orV, ← h1, ← h2, ← h3])
  have D1 := Lib.hid (fun W => cmp_to a3 b3 c1 W (Lib.hid h1))
  have D2 := Lib.hid (fun W => cmp_to a1 b1 c2 W (Lib.hid h2))
  have D3 := Lib.hid (fun W => cmp_to a2 b2 c3 W (Lib.hid h3))
  clear h h1 h2 h3
  go_enter Tryd.func22, Tryd.ntmps22
  go_upto_region 1 with fail
  obtain ⟨w0, hw0⟩ : ∃ z, (w.alloc (Obj.cells #[.int .i64 a1, .int .i64 a2, .int .i64 a3] 37)).alloc (Obj.cells #[.int .i64 b1, .int .i64 b2, .int .i64 b3] 37) = z := ⟨_, rfl⟩
  have S0 : Hid (OrS w [.int .i64 a1, .int .i64 a2, .int .i64 a3] [.int .i64 b1, .int .i64 b2, .int .i64 b3] w0) := Lib.hid (by
    rw [← hw0]
    exact ⟨(Cel.Cs.new w [.int .i64 a1, .int .i64 a2, .int .i64 a3] 37).alloc _, cs_at (by simp) [.int .i64 b1, .int .i64 b2, .int .i64 b3] 37, ((Gr.refl w).alloc _).alloc _⟩)
  rw [hw0]
  clear hw0
  refine Hr.Walk.region (R := fun _ x => OrS w [.int .i64 a1, .int .i64 a2, .int .i64 a3] [.int .i64 b1, .int .i64 b2, .int .i64 b3] x) (by kernel_rfl) ?_
  obtain ⟨w1, hw1⟩ : ∃ z, w0.drew = z := ⟨_, rfl⟩
  have S1 : Hid (OrS w [.int .i64 a1, .int .i64 a2, .int .i64 a3] [.int .i64 b1, .int .i64 b2, .int .i64 b3] w1) := Lib.hid (by
    rw [← hw1]
    exact ⟨S0.out.a.drewN 1, S0.out.b.drewN 1, S0.out.g.drew⟩)
  rw [hw1]
  clear hw1 S0
  refine Hr.Walk.take (i := 0) (v := ?v0) (fun x => OrS w [.int .i64 a1, .int .i64 a2, .int .i64 a3] [.int .i64 b1, .int .i64 b2, .int .i64 b3] x) (fun _ => True) rfl (by kernel_rfl) (by kernel_rfl) (by kernel_rfl) (fun _ _ _ h => h) (fun _ _ _ _ _ _ => trivial) (fun _ _ _ h => h) (fun _ _ h => h) trivial (Or.inl ⟨by rfl, ?hy0⟩) S1.out S1.out ?rest0
  case hy0 => intro x hx; have e0 := (hx.a.2 0 _ rfl).1; have e1 := (hx.a.2 1 _ rfl).1; have e2 := (hx.a.2 2 _ rfl).1; have f0 := (hx.b.2 0 _ rfl).1; have f1 := (hx.b.2 1 _ rfl).1; have f2 := (hx.b.2 2 _ rfl).1; clear hx; go_simp; try with_reducible rfl
  (try go_simp)
  refine Hr.Walk.take (i := 1) (v := ?v1) (fun x => OrS w [.int .i64 a1, .int .i64 a2, .int .i64 a3] [.int .i64 b1, .int .i64 b2, .int .i64 b3] x) (fun _ => True) rfl (by kernel_rfl) (by kernel_rfl) (by kernel_rfl) (fun _ _ _ h => h) (fun _ _ _ _ _ _ => trivial) (fun _ _ _ h => h) (fun _ _ h => h) trivial (Or.inl ⟨by rfl, ?hy1⟩) S1.out S1.out ?rest1
  case hy1 => intro x hx; have e0 := (hx.a.2 0 _ rfl).1; have e1 := (hx.a.2 1 _ rfl).1; have e2 := (hx.a.2 2 _ rfl).1; have f0 := (hx.b.2 0 _ rfl).1; have f1 := (hx.b.2 1 _ rfl).1; have f2 := (hx.b.2 2 _ rfl).1; clear hx; go_simp; try with_reducible rfl
  (try go_simp)
  refine Hr.Walk.take (i := 2) (v := ?v2) (fun x => OrS w [.int .i64 a1, .int .i64 a2, .int .i64 a3] [.int .i64 b1, .int .i64 b2, .int .i64 b3] x) (fun _ => True) rfl (by kernel_rfl) (by kernel_rfl) (by kernel_rfl) (fun _ _ _ h => h) (fun _ _ _ _ _ _ => trivial) (fun _ _ _ h => h) (fun _ _ h => h) trivial (Or.inl ⟨by rfl, ?hy2⟩) S1.out S1.out ?rest2
  case hy2 => intro x hx; have e0 := (hx.a.2 0 _ rfl).1; have e1 := (hx.a.2 1 _ rfl).1; have e2 := (hx.a.2 2 _ rfl).1; have f0 := (hx.b.2 0 _ rfl).1; have f1 := (hx.b.2 1 _ rfl).1; have f2 := (hx.b.2 2 _ rfl).1; clear hx; go_simp; try with_reducible rfl
  (try go_simp)
  refine Hr.Walk.take (i := 3) (v := ?v3) (fun x => OrS w [.int .i64 a1, .int .i64 a2, .int .i64 a3] [.int .i64 b1, .int .i64 b2, .int .i64 b3] x) (fun _ => True) rfl (by kernel_rfl) (by kernel_rfl) (by kernel_rfl) (fun _ _ _ h => h) (fun _ _ _ _ _ _ => trivial) (fun _ _ _ h => h) (fun _ _ h => h) trivial (Or.inl ⟨by rfl, ?hy3⟩) S1.out S1.out ?rest3
  case hy3 => intro x hx; have e0 := (hx.a.2 0 _ rfl).1; have e1 := (hx.a.2 1 _ rfl).1; have e2 := (hx.a.2 2 _ rfl).1; have f0 := (hx.b.2 0 _ rfl).1; have f1 := (hx.b.2 1 _ rfl).1; have f2 := (hx.b.2 2 _ rfl).1; clear hx; go_simp; try with_reducible rfl
  (try go_simp)
  refine Hr.Walk.take (i := 5) (v := ?v5) (fun x => OrS w [.int .i64 a1, .int .i64 a2, .int .i64 a3] [.int .i64 b1, .int .i64 b2, .int .i64 b3] x) (fun _ => True) rfl (by kernel_rfl) (by kernel_rfl) (by kernel_rfl) (fun _ _ _ h => h) (fun _ _ _ _ _ _ => trivial) (fun _ _ _ h => h) (fun _ _ h => h) trivial (Or.inl ⟨by rfl, ?hy5⟩) S1.out S1.out ?rest5
  case hy5 => intro x hx; have e0 := (hx.a.2 0 _ rfl).1; have e1 := (hx.a.2 1 _ rfl).1; have e2 := (hx.a.2 2 _ rfl).1; have f0 := (hx.b.2 0 _ rfl).1; have f1 := (hx.b.2 1 _ rfl).1; have f2 := (hx.b.2 2 _ rfl).1; clear hx; go_simp; try with_reducible rfl
  (try go_simp)
  refine Hr.Walk.take (i := 6) (v := ?v6) (fun x => OrS w [.int .i64 a1, .int .i64 a2, .int .i64 a3] [.int .i64 b1, .int .i64 b2, .int .i64 b3] x) (fun _ => True) rfl (by kernel_rfl) (by kernel_rfl) (by kernel_rfl) (fun _ _ _ h => h) (fun _ _ _ _ _ _ => trivial) (fun _ _ _ h => h) (fun _ _ h => h) trivial (Or.inl ⟨by rfl, ?hy6⟩) S1.out S1.out ?rest6
  case hy6 => intro x hx; have e0 := (hx.a.2 0 _ rfl).1; have e1 := (hx.a.2 1 _ rfl).1; have e2 := (hx.a.2 2 _ rfl).1; have f0 := (hx.b.2 0 _ rfl).1; have f1 := (hx.b.2 1 _ rfl).1; have f2 := (hx.b.2 2 _ rfl).1; clear hx; go_simp; try with_reducible rfl
  (try go_simp)
  refine Hr.Walk.take (i := 7) (v := ?v7) (fun x => OrS w [.int .i64 a1, .int .i64 a2, .int .i64 a3] [.int .i64 b1, .int .i64 b2, .int .i64 b3] x) (fun _ => True) rfl (by kernel_rfl) (by kernel_rfl) (by kernel_rfl) (fun _ _ _ h => h) (fun _ _ _ _ _ _ => trivial) (fun _ _ _ h => h) (fun _ _ h => h) trivial (Or.inl ⟨by rfl, ?hy7⟩) S1.out S1.out ?rest7
  case hy7 => intro x hx; have e0 := (hx.a.2 0 _ rfl).1; have e1 := (hx.a.2 1 _ rfl).1; have e2 := (hx.a.2 2 _ rfl).1; have f0 := (hx.b.2 0 _ rfl).1; have f1 := (hx.b.2 1 _ rfl).1; have f2 := (hx.b.2 2 _ rfl).1; clear hx; go_simp; try with_reducible rfl
  (try go_simp)
  refine Hr.Walk.take (i := 8) (v := ?v8) (fun x => OrS w [.int .i64 a1, .int .i64 a2, .int .i64 a3] [.int .i64 b1, .int .i64 b2, .int .i64 b3] x) (fun _ => True) rfl (by kernel_rfl) (by kernel_rfl) (by kernel_rfl) (fun _ _ _ h => h) (fun _ _ _ _ _ _ => trivial) (fun _ _ _ h => h) (fun _ _ h => h) trivial (Or.inl ⟨by rfl, ?hy8⟩) S1.out S1.out ?rest8
  case hy8 => intro x hx; have e0 := (hx.a.2 0 _ rfl).1; have e1 := (hx.a.2 1 _ rfl).1; have e2 := (hx.a.2 2 _ rfl).1; have f0 := (hx.b.2 0 _ rfl).1; have f1 := (hx.b.2 1 _ rfl).1; have f2 := (hx.b.2 2 _ rfl).1; clear hx; go_simp; try with_reducible rfl
  (try go_simp)
  refine Hr.Walk.take (i := 10) (v := ?v10) (fun x => OrS w [.int .i64 a1, .int .i64 a2, .int .i64 a3] [.int .i64 b1, .int .i64 b2, .int .i64 b3] x) (fun _ => True) rfl (by kernel_rfl) (by kernel_rfl) (by kernel_rfl) (fun _ _ _ h => h) (fun _ _ _ _ _ _ => trivial) (fun _ _ _ h => h) (fun _ _ h => h) trivial (Or.inl ⟨by rfl, ?hy10⟩) S1.out S1.out ?rest10
  case hy10 => intro x hx; have e0 := (hx.a.2 0 _ rfl).1; have e1 := (hx.a.2 1 _ rfl).1; have e2 := (hx.a.2 2 _ rfl).1; have f0 := (hx.b.2 0 _ rfl).1; have f1 := (hx.b.2 1 _ rfl).1; have f2 := (hx.b.2 2 _ rfl).1; clear hx; go_simp; try with_reducible rfl
  (try go_simp)
  refine Hr.Walk.take (i := 11) (v := ?v11) (fun x => OrS w [.int .i64 a1, .int .i64 a2, .int .i64 a3] [.int .i64 b1, .int .i64 b2, .int .i64 b3] x) (fun _ => True) rfl (by kernel_rfl) (by kernel_rfl) (by kernel_rfl) (fun _ _ _ h => h) (fun _ _ _ _ _ _ => trivial) (fun _ _ _ h => h) (fun _ _ h => h) trivial (Or.inl ⟨by rfl, ?hy11⟩) S1.out S1.out ?rest11
  case hy11 => intro x hx; have e0 := (hx.a.2 0 _ rfl).1; have e1 := (hx.a.2 1 _ rfl).1; have e2 := (hx.a.2 2 _ rfl).1; have f0 := (hx.b.2 0 _ rfl).1; have f1 := (hx.b.2 1 _ rfl).1; have f2 := (hx.b.2 2 _ rfl).1; clear hx; go_simp; try with_reducible rfl
  (try go_simp)
  refine Hr.Walk.take (i := 12) (v := ?v12) (fun x => OrS w [.int .i64 a1, .int .i64 a2, .int .i64 a3] [.int .i64 b1, .int .i64 b2, .int .i64 b3] x) (fun _ => True) rfl (by kernel_rfl) (by kernel_rfl) (by kernel_rfl) (fun _ _ _ h => h) (fun _ _ _ _ _ _ => trivial) (fun _ _ _ h => h) (fun _ _ h => h) trivial (Or.inl ⟨by rfl, ?hy12⟩) S1.out S1.out ?rest12
  case hy12 => intro x hx; have e0 := (hx.a.2 0 _ rfl).1; have e1 := (hx.a.2 1 _ rfl).1; have e2 := (hx.a.2 2 _ rfl).1; have f0 := (hx.b.2 0 _ rfl).1; have f1 := (hx.b.2 1 _ rfl).1; have f2 := (hx.b.2 2 _ rfl).1; clear hx; go_simp; try with_reducible rfl
  (try go_simp)
  refine Hr.Walk.take (i := 13) (v := ?v13) (fun x => OrS w [.int .i64 a1, .int .i64 a2, .int .i64 a3] [.int .i64 b1, .int .i64 b2, .int .i64 b3] x) (fun _ => True) rfl (by kernel_rfl) (by kernel_rfl) (by kernel_rfl) (fun _ _ _ h => h) (fun _ _ _ _ _ _ => trivial) (fun _ _ _ h => h) (fun _ _ h => h) trivial (Or.inl ⟨by rfl, ?hy13⟩) S1.out S1.out ?rest13
  case hy13 => intro x hx; have e0 := (hx.a.2 0 _ rfl).1; have e1 := (hx.a.2 1 _ rfl).1; have e2 := (hx.a.2 2 _ rfl).1; have f0 := (hx.b.2 0 _ rfl).1; have f1 := (hx.b.2 1 _ rfl).1; have f2 := (hx.b.2 2 _ rfl).1; clear hx; go_simp; try with_reducible rfl
  (try go_simp)
  refine Hr.Walk.one (i := 4) (by kernel_rfl) rfl (fun K hK => ?_)
  go_simp
  refine (D1.out _).mono ?_
  rintro e w5 ⟨rfl, rfl⟩
  go_simp
  refine hK.out _ _ S1.out ?_
  clear hK K
  refine Hr.Walk.one (i := 9) (by kernel_rfl) rfl (fun K hK => ?_)
  go_simp
  refine (D2.out _).mono ?_
  rintro e w5 ⟨rfl, rfl⟩
  go_simp
  refine hK.out _ _ S1.out ?_
  clear hK K
  refine Hr.Walk.one (i := 14) (by kernel_rfl) rfl (fun K hK => ?_)
  go_simp
  refine (D3.out _).mono ?_
  rintro e w5 ⟨rfl, rfl⟩
  go_simp
  refine hK.out _ _ S1.out ?_
  clear hK K
  refine Hr.Walk.one (i := 15) (by kernel_rfl) rfl (fun K hK => ?_)
  have S2 := Lib.hid (S1.out.alloc (Obj.cells #[.int .i64 c1, .int .i64 c2, .int .i64 c3] 3))
  have C3 := Lib.hid (Cs.new w1 [.int .i64 c1, .int .i64 c2, .int .i64 c3] 3)
  go_simp
  refine hK.out _ _ S2.out ?_
  clear hK K
  refine Hr.Walk.one (i := 16) (by kernel_rfl) rfl (fun K hK => ?_)
  have g0 := (C3.out.2 0 _ rfl).1
  have g1 := (C3.out.2 1 _ rfl).1
  have g2 := (C3.out.2 2 _ rfl).1
  go_simp
  refine (or_to _ _ c1 c2 c3 v _ g0 g1 g2 HV).mono ?_
  rintro e w5 ⟨rfl, rfl⟩
  go_simp
  refine hK.out _ _ S2.out ?_
  clear hK K
  refine Hr.Walk.one (i := 17) (by kernel_rfl) rfl (fun K hK => ?_)
  go_simp
  refine hK.out _ _ S2.out ?_
  clear hK K
  refine Hr.Walk.done (by kernel_rfl) ?_ _
  go_wp2
  go_ret
  exact ⟨rfl, S2.out.g⟩
end Ons
end Go.Proofs.YthefgagmjamdkaaDoor
