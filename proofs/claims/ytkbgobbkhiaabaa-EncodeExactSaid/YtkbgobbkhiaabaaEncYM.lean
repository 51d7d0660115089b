/-
  solsticeref21.On, its whole answer. (Written by gen/gen_ency.py, bin/split_y.py.)
-/
import Derived.Test.YtkbgobbkhiaabaaEncYH
import Derived.Test.YtkbgobbkhiaabaaCelR
namespace Go.Proofs.Ytkbgobbkhiaabaa
open Go.RowKit
namespace Enc
open Wk Cel
open Rcv (CV RecV LisV IntV DayV aggR)
open Ap (RowI Grew)
noncomputable def codeM : Code := (Try.f8.body.bind (find_ 12)).getD .skip
set_option maxHeartbeats 25600000 in
set_option maxRecDepth 100000 in
theorem ronM (month v d m T L : Int) (x : Option CV) (w w4 : World) (gm gr gq : Nat) (HG : Hid (w.heap.size ≤ gm ∧ w.heap.size ≤ gq)) (hgR : w.heap.size ≤ w.heap.size + 1) (d2 : gr ≠ w.heap.size + 1) (d4 : w.heap.size + 1 ≠ gm) (d5 : w.heap.size + 1 ≠ gq) (ib : Bool)
    (_s10 : IntKind.i64.wrap (d + m) = T) (s11 : d + m = T) (s14 : IntKind.i64.wrap T = T) (HIB : Hid (decide (1 ≤ T ∧ T ≤ L) = ib)) (HX : Hid ((if T < 1 ∨ L < T then none else some (rcv month [] [T])) = x))
    (A4 : Hid (Cs gr w4 [.int .i64 7, .int .i64 1, .int .i64 0, .bool false, .int .i64 0, .bool false, .slice none 0 0, .slice none 0 0, .slice none 0 0, .slice none 0 0, .slice (some ⟨gq, 0, none⟩) 1 1, .slice none 0 0, .slice none 0 0, .slice (some ⟨gm, 0, none⟩) 1 1, .slice none 0 0, .int .i64 1])) (D4 : Hid (Cs gq w4 [.int .i64 T])) (M4 : Hid (Cs gm w4 [.int .i64 month])) (O4 : Hid (Cs w.heap.size w4 [.int .i64 1, .int .i64 v, .int .i64 d])) (R4 : Hid (Cs (w.heap.size + 1) w4 [.int .i64 0, .int .i64 0, .int .i64 0, .bool false, .int .i64 0, .bool false, .slice none 0 0, .slice none 0 0, .slice none 0 0, .slice none 0 0, .slice none 0 0, .slice none 0 0, .slice none 0 0, .slice none 0 0, .slice none 0 0, .int .i64 0])) (B4 : Hid (Below w.heap.size w w4))
    (x1 x3 x5 x7 x10 x11 x12 x13 x14 x15 x16 x17 x18 x19 x20 x21 x22 x23 x24 x25 x26 x27 x28 x29 x30 x31 x32 x33 x34 x35 x36 x37 x38 x39 x40 x41 x42 x43 x44 x45 x46 x47 x48 x49 x50 x51 x52 x53 x54 x55 x56 x57 x58 x59 x60 x61 x62 x63 x64 x65 x66 x67 x68 x69 x70 x71 x72 x73 x74 x75 x76 x77 x78 x79 x80 x81 x82 x83 x84 x85 x86 x87 x88 x89 x90 x91 x92 x93 x94 x95 x96 x97 x98 x99 x100 x101 x102 x103 x104 x105 x106 x107 x108 x109 x110 x111 x112 : Value) (K : Act → World → Prop) : Code.wp Try.prog codeM (Exit.then K (bodyPost Try.prog Try.f8 (RonP x w))) ⟨List.toArray (.int .i64 month :: x1 :: .int .i64 m :: x3 :: .pointer (some ⟨w.heap.size, 0, none⟩) :: x5 :: .pointer (some ⟨w.heap.size + 1, 0, none⟩) :: x7 :: .pointer (some ⟨gr, 0, none⟩) :: .int .i64 L :: x10 :: x11 :: x12 :: x13 :: x14 :: x15 :: x16 :: x17 :: x18 :: x19 :: x20 :: x21 :: x22 :: x23 :: x24 :: x25 :: x26 :: x27 :: x28 :: x29 :: x30 :: x31 :: x32 :: x33 :: x34 :: x35 :: x36 :: x37 :: x38 :: x39 :: x40 :: x41 :: x42 :: x43 :: x44 :: x45 :: x46 :: x47 :: x48 :: x49 :: x50 :: x51 :: x52 :: x53 :: x54 :: x55 :: x56 :: x57 :: x58 :: x59 :: x60 :: x61 :: x62 :: x63 :: x64 :: x65 :: x66 :: x67 :: x68 :: x69 :: x70 :: x71 :: x72 :: x73 :: x74 :: x75 :: x76 :: x77 :: x78 :: x79 :: x80 :: x81 :: x82 :: x83 :: x84 :: x85 :: x86 :: x87 :: x88 :: x89 :: x90 :: x91 :: x92 :: x93 :: x94 :: x95 :: x96 :: x97 :: x98 :: x99 :: x100 :: x101 :: x102 :: x103 :: x104 :: x105 :: x106 :: x107 :: x108 :: x109 :: x110 :: x111 :: x112 :: []), []⟩ w4 := by
  conv => arg 2; whnf
  have RD := Lib.hid (R4.out.below (w' := w4.drew) ⟨rfl, rfl, rfl, Nat.le_refl _, fun _ _ => rfl⟩)
  have DD := Lib.hid (D4.out.below (w' := w4.drew) ⟨rfl, rfl, rfl, Nat.le_refl _, fun _ _ => rfl⟩)
  have MM := Lib.hid (M4.out.below (w' := w4.drew) ⟨rfl, rfl, rfl, Nat.le_refl _, fun _ _ => rfl⟩)
  have BD := Lib.hid B4.out.drew
  have SZ : Hid (Cs gr w4.drew [.int .i64 7, .int .i64 1, .int .i64 0, .bool false, .int .i64 0, .bool false, .slice none 0 0, .slice none 0 0, .slice none 0 0, .slice none 0 0, .slice (some ⟨gq, 0, none⟩) 1 1, .slice none 0 0, .slice none 0 0, .slice (some ⟨gm, 0, none⟩) 1 1, .slice none 0 0, .int .i64 1] ∧ Cs w.heap.size w4.drew [.int .i64 1, .int .i64 v, .int .i64 d]) := Lib.hid ⟨A4.out.below ⟨rfl, rfl, rfl, Nat.le_refl _, fun _ _ => rfl⟩, O4.out.below ⟨rfl, rfl, rfl, Nat.le_refl _, fun _ _ => rfl⟩⟩
  have dRg : w.heap.size + 1 ≠ gr := fun q => d2 q.symm
  have dRO : w.heap.size + 1 ≠ w.heap.size := by omega
  go_upto_region 12 with fail
  refine Hr.Walk.region (R := fun _ x => Cs gr x [.int .i64 7, .int .i64 1, .int .i64 0, .bool false, .int .i64 0, .bool false, .slice none 0 0, .slice none 0 0, .slice none 0 0, .slice none 0 0, .slice (some ⟨gq, 0, none⟩) 1 1, .slice none 0 0, .slice none 0 0, .slice (some ⟨gm, 0, none⟩) 1 1, .slice none 0 0, .int .i64 1] ∧ Cs w.heap.size x [.int .i64 1, .int .i64 v, .int .i64 d]) (by kernel_rfl) ?_
  refine Hr.Walk.take (i := 0) (v := .agg #[.int .i64 7, .int .i64 1, .int .i64 0, .bool false, .int .i64 0, .bool false, .slice none 0 0, .slice none 0 0, .slice none 0 0, .slice none 0 0, .slice (some ⟨gq, 0, none⟩) 1 1, .slice none 0 0, .slice none 0 0, .slice (some ⟨gm, 0, none⟩) 1 1, .slice none 0 0, .int .i64 1]) (fun x => Cs gr x [.int .i64 7, .int .i64 1, .int .i64 0, .bool false, .int .i64 0, .bool false, .slice none 0 0, .slice none 0 0, .slice none 0 0, .slice none 0 0, .slice (some ⟨gq, 0, none⟩) 1 1, .slice none 0 0, .slice none 0 0, .slice (some ⟨gm, 0, none⟩) 1 1, .slice none 0 0, .int .i64 1] ∧ Cs w.heap.size x [.int .i64 1, .int .i64 v, .int .i64 d]) (fun _ => True) rfl (by kernel_rfl) (by kernel_rfl) (by kernel_rfl) (fun _ _ _ h => h) (fun _ _ _ _ _ _ => trivial) (fun _ _ _ h => h) (fun _ _ h => h) trivial (yieldsIf_load_mid (by rfl) 29 (.tmp 8) rfl gr 0 rfl [.int .i64 7, .int .i64 1, .int .i64 0, .bool false, .int .i64 0, .bool false, .slice none 0 0, .slice none 0 0, .slice none 0 0, .slice none 0 0, .slice (some ⟨gq, 0, none⟩) 1 1, .slice none 0 0, .slice none 0 0, .slice (some ⟨gm, 0, none⟩) 1 1, .slice none 0 0, .int .i64 1] _ (fun _ h => h.1.range) Try.underlying29 rfl (by kernel_rfl)) SZ.out SZ.out ?rest0
  (try go_simp)
  refine Hr.Walk.take (i := 1) (v := ?v1) (fun x => Cs gr x [.int .i64 7, .int .i64 1, .int .i64 0, .bool false, .int .i64 0, .bool false, .slice none 0 0, .slice none 0 0, .slice none 0 0, .slice none 0 0, .slice (some ⟨gq, 0, none⟩) 1 1, .slice none 0 0, .slice none 0 0, .slice (some ⟨gm, 0, none⟩) 1 1, .slice none 0 0, .int .i64 1] ∧ Cs w.heap.size x [.int .i64 1, .int .i64 v, .int .i64 d]) (fun _ => True) rfl (by kernel_rfl) (by kernel_rfl) (by kernel_rfl) (fun _ _ _ h => h) (fun _ _ _ _ _ _ => trivial) (fun _ _ _ h => h) (fun _ _ h => h) trivial (Or.inl ⟨by rfl, ?hy1⟩) SZ.out SZ.out ?rest1
  case hy1 => intro x hx; clear hx; go_simp; try with_reducible rfl
  (try go_simp)
  refine Hr.Walk.take (i := 2) (v := ?v2) (fun x => Cs gr x [.int .i64 7, .int .i64 1, .int .i64 0, .bool false, .int .i64 0, .bool false, .slice none 0 0, .slice none 0 0, .slice none 0 0, .slice none 0 0, .slice (some ⟨gq, 0, none⟩) 1 1, .slice none 0 0, .slice none 0 0, .slice (some ⟨gm, 0, none⟩) 1 1, .slice none 0 0, .int .i64 1] ∧ Cs w.heap.size x [.int .i64 1, .int .i64 v, .int .i64 d]) (fun _ => True) rfl (by kernel_rfl) (by kernel_rfl) (by kernel_rfl) (fun _ _ _ h => h) (fun _ _ _ _ _ _ => trivial) (fun _ _ _ h => h) (fun _ _ h => h) trivial (Or.inl ⟨by rfl, ?hy2⟩) SZ.out SZ.out ?rest2
  case hy2 => intro x hx; have q2 := (hx.2.2 2 _ rfl).1; clear hx; go_simp; try with_reducible rfl
  (try go_simp)
  refine Hr.Walk.take (i := 3) (v := ?v3) (fun x => Cs gr x [.int .i64 7, .int .i64 1, .int .i64 0, .bool false, .int .i64 0, .bool false, .slice none 0 0, .slice none 0 0, .slice none 0 0, .slice none 0 0, .slice (some ⟨gq, 0, none⟩) 1 1, .slice none 0 0, .slice none 0 0, .slice (some ⟨gm, 0, none⟩) 1 1, .slice none 0 0, .int .i64 1] ∧ Cs w.heap.size x [.int .i64 1, .int .i64 v, .int .i64 d]) (fun _ => True) rfl (by kernel_rfl) (by kernel_rfl) (by kernel_rfl) (fun _ _ _ h => h) (fun _ _ _ _ _ _ => trivial) (fun _ _ _ h => h) (fun _ _ h => h) trivial (Or.inl ⟨by rfl, ?hy3⟩) SZ.out SZ.out ?rest3
  case hy3 => intro x hx; clear hx; go_simp; try with_reducible rfl
  (try go_simp)
  refine Hr.Walk.take (i := 4) (v := ?v4) (fun x => Cs gr x [.int .i64 7, .int .i64 1, .int .i64 0, .bool false, .int .i64 0, .bool false, .slice none 0 0, .slice none 0 0, .slice none 0 0, .slice none 0 0, .slice (some ⟨gq, 0, none⟩) 1 1, .slice none 0 0, .slice none 0 0, .slice (some ⟨gm, 0, none⟩) 1 1, .slice none 0 0, .int .i64 1] ∧ Cs w.heap.size x [.int .i64 1, .int .i64 v, .int .i64 d]) (fun _ => True) rfl (by kernel_rfl) (by kernel_rfl) (by kernel_rfl) (fun _ _ _ h => h) (fun _ _ _ _ _ _ => trivial) (fun _ _ _ h => h) (fun _ _ h => h) trivial (Or.inl ⟨by rfl, ?hy4⟩) SZ.out SZ.out ?rest4
  case hy4 => intro x hx; clear hx; go_simp; try with_reducible rfl
  (try go_simp)
  refine Hr.Walk.one (i := 5) (by kernel_rfl) rfl (fun K hK => ?_)
  go_simp
  refine hK.out _ _ SZ.out ?_
  clear hK K
  refine Hr.Walk.one (i := 6) (by kernel_rfl) rfl (fun K hK => ?_)
  go_simp
  go_at_call 18
  (with_reducible refine (rin_to T 1 L ib _ HIB.out).mono ?_)
  rintro e wq ⟨rfl, rfl⟩
  refine hK.out _ _ SZ.out ?_
  clear hK K
  refine Hr.Walk.one (i := 7) (by kernel_rfl) rfl (fun K hK => ?_)
  have RE := Lib.hid (Cs.row RD.out [.int .i64 7, .int .i64 1, .int .i64 0, .bool false, .int .i64 0, .bool false, .slice none 0 0, .slice none 0 0, .slice none 0 0, .slice none 0 0, .slice (some ⟨gq, 0, none⟩) 1 1, .slice none 0 0, .slice none 0 0, .slice (some ⟨gm, 0, none⟩) 1 1, .slice none 0 0, .int .i64 1] rfl)
  have DE := Lib.hid (Cs.rowOther (o := 0) DD.out d5 [.int .i64 7, .int .i64 1, .int .i64 0, .bool false, .int .i64 0, .bool false, .slice none 0 0, .slice none 0 0, .slice none 0 0, .slice none 0 0, .slice (some ⟨gq, 0, none⟩) 1 1, .slice none 0 0, .slice none 0 0, .slice (some ⟨gm, 0, none⟩) 1 1, .slice none 0 0, .int .i64 1])
  have ME := Lib.hid (Cs.rowOther (o := 0) MM.out d4 [.int .i64 7, .int .i64 1, .int .i64 0, .bool false, .int .i64 0, .bool false, .slice none 0 0, .slice none 0 0, .slice none 0 0, .slice none 0 0, .slice (some ⟨gq, 0, none⟩) 1 1, .slice none 0 0, .slice none 0 0, .slice (some ⟨gm, 0, none⟩) 1 1, .slice none 0 0, .int .i64 1])
  have BE := Lib.hid (below_setCells hgR [.int .i64 7, .int .i64 1, .int .i64 0, .bool false, .int .i64 0, .bool false, .slice none 0 0, .slice none 0 0, .slice none 0 0, .slice none 0 0, .slice (some ⟨gq, 0, none⟩) 1 1, .slice none 0 0, .slice none 0 0, .slice (some ⟨gm, 0, none⟩) 1 1, .slice none 0 0, .int .i64 1] 0 _ BD.out)
  have SE : Hid (Cs gr (w4.drew.setCells (w.heap.size + 1) 0 [.int .i64 7, .int .i64 1, .int .i64 0, .bool false, .int .i64 0, .bool false, .slice none 0 0, .slice none 0 0, .slice none 0 0, .slice none 0 0, .slice (some ⟨gq, 0, none⟩) 1 1, .slice none 0 0, .slice none 0 0, .slice (some ⟨gm, 0, none⟩) 1 1, .slice none 0 0, .int .i64 1]) [.int .i64 7, .int .i64 1, .int .i64 0, .bool false, .int .i64 0, .bool false, .slice none 0 0, .slice none 0 0, .slice none 0 0, .slice none 0 0, .slice (some ⟨gq, 0, none⟩) 1 1, .slice none 0 0, .slice none 0 0, .slice (some ⟨gm, 0, none⟩) 1 1, .slice none 0 0, .int .i64 1] ∧ Cs w.heap.size (w4.drew.setCells (w.heap.size + 1) 0 [.int .i64 7, .int .i64 1, .int .i64 0, .bool false, .int .i64 0, .bool false, .slice none 0 0, .slice none 0 0, .slice none 0 0, .slice none 0 0, .slice (some ⟨gq, 0, none⟩) 1 1, .slice none 0 0, .slice none 0 0, .slice (some ⟨gm, 0, none⟩) 1 1, .slice none 0 0, .int .i64 1]) [.int .i64 1, .int .i64 v, .int .i64 d]) := Lib.hid ⟨Cs.rowOther SZ.out.1 dRg _, Cs.rowOther SZ.out.2 dRO _⟩
  refine Eq.mpr (if_pos ?hc) ?_
  case hc => kernel_rfl
  refine wp_store_mid 29 (.tmp 6) (.tmp 48) rfl (w.heap.size + 1) 0 #[.int .i64 7, .int .i64 1, .int .i64 0, .bool false, .int .i64 0, .bool false, .slice none 0 0, .slice none 0 0, .slice none 0 0, .slice none 0 0, .slice (some ⟨gq, 0, none⟩) 1 1, .slice none 0 0, .slice none 0 0, .slice (some ⟨gm, 0, none⟩) 1 1, .slice none 0 0, .int .i64 1] rfl rfl RD.out.there (by kernel_rfl) (by kernel_rfl) ?_
  refine hK.out _ _ SE.out ?_
  clear hK K
  (try go_simp)
  refine Hr.Walk.one (i := 8) (by kernel_rfl) rfl (fun K hK => ?_)
  go_simp
  refine hK.out _ _ SE.out ?_
  clear hK K
  refine Hr.Walk.done (by kernel_rfl) ?_ _
  go_wp2
  refine bodyPost_ret (v := .tuple #[.agg #[.int .i64 7, .int .i64 1, .int .i64 0, .bool false, .int .i64 0, .bool false, .slice none 0 0, .slice none 0 0, .slice none 0 0, .slice none 0 0, .slice (some ⟨gq, 0, none⟩) 1 1, .slice none 0 0, .slice none 0 0, .slice (some ⟨gm, 0, none⟩) 1 1, .slice none 0 0, .int .i64 1], .bool ib]) (res_by RE.out (fun W h => by obtain ⟨⟨t0, t1, t2, t3, t4, t5, t6, t7, t8, t9, t10, t11, t12, t13, t14, t15⟩, _⟩ := cells16 h; simp [results, Try.results8, go_sem, t0, t1, t2, t3, t4, t5, t6, t7, t8, t9, t10, t11, t12, t13, t14, t15])) rfl ?_
  cases ib with
  | false =>
    have hq := of_decide_eq_false HIB.out
    exact ron_no (by have q := HX.out; rw [if_pos (by omega)] at q; exact q) rfl BE.out
  | true =>
    have hq := of_decide_eq_true HIB.out
    exact ron_yes (by have q := HX.out; rw [if_neg (by omega)] at q; exact q) rfl (fun _ _ => DayV.none _) (fun _ hk => Rcv.int_one (hk.1 _ _ HG.out.2 DE.out)) HG.out.1 ME.out BE.out
end Enc
end Go.Proofs.Ytkbgobbkhiaabaa
