/-
  The reference's Zone. (Written by gen/gen_zeh.py.)
-/
import Derived.Test.YthefgagmjamdkaaGreatDoorZeA
import Derived.Test.YthefgagmjamdkaaGreatDoorZeE
namespace Go.Proofs.YthefgagmjamdkaaGreatDoor
open Go.RowKit
namespace Zon
open Sol Clk Cel Rul Rs

theorem ret_bz {a b : Bool} (h : a = b) : Ending.returned (.bool a) = .returned (.bool b) := by rw [h]
/-- An era's load, alone. -/
theorem ldE1 {op : Oper} {a : Act} {w : World} {K : Act → World → Prop} {Q : Exit → Act → World → Prop} {g o : Nat} {x : Operand} {vs : List Value} (C : w.rangeAt g o vs) (hv : vs.length = 13) (ho : op.op = .load 30 x) (hx : a.eval x = .pointer (some ⟨g, o, none⟩)) (h : K (a.put op.dst (.agg vs.toArray)) w) : Oper.wp Tryz.prog op a w K Q :=
  wp_load_mid _ x ho g o hx vs _ C Tryz.underlying30 rfl (by rw [hv]; kernel_rfl) h
structure ZrS (w : World) (b o g : Nat) (vs zs : List Value) (x : World) : Prop where
  r : x.rangeAt b o vs
  l : b < x.heap.size
  c : Cs g x zs
  g : Below w.heap.size w x
theorem ZrS.below {w : World} {b o g : Nat} {vs zs : List Value} {x y : World} (h : ZrS w b o g vs zs x) (k : Below x.heap.size x y) : ZrS w b o g vs zs y := ⟨range_below h.l h.r k, Nat.lt_of_lt_of_le h.l k.size, h.c.below k, bstep h.g k⟩
theorem ZrS.drew {w : World} {b o g : Nat} {vs zs : List Value} {x : World} (h : ZrS w b o g vs zs x) : ZrS w b o g vs zs x.drew := ⟨h.r, h.l, h.c.drewN 1, below_drewN h.g 1⟩
set_option maxHeartbeats 25600000 in
set_option maxRecDepth 100000 in
theorem rzn_row (NM : List UInt8) (b off c0 : Nat) (L : List EV) (q : Bool) (w : World) (hbl : b < w.heap.size) (hp : Hid (∀ (j : Nat) (hj : j < L.length), w.rangeAt b (off + j * 13) (erC L[j]))) (m : NM.length ≤ 1000) (h1 : 1 ≤ L.length) (h30 : L.length ≤ 30) (hbd : Hid (∀ e ∈ L, e.ru.length ≤ 1000 ∧ e.fm.length ≤ 1000)) (hn : Hid (nameB NM = true))
    (hE : Hid (erG L L.length = q)) :
    Calls Tryz.prog 15 #[.agg #[.string ⟨NM.toArray⟩, .slice (some ⟨b, off, none⟩) L.length c0]] w fun x w' => x = .returned (.bool q) ∧ Below w.heap.size w w' := by
  obtain ⟨N, hN⟩ : ∃ N, L.length = N := ⟨_, rfl⟩
  rw [hN] at h1 h30 hE ⊢
  have HN := Lib.hid hN
  have SM : Hid ((⟨NM.toArray⟩ : ByteArray).size ≤ 1000) := Lib.hid m
  have hin : Hid (decide ((1 : Int) ≤ (N : Int) ∧ (N : Int) ≤ 30) = true) := Lib.hid (decide_eq_true (by omega))
  clear hN m
  have C0 := Lib.hid (Cs.new w [.string ⟨NM.toArray⟩, .slice (some ⟨b, off, none⟩) N c0] 24)
  have B0 := Lib.hid ((Below.refl w.heap.size w).alloc (Nat.le_refl _) (Obj.cells #[.string ⟨NM.toArray⟩, .slice (some ⟨b, off, none⟩) N c0] 24))
  go_enter Tryz.func15, Tryz.ntmps15
  go_wp2_with fail
  refine (rnam_to _ NM true _ SM.out (Lib.hid rfl) hn).mono ?_
  rintro e w1 ⟨rfl, rfl⟩
  go_wp2_with fail
  refine (Fm.rin9_to N 1 30 true _ hin).mono ?_
  rintro e w1 ⟨rfl, rfl⟩
  go_wp2
  go_loopw [3] (fun iv wr => ∃ k : Nat, k ≤ N ∧ iv = .int .i64 k ∧ Hid (erG L k = true) ∧ Hid (Cs w.heap.size wr [.string ⟨NM.toArray⟩, .slice (some ⟨b, off, none⟩) N c0]) ∧ Hid (Below w.heap.size w wr)) (fun i _ => N - (intOf i).toNat)
  case atStart => exact ⟨0, Nat.zero_le _, rfl, Lib.hid rfl, C0, B0⟩
  case round =>
    obtain ⟨k, hk, rfl, hall, HC, HB⟩ := hrel
    obtain ⟨wo, rfl⟩ : ∃ wo : World, wo = wr := ⟨_, rfl⟩
    have z1 := (HC.out.2 1 _ rfl).1
    clear C0 B0
    by_cases hlt : k < N
    · have hkp : k < L.length := by rw [HN.out]; exact hlt
      have r0 := range_below hbl (hp.out k hkp) HB.out
      obtain ⟨r, hr⟩ : ∃ r, L[k]'hkp = r := ⟨_, rfl⟩
      rw [hr] at r0
      obtain ⟨s1, s2⟩ := hbd.out r (hr ▸ List.getElem_mem hkp)
      have HNX : Hid (eAt L k r = true → erG L (k + 1) = true) := Lib.hid (fun e => by rw [erG_succ hkp, hall.out, hr, e]; rfl)
      have HNO : Hid (eAt L k r = false → false = q) := Lib.hid (fun e => by rw [← hE.out, erG_no hkp hlt (by rw [hr]; exact e)])
      clear hr hkp hall
      obtain ⟨st, kd, sv, ru, fm, un, yr, mo, k9, v, d, n, c⟩ := r
      have S0 : Hid (ZrS w b (off + k * 13) w.heap.size [.int .i64 st, .int .i64 kd, .int .i64 sv, .string ⟨ru.toArray⟩, .string ⟨fm.toArray⟩, .bool un, .int .i64 yr, .int .i64 mo, .int .i64 k9, .int .i64 v, .int .i64 d, .int .i64 n, .int .i64 c] [.string ⟨NM.toArray⟩, .slice (some ⟨b, off, none⟩) N c0] wo) := Lib.hid ⟨r0, Nat.lt_of_lt_of_le hbl HB.out.size, HC.out, HB.out⟩
      have wk : IntKind.i64.wrap ((N : Int) - 1) = (N : Int) - 1 := by rw [IntKind.wrap_i64]; omega
      clear r0
      cases hrg : rgB ⟨st, kd, sv, ru, fm, un, yr, mo, k9, v, d, n, c⟩ with
      | false =>
        have HR := Lib.hid (HNO.out (by rw [eAt, hrg]; rfl))
        have HG := Lib.hid hrg
        clear HNO HNX hrg
        go_upto_region 6 with fail
        refine Hr.Walk.region (R := fun _ x => ZrS w b (off + k * 13) w.heap.size [.int .i64 st, .int .i64 kd, .int .i64 sv, .string ⟨ru.toArray⟩, .string ⟨fm.toArray⟩, .bool un, .int .i64 yr, .int .i64 mo, .int .i64 k9, .int .i64 v, .int .i64 d, .int .i64 n, .int .i64 c] [.string ⟨NM.toArray⟩, .slice (some ⟨b, off, none⟩) N c0] x) (by kernel_rfl) ?_
        obtain ⟨w1, hw1⟩ : ∃ z, wo.drew = z := ⟨_, rfl⟩
        have S1 : Hid (ZrS w b (off + k * 13) w.heap.size [.int .i64 st, .int .i64 kd, .int .i64 sv, .string ⟨ru.toArray⟩, .string ⟨fm.toArray⟩, .bool un, .int .i64 yr, .int .i64 mo, .int .i64 k9, .int .i64 v, .int .i64 d, .int .i64 n, .int .i64 c] [.string ⟨NM.toArray⟩, .slice (some ⟨b, off, none⟩) N c0] w1) := Lib.hid (by rw [← hw1]; exact S0.out.drew)
        rw [hw1]
        clear hw1 S0 HC HB
        refine Hr.Walk.take (i := 0) (v := ?va0) (fun x => ZrS w b (off + k * 13) w.heap.size [.int .i64 st, .int .i64 kd, .int .i64 sv, .string ⟨ru.toArray⟩, .string ⟨fm.toArray⟩, .bool un, .int .i64 yr, .int .i64 mo, .int .i64 k9, .int .i64 v, .int .i64 d, .int .i64 n, .int .i64 c] [.string ⟨NM.toArray⟩, .slice (some ⟨b, off, none⟩) N c0] x) (fun _ => True) rfl (by kernel_rfl) (by kernel_rfl) (by kernel_rfl) (fun _ _ _ h => h) (fun _ _ _ _ _ _ => trivial) (fun _ _ _ h => h) (fun _ _ h => h) trivial (Or.inl ⟨by rfl, ?hya0⟩) S1.out S1.out ?resta0
        case hya0 => intro x hx; have y1 := (hx.c.2 1 _ rfl).1; have y5 := hx.r 5 _ rfl; clear hx; go_simp; try with_reducible rfl
        (try go_simp)
        refine Hr.Walk.take (i := 1) (v := ?va1) (fun x => ZrS w b (off + k * 13) w.heap.size [.int .i64 st, .int .i64 kd, .int .i64 sv, .string ⟨ru.toArray⟩, .string ⟨fm.toArray⟩, .bool un, .int .i64 yr, .int .i64 mo, .int .i64 k9, .int .i64 v, .int .i64 d, .int .i64 n, .int .i64 c] [.string ⟨NM.toArray⟩, .slice (some ⟨b, off, none⟩) N c0] x) (fun _ => True) rfl (by kernel_rfl) (by kernel_rfl) (by kernel_rfl) (fun _ _ _ h => h) (fun _ _ _ _ _ _ => trivial) (fun _ _ _ h => h) (fun _ _ h => h) trivial (Or.inl ⟨by rfl, ?hya1⟩) S1.out S1.out ?resta1
        case hya1 => intro x hx; have y1 := (hx.c.2 1 _ rfl).1; have y5 := hx.r 5 _ rfl; clear hx; go_simp; try with_reducible rfl
        (try go_simp)
        refine Hr.Walk.one (i := 2) (by kernel_rfl) rfl (fun K hK => ?_)
        have hx := S1.out; have y1 := (hx.c.2 1 _ rfl).1; have y5 := hx.r 5 _ rfl; clear hx
        go_simp
        refine hK.out _ _ S1.out ?_
        clear hK K
        refine Hr.Walk.one (i := 3) (by kernel_rfl) rfl (fun K hK => ?_)
        have hx := S1.out; have y1 := (hx.c.2 1 _ rfl).1; have y5 := hx.r 5 _ rfl; clear hx
        go_simp
        refine hK.out _ _ S1.out ?_
        clear hK K
        refine Hr.Walk.one (i := 4) (by kernel_rfl) rfl (fun K hK => ?_)
        rw [if_pos (by rfl)]
        refine ldE1 S1.out.r rfl (by rfl) (by rfl) ?_
        refine hK.out _ _ S1.out ?_
        clear hK K
        refine Hr.Walk.one (i := 5) (by kernel_rfl) rfl (fun K hK => ?_)
        go_simp
        refine (rera_to st kd sv ru fm un yr mo k9 v d n c false _ s1 s2 HG).mono ?_
        rintro e w5 ⟨rfl, k5⟩
        have S2 := Lib.hid (S1.out.below k5)
        clear k5
        go_simp
        refine hK.out _ _ S2.out ?_
        clear hK K
        refine Hr.Walk.one (i := 6) (by kernel_rfl) rfl (fun K hK => ?_)
        have hx := S2.out; have y1 := (hx.c.2 1 _ rfl).1; have y5 := hx.r 5 _ rfl; clear hx
        go_simp
        refine hK.out _ _ S2.out ?_
        clear hK K
        refine Hr.Walk.one (i := 7) (by kernel_rfl) rfl (fun K hK => ?_)
        have hx := S2.out; have y1 := (hx.c.2 1 _ rfl).1; have y5 := hx.r 5 _ rfl; clear hx
        go_simp
        refine hK.out _ _ S2.out ?_
        clear hK K
        refine Hr.Walk.take (i := 8) (v := undef) (fun x => ZrS w b (off + k * 13) w.heap.size [.int .i64 st, .int .i64 kd, .int .i64 sv, .string ⟨ru.toArray⟩, .string ⟨fm.toArray⟩, .bool un, .int .i64 yr, .int .i64 mo, .int .i64 k9, .int .i64 v, .int .i64 d, .int .i64 n, .int .i64 c] [.string ⟨NM.toArray⟩, .slice (some ⟨b, off, none⟩) N c0] x) (fun _ => True) rfl (by kernel_rfl) (by kernel_rfl) (by kernel_rfl) (fun _ _ _ h => h) (fun _ _ _ _ _ _ => trivial) (fun _ _ _ h => h) (fun _ _ h => h) trivial (Or.inr ⟨by rfl, rfl⟩) S2.out S2.out ?_
        (try go_simp)
        refine Hr.Walk.take (i := 9) (v := undef) (fun x => ZrS w b (off + k * 13) w.heap.size [.int .i64 st, .int .i64 kd, .int .i64 sv, .string ⟨ru.toArray⟩, .string ⟨fm.toArray⟩, .bool un, .int .i64 yr, .int .i64 mo, .int .i64 k9, .int .i64 v, .int .i64 d, .int .i64 n, .int .i64 c] [.string ⟨NM.toArray⟩, .slice (some ⟨b, off, none⟩) N c0] x) (fun _ => True) rfl (by kernel_rfl) (by kernel_rfl) (by kernel_rfl) (fun _ _ _ h => h) (fun _ _ _ _ _ _ => trivial) (fun _ _ _ h => h) (fun _ _ h => h) trivial (Or.inr ⟨by rfl, rfl⟩) S2.out S2.out ?_
        (try go_simp)
        refine Hr.Walk.take (i := 10) (v := undef) (fun x => ZrS w b (off + k * 13) w.heap.size [.int .i64 st, .int .i64 kd, .int .i64 sv, .string ⟨ru.toArray⟩, .string ⟨fm.toArray⟩, .bool un, .int .i64 yr, .int .i64 mo, .int .i64 k9, .int .i64 v, .int .i64 d, .int .i64 n, .int .i64 c] [.string ⟨NM.toArray⟩, .slice (some ⟨b, off, none⟩) N c0] x) (fun _ => True) rfl (by kernel_rfl) (by kernel_rfl) (by kernel_rfl) (fun _ _ _ h => h) (fun _ _ _ _ _ _ => trivial) (fun _ _ _ h => h) (fun _ _ h => h) trivial (Or.inr ⟨by rfl, rfl⟩) S2.out S2.out ?_
        (try go_simp)
        refine Hr.Walk.take (i := 11) (v := undef) (fun x => ZrS w b (off + k * 13) w.heap.size [.int .i64 st, .int .i64 kd, .int .i64 sv, .string ⟨ru.toArray⟩, .string ⟨fm.toArray⟩, .bool un, .int .i64 yr, .int .i64 mo, .int .i64 k9, .int .i64 v, .int .i64 d, .int .i64 n, .int .i64 c] [.string ⟨NM.toArray⟩, .slice (some ⟨b, off, none⟩) N c0] x) (fun _ => True) rfl (by kernel_rfl) (by kernel_rfl) (by kernel_rfl) (fun _ _ _ h => h) (fun _ _ _ _ _ _ => trivial) (fun _ _ _ h => h) (fun _ _ h => h) trivial (Or.inr ⟨by rfl, rfl⟩) S2.out S2.out ?_
        (try go_simp)
        refine Hr.Walk.take (i := 12) (v := undef) (fun x => ZrS w b (off + k * 13) w.heap.size [.int .i64 st, .int .i64 kd, .int .i64 sv, .string ⟨ru.toArray⟩, .string ⟨fm.toArray⟩, .bool un, .int .i64 yr, .int .i64 mo, .int .i64 k9, .int .i64 v, .int .i64 d, .int .i64 n, .int .i64 c] [.string ⟨NM.toArray⟩, .slice (some ⟨b, off, none⟩) N c0] x) (fun _ => True) rfl (by kernel_rfl) (by kernel_rfl) (by kernel_rfl) (fun _ _ _ h => h) (fun _ _ _ _ _ _ => trivial) (fun _ _ _ h => h) (fun _ _ h => h) trivial (Or.inr ⟨by rfl, rfl⟩) S2.out S2.out ?_
        (try go_simp)
        refine Hr.Walk.take (i := 13) (v := undef) (fun x => ZrS w b (off + k * 13) w.heap.size [.int .i64 st, .int .i64 kd, .int .i64 sv, .string ⟨ru.toArray⟩, .string ⟨fm.toArray⟩, .bool un, .int .i64 yr, .int .i64 mo, .int .i64 k9, .int .i64 v, .int .i64 d, .int .i64 n, .int .i64 c] [.string ⟨NM.toArray⟩, .slice (some ⟨b, off, none⟩) N c0] x) (fun _ => True) rfl (by kernel_rfl) (by kernel_rfl) (by kernel_rfl) (fun _ _ _ h => h) (fun _ _ _ _ _ _ => trivial) (fun _ _ _ h => h) (fun _ _ h => h) trivial (Or.inr ⟨by rfl, rfl⟩) S2.out S2.out ?_
        (try go_simp)
        refine Hr.Walk.take (i := 14) (v := undef) (fun x => ZrS w b (off + k * 13) w.heap.size [.int .i64 st, .int .i64 kd, .int .i64 sv, .string ⟨ru.toArray⟩, .string ⟨fm.toArray⟩, .bool un, .int .i64 yr, .int .i64 mo, .int .i64 k9, .int .i64 v, .int .i64 d, .int .i64 n, .int .i64 c] [.string ⟨NM.toArray⟩, .slice (some ⟨b, off, none⟩) N c0] x) (fun _ => True) rfl (by kernel_rfl) (by kernel_rfl) (by kernel_rfl) (fun _ _ _ h => h) (fun _ _ _ _ _ _ => trivial) (fun _ _ _ h => h) (fun _ _ h => h) trivial (Or.inr ⟨by rfl, rfl⟩) S2.out S2.out ?_
        (try go_simp)
        refine Hr.Walk.one (i := 15) (by kernel_rfl) rfl (fun K hK => ?_)
        have hx := S2.out; have y1 := (hx.c.2 1 _ rfl).1; have y5 := hx.r 5 _ rfl; clear hx
        go_simp
        refine hK.out _ _ S2.out ?_
        clear hK K
        refine Hr.Walk.one (i := 16) (by kernel_rfl) rfl (fun K hK => ?_)
        have hx := S2.out; have y1 := (hx.c.2 1 _ rfl).1; have y5 := hx.r 5 _ rfl; clear hx
        go_simp
        refine hK.out _ _ S2.out ?_
        clear hK K
        refine Hr.Walk.one (i := 17) (by kernel_rfl) rfl (fun K hK => ?_)
        have hx := S2.out; have y1 := (hx.c.2 1 _ rfl).1; have y5 := hx.r 5 _ rfl; clear hx
        go_simp
        refine hK.out _ _ S2.out ?_
        clear hK K
        refine Hr.Walk.one (i := 18) (by kernel_rfl) rfl (fun K hK => ?_)
        have hx := S2.out; have y1 := (hx.c.2 1 _ rfl).1; have y5 := hx.r 5 _ rfl; clear hx
        go_simp
        refine hK.out _ _ S2.out ?_
        clear hK K
        refine Hr.Walk.one (i := 19) (by kernel_rfl) rfl (fun K hK => ?_)
        have hx := S2.out; have y1 := (hx.c.2 1 _ rfl).1; have y5 := hx.r 5 _ rfl; clear hx
        go_simp
        refine hK.out _ _ S2.out ?_
        clear hK K
        refine Hr.Walk.one (i := 20) (by kernel_rfl) rfl (fun K hK => ?_)
        have hx := S2.out; have y1 := (hx.c.2 1 _ rfl).1; have y5 := hx.r 5 _ rfl; clear hx
        go_simp
        refine hK.out _ _ S2.out ?_
        clear hK K
        refine Hr.Walk.one (i := 21) (by kernel_rfl) rfl (fun K hK => ?_)
        have hx := S2.out; have y1 := (hx.c.2 1 _ rfl).1; have y5 := hx.r 5 _ rfl; clear hx
        go_simp
        refine hK.out _ _ S2.out ?_
        clear hK K
        refine Hr.Walk.done (by kernel_rfl) ?_ _
        have HB2 := Lib.hid S2.out.g
        go_wp2
        go_ret
        exact ⟨ret_bz HR.out, HB2.out⟩
      | true =>
        by_cases hlast : k + 1 = N
        · have hd : ¬ (k : Int) < (N : Int) - 1 := by omega
          cases un with
          | false =>
            have HR := Lib.hid (HNX.out (by rw [eAt, hrg, HN.out, decide_eq_true hlast]; rfl))
            have HG := Lib.hid hrg
            clear HNO HNX hrg
            go_upto_region 6 with fail
            refine Hr.Walk.region (R := fun _ x => ZrS w b (off + k * 13) w.heap.size [.int .i64 st, .int .i64 kd, .int .i64 sv, .string ⟨ru.toArray⟩, .string ⟨fm.toArray⟩, .bool false, .int .i64 yr, .int .i64 mo, .int .i64 k9, .int .i64 v, .int .i64 d, .int .i64 n, .int .i64 c] [.string ⟨NM.toArray⟩, .slice (some ⟨b, off, none⟩) N c0] x) (by kernel_rfl) ?_
            obtain ⟨w1, hw1⟩ : ∃ z, wo.drew = z := ⟨_, rfl⟩
            have S1 : Hid (ZrS w b (off + k * 13) w.heap.size [.int .i64 st, .int .i64 kd, .int .i64 sv, .string ⟨ru.toArray⟩, .string ⟨fm.toArray⟩, .bool false, .int .i64 yr, .int .i64 mo, .int .i64 k9, .int .i64 v, .int .i64 d, .int .i64 n, .int .i64 c] [.string ⟨NM.toArray⟩, .slice (some ⟨b, off, none⟩) N c0] w1) := Lib.hid (by rw [← hw1]; exact S0.out.drew)
            rw [hw1]
            clear hw1 S0 HC HB
            refine Hr.Walk.take (i := 0) (v := ?vft0) (fun x => ZrS w b (off + k * 13) w.heap.size [.int .i64 st, .int .i64 kd, .int .i64 sv, .string ⟨ru.toArray⟩, .string ⟨fm.toArray⟩, .bool false, .int .i64 yr, .int .i64 mo, .int .i64 k9, .int .i64 v, .int .i64 d, .int .i64 n, .int .i64 c] [.string ⟨NM.toArray⟩, .slice (some ⟨b, off, none⟩) N c0] x) (fun _ => True) rfl (by kernel_rfl) (by kernel_rfl) (by kernel_rfl) (fun _ _ _ h => h) (fun _ _ _ _ _ _ => trivial) (fun _ _ _ h => h) (fun _ _ h => h) trivial (Or.inl ⟨by rfl, ?hyft0⟩) S1.out S1.out ?restft0
            case hyft0 => intro x hx; have y1 := (hx.c.2 1 _ rfl).1; have y5 := hx.r 5 _ rfl; clear hx; go_simp; try with_reducible rfl
            (try go_simp)
            refine Hr.Walk.take (i := 1) (v := ?vft1) (fun x => ZrS w b (off + k * 13) w.heap.size [.int .i64 st, .int .i64 kd, .int .i64 sv, .string ⟨ru.toArray⟩, .string ⟨fm.toArray⟩, .bool false, .int .i64 yr, .int .i64 mo, .int .i64 k9, .int .i64 v, .int .i64 d, .int .i64 n, .int .i64 c] [.string ⟨NM.toArray⟩, .slice (some ⟨b, off, none⟩) N c0] x) (fun _ => True) rfl (by kernel_rfl) (by kernel_rfl) (by kernel_rfl) (fun _ _ _ h => h) (fun _ _ _ _ _ _ => trivial) (fun _ _ _ h => h) (fun _ _ h => h) trivial (Or.inl ⟨by rfl, ?hyft1⟩) S1.out S1.out ?restft1
            case hyft1 => intro x hx; have y1 := (hx.c.2 1 _ rfl).1; have y5 := hx.r 5 _ rfl; clear hx; go_simp; try with_reducible rfl
            (try go_simp)
            refine Hr.Walk.one (i := 2) (by kernel_rfl) rfl (fun K hK => ?_)
            have hx := S1.out; have y1 := (hx.c.2 1 _ rfl).1; have y5 := hx.r 5 _ rfl; clear hx
            go_simp
            refine hK.out _ _ S1.out ?_
            clear hK K
            refine Hr.Walk.one (i := 3) (by kernel_rfl) rfl (fun K hK => ?_)
            have hx := S1.out; have y1 := (hx.c.2 1 _ rfl).1; have y5 := hx.r 5 _ rfl; clear hx
            go_simp
            refine hK.out _ _ S1.out ?_
            clear hK K
            refine Hr.Walk.one (i := 4) (by kernel_rfl) rfl (fun K hK => ?_)
            rw [if_pos (by rfl)]
            refine ldE1 S1.out.r rfl (by rfl) (by rfl) ?_
            refine hK.out _ _ S1.out ?_
            clear hK K
            refine Hr.Walk.one (i := 5) (by kernel_rfl) rfl (fun K hK => ?_)
            go_simp
            refine (rera_to st kd sv ru fm false yr mo k9 v d n c true _ s1 s2 HG).mono ?_
            rintro e w5 ⟨rfl, k5⟩
            have S2 := Lib.hid (S1.out.below k5)
            clear k5
            go_simp
            refine hK.out _ _ S2.out ?_
            clear hK K
            refine Hr.Walk.one (i := 6) (by kernel_rfl) rfl (fun K hK => ?_)
            have hx := S2.out; have y1 := (hx.c.2 1 _ rfl).1; have y5 := hx.r 5 _ rfl; clear hx
            go_simp
            refine hK.out _ _ S2.out ?_
            clear hK K
            refine Hr.Walk.one (i := 7) (by kernel_rfl) rfl (fun K hK => ?_)
            have hx := S2.out; have y1 := (hx.c.2 1 _ rfl).1; have y5 := hx.r 5 _ rfl; clear hx
            go_simp
            refine hK.out _ _ S2.out ?_
            clear hK K
            refine Hr.Walk.take (i := 8) (v := ?vft8) (fun x => ZrS w b (off + k * 13) w.heap.size [.int .i64 st, .int .i64 kd, .int .i64 sv, .string ⟨ru.toArray⟩, .string ⟨fm.toArray⟩, .bool false, .int .i64 yr, .int .i64 mo, .int .i64 k9, .int .i64 v, .int .i64 d, .int .i64 n, .int .i64 c] [.string ⟨NM.toArray⟩, .slice (some ⟨b, off, none⟩) N c0] x) (fun _ => True) rfl (by kernel_rfl) (by kernel_rfl) (by kernel_rfl) (fun _ _ _ h => h) (fun _ _ _ _ _ _ => trivial) (fun _ _ _ h => h) (fun _ _ h => h) trivial (Or.inl ⟨by rfl, ?hyft8⟩) S2.out S2.out ?restft8
            case hyft8 => intro x hx; have y1 := (hx.c.2 1 _ rfl).1; have y5 := hx.r 5 _ rfl; clear hx; go_simp; try with_reducible rfl
            (try go_simp)
            refine Hr.Walk.take (i := 9) (v := ?vft9) (fun x => ZrS w b (off + k * 13) w.heap.size [.int .i64 st, .int .i64 kd, .int .i64 sv, .string ⟨ru.toArray⟩, .string ⟨fm.toArray⟩, .bool false, .int .i64 yr, .int .i64 mo, .int .i64 k9, .int .i64 v, .int .i64 d, .int .i64 n, .int .i64 c] [.string ⟨NM.toArray⟩, .slice (some ⟨b, off, none⟩) N c0] x) (fun _ => True) rfl (by kernel_rfl) (by kernel_rfl) (by kernel_rfl) (fun _ _ _ h => h) (fun _ _ _ _ _ _ => trivial) (fun _ _ _ h => h) (fun _ _ h => h) trivial (Or.inl ⟨by rfl, ?hyft9⟩) S2.out S2.out ?restft9
            case hyft9 => intro x hx; have y1 := (hx.c.2 1 _ rfl).1; have y5 := hx.r 5 _ rfl; clear hx; go_simp; try with_reducible rfl
            (try go_simp)
            refine Hr.Walk.take (i := 10) (v := ?vft10) (fun x => ZrS w b (off + k * 13) w.heap.size [.int .i64 st, .int .i64 kd, .int .i64 sv, .string ⟨ru.toArray⟩, .string ⟨fm.toArray⟩, .bool false, .int .i64 yr, .int .i64 mo, .int .i64 k9, .int .i64 v, .int .i64 d, .int .i64 n, .int .i64 c] [.string ⟨NM.toArray⟩, .slice (some ⟨b, off, none⟩) N c0] x) (fun _ => True) rfl (by kernel_rfl) (by kernel_rfl) (by kernel_rfl) (fun _ _ _ h => h) (fun _ _ _ _ _ _ => trivial) (fun _ _ _ h => h) (fun _ _ h => h) trivial (Or.inl ⟨by rfl, ?hyft10⟩) S2.out S2.out ?restft10
            case hyft10 => intro x hx; have y1 := (hx.c.2 1 _ rfl).1; have y5 := hx.r 5 _ rfl; clear hx; go_simp; try with_reducible rfl
            (try go_simp)
            refine Hr.Walk.take (i := 11) (v := ?vft11) (fun x => ZrS w b (off + k * 13) w.heap.size [.int .i64 st, .int .i64 kd, .int .i64 sv, .string ⟨ru.toArray⟩, .string ⟨fm.toArray⟩, .bool false, .int .i64 yr, .int .i64 mo, .int .i64 k9, .int .i64 v, .int .i64 d, .int .i64 n, .int .i64 c] [.string ⟨NM.toArray⟩, .slice (some ⟨b, off, none⟩) N c0] x) (fun _ => True) rfl (by kernel_rfl) (by kernel_rfl) (by kernel_rfl) (fun _ _ _ h => h) (fun _ _ _ _ _ _ => trivial) (fun _ _ _ h => h) (fun _ _ h => h) trivial (Or.inl ⟨by rfl, ?hyft11⟩) S2.out S2.out ?restft11
            case hyft11 => intro x hx; have y1 := (hx.c.2 1 _ rfl).1; have y5 := hx.r 5 _ rfl; clear hx; go_simp; try with_reducible rfl
            (try go_simp)
            refine Hr.Walk.take (i := 12) (v := ?vft12) (fun x => ZrS w b (off + k * 13) w.heap.size [.int .i64 st, .int .i64 kd, .int .i64 sv, .string ⟨ru.toArray⟩, .string ⟨fm.toArray⟩, .bool false, .int .i64 yr, .int .i64 mo, .int .i64 k9, .int .i64 v, .int .i64 d, .int .i64 n, .int .i64 c] [.string ⟨NM.toArray⟩, .slice (some ⟨b, off, none⟩) N c0] x) (fun _ => True) rfl (by kernel_rfl) (by kernel_rfl) (by kernel_rfl) (fun _ _ _ h => h) (fun _ _ _ _ _ _ => trivial) (fun _ _ _ h => h) (fun _ _ h => h) trivial (Or.inl ⟨by rfl, ?hyft12⟩) S2.out S2.out ?restft12
            case hyft12 => intro x hx; have y1 := (hx.c.2 1 _ rfl).1; have y5 := hx.r 5 _ rfl; clear hx; go_simp; try with_reducible rfl
            (try go_simp)
            refine Hr.Walk.take (i := 13) (v := ?vft13) (fun x => ZrS w b (off + k * 13) w.heap.size [.int .i64 st, .int .i64 kd, .int .i64 sv, .string ⟨ru.toArray⟩, .string ⟨fm.toArray⟩, .bool false, .int .i64 yr, .int .i64 mo, .int .i64 k9, .int .i64 v, .int .i64 d, .int .i64 n, .int .i64 c] [.string ⟨NM.toArray⟩, .slice (some ⟨b, off, none⟩) N c0] x) (fun _ => True) rfl (by kernel_rfl) (by kernel_rfl) (by kernel_rfl) (fun _ _ _ h => h) (fun _ _ _ _ _ _ => trivial) (fun _ _ _ h => h) (fun _ _ h => h) trivial (Or.inl ⟨by rfl, ?hyft13⟩) S2.out S2.out ?restft13
            case hyft13 => intro x hx; have y1 := (hx.c.2 1 _ rfl).1; have y5 := hx.r 5 _ rfl; clear hx; go_simp; try with_reducible rfl
            (try go_simp)
            refine Hr.Walk.take (i := 14) (v := ?vft14) (fun x => ZrS w b (off + k * 13) w.heap.size [.int .i64 st, .int .i64 kd, .int .i64 sv, .string ⟨ru.toArray⟩, .string ⟨fm.toArray⟩, .bool false, .int .i64 yr, .int .i64 mo, .int .i64 k9, .int .i64 v, .int .i64 d, .int .i64 n, .int .i64 c] [.string ⟨NM.toArray⟩, .slice (some ⟨b, off, none⟩) N c0] x) (fun _ => True) rfl (by kernel_rfl) (by kernel_rfl) (by kernel_rfl) (fun _ _ _ h => h) (fun _ _ _ _ _ _ => trivial) (fun _ _ _ h => h) (fun _ _ h => h) trivial (Or.inl ⟨by rfl, ?hyft14⟩) S2.out S2.out ?restft14
            case hyft14 => intro x hx; have y1 := (hx.c.2 1 _ rfl).1; have y5 := hx.r 5 _ rfl; clear hx; go_simp; try with_reducible rfl
            (try go_simp)
            refine Hr.Walk.one (i := 15) (by kernel_rfl) rfl (fun K hK => ?_)
            have hx := S2.out; have y1 := (hx.c.2 1 _ rfl).1; have y5 := hx.r 5 _ rfl; clear hx
            go_simp
            refine hK.out _ _ S2.out ?_
            clear hK K
            refine Hr.Walk.one (i := 16) (by kernel_rfl) rfl (fun K hK => ?_)
            have hx := S2.out; have y1 := (hx.c.2 1 _ rfl).1; have y5 := hx.r 5 _ rfl; clear hx
            go_simp
            refine hK.out _ _ S2.out ?_
            clear hK K
            refine Hr.Walk.one (i := 17) (by kernel_rfl) rfl (fun K hK => ?_)
            have hx := S2.out; have y1 := (hx.c.2 1 _ rfl).1; have y5 := hx.r 5 _ rfl; clear hx
            go_simp
            refine hK.out _ _ S2.out ?_
            clear hK K
            refine Hr.Walk.one (i := 18) (by kernel_rfl) rfl (fun K hK => ?_)
            have hx := S2.out; have y1 := (hx.c.2 1 _ rfl).1; have y5 := hx.r 5 _ rfl; clear hx
            go_simp
            refine hK.out _ _ S2.out ?_
            clear hK K
            refine Hr.Walk.one (i := 19) (by kernel_rfl) rfl (fun K hK => ?_)
            have hx := S2.out; have y1 := (hx.c.2 1 _ rfl).1; have y5 := hx.r 5 _ rfl; clear hx
            go_simp
            refine hK.out _ _ S2.out ?_
            clear hK K
            refine Hr.Walk.one (i := 20) (by kernel_rfl) rfl (fun K hK => ?_)
            have hx := S2.out; have y1 := (hx.c.2 1 _ rfl).1; have y5 := hx.r 5 _ rfl; clear hx
            go_simp
            refine hK.out _ _ S2.out ?_
            clear hK K
            refine Hr.Walk.one (i := 21) (by kernel_rfl) rfl (fun K hK => ?_)
            have hx := S2.out; have y1 := (hx.c.2 1 _ rfl).1; have y5 := hx.r 5 _ rfl; clear hx
            go_simp
            refine hK.out _ _ S2.out ?_
            clear hK K
            refine Hr.Walk.done (by kernel_rfl) ?_ _
            have HC2 := Lib.hid S2.out.c
            have HB2 := Lib.hid S2.out.g
            go_wp2
            go_roundw
            case rel => exact ⟨k + 1, by omega, by go_num, HR, HC2, HB2⟩
            case measure => simp [intOf]; omega
          | true =>
            have HR := Lib.hid (HNO.out (by rw [eAt, HN.out, decide_eq_true hlast]; simp))
            have HG := Lib.hid hrg
            clear HNO HNX hrg
            go_upto_region 6 with fail
            refine Hr.Walk.region (R := fun _ x => ZrS w b (off + k * 13) w.heap.size [.int .i64 st, .int .i64 kd, .int .i64 sv, .string ⟨ru.toArray⟩, .string ⟨fm.toArray⟩, .bool true, .int .i64 yr, .int .i64 mo, .int .i64 k9, .int .i64 v, .int .i64 d, .int .i64 n, .int .i64 c] [.string ⟨NM.toArray⟩, .slice (some ⟨b, off, none⟩) N c0] x) (by kernel_rfl) ?_
            obtain ⟨w1, hw1⟩ : ∃ z, wo.drew = z := ⟨_, rfl⟩
            have S1 : Hid (ZrS w b (off + k * 13) w.heap.size [.int .i64 st, .int .i64 kd, .int .i64 sv, .string ⟨ru.toArray⟩, .string ⟨fm.toArray⟩, .bool true, .int .i64 yr, .int .i64 mo, .int .i64 k9, .int .i64 v, .int .i64 d, .int .i64 n, .int .i64 c] [.string ⟨NM.toArray⟩, .slice (some ⟨b, off, none⟩) N c0] w1) := Lib.hid (by rw [← hw1]; exact S0.out.drew)
            rw [hw1]
            clear hw1 S0 HC HB
            refine Hr.Walk.take (i := 0) (v := ?vtt0) (fun x => ZrS w b (off + k * 13) w.heap.size [.int .i64 st, .int .i64 kd, .int .i64 sv, .string ⟨ru.toArray⟩, .string ⟨fm.toArray⟩, .bool true, .int .i64 yr, .int .i64 mo, .int .i64 k9, .int .i64 v, .int .i64 d, .int .i64 n, .int .i64 c] [.string ⟨NM.toArray⟩, .slice (some ⟨b, off, none⟩) N c0] x) (fun _ => True) rfl (by kernel_rfl) (by kernel_rfl) (by kernel_rfl) (fun _ _ _ h => h) (fun _ _ _ _ _ _ => trivial) (fun _ _ _ h => h) (fun _ _ h => h) trivial (Or.inl ⟨by rfl, ?hytt0⟩) S1.out S1.out ?resttt0
            case hytt0 => intro x hx; have y1 := (hx.c.2 1 _ rfl).1; have y5 := hx.r 5 _ rfl; clear hx; go_simp; try with_reducible rfl
            (try go_simp)
            refine Hr.Walk.take (i := 1) (v := ?vtt1) (fun x => ZrS w b (off + k * 13) w.heap.size [.int .i64 st, .int .i64 kd, .int .i64 sv, .string ⟨ru.toArray⟩, .string ⟨fm.toArray⟩, .bool true, .int .i64 yr, .int .i64 mo, .int .i64 k9, .int .i64 v, .int .i64 d, .int .i64 n, .int .i64 c] [.string ⟨NM.toArray⟩, .slice (some ⟨b, off, none⟩) N c0] x) (fun _ => True) rfl (by kernel_rfl) (by kernel_rfl) (by kernel_rfl) (fun _ _ _ h => h) (fun _ _ _ _ _ _ => trivial) (fun _ _ _ h => h) (fun _ _ h => h) trivial (Or.inl ⟨by rfl, ?hytt1⟩) S1.out S1.out ?resttt1
            case hytt1 => intro x hx; have y1 := (hx.c.2 1 _ rfl).1; have y5 := hx.r 5 _ rfl; clear hx; go_simp; try with_reducible rfl
            (try go_simp)
            refine Hr.Walk.one (i := 2) (by kernel_rfl) rfl (fun K hK => ?_)
            have hx := S1.out; have y1 := (hx.c.2 1 _ rfl).1; have y5 := hx.r 5 _ rfl; clear hx
            go_simp
            refine hK.out _ _ S1.out ?_
            clear hK K
            refine Hr.Walk.one (i := 3) (by kernel_rfl) rfl (fun K hK => ?_)
            have hx := S1.out; have y1 := (hx.c.2 1 _ rfl).1; have y5 := hx.r 5 _ rfl; clear hx
            go_simp
            refine hK.out _ _ S1.out ?_
            clear hK K
            refine Hr.Walk.one (i := 4) (by kernel_rfl) rfl (fun K hK => ?_)
            rw [if_pos (by rfl)]
            refine ldE1 S1.out.r rfl (by rfl) (by rfl) ?_
            refine hK.out _ _ S1.out ?_
            clear hK K
            refine Hr.Walk.one (i := 5) (by kernel_rfl) rfl (fun K hK => ?_)
            go_simp
            refine (rera_to st kd sv ru fm true yr mo k9 v d n c true _ s1 s2 HG).mono ?_
            rintro e w5 ⟨rfl, k5⟩
            have S2 := Lib.hid (S1.out.below k5)
            clear k5
            go_simp
            refine hK.out _ _ S2.out ?_
            clear hK K
            refine Hr.Walk.one (i := 6) (by kernel_rfl) rfl (fun K hK => ?_)
            have hx := S2.out; have y1 := (hx.c.2 1 _ rfl).1; have y5 := hx.r 5 _ rfl; clear hx
            go_simp
            refine hK.out _ _ S2.out ?_
            clear hK K
            refine Hr.Walk.one (i := 7) (by kernel_rfl) rfl (fun K hK => ?_)
            have hx := S2.out; have y1 := (hx.c.2 1 _ rfl).1; have y5 := hx.r 5 _ rfl; clear hx
            go_simp
            refine hK.out _ _ S2.out ?_
            clear hK K
            refine Hr.Walk.take (i := 8) (v := ?vtt8) (fun x => ZrS w b (off + k * 13) w.heap.size [.int .i64 st, .int .i64 kd, .int .i64 sv, .string ⟨ru.toArray⟩, .string ⟨fm.toArray⟩, .bool true, .int .i64 yr, .int .i64 mo, .int .i64 k9, .int .i64 v, .int .i64 d, .int .i64 n, .int .i64 c] [.string ⟨NM.toArray⟩, .slice (some ⟨b, off, none⟩) N c0] x) (fun _ => True) rfl (by kernel_rfl) (by kernel_rfl) (by kernel_rfl) (fun _ _ _ h => h) (fun _ _ _ _ _ _ => trivial) (fun _ _ _ h => h) (fun _ _ h => h) trivial (Or.inl ⟨by rfl, ?hytt8⟩) S2.out S2.out ?resttt8
            case hytt8 => intro x hx; have y1 := (hx.c.2 1 _ rfl).1; have y5 := hx.r 5 _ rfl; clear hx; go_simp; try with_reducible rfl
            (try go_simp)
            refine Hr.Walk.take (i := 9) (v := ?vtt9) (fun x => ZrS w b (off + k * 13) w.heap.size [.int .i64 st, .int .i64 kd, .int .i64 sv, .string ⟨ru.toArray⟩, .string ⟨fm.toArray⟩, .bool true, .int .i64 yr, .int .i64 mo, .int .i64 k9, .int .i64 v, .int .i64 d, .int .i64 n, .int .i64 c] [.string ⟨NM.toArray⟩, .slice (some ⟨b, off, none⟩) N c0] x) (fun _ => True) rfl (by kernel_rfl) (by kernel_rfl) (by kernel_rfl) (fun _ _ _ h => h) (fun _ _ _ _ _ _ => trivial) (fun _ _ _ h => h) (fun _ _ h => h) trivial (Or.inl ⟨by rfl, ?hytt9⟩) S2.out S2.out ?resttt9
            case hytt9 => intro x hx; have y1 := (hx.c.2 1 _ rfl).1; have y5 := hx.r 5 _ rfl; clear hx; go_simp; try with_reducible rfl
            (try go_simp)
            refine Hr.Walk.take (i := 10) (v := ?vtt10) (fun x => ZrS w b (off + k * 13) w.heap.size [.int .i64 st, .int .i64 kd, .int .i64 sv, .string ⟨ru.toArray⟩, .string ⟨fm.toArray⟩, .bool true, .int .i64 yr, .int .i64 mo, .int .i64 k9, .int .i64 v, .int .i64 d, .int .i64 n, .int .i64 c] [.string ⟨NM.toArray⟩, .slice (some ⟨b, off, none⟩) N c0] x) (fun _ => True) rfl (by kernel_rfl) (by kernel_rfl) (by kernel_rfl) (fun _ _ _ h => h) (fun _ _ _ _ _ _ => trivial) (fun _ _ _ h => h) (fun _ _ h => h) trivial (Or.inl ⟨by rfl, ?hytt10⟩) S2.out S2.out ?resttt10
            case hytt10 => intro x hx; have y1 := (hx.c.2 1 _ rfl).1; have y5 := hx.r 5 _ rfl; clear hx; go_simp; try with_reducible rfl
            (try go_simp)
            refine Hr.Walk.take (i := 11) (v := ?vtt11) (fun x => ZrS w b (off + k * 13) w.heap.size [.int .i64 st, .int .i64 kd, .int .i64 sv, .string ⟨ru.toArray⟩, .string ⟨fm.toArray⟩, .bool true, .int .i64 yr, .int .i64 mo, .int .i64 k9, .int .i64 v, .int .i64 d, .int .i64 n, .int .i64 c] [.string ⟨NM.toArray⟩, .slice (some ⟨b, off, none⟩) N c0] x) (fun _ => True) rfl (by kernel_rfl) (by kernel_rfl) (by kernel_rfl) (fun _ _ _ h => h) (fun _ _ _ _ _ _ => trivial) (fun _ _ _ h => h) (fun _ _ h => h) trivial (Or.inl ⟨by rfl, ?hytt11⟩) S2.out S2.out ?resttt11
            case hytt11 => intro x hx; have y1 := (hx.c.2 1 _ rfl).1; have y5 := hx.r 5 _ rfl; clear hx; go_simp; try with_reducible rfl
            (try go_simp)
            refine Hr.Walk.take (i := 12) (v := ?vtt12) (fun x => ZrS w b (off + k * 13) w.heap.size [.int .i64 st, .int .i64 kd, .int .i64 sv, .string ⟨ru.toArray⟩, .string ⟨fm.toArray⟩, .bool true, .int .i64 yr, .int .i64 mo, .int .i64 k9, .int .i64 v, .int .i64 d, .int .i64 n, .int .i64 c] [.string ⟨NM.toArray⟩, .slice (some ⟨b, off, none⟩) N c0] x) (fun _ => True) rfl (by kernel_rfl) (by kernel_rfl) (by kernel_rfl) (fun _ _ _ h => h) (fun _ _ _ _ _ _ => trivial) (fun _ _ _ h => h) (fun _ _ h => h) trivial (Or.inl ⟨by rfl, ?hytt12⟩) S2.out S2.out ?resttt12
            case hytt12 => intro x hx; have y1 := (hx.c.2 1 _ rfl).1; have y5 := hx.r 5 _ rfl; clear hx; go_simp; try with_reducible rfl
            (try go_simp)
            refine Hr.Walk.take (i := 13) (v := ?vtt13) (fun x => ZrS w b (off + k * 13) w.heap.size [.int .i64 st, .int .i64 kd, .int .i64 sv, .string ⟨ru.toArray⟩, .string ⟨fm.toArray⟩, .bool true, .int .i64 yr, .int .i64 mo, .int .i64 k9, .int .i64 v, .int .i64 d, .int .i64 n, .int .i64 c] [.string ⟨NM.toArray⟩, .slice (some ⟨b, off, none⟩) N c0] x) (fun _ => True) rfl (by kernel_rfl) (by kernel_rfl) (by kernel_rfl) (fun _ _ _ h => h) (fun _ _ _ _ _ _ => trivial) (fun _ _ _ h => h) (fun _ _ h => h) trivial (Or.inl ⟨by rfl, ?hytt13⟩) S2.out S2.out ?resttt13
            case hytt13 => intro x hx; have y1 := (hx.c.2 1 _ rfl).1; have y5 := hx.r 5 _ rfl; clear hx; go_simp; try with_reducible rfl
            (try go_simp)
            refine Hr.Walk.take (i := 14) (v := ?vtt14) (fun x => ZrS w b (off + k * 13) w.heap.size [.int .i64 st, .int .i64 kd, .int .i64 sv, .string ⟨ru.toArray⟩, .string ⟨fm.toArray⟩, .bool true, .int .i64 yr, .int .i64 mo, .int .i64 k9, .int .i64 v, .int .i64 d, .int .i64 n, .int .i64 c] [.string ⟨NM.toArray⟩, .slice (some ⟨b, off, none⟩) N c0] x) (fun _ => True) rfl (by kernel_rfl) (by kernel_rfl) (by kernel_rfl) (fun _ _ _ h => h) (fun _ _ _ _ _ _ => trivial) (fun _ _ _ h => h) (fun _ _ h => h) trivial (Or.inl ⟨by rfl, ?hytt14⟩) S2.out S2.out ?resttt14
            case hytt14 => intro x hx; have y1 := (hx.c.2 1 _ rfl).1; have y5 := hx.r 5 _ rfl; clear hx; go_simp; try with_reducible rfl
            (try go_simp)
            refine Hr.Walk.one (i := 15) (by kernel_rfl) rfl (fun K hK => ?_)
            have hx := S2.out; have y1 := (hx.c.2 1 _ rfl).1; have y5 := hx.r 5 _ rfl; clear hx
            go_simp
            refine hK.out _ _ S2.out ?_
            clear hK K
            refine Hr.Walk.one (i := 16) (by kernel_rfl) rfl (fun K hK => ?_)
            have hx := S2.out; have y1 := (hx.c.2 1 _ rfl).1; have y5 := hx.r 5 _ rfl; clear hx
            go_simp
            refine hK.out _ _ S2.out ?_
            clear hK K
            refine Hr.Walk.one (i := 17) (by kernel_rfl) rfl (fun K hK => ?_)
            have hx := S2.out; have y1 := (hx.c.2 1 _ rfl).1; have y5 := hx.r 5 _ rfl; clear hx
            go_simp
            refine hK.out _ _ S2.out ?_
            clear hK K
            refine Hr.Walk.one (i := 18) (by kernel_rfl) rfl (fun K hK => ?_)
            have hx := S2.out; have y1 := (hx.c.2 1 _ rfl).1; have y5 := hx.r 5 _ rfl; clear hx
            go_simp
            refine hK.out _ _ S2.out ?_
            clear hK K
            refine Hr.Walk.one (i := 19) (by kernel_rfl) rfl (fun K hK => ?_)
            have hx := S2.out; have y1 := (hx.c.2 1 _ rfl).1; have y5 := hx.r 5 _ rfl; clear hx
            go_simp
            refine hK.out _ _ S2.out ?_
            clear hK K
            refine Hr.Walk.one (i := 20) (by kernel_rfl) rfl (fun K hK => ?_)
            have hx := S2.out; have y1 := (hx.c.2 1 _ rfl).1; have y5 := hx.r 5 _ rfl; clear hx
            go_simp
            refine hK.out _ _ S2.out ?_
            clear hK K
            refine Hr.Walk.one (i := 21) (by kernel_rfl) rfl (fun K hK => ?_)
            have hx := S2.out; have y1 := (hx.c.2 1 _ rfl).1; have y5 := hx.r 5 _ rfl; clear hx
            go_simp
            refine hK.out _ _ S2.out ?_
            clear hK K
            refine Hr.Walk.done (by kernel_rfl) ?_ _
            have HB2 := Lib.hid S2.out.g
            go_wp2
            go_ret
            exact ⟨ret_bz HR.out, HB2.out⟩
        · have hd :  (k : Int) < (N : Int) - 1 := by omega
          cases un with
          | false =>
            have HR := Lib.hid (HNO.out (by rw [eAt, HN.out, decide_eq_false hlast]; simp))
            have HG := Lib.hid hrg
            clear HNO HNX hrg
            go_upto_region 6 with fail
            refine Hr.Walk.region (R := fun _ x => ZrS w b (off + k * 13) w.heap.size [.int .i64 st, .int .i64 kd, .int .i64 sv, .string ⟨ru.toArray⟩, .string ⟨fm.toArray⟩, .bool false, .int .i64 yr, .int .i64 mo, .int .i64 k9, .int .i64 v, .int .i64 d, .int .i64 n, .int .i64 c] [.string ⟨NM.toArray⟩, .slice (some ⟨b, off, none⟩) N c0] x) (by kernel_rfl) ?_
            obtain ⟨w1, hw1⟩ : ∃ z, wo.drew = z := ⟨_, rfl⟩
            have S1 : Hid (ZrS w b (off + k * 13) w.heap.size [.int .i64 st, .int .i64 kd, .int .i64 sv, .string ⟨ru.toArray⟩, .string ⟨fm.toArray⟩, .bool false, .int .i64 yr, .int .i64 mo, .int .i64 k9, .int .i64 v, .int .i64 d, .int .i64 n, .int .i64 c] [.string ⟨NM.toArray⟩, .slice (some ⟨b, off, none⟩) N c0] w1) := Lib.hid (by rw [← hw1]; exact S0.out.drew)
            rw [hw1]
            clear hw1 S0 HC HB
            refine Hr.Walk.take (i := 0) (v := ?vff0) (fun x => ZrS w b (off + k * 13) w.heap.size [.int .i64 st, .int .i64 kd, .int .i64 sv, .string ⟨ru.toArray⟩, .string ⟨fm.toArray⟩, .bool false, .int .i64 yr, .int .i64 mo, .int .i64 k9, .int .i64 v, .int .i64 d, .int .i64 n, .int .i64 c] [.string ⟨NM.toArray⟩, .slice (some ⟨b, off, none⟩) N c0] x) (fun _ => True) rfl (by kernel_rfl) (by kernel_rfl) (by kernel_rfl) (fun _ _ _ h => h) (fun _ _ _ _ _ _ => trivial) (fun _ _ _ h => h) (fun _ _ h => h) trivial (Or.inl ⟨by rfl, ?hyff0⟩) S1.out S1.out ?restff0
            case hyff0 => intro x hx; have y1 := (hx.c.2 1 _ rfl).1; have y5 := hx.r 5 _ rfl; clear hx; go_simp; try with_reducible rfl
            (try go_simp)
            refine Hr.Walk.take (i := 1) (v := ?vff1) (fun x => ZrS w b (off + k * 13) w.heap.size [.int .i64 st, .int .i64 kd, .int .i64 sv, .string ⟨ru.toArray⟩, .string ⟨fm.toArray⟩, .bool false, .int .i64 yr, .int .i64 mo, .int .i64 k9, .int .i64 v, .int .i64 d, .int .i64 n, .int .i64 c] [.string ⟨NM.toArray⟩, .slice (some ⟨b, off, none⟩) N c0] x) (fun _ => True) rfl (by kernel_rfl) (by kernel_rfl) (by kernel_rfl) (fun _ _ _ h => h) (fun _ _ _ _ _ _ => trivial) (fun _ _ _ h => h) (fun _ _ h => h) trivial (Or.inl ⟨by rfl, ?hyff1⟩) S1.out S1.out ?restff1
            case hyff1 => intro x hx; have y1 := (hx.c.2 1 _ rfl).1; have y5 := hx.r 5 _ rfl; clear hx; go_simp; try with_reducible rfl
            (try go_simp)
            refine Hr.Walk.one (i := 2) (by kernel_rfl) rfl (fun K hK => ?_)
            have hx := S1.out; have y1 := (hx.c.2 1 _ rfl).1; have y5 := hx.r 5 _ rfl; clear hx
            go_simp
            refine hK.out _ _ S1.out ?_
            clear hK K
            refine Hr.Walk.one (i := 3) (by kernel_rfl) rfl (fun K hK => ?_)
            have hx := S1.out; have y1 := (hx.c.2 1 _ rfl).1; have y5 := hx.r 5 _ rfl; clear hx
            go_simp
            refine hK.out _ _ S1.out ?_
            clear hK K
            refine Hr.Walk.one (i := 4) (by kernel_rfl) rfl (fun K hK => ?_)
            rw [if_pos (by rfl)]
            refine ldE1 S1.out.r rfl (by rfl) (by rfl) ?_
            refine hK.out _ _ S1.out ?_
            clear hK K
            refine Hr.Walk.one (i := 5) (by kernel_rfl) rfl (fun K hK => ?_)
            go_simp
            refine (rera_to st kd sv ru fm false yr mo k9 v d n c true _ s1 s2 HG).mono ?_
            rintro e w5 ⟨rfl, k5⟩
            have S2 := Lib.hid (S1.out.below k5)
            clear k5
            go_simp
            refine hK.out _ _ S2.out ?_
            clear hK K
            refine Hr.Walk.one (i := 6) (by kernel_rfl) rfl (fun K hK => ?_)
            have hx := S2.out; have y1 := (hx.c.2 1 _ rfl).1; have y5 := hx.r 5 _ rfl; clear hx
            go_simp
            refine hK.out _ _ S2.out ?_
            clear hK K
            refine Hr.Walk.one (i := 7) (by kernel_rfl) rfl (fun K hK => ?_)
            have hx := S2.out; have y1 := (hx.c.2 1 _ rfl).1; have y5 := hx.r 5 _ rfl; clear hx
            go_simp
            refine hK.out _ _ S2.out ?_
            clear hK K
            refine Hr.Walk.take (i := 8) (v := ?vff8) (fun x => ZrS w b (off + k * 13) w.heap.size [.int .i64 st, .int .i64 kd, .int .i64 sv, .string ⟨ru.toArray⟩, .string ⟨fm.toArray⟩, .bool false, .int .i64 yr, .int .i64 mo, .int .i64 k9, .int .i64 v, .int .i64 d, .int .i64 n, .int .i64 c] [.string ⟨NM.toArray⟩, .slice (some ⟨b, off, none⟩) N c0] x) (fun _ => True) rfl (by kernel_rfl) (by kernel_rfl) (by kernel_rfl) (fun _ _ _ h => h) (fun _ _ _ _ _ _ => trivial) (fun _ _ _ h => h) (fun _ _ h => h) trivial (Or.inl ⟨by rfl, ?hyff8⟩) S2.out S2.out ?restff8
            case hyff8 => intro x hx; have y1 := (hx.c.2 1 _ rfl).1; have y5 := hx.r 5 _ rfl; clear hx; go_simp; try with_reducible rfl
            (try go_simp)
            refine Hr.Walk.take (i := 9) (v := ?vff9) (fun x => ZrS w b (off + k * 13) w.heap.size [.int .i64 st, .int .i64 kd, .int .i64 sv, .string ⟨ru.toArray⟩, .string ⟨fm.toArray⟩, .bool false, .int .i64 yr, .int .i64 mo, .int .i64 k9, .int .i64 v, .int .i64 d, .int .i64 n, .int .i64 c] [.string ⟨NM.toArray⟩, .slice (some ⟨b, off, none⟩) N c0] x) (fun _ => True) rfl (by kernel_rfl) (by kernel_rfl) (by kernel_rfl) (fun _ _ _ h => h) (fun _ _ _ _ _ _ => trivial) (fun _ _ _ h => h) (fun _ _ h => h) trivial (Or.inl ⟨by rfl, ?hyff9⟩) S2.out S2.out ?restff9
            case hyff9 => intro x hx; have y1 := (hx.c.2 1 _ rfl).1; have y5 := hx.r 5 _ rfl; clear hx; go_simp; try with_reducible rfl
            (try go_simp)
            refine Hr.Walk.take (i := 10) (v := ?vff10) (fun x => ZrS w b (off + k * 13) w.heap.size [.int .i64 st, .int .i64 kd, .int .i64 sv, .string ⟨ru.toArray⟩, .string ⟨fm.toArray⟩, .bool false, .int .i64 yr, .int .i64 mo, .int .i64 k9, .int .i64 v, .int .i64 d, .int .i64 n, .int .i64 c] [.string ⟨NM.toArray⟩, .slice (some ⟨b, off, none⟩) N c0] x) (fun _ => True) rfl (by kernel_rfl) (by kernel_rfl) (by kernel_rfl) (fun _ _ _ h => h) (fun _ _ _ _ _ _ => trivial) (fun _ _ _ h => h) (fun _ _ h => h) trivial (Or.inl ⟨by rfl, ?hyff10⟩) S2.out S2.out ?restff10
            case hyff10 => intro x hx; have y1 := (hx.c.2 1 _ rfl).1; have y5 := hx.r 5 _ rfl; clear hx; go_simp; try with_reducible rfl
            (try go_simp)
            refine Hr.Walk.take (i := 11) (v := ?vff11) (fun x => ZrS w b (off + k * 13) w.heap.size [.int .i64 st, .int .i64 kd, .int .i64 sv, .string ⟨ru.toArray⟩, .string ⟨fm.toArray⟩, .bool false, .int .i64 yr, .int .i64 mo, .int .i64 k9, .int .i64 v, .int .i64 d, .int .i64 n, .int .i64 c] [.string ⟨NM.toArray⟩, .slice (some ⟨b, off, none⟩) N c0] x) (fun _ => True) rfl (by kernel_rfl) (by kernel_rfl) (by kernel_rfl) (fun _ _ _ h => h) (fun _ _ _ _ _ _ => trivial) (fun _ _ _ h => h) (fun _ _ h => h) trivial (Or.inl ⟨by rfl, ?hyff11⟩) S2.out S2.out ?restff11
            case hyff11 => intro x hx; have y1 := (hx.c.2 1 _ rfl).1; have y5 := hx.r 5 _ rfl; clear hx; go_simp; try with_reducible rfl
            (try go_simp)
            refine Hr.Walk.take (i := 12) (v := ?vff12) (fun x => ZrS w b (off + k * 13) w.heap.size [.int .i64 st, .int .i64 kd, .int .i64 sv, .string ⟨ru.toArray⟩, .string ⟨fm.toArray⟩, .bool false, .int .i64 yr, .int .i64 mo, .int .i64 k9, .int .i64 v, .int .i64 d, .int .i64 n, .int .i64 c] [.string ⟨NM.toArray⟩, .slice (some ⟨b, off, none⟩) N c0] x) (fun _ => True) rfl (by kernel_rfl) (by kernel_rfl) (by kernel_rfl) (fun _ _ _ h => h) (fun _ _ _ _ _ _ => trivial) (fun _ _ _ h => h) (fun _ _ h => h) trivial (Or.inl ⟨by rfl, ?hyff12⟩) S2.out S2.out ?restff12
            case hyff12 => intro x hx; have y1 := (hx.c.2 1 _ rfl).1; have y5 := hx.r 5 _ rfl; clear hx; go_simp; try with_reducible rfl
            (try go_simp)
            refine Hr.Walk.take (i := 13) (v := ?vff13) (fun x => ZrS w b (off + k * 13) w.heap.size [.int .i64 st, .int .i64 kd, .int .i64 sv, .string ⟨ru.toArray⟩, .string ⟨fm.toArray⟩, .bool false, .int .i64 yr, .int .i64 mo, .int .i64 k9, .int .i64 v, .int .i64 d, .int .i64 n, .int .i64 c] [.string ⟨NM.toArray⟩, .slice (some ⟨b, off, none⟩) N c0] x) (fun _ => True) rfl (by kernel_rfl) (by kernel_rfl) (by kernel_rfl) (fun _ _ _ h => h) (fun _ _ _ _ _ _ => trivial) (fun _ _ _ h => h) (fun _ _ h => h) trivial (Or.inl ⟨by rfl, ?hyff13⟩) S2.out S2.out ?restff13
            case hyff13 => intro x hx; have y1 := (hx.c.2 1 _ rfl).1; have y5 := hx.r 5 _ rfl; clear hx; go_simp; try with_reducible rfl
            (try go_simp)
            refine Hr.Walk.take (i := 14) (v := ?vff14) (fun x => ZrS w b (off + k * 13) w.heap.size [.int .i64 st, .int .i64 kd, .int .i64 sv, .string ⟨ru.toArray⟩, .string ⟨fm.toArray⟩, .bool false, .int .i64 yr, .int .i64 mo, .int .i64 k9, .int .i64 v, .int .i64 d, .int .i64 n, .int .i64 c] [.string ⟨NM.toArray⟩, .slice (some ⟨b, off, none⟩) N c0] x) (fun _ => True) rfl (by kernel_rfl) (by kernel_rfl) (by kernel_rfl) (fun _ _ _ h => h) (fun _ _ _ _ _ _ => trivial) (fun _ _ _ h => h) (fun _ _ h => h) trivial (Or.inl ⟨by rfl, ?hyff14⟩) S2.out S2.out ?restff14
            case hyff14 => intro x hx; have y1 := (hx.c.2 1 _ rfl).1; have y5 := hx.r 5 _ rfl; clear hx; go_simp; try with_reducible rfl
            (try go_simp)
            refine Hr.Walk.one (i := 15) (by kernel_rfl) rfl (fun K hK => ?_)
            have hx := S2.out; have y1 := (hx.c.2 1 _ rfl).1; have y5 := hx.r 5 _ rfl; clear hx
            go_simp
            refine hK.out _ _ S2.out ?_
            clear hK K
            refine Hr.Walk.one (i := 16) (by kernel_rfl) rfl (fun K hK => ?_)
            have hx := S2.out; have y1 := (hx.c.2 1 _ rfl).1; have y5 := hx.r 5 _ rfl; clear hx
            go_simp
            refine hK.out _ _ S2.out ?_
            clear hK K
            refine Hr.Walk.one (i := 17) (by kernel_rfl) rfl (fun K hK => ?_)
            have hx := S2.out; have y1 := (hx.c.2 1 _ rfl).1; have y5 := hx.r 5 _ rfl; clear hx
            go_simp
            refine hK.out _ _ S2.out ?_
            clear hK K
            refine Hr.Walk.one (i := 18) (by kernel_rfl) rfl (fun K hK => ?_)
            have hx := S2.out; have y1 := (hx.c.2 1 _ rfl).1; have y5 := hx.r 5 _ rfl; clear hx
            go_simp
            refine hK.out _ _ S2.out ?_
            clear hK K
            refine Hr.Walk.one (i := 19) (by kernel_rfl) rfl (fun K hK => ?_)
            have hx := S2.out; have y1 := (hx.c.2 1 _ rfl).1; have y5 := hx.r 5 _ rfl; clear hx
            go_simp
            refine hK.out _ _ S2.out ?_
            clear hK K
            refine Hr.Walk.one (i := 20) (by kernel_rfl) rfl (fun K hK => ?_)
            have hx := S2.out; have y1 := (hx.c.2 1 _ rfl).1; have y5 := hx.r 5 _ rfl; clear hx
            go_simp
            refine hK.out _ _ S2.out ?_
            clear hK K
            refine Hr.Walk.one (i := 21) (by kernel_rfl) rfl (fun K hK => ?_)
            have hx := S2.out; have y1 := (hx.c.2 1 _ rfl).1; have y5 := hx.r 5 _ rfl; clear hx
            go_simp
            refine hK.out _ _ S2.out ?_
            clear hK K
            refine Hr.Walk.done (by kernel_rfl) ?_ _
            have HB2 := Lib.hid S2.out.g
            go_wp2
            go_ret
            exact ⟨ret_bz HR.out, HB2.out⟩
          | true =>
            have HR := Lib.hid (HNX.out (by rw [eAt, hrg, HN.out, decide_eq_false hlast]; rfl))
            have HG := Lib.hid hrg
            clear HNO HNX hrg
            go_upto_region 6 with fail
            refine Hr.Walk.region (R := fun _ x => ZrS w b (off + k * 13) w.heap.size [.int .i64 st, .int .i64 kd, .int .i64 sv, .string ⟨ru.toArray⟩, .string ⟨fm.toArray⟩, .bool true, .int .i64 yr, .int .i64 mo, .int .i64 k9, .int .i64 v, .int .i64 d, .int .i64 n, .int .i64 c] [.string ⟨NM.toArray⟩, .slice (some ⟨b, off, none⟩) N c0] x) (by kernel_rfl) ?_
            obtain ⟨w1, hw1⟩ : ∃ z, wo.drew = z := ⟨_, rfl⟩
            have S1 : Hid (ZrS w b (off + k * 13) w.heap.size [.int .i64 st, .int .i64 kd, .int .i64 sv, .string ⟨ru.toArray⟩, .string ⟨fm.toArray⟩, .bool true, .int .i64 yr, .int .i64 mo, .int .i64 k9, .int .i64 v, .int .i64 d, .int .i64 n, .int .i64 c] [.string ⟨NM.toArray⟩, .slice (some ⟨b, off, none⟩) N c0] w1) := Lib.hid (by rw [← hw1]; exact S0.out.drew)
            rw [hw1]
            clear hw1 S0 HC HB
            refine Hr.Walk.take (i := 0) (v := ?vtf0) (fun x => ZrS w b (off + k * 13) w.heap.size [.int .i64 st, .int .i64 kd, .int .i64 sv, .string ⟨ru.toArray⟩, .string ⟨fm.toArray⟩, .bool true, .int .i64 yr, .int .i64 mo, .int .i64 k9, .int .i64 v, .int .i64 d, .int .i64 n, .int .i64 c] [.string ⟨NM.toArray⟩, .slice (some ⟨b, off, none⟩) N c0] x) (fun _ => True) rfl (by kernel_rfl) (by kernel_rfl) (by kernel_rfl) (fun _ _ _ h => h) (fun _ _ _ _ _ _ => trivial) (fun _ _ _ h => h) (fun _ _ h => h) trivial (Or.inl ⟨by rfl, ?hytf0⟩) S1.out S1.out ?resttf0
            case hytf0 => intro x hx; have y1 := (hx.c.2 1 _ rfl).1; have y5 := hx.r 5 _ rfl; clear hx; go_simp; try with_reducible rfl
            (try go_simp)
            refine Hr.Walk.take (i := 1) (v := ?vtf1) (fun x => ZrS w b (off + k * 13) w.heap.size [.int .i64 st, .int .i64 kd, .int .i64 sv, .string ⟨ru.toArray⟩, .string ⟨fm.toArray⟩, .bool true, .int .i64 yr, .int .i64 mo, .int .i64 k9, .int .i64 v, .int .i64 d, .int .i64 n, .int .i64 c] [.string ⟨NM.toArray⟩, .slice (some ⟨b, off, none⟩) N c0] x) (fun _ => True) rfl (by kernel_rfl) (by kernel_rfl) (by kernel_rfl) (fun _ _ _ h => h) (fun _ _ _ _ _ _ => trivial) (fun _ _ _ h => h) (fun _ _ h => h) trivial (Or.inl ⟨by rfl, ?hytf1⟩) S1.out S1.out ?resttf1
            case hytf1 => intro x hx; have y1 := (hx.c.2 1 _ rfl).1; have y5 := hx.r 5 _ rfl; clear hx; go_simp; try with_reducible rfl
            (try go_simp)
            refine Hr.Walk.one (i := 2) (by kernel_rfl) rfl (fun K hK => ?_)
            have hx := S1.out; have y1 := (hx.c.2 1 _ rfl).1; have y5 := hx.r 5 _ rfl; clear hx
            go_simp
            refine hK.out _ _ S1.out ?_
            clear hK K
            refine Hr.Walk.one (i := 3) (by kernel_rfl) rfl (fun K hK => ?_)
            have hx := S1.out; have y1 := (hx.c.2 1 _ rfl).1; have y5 := hx.r 5 _ rfl; clear hx
            go_simp
            refine hK.out _ _ S1.out ?_
            clear hK K
            refine Hr.Walk.one (i := 4) (by kernel_rfl) rfl (fun K hK => ?_)
            rw [if_pos (by rfl)]
            refine ldE1 S1.out.r rfl (by rfl) (by rfl) ?_
            refine hK.out _ _ S1.out ?_
            clear hK K
            refine Hr.Walk.one (i := 5) (by kernel_rfl) rfl (fun K hK => ?_)
            go_simp
            refine (rera_to st kd sv ru fm true yr mo k9 v d n c true _ s1 s2 HG).mono ?_
            rintro e w5 ⟨rfl, k5⟩
            have S2 := Lib.hid (S1.out.below k5)
            clear k5
            go_simp
            refine hK.out _ _ S2.out ?_
            clear hK K
            refine Hr.Walk.one (i := 6) (by kernel_rfl) rfl (fun K hK => ?_)
            have hx := S2.out; have y1 := (hx.c.2 1 _ rfl).1; have y5 := hx.r 5 _ rfl; clear hx
            go_simp
            refine hK.out _ _ S2.out ?_
            clear hK K
            refine Hr.Walk.one (i := 7) (by kernel_rfl) rfl (fun K hK => ?_)
            have hx := S2.out; have y1 := (hx.c.2 1 _ rfl).1; have y5 := hx.r 5 _ rfl; clear hx
            go_simp
            refine hK.out _ _ S2.out ?_
            clear hK K
            refine Hr.Walk.take (i := 8) (v := ?vtf8) (fun x => ZrS w b (off + k * 13) w.heap.size [.int .i64 st, .int .i64 kd, .int .i64 sv, .string ⟨ru.toArray⟩, .string ⟨fm.toArray⟩, .bool true, .int .i64 yr, .int .i64 mo, .int .i64 k9, .int .i64 v, .int .i64 d, .int .i64 n, .int .i64 c] [.string ⟨NM.toArray⟩, .slice (some ⟨b, off, none⟩) N c0] x) (fun _ => True) rfl (by kernel_rfl) (by kernel_rfl) (by kernel_rfl) (fun _ _ _ h => h) (fun _ _ _ _ _ _ => trivial) (fun _ _ _ h => h) (fun _ _ h => h) trivial (Or.inl ⟨by rfl, ?hytf8⟩) S2.out S2.out ?resttf8
            case hytf8 => intro x hx; have y1 := (hx.c.2 1 _ rfl).1; have y5 := hx.r 5 _ rfl; clear hx; go_simp; try with_reducible rfl
            (try go_simp)
            refine Hr.Walk.take (i := 9) (v := ?vtf9) (fun x => ZrS w b (off + k * 13) w.heap.size [.int .i64 st, .int .i64 kd, .int .i64 sv, .string ⟨ru.toArray⟩, .string ⟨fm.toArray⟩, .bool true, .int .i64 yr, .int .i64 mo, .int .i64 k9, .int .i64 v, .int .i64 d, .int .i64 n, .int .i64 c] [.string ⟨NM.toArray⟩, .slice (some ⟨b, off, none⟩) N c0] x) (fun _ => True) rfl (by kernel_rfl) (by kernel_rfl) (by kernel_rfl) (fun _ _ _ h => h) (fun _ _ _ _ _ _ => trivial) (fun _ _ _ h => h) (fun _ _ h => h) trivial (Or.inl ⟨by rfl, ?hytf9⟩) S2.out S2.out ?resttf9
            case hytf9 => intro x hx; have y1 := (hx.c.2 1 _ rfl).1; have y5 := hx.r 5 _ rfl; clear hx; go_simp; try with_reducible rfl
            (try go_simp)
            refine Hr.Walk.take (i := 10) (v := ?vtf10) (fun x => ZrS w b (off + k * 13) w.heap.size [.int .i64 st, .int .i64 kd, .int .i64 sv, .string ⟨ru.toArray⟩, .string ⟨fm.toArray⟩, .bool true, .int .i64 yr, .int .i64 mo, .int .i64 k9, .int .i64 v, .int .i64 d, .int .i64 n, .int .i64 c] [.string ⟨NM.toArray⟩, .slice (some ⟨b, off, none⟩) N c0] x) (fun _ => True) rfl (by kernel_rfl) (by kernel_rfl) (by kernel_rfl) (fun _ _ _ h => h) (fun _ _ _ _ _ _ => trivial) (fun _ _ _ h => h) (fun _ _ h => h) trivial (Or.inl ⟨by rfl, ?hytf10⟩) S2.out S2.out ?resttf10
            case hytf10 => intro x hx; have y1 := (hx.c.2 1 _ rfl).1; have y5 := hx.r 5 _ rfl; clear hx; go_simp; try with_reducible rfl
            (try go_simp)
            refine Hr.Walk.take (i := 11) (v := ?vtf11) (fun x => ZrS w b (off + k * 13) w.heap.size [.int .i64 st, .int .i64 kd, .int .i64 sv, .string ⟨ru.toArray⟩, .string ⟨fm.toArray⟩, .bool true, .int .i64 yr, .int .i64 mo, .int .i64 k9, .int .i64 v, .int .i64 d, .int .i64 n, .int .i64 c] [.string ⟨NM.toArray⟩, .slice (some ⟨b, off, none⟩) N c0] x) (fun _ => True) rfl (by kernel_rfl) (by kernel_rfl) (by kernel_rfl) (fun _ _ _ h => h) (fun _ _ _ _ _ _ => trivial) (fun _ _ _ h => h) (fun _ _ h => h) trivial (Or.inl ⟨by rfl, ?hytf11⟩) S2.out S2.out ?resttf11
            case hytf11 => intro x hx; have y1 := (hx.c.2 1 _ rfl).1; have y5 := hx.r 5 _ rfl; clear hx; go_simp; try with_reducible rfl
            (try go_simp)
            refine Hr.Walk.take (i := 12) (v := ?vtf12) (fun x => ZrS w b (off + k * 13) w.heap.size [.int .i64 st, .int .i64 kd, .int .i64 sv, .string ⟨ru.toArray⟩, .string ⟨fm.toArray⟩, .bool true, .int .i64 yr, .int .i64 mo, .int .i64 k9, .int .i64 v, .int .i64 d, .int .i64 n, .int .i64 c] [.string ⟨NM.toArray⟩, .slice (some ⟨b, off, none⟩) N c0] x) (fun _ => True) rfl (by kernel_rfl) (by kernel_rfl) (by kernel_rfl) (fun _ _ _ h => h) (fun _ _ _ _ _ _ => trivial) (fun _ _ _ h => h) (fun _ _ h => h) trivial (Or.inl ⟨by rfl, ?hytf12⟩) S2.out S2.out ?resttf12
            case hytf12 => intro x hx; have y1 := (hx.c.2 1 _ rfl).1; have y5 := hx.r 5 _ rfl; clear hx; go_simp; try with_reducible rfl
            (try go_simp)
            refine Hr.Walk.take (i := 13) (v := ?vtf13) (fun x => ZrS w b (off + k * 13) w.heap.size [.int .i64 st, .int .i64 kd, .int .i64 sv, .string ⟨ru.toArray⟩, .string ⟨fm.toArray⟩, .bool true, .int .i64 yr, .int .i64 mo, .int .i64 k9, .int .i64 v, .int .i64 d, .int .i64 n, .int .i64 c] [.string ⟨NM.toArray⟩, .slice (some ⟨b, off, none⟩) N c0] x) (fun _ => True) rfl (by kernel_rfl) (by kernel_rfl) (by kernel_rfl) (fun _ _ _ h => h) (fun _ _ _ _ _ _ => trivial) (fun _ _ _ h => h) (fun _ _ h => h) trivial (Or.inl ⟨by rfl, ?hytf13⟩) S2.out S2.out ?resttf13
            case hytf13 => intro x hx; have y1 := (hx.c.2 1 _ rfl).1; have y5 := hx.r 5 _ rfl; clear hx; go_simp; try with_reducible rfl
            (try go_simp)
            refine Hr.Walk.take (i := 14) (v := ?vtf14) (fun x => ZrS w b (off + k * 13) w.heap.size [.int .i64 st, .int .i64 kd, .int .i64 sv, .string ⟨ru.toArray⟩, .string ⟨fm.toArray⟩, .bool true, .int .i64 yr, .int .i64 mo, .int .i64 k9, .int .i64 v, .int .i64 d, .int .i64 n, .int .i64 c] [.string ⟨NM.toArray⟩, .slice (some ⟨b, off, none⟩) N c0] x) (fun _ => True) rfl (by kernel_rfl) (by kernel_rfl) (by kernel_rfl) (fun _ _ _ h => h) (fun _ _ _ _ _ _ => trivial) (fun _ _ _ h => h) (fun _ _ h => h) trivial (Or.inl ⟨by rfl, ?hytf14⟩) S2.out S2.out ?resttf14
            case hytf14 => intro x hx; have y1 := (hx.c.2 1 _ rfl).1; have y5 := hx.r 5 _ rfl; clear hx; go_simp; try with_reducible rfl
            (try go_simp)
            refine Hr.Walk.one (i := 15) (by kernel_rfl) rfl (fun K hK => ?_)
            have hx := S2.out; have y1 := (hx.c.2 1 _ rfl).1; have y5 := hx.r 5 _ rfl; clear hx
            go_simp
            refine hK.out _ _ S2.out ?_
            clear hK K
            refine Hr.Walk.one (i := 16) (by kernel_rfl) rfl (fun K hK => ?_)
            have hx := S2.out; have y1 := (hx.c.2 1 _ rfl).1; have y5 := hx.r 5 _ rfl; clear hx
            go_simp
            refine hK.out _ _ S2.out ?_
            clear hK K
            refine Hr.Walk.one (i := 17) (by kernel_rfl) rfl (fun K hK => ?_)
            have hx := S2.out; have y1 := (hx.c.2 1 _ rfl).1; have y5 := hx.r 5 _ rfl; clear hx
            go_simp
            refine hK.out _ _ S2.out ?_
            clear hK K
            refine Hr.Walk.one (i := 18) (by kernel_rfl) rfl (fun K hK => ?_)
            have hx := S2.out; have y1 := (hx.c.2 1 _ rfl).1; have y5 := hx.r 5 _ rfl; clear hx
            go_simp
            refine hK.out _ _ S2.out ?_
            clear hK K
            refine Hr.Walk.one (i := 19) (by kernel_rfl) rfl (fun K hK => ?_)
            have hx := S2.out; have y1 := (hx.c.2 1 _ rfl).1; have y5 := hx.r 5 _ rfl; clear hx
            go_simp
            refine hK.out _ _ S2.out ?_
            clear hK K
            refine Hr.Walk.one (i := 20) (by kernel_rfl) rfl (fun K hK => ?_)
            have hx := S2.out; have y1 := (hx.c.2 1 _ rfl).1; have y5 := hx.r 5 _ rfl; clear hx
            go_simp
            refine hK.out _ _ S2.out ?_
            clear hK K
            refine Hr.Walk.one (i := 21) (by kernel_rfl) rfl (fun K hK => ?_)
            have hx := S2.out; have y1 := (hx.c.2 1 _ rfl).1; have y5 := hx.r 5 _ rfl; clear hx
            go_simp
            refine hK.out _ _ S2.out ?_
            clear hK K
            refine Hr.Walk.done (by kernel_rfl) ?_ _
            have HC2 := Lib.hid S2.out.c
            have HB2 := Lib.hid S2.out.g
            go_wp2
            go_roundw
            case rel => exact ⟨k + 1, by omega, by go_num, HR, HC2, HB2⟩
            case measure => simp [intOf]; omega
    · have HR : Hid (true = q) := Lib.hid (by
        have e : k = N := by omega
        rw [← hE.out, ← hall.out, e])
      go_wp2
      go_ret
      exact ⟨ret_bz HR.out, HB.out⟩
end Zon
end Go.Proofs.YthefgagmjamdkaaGreatDoor
