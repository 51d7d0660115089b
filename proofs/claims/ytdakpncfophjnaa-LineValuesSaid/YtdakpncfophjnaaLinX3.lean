/-
  LineValues: a value is all that stands behind the first colon that no quotes hold. (Written by gen/gen_linx.py.)
-/
import Derived.Test.YtdakpncfophjnaaLinV
import Derived.Test.YtdakpncfophjnaaHeldR
namespace Go.Proofs.Ytdakpncfophjnaa
open Go.RowKit
namespace Lin
open CutB Cel
open Opn (TxtV)
set_option maxHeartbeats 1600000 in
set_option maxRecDepth 100000 in
theorem lvl_big3 (s : ByteArray) (n : Int) (w : World) (hs : s.size ≤ maxLen) (h : 300 < s.size) :
    Calls Try.prog 6 #[.string s, .int .i64 n] w fun e w' => e = .returned (.bool true) ∧ Below w.heap.size w w' := by
  unfold maxLen at hs
  go_enter Try.func6, Try.ntmps6
  go_wp2
  go_ret
  exact ⟨rfl, Below.refl _ _⟩
set_option maxHeartbeats 12800000 in
set_option maxRecDepth 100000 in
theorem lvq_3 (s : ByteArray) (n : Int) (w : World) (hs : s.size ≤ 300) (ek : (IntKind.u64.wrap n).tmod 4 = 3) :
    Calls Try.prog 6 #[.string s, .int .i64 n] w fun e w' => e = .returned (.bool true) ∧ Below w.heap.size w w' := by
  obtain ⟨S, hS'⟩ : ∃ S, s.data.toList = S := ⟨_, rfl⟩
  have hl : S.length = s.size := by rw [← hS']; simp
  have hS := Lib.hid hS'
  have HL := Lib.hid hl
  clear hl hS'
  go_enter Try.func6, Try.ntmps6
  go_wp2
  go_loopw [5] (fun i wr => ∃ k : Nat, k ≤ s.size ∧ Hid (plnB (S.take k) = true) ∧ i = .int .i64 k ∧ w = wr) (fun i _ => s.size - (intOf i).toNat)
  case atStart => exact ⟨0, Nat.zero_le _, Lib.hid rfl, rfl, rfl⟩
  case round =>
    obtain ⟨k, hk, hall, rfl, rfl⟩ := hrel
    by_cases hlt : k < s.size
    · have hkS : k < S.length := by rw [HL.out]; exact hlt
      obtain ⟨d, hx⟩ : ∃ c, S[k]'hkS = c := ⟨_, rfl⟩
      have hcc : s[k] = d := by
        have : s[k] = s.data.toList[k]'(by simpa using hlt) := by simp [ByteArray.getElem_eq_getElem_data]
        rw [this, ← hx]
        exact List.getElem_of_eq hS.out _
      have db := d.toNat_lt
      have HN : Hid (ctlB d = false → plnB (S.take (k + 1)) = true) := Lib.hid (fun q => pln_snoc S k hkS hall.out (by rw [hx]; exact q))
      have hcs : ((d.toNat : Int) < 32 ∧ ((d.toNat : Int) != 9) = true) ∨ ((d.toNat : Int) < 32 ∧ d = 9 ∧ ctlB d = false) ∨ (¬ (d.toNat : Int) < 32 ∧ d = 127) ∨ (¬ (d.toNat : Int) < 32 ∧ ((d.toNat : Int) == 127) = false ∧ ctlB d = false) := by
        by_cases x : (d.toNat : Int) < 32
        · by_cases y : d = 9
          · exact Or.inr (Or.inl ⟨x, y, by subst y; decide⟩)
          · exact Or.inl ⟨x, bne_iff_ne.2 (fun q => y (UInt8.toNat_inj.1 (by show d.toNat = 9; omega)))⟩
        · by_cases y : d = 127
          · exact Or.inr (Or.inr (Or.inl ⟨x, y⟩))
          · exact Or.inr (Or.inr (Or.inr ⟨x, beq_eq_false_iff_ne.2 (fun q => y (UInt8.toNat_inj.1 (by show d.toNat = 127; omega))), by rw [ctlB, decide_eq_false x, decide_eq_false y]; rfl⟩))
      clear hx hkS
      rcases hcs with ⟨x, y⟩ | ⟨x, rfl, ho⟩ | ⟨x, rfl⟩ | ⟨x, y, ho⟩
      · clear HN
        go_wp2
        go_ret
        exact ⟨rfl, Below.refl _ _⟩
      · have HNN := Lib.hid (HN.out ho)
        clear ho HN
        go_wp2
        go_roundw
        case rel => exact ⟨k + 1, by omega, HNN, by go_num, trivial⟩
        case measure => simp [intOf]; omega
      · clear HN
        go_wp2
        go_ret
        exact ⟨rfl, Below.refl _ _⟩
      · have HNN := Lib.hid (HN.out ho)
        clear ho HN
        go_wp2
        go_roundw
        case rel => exact ⟨k + 1, by omega, HNN, by go_num, trivial⟩
        case measure => simp [intOf]; omega
    · have hv : plnB S = true := by rw [← hall.out, List.take_of_length_le (by rw [HL.out]; omega)]
      have W1 := Lib.hid (lv_3 S hv)
      have W2 := Lib.hid (lv_3 (58 :: S) (show (!ctlB 58 && plnB S) = true by rw [hv]; decide))
      clear hall hv
      go_wp2_with fail
      refine (lp_at _ ([65, 59, 66, 61, 34, 59, 44, 58, 34, 59, 67, 61, 44] ++ 58 :: S) (0, ⟨[65], [⟨[66], [[59, 44, 58]]⟩, ⟨[67], [[], []]⟩], S⟩) _ ?h1 ?h2 W1).mono ?_
      case h1 =>
        have e1 : ByteArray.size ⟨#[65, 59, 66, 61, 34, 59, 44, 58, 34, 59, 67, 61, 44]⟩ = 13 := rfl
        have e2 : ByteArray.size ⟨#[58]⟩ = 1 := rfl
        simp
        omega
      case h2 => exact Lib.hid (by rw [← hS.out]; simp)
      rintro e w1 ⟨pv, rfl, hq, b1⟩
      have B1 := Lib.hid (bstep (show Below w.heap.size w _ from by repeat (first | with_reducible exact Below.refl _ _ | with_reducible refine Below.alloc ?_ (by exact Nat.le_refl _) _)) b1)
      obtain ⟨a1, n1, c1, hpv, hn1⟩ : ∃ a n c, pv = .slice a n c ∧ n = 2 := by obtain ⟨a, n, c, h, h2, _⟩ := hq.out.1; exact ⟨a, n, c, h, h2⟩
      subst hpv hn1
      have CH := Lib.hid ((Cs.new w [.string ⟨#[65]⟩, .string ⟨#[65, 59, 66, 61, 99]⟩, .string ⟨#[65, 59, 66, 61, 34, 120, 58, 121, 34]⟩, .string ⟨#[65, 59, 66, 61, 34, 59, 44, 58, 34, 59, 67, 61, 44]⟩] 9).below b1)
      have C1 := Lib.hid (Cs.new w1 [.string ⟨#[65]⟩, .slice a1 2 c1, .string ⟨S.toArray⟩] 24)
      have gq : w.heap.size < w1.heap.size := CH.out.1
      have zj := (CH.out.2 3 _ rfl).1
      clear hq b1
      go_wp2_with fail
      refine (lp_at _ ([65, 59, 66, 61, 34, 59, 44, 58, 34, 59, 67, 61, 44] ++ 58 :: 58 :: S) (0, ⟨[65], [⟨[66], [[59, 44, 58]]⟩, ⟨[67], [[], []]⟩], 58 :: S⟩) _ ?h3 ?h4 W2).mono ?_
      case h3 =>
        have e1 : ByteArray.size ⟨#[65, 59, 66, 61, 34, 59, 44, 58, 34, 59, 67, 61, 44]⟩ = 13 := rfl
        have e2 : ByteArray.size ⟨#[58, 58]⟩ = 2 := rfl
        simp
        omega
      case h4 => exact Lib.hid (by rw [← hS.out]; simp)
      rintro e w2 ⟨pv2, rfl, hq, b2⟩
      obtain ⟨a2, n2, c2, hpv, hn2⟩ : ∃ a n c, pv2 = .slice a n c ∧ n = 2 := by obtain ⟨a, n, c, h, h2, _⟩ := hq.out.1; exact ⟨a, n, c, h, h2⟩
      subst hpv hn2
      have C2 := Lib.hid (C1.out.below b2)
      have B2 := Lib.hid (bstep (B1.out.alloc B1.out.size _) b2)
      have gq2 : w1.heap.size < w2.heap.size := C2.out.1
      have z0 := (C2.out.2 0 _ rfl).1
      have z1 := (C2.out.2 1 _ rfl).1
      have z2 := (C2.out.2 2 _ rfl).1
      have eS : s = ⟨S.toArray⟩ := Rws.ba_eq hS.out
      clear hq b2 zj
      obtain ⟨Z, hZ⟩ : ∃ Z : ByteArray, ⟨(58 :: S).toArray⟩ = Z := ⟨_, rfl⟩
      have eC : (Z.toList == ((⟨#[58]⟩ : ByteArray) ++ ⟨S.toArray⟩).toList) = true := by
        have : (⟨#[58]⟩ : ByteArray) ++ ⟨S.toArray⟩ = ⟨(58 :: S).toArray⟩ := Rws.bapp [58] S
        rw [this, hZ]
        exact beq_self_eq_true _
      rw [hZ]
      have C3 := Lib.hid (Cs.new w2 [.string ⟨#[65]⟩, .slice a2 2 c2, .string Z] 24)
      clear hZ
      have eE : ((⟨S.toArray⟩ : ByteArray).toList == (⟨S.toArray⟩ : ByteArray).toList) = true := beq_self_eq_true _
      have eZ : (⟨S.toArray⟩ : ByteArray).size = S.length := rfl
      have eY : (⟨S.toArray⟩ : ByteArray).size ≤ 300 := by rw [eZ, HL.out]; exact hs
      have eN : ¬ 9223372036854775807 < 1 + S.length := by have := eY; rw [eZ] at this; omega
      subst eS
      clear CH C1 B1 gq hlt W1 W2
      have gq3 : w1.heap.size ≠ w2.heap.size := by omega
      have gq4 : w2.heap.size ≠ w1.heap.size := by omega
      have SD := Lib.hid (show Cs w1.heap.size (w2.alloc (Obj.cells #[.string ⟨#[65]⟩, .slice a2 2 c2, .string Z] 24)).drew [.string ⟨#[65]⟩, .slice a1 2 c1, .string ⟨S.toArray⟩] ∧ Cs w2.heap.size (w2.alloc (Obj.cells #[.string ⟨#[65]⟩, .slice a2 2 c2, .string Z] 24)).drew [.string ⟨#[65]⟩, .slice a2 2 c2, .string Z] from ⟨C2.out.alloc _, C3.out⟩)
      have BD := Lib.hid (show Below w.heap.size w (w2.alloc (Obj.cells #[.string ⟨#[65]⟩, .slice a2 2 c2, .string Z] 24)).drew from (B2.out.alloc B2.out.size _).drew)
      clear C2 C3
      go_upto_region 11 with fail
      refine Hr.Walk.region (R := fun _ x => Cs w1.heap.size x [.string ⟨#[65]⟩, .slice a1 2 c1, .string ⟨S.toArray⟩] ∧ Cs w2.heap.size x [.string ⟨#[65]⟩, .slice a2 2 c2, .string Z]) (by kernel_rfl) ?_
      refine Hr.Walk.one (i := 0) (by kernel_rfl) rfl (fun K hK => ?_)
      go_simp
      refine hK.out _ _ SD.out ?_
      clear hK K
      refine Hr.Walk.one (i := 1) (by kernel_rfl) rfl (fun K hK => ?_)
      go_simp
      refine hK.out _ _ SD.out ?_
      clear hK K
      refine Hr.Walk.one (i := 2) (by kernel_rfl) rfl (fun K hK => ?_)
      go_simp
      refine hK.out _ _ SD.out ?_
      clear hK K
      refine Hr.Walk.take (i := 3) (v := ?v3) (fun x => Cs w1.heap.size x [.string ⟨#[65]⟩, .slice a1 2 c1, .string ⟨S.toArray⟩] ∧ Cs w2.heap.size x [.string ⟨#[65]⟩, .slice a2 2 c2, .string Z]) (fun _ => True) rfl (by kernel_rfl) (by kernel_rfl) (by kernel_rfl) (fun _ _ _ h => h) (fun _ _ _ _ _ _ => trivial) (fun _ _ _ h => h) (fun _ _ h => h) trivial (Or.inl ⟨by rfl, ?hy3⟩) SD.out SD.out ?rest3
      case hy3 => intro x hx; have y0 := (hx.1.2 0 _ rfl).1; have y1 := (hx.1.2 1 _ rfl).1; have y2 := (hx.1.2 2 _ rfl).1; have y3 := (hx.2.2 2 _ rfl).1; clear hx; go_simp; try with_reducible rfl
      refine Hr.Walk.take (i := 4) (v := ?v4) (fun x => Cs w1.heap.size x [.string ⟨#[65]⟩, .slice a1 2 c1, .string ⟨S.toArray⟩] ∧ Cs w2.heap.size x [.string ⟨#[65]⟩, .slice a2 2 c2, .string Z]) (fun _ => True) rfl (by kernel_rfl) (by kernel_rfl) (by kernel_rfl) (fun _ _ _ h => h) (fun _ _ _ _ _ _ => trivial) (fun _ _ _ h => h) (fun _ _ h => h) trivial (Or.inl ⟨by rfl, ?hy4⟩) SD.out SD.out ?rest4
      case hy4 => intro x hx; have y0 := (hx.1.2 0 _ rfl).1; have y1 := (hx.1.2 1 _ rfl).1; have y2 := (hx.1.2 2 _ rfl).1; have y3 := (hx.2.2 2 _ rfl).1; clear hx; go_simp; try with_reducible rfl
      refine Hr.Walk.one (i := 5) (by kernel_rfl) rfl (fun K hK => ?_)
      go_simp
      refine hK.out _ _ SD.out ?_
      clear hK K
      refine Hr.Walk.one (i := 6) (by kernel_rfl) rfl (fun K hK => ?_)
      go_simp
      refine hK.out _ _ SD.out ?_
      clear hK K
      refine Hr.Walk.one (i := 7) (by kernel_rfl) rfl (fun K hK => ?_)
      go_simp
      refine hK.out _ _ SD.out ?_
      clear hK K
      refine Hr.Walk.one (i := 8) (by kernel_rfl) rfl (fun K hK => ?_)
      go_simp
      refine hK.out _ _ SD.out ?_
      clear hK K
      refine Hr.Walk.one (i := 9) (by kernel_rfl) rfl (fun K hK => ?_)
      go_simp
      refine hK.out _ _ SD.out ?_
      clear hK K
      refine Hr.Walk.one (i := 10) (by kernel_rfl) rfl (fun K hK => ?_)
      go_simp
      refine hK.out _ _ SD.out ?_
      clear hK K
      refine Hr.Walk.one (i := 11) (by kernel_rfl) rfl (fun K hK => ?_)
      go_simp
      refine hK.out _ _ SD.out ?_
      clear hK K
      refine Hr.Walk.one (i := 12) (by kernel_rfl) rfl (fun K hK => ?_)
      go_simp
      refine hK.out _ _ SD.out ?_
      clear hK K
      refine Hr.Walk.one (i := 13) (by kernel_rfl) rfl (fun K hK => ?_)
      go_simp
      refine hK.out _ _ SD.out ?_
      clear hK K
      refine Hr.Walk.take (i := 14) (v := ?v14) (fun x => Cs w1.heap.size x [.string ⟨#[65]⟩, .slice a1 2 c1, .string ⟨S.toArray⟩] ∧ Cs w2.heap.size x [.string ⟨#[65]⟩, .slice a2 2 c2, .string Z]) (fun _ => True) rfl (by kernel_rfl) (by kernel_rfl) (by kernel_rfl) (fun _ _ _ h => h) (fun _ _ _ _ _ _ => trivial) (fun _ _ _ h => h) (fun _ _ h => h) trivial (Or.inl ⟨by rfl, ?hy14⟩) SD.out SD.out ?rest14
      case hy14 => intro x hx; have y0 := (hx.1.2 0 _ rfl).1; have y1 := (hx.1.2 1 _ rfl).1; have y2 := (hx.1.2 2 _ rfl).1; have y3 := (hx.2.2 2 _ rfl).1; clear hx; go_simp; try with_reducible rfl
      refine Hr.Walk.take (i := 15) (v := ?v15) (fun x => Cs w1.heap.size x [.string ⟨#[65]⟩, .slice a1 2 c1, .string ⟨S.toArray⟩] ∧ Cs w2.heap.size x [.string ⟨#[65]⟩, .slice a2 2 c2, .string Z]) (fun _ => True) rfl (by kernel_rfl) (by kernel_rfl) (by kernel_rfl) (fun _ _ _ h => h) (fun _ _ _ _ _ _ => trivial) (fun _ _ _ h => h) (fun _ _ h => h) trivial (Or.inl ⟨by rfl, ?hy15⟩) SD.out SD.out ?rest15
      case hy15 => intro x hx; have y0 := (hx.1.2 0 _ rfl).1; have y1 := (hx.1.2 1 _ rfl).1; have y2 := (hx.1.2 2 _ rfl).1; have y3 := (hx.2.2 2 _ rfl).1; clear hx; go_simp; try with_reducible rfl
      refine Hr.Walk.take (i := 16) (v := ?v16) (fun x => Cs w1.heap.size x [.string ⟨#[65]⟩, .slice a1 2 c1, .string ⟨S.toArray⟩] ∧ Cs w2.heap.size x [.string ⟨#[65]⟩, .slice a2 2 c2, .string Z]) (fun _ => True) rfl (by kernel_rfl) (by kernel_rfl) (by kernel_rfl) (fun _ _ _ h => h) (fun _ _ _ _ _ _ => trivial) (fun _ _ _ h => h) (fun _ _ h => h) trivial (Or.inl ⟨by rfl, ?hy16⟩) SD.out SD.out ?rest16
      case hy16 => intro x hx; have y0 := (hx.1.2 0 _ rfl).1; have y1 := (hx.1.2 1 _ rfl).1; have y2 := (hx.1.2 2 _ rfl).1; have y3 := (hx.2.2 2 _ rfl).1; clear hx; go_simp; try with_reducible rfl
      refine Hr.Walk.take (i := 18) (v := ?v18) (fun x => Cs w1.heap.size x [.string ⟨#[65]⟩, .slice a1 2 c1, .string ⟨S.toArray⟩] ∧ Cs w2.heap.size x [.string ⟨#[65]⟩, .slice a2 2 c2, .string Z]) (fun _ => True) rfl (by kernel_rfl) (by kernel_rfl) (by kernel_rfl) (fun _ _ _ h => h) (fun _ _ _ _ _ _ => trivial) (fun _ _ _ h => h) (fun _ _ h => h) trivial (Or.inl ⟨by rfl, ?hy18⟩) SD.out SD.out ?rest18
      case hy18 => intro x hx; have y0 := (hx.1.2 0 _ rfl).1; have y1 := (hx.1.2 1 _ rfl).1; have y2 := (hx.1.2 2 _ rfl).1; have y3 := (hx.2.2 2 _ rfl).1; clear hx; go_simp; try with_reducible rfl
      refine Hr.Walk.take (i := 19) (v := ?v19) (fun x => Cs w1.heap.size x [.string ⟨#[65]⟩, .slice a1 2 c1, .string ⟨S.toArray⟩] ∧ Cs w2.heap.size x [.string ⟨#[65]⟩, .slice a2 2 c2, .string Z]) (fun _ => True) rfl (by kernel_rfl) (by kernel_rfl) (by kernel_rfl) (fun _ _ _ h => h) (fun _ _ _ _ _ _ => trivial) (fun _ _ _ h => h) (fun _ _ h => h) trivial (Or.inl ⟨by rfl, ?hy19⟩) SD.out SD.out ?rest19
      case hy19 => intro x hx; have y0 := (hx.1.2 0 _ rfl).1; have y1 := (hx.1.2 1 _ rfl).1; have y2 := (hx.1.2 2 _ rfl).1; have y3 := (hx.2.2 2 _ rfl).1; clear hx; go_simp; try with_reducible rfl
      refine Hr.Walk.take (i := 20) (v := ?v20) (fun x => Cs w1.heap.size x [.string ⟨#[65]⟩, .slice a1 2 c1, .string ⟨S.toArray⟩] ∧ Cs w2.heap.size x [.string ⟨#[65]⟩, .slice a2 2 c2, .string Z]) (fun _ => True) rfl (by kernel_rfl) (by kernel_rfl) (by kernel_rfl) (fun _ _ _ h => h) (fun _ _ _ _ _ _ => trivial) (fun _ _ _ h => h) (fun _ _ h => h) trivial (Or.inl ⟨by rfl, ?hy20⟩) SD.out SD.out ?rest20
      case hy20 => intro x hx; have y0 := (hx.1.2 0 _ rfl).1; have y1 := (hx.1.2 1 _ rfl).1; have y2 := (hx.1.2 2 _ rfl).1; have y3 := (hx.2.2 2 _ rfl).1; clear hx; go_simp; try with_reducible rfl
      refine Hr.Walk.take (i := 21) (v := ?v21) (fun x => Cs w1.heap.size x [.string ⟨#[65]⟩, .slice a1 2 c1, .string ⟨S.toArray⟩] ∧ Cs w2.heap.size x [.string ⟨#[65]⟩, .slice a2 2 c2, .string Z]) (fun _ => True) rfl (by kernel_rfl) (by kernel_rfl) (by kernel_rfl) (fun _ _ _ h => h) (fun _ _ _ _ _ _ => trivial) (fun _ _ _ h => h) (fun _ _ h => h) trivial (Or.inl ⟨by rfl, ?hy21⟩) SD.out SD.out ?rest21
      case hy21 => intro x hx; have y0 := (hx.1.2 0 _ rfl).1; have y1 := (hx.1.2 1 _ rfl).1; have y2 := (hx.1.2 2 _ rfl).1; have y3 := (hx.2.2 2 _ rfl).1; clear hx; go_simp; try with_reducible rfl
      refine Hr.Walk.one (i := 17) (by kernel_rfl) rfl (fun K hK => ?_)
      go_simp
      have SA := Lib.hid (And.intro (Cs.alloc SD.out.1 (Obj.cells #[.int .i64 0, .int .i64 1, .int .i64 1, .int .i64 2] 3)) (Cs.alloc SD.out.2 (Obj.cells #[.int .i64 0, .int .i64 1, .int .i64 1, .int .i64 2] 3)))
      have BA := Lib.hid (BD.out.alloc (by have := B2.out.size; simp; omega) (Obj.cells #[.int .i64 0, .int .i64 1, .int .i64 1, .int .i64 2] 3))
      refine hK.out _ _ SA.out ?_
      clear hK K
      refine Hr.Walk.one (i := 22) (by kernel_rfl) rfl (fun K hK => ?_)
      go_simp
      refine hK.out _ _ SA.out ?_
      clear hK K
      refine Hr.Walk.one (i := 23) (by kernel_rfl) rfl (fun K hK => ?_)
      go_simp
      refine hK.out _ _ SA.out ?_
      clear hK K
      refine Hr.Walk.one (i := 24) (by kernel_rfl) rfl (fun K hK => ?_)
      go_simp
      refine hK.out _ _ SA.out ?_
      clear hK K
      refine Hr.Walk.one (i := 25) (by kernel_rfl) rfl (fun K hK => ?_)
      go_simp
      refine hK.out _ _ SA.out ?_
      clear hK K
      refine Hr.Walk.one (i := 26) (by kernel_rfl) rfl (fun K hK => ?_)
      go_simp
      refine hK.out _ _ SA.out ?_
      clear hK K
      refine Hr.Walk.one (i := 27) (by kernel_rfl) rfl (fun K hK => ?_)
      go_simp
      refine hK.out _ _ SA.out ?_
      clear hK K
      refine Hr.Walk.one (i := 28) (by kernel_rfl) rfl (fun K hK => ?_)
      go_simp
      refine hK.out _ _ SA.out ?_
      clear hK K
      refine Hr.Walk.one (i := 29) (by kernel_rfl) rfl (fun K hK => ?_)
      go_simp
      refine hK.out _ _ SA.out ?_
      clear hK K
      refine Hr.Walk.one (i := 30) (by kernel_rfl) rfl (fun K hK => ?_)
      go_simp
      refine hK.out _ _ SA.out ?_
      clear hK K
      refine Hr.Walk.take (i := 31) (v := ?v31) (fun x => Cs w1.heap.size x [.string ⟨#[65]⟩, .slice a1 2 c1, .string ⟨S.toArray⟩] ∧ Cs w2.heap.size x [.string ⟨#[65]⟩, .slice a2 2 c2, .string Z]) (fun _ => True) rfl (by kernel_rfl) (by kernel_rfl) (by kernel_rfl) (fun _ _ _ h => h) (fun _ _ _ _ _ _ => trivial) (fun _ _ _ h => h) (fun _ _ h => h) trivial (Or.inl ⟨by rfl, ?hy31⟩) SA.out SA.out ?rest31
      case hy31 => intro x hx; have y0 := (hx.1.2 0 _ rfl).1; have y1 := (hx.1.2 1 _ rfl).1; have y2 := (hx.1.2 2 _ rfl).1; have y3 := (hx.2.2 2 _ rfl).1; clear hx; go_simp; try with_reducible rfl
      refine Hr.Walk.take (i := 32) (v := ?v32) (fun x => Cs w1.heap.size x [.string ⟨#[65]⟩, .slice a1 2 c1, .string ⟨S.toArray⟩] ∧ Cs w2.heap.size x [.string ⟨#[65]⟩, .slice a2 2 c2, .string Z]) (fun _ => True) rfl (by kernel_rfl) (by kernel_rfl) (by kernel_rfl) (fun _ _ _ h => h) (fun _ _ _ _ _ _ => trivial) (fun _ _ _ h => h) (fun _ _ h => h) trivial (Or.inl ⟨by rfl, ?hy32⟩) SA.out SA.out ?rest32
      case hy32 => intro x hx; have y0 := (hx.1.2 0 _ rfl).1; have y1 := (hx.1.2 1 _ rfl).1; have y2 := (hx.1.2 2 _ rfl).1; have y3 := (hx.2.2 2 _ rfl).1; clear hx; go_simp; try with_reducible rfl
      refine Hr.Walk.one (i := 33) (by kernel_rfl) rfl (fun K hK => ?_)
      go_simp
      refine hK.out _ _ SA.out ?_
      clear hK K
      refine Hr.Walk.one (i := 34) (by kernel_rfl) rfl (fun K hK => ?_)
      go_simp
      refine hK.out _ _ SA.out ?_
      clear hK K
      refine Hr.Walk.one (i := 35) (by kernel_rfl) rfl (fun K hK => ?_)
      go_simp
      refine hK.out _ _ SA.out ?_
      clear hK K
      refine Hr.Walk.one (i := 36) (by kernel_rfl) rfl (fun K hK => ?_)
      go_simp
      refine hK.out _ _ SA.out ?_
      clear hK K
      refine Hr.Walk.one (i := 37) (by kernel_rfl) rfl (fun K hK => ?_)
      go_simp
      refine hK.out _ _ SA.out ?_
      clear hK K
      refine Hr.Walk.one (i := 38) (by kernel_rfl) rfl (fun K hK => ?_)
      go_simp
      go_wp2_with (go_at_call 23; (with_reducible refine (wakes18_any _).mono ?_); rintro e w' ⟨rfl, hq1⟩)
      have SB := Lib.hid (And.intro (SA.out.1.below hq1) (SA.out.2.below hq1))
      have BB := Lib.hid (bstep BA.out hq1)
      refine hK.out _ _ SB.out ?_
      clear hK K
      refine Hr.Walk.one (i := 39) (by kernel_rfl) rfl (fun K hK => ?_)
      go_simp
      refine hK.out _ _ SB.out ?_
      clear hK K
      refine Hr.Walk.one (i := 40) (by kernel_rfl) rfl (fun K hK => ?_)
      go_simp
      refine hK.out _ _ SB.out ?_
      clear hK K
      refine Hr.Walk.done (by kernel_rfl) ?_ _
      go_wp2
      go_ret
      exact ⟨rfl, BB.out⟩
end Lin
end Go.Proofs.Ytdakpncfophjnaa
