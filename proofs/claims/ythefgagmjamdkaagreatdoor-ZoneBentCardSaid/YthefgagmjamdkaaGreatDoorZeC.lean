/-
  Contracts of package zone: Check. (Written by gen/gen_zeh.py.)
-/
import Derived.Test.YthefgagmjamdkaaGreatDoorZeA
namespace Go.Proofs.YthefgagmjamdkaaGreatDoor
open Go.RowKit
namespace Zon
open Sol Clk Cel Rul Rs

theorem ret_i {a b : Int} (h : a = b) : Ending.returned (.int .i64 a) = .returned (.int .i64 b) := by rw [h]
set_option maxHeartbeats 12800000 in
set_option maxRecDepth 100000 in
theorem zck_row (NM : List UInt8) (b off c0 : Nat) (L : List EV) (q : Int) (w : World) (hA : Civ.Ahead w) (hm : Wrd.MaxL w) (hbl : b < w.heap.size) (hp : Hid (∀ (j : Nat) (hj : j < L.length), w.rangeAt b (off + j * 13) (erC L[j]))) (m : NM.length ≤ 1000) (h1 : 1 ≤ L.length) (h30 : L.length ≤ 30) (hbd : Hid (∀ e ∈ L, e.ru.length ≤ 1000000 ∧ e.fm.length ≤ 1000000)) (hn : Hid (nameB NM = true))
    (hE : Hid ((if erG L L.length = true then (0 : Int) else 11) = q)) :
    Calls Tryz.prog 16 #[.agg #[.string ⟨NM.toArray⟩, .slice (some ⟨b, off, none⟩) L.length c0]] w fun x w' => x = .returned (.int .i64 q) ∧ Below w.heap.size w w' := by
  have HA := Lib.hid hA
  have HM := Lib.hid hm
  obtain ⟨N, hN⟩ : ∃ N, L.length = N := ⟨_, rfl⟩
  rw [hN] at h1 h30 hE ⊢
  have HN := Lib.hid hN
  have SM : Hid ((⟨NM.toArray⟩ : ByteArray).size ≤ 1000000) := Lib.hid (by show NM.length ≤ 1000000; omega)
  clear hN hA hm m
  have C0 := Lib.hid (Cs.new w [.string ⟨NM.toArray⟩, .slice (some ⟨b, off, none⟩) N c0] 24)
  have B0 := Lib.hid ((Below.refl w.heap.size w).alloc (Nat.le_refl _) (Obj.cells #[.string ⟨NM.toArray⟩, .slice (some ⟨b, off, none⟩) N c0] 24))
  go_enter Tryz.func16, Tryz.ntmps16
  go_wp2_with fail
  refine (nam_to _ NM true _ SM.out (Lib.hid rfl) hn).mono ?_
  rintro e w1 ⟨rfl, rfl⟩
  go_wp2
  go_loopw [25] (fun iv wr => ∃ k : Nat, k ≤ N ∧ iv = .int .i64 k ∧ Hid (erG L k = true) ∧ Hid (Cs w.heap.size wr [.string ⟨NM.toArray⟩, .slice (some ⟨b, off, none⟩) N c0]) ∧ Hid (Below w.heap.size w wr)) (fun i _ => N - (intOf i).toNat)
  case atStart => exact ⟨0, Nat.zero_le _, rfl, Lib.hid rfl, C0, B0⟩
  case round =>
    obtain ⟨k, hk, rfl, hall, HC, HB⟩ := hrel
    obtain ⟨wo, rfl⟩ : ∃ wo : World, wo = wr := ⟨_, rfl⟩
    clear C0 B0
    by_cases hlt : k < N
    · have hkp : k < L.length := by rw [HN.out]; exact hlt
      have r0 := range_below hbl (hp.out k hkp) HB.out
      obtain ⟨r, hr⟩ : ∃ r, L[k]'hkp = r := ⟨_, rfl⟩
      rw [hr] at r0
      obtain ⟨s1, s2⟩ := hbd.out r (hr ▸ List.getElem_mem hkp)
      have HNX : Hid (eAt L k r = true → erG L (k + 1) = true) := Lib.hid (fun e => by rw [erG_succ hkp, hall.out, hr, e]; rfl)
      have HNO : Hid (eAt L k r = false → 11 = q) := Lib.hid (fun e => by rw [← hE.out, if_neg (by rw [erG_no hkp hlt (by rw [hr]; exact e)]; decide)])
      clear hr hkp hall
      obtain ⟨st, kd, sv, ru, fm, un, yr, mo, k9, v, d, n, c⟩ := r
      have R0 : Hid (wo.rangeAt b (off + k * 13) [.int .i64 st, .int .i64 kd, .int .i64 sv, .string ⟨ru.toArray⟩, .string ⟨fm.toArray⟩, .bool un, .int .i64 yr, .int .i64 mo, .int .i64 k9, .int .i64 v, .int .i64 d, .int .i64 n, .int .i64 c]) := Lib.hid r0
      have B1 := Lib.hid ((Below.refl wo.heap.size wo).alloc (Nat.le_refl _) (Obj.cells #[.int .i64 st, .int .i64 kd, .int .i64 sv, .string ⟨ru.toArray⟩, .string ⟨fm.toArray⟩, .bool un, .int .i64 yr, .int .i64 mo, .int .i64 k9, .int .i64 v, .int .i64 d, .int .i64 n, .int .i64 c] 30))
      have C1 := Lib.hid (Cs.new wo [.int .i64 st, .int .i64 kd, .int .i64 sv, .string ⟨ru.toArray⟩, .string ⟨fm.toArray⟩, .bool un, .int .i64 yr, .int .i64 mo, .int .i64 k9, .int .i64 v, .int .i64 d, .int .i64 n, .int .i64 c] 30)
      have C1r := Lib.hid C1.out.range
      have z5 := (C1.out.2 5 _ rfl).1
      have HC1 := Lib.hid (HC.out.below B1.out)
      have HB1 := Lib.hid (bstep HB.out B1.out)
      have HA1 := Lib.hid (HA.out.stays HB1.out)
      have HM1 := Lib.hid (HM.out.stays HB1.out)
      have z1 := (HC1.out.2 1 _ rfl).1
      clear r0
      have wk : IntKind.i64.wrap ((N : Int) - 1) = (N : Int) - 1 := by rw [IntKind.wrap_i64]; omega
      by_cases hlast : k + 1 = N
      · have hd : ((k : Int) == (N : Int) - 1) = true := beq_iff_eq.2 (by omega)
        cases un with
        | false =>
          cases hrg : rgB ⟨st, kd, sv, ru, fm, false, yr, mo, k9, v, d, n, c⟩ with
          | false =>
            have HR := Lib.hid (HNO.out (by rw [eAt, hrg]; rfl))
            have HG := Lib.hid hrg
            clear HNO HNX hrg
            go_wp2_with (first | (refine ldE R0.out rfl (by rfl) (by rfl) (by rfl) ?_; intro K2 hK2; go_simp) | (refine ldE C1r.out rfl (by rfl) (by rfl) (by rfl) ?_; intro K2 hK2; go_simp))
            refine (isr_to st kd sv ru fm false yr mo k9 v d n c false _ HA1.out HM1.out s1 s2 HG).mono ?_
            rintro e w2 ⟨rfl, hb2⟩
            have HB2 := Lib.hid (bstep HB1.out hb2)
            clear hb2
            go_wp2
            go_ret
            exact ⟨ret_i HR.out, HB2.out⟩
          | true =>
            have HR := Lib.hid (HNX.out (by rw [eAt, hrg, HN.out, decide_eq_true hlast]; rfl))
            have HG := Lib.hid hrg
            clear HNO HNX hrg
            go_wp2_with (first | (refine ldE R0.out rfl (by rfl) (by rfl) (by rfl) ?_; intro K2 hK2; go_simp) | (refine ldE C1r.out rfl (by rfl) (by rfl) (by rfl) ?_; intro K2 hK2; go_simp))
            refine (isr_to st kd sv ru fm false yr mo k9 v d n c true _ HA1.out HM1.out s1 s2 HG).mono ?_
            rintro e w2 ⟨rfl, hb2⟩
            have HB2 := Lib.hid (bstep HB1.out hb2)
            have HC2 := Lib.hid (HC1.out.below hb2)
            clear hb2 HB1 HC1 z1 z5 C1 C1r R0
            go_wp2
            go_roundw
            case rel => exact ⟨k + 1, by omega, by go_num, HR, HC2, HB2⟩
            case measure => simp [intOf]; omega
        | true =>
          have HR := Lib.hid (HNO.out (by rw [eAt, HN.out, decide_eq_true hlast]; simp))
          clear HNO HNX
          go_wp2_with (first | (refine ldE R0.out rfl (by rfl) (by rfl) (by rfl) ?_; intro K2 hK2; go_simp) | (refine ldE C1r.out rfl (by rfl) (by rfl) (by rfl) ?_; intro K2 hK2; go_simp))
          go_ret
          exact ⟨ret_i HR.out, HB1.out⟩
      · have hd : ((k : Int) == (N : Int) - 1) = false := beq_eq_false_iff_ne.2 (by omega)
        cases un with
        | false =>
          have HR := Lib.hid (HNO.out (by rw [eAt, HN.out, decide_eq_false hlast]; simp))
          clear HNO HNX
          go_wp2_with (first | (refine ldE R0.out rfl (by rfl) (by rfl) (by rfl) ?_; intro K2 hK2; go_simp) | (refine ldE C1r.out rfl (by rfl) (by rfl) (by rfl) ?_; intro K2 hK2; go_simp))
          go_ret
          exact ⟨ret_i HR.out, HB1.out⟩
        | true =>
          cases hrg : rgB ⟨st, kd, sv, ru, fm, true, yr, mo, k9, v, d, n, c⟩ with
          | false =>
            have HR := Lib.hid (HNO.out (by rw [eAt, hrg]; rfl))
            have HG := Lib.hid hrg
            clear HNO HNX hrg
            go_wp2_with (first | (refine ldE R0.out rfl (by rfl) (by rfl) (by rfl) ?_; intro K2 hK2; go_simp) | (refine ldE C1r.out rfl (by rfl) (by rfl) (by rfl) ?_; intro K2 hK2; go_simp))
            refine (isr_to st kd sv ru fm true yr mo k9 v d n c false _ HA1.out HM1.out s1 s2 HG).mono ?_
            rintro e w2 ⟨rfl, hb2⟩
            have HB2 := Lib.hid (bstep HB1.out hb2)
            clear hb2
            go_wp2
            go_ret
            exact ⟨ret_i HR.out, HB2.out⟩
          | true =>
            have HR := Lib.hid (HNX.out (by rw [eAt, hrg, HN.out, decide_eq_false hlast]; rfl))
            have HG := Lib.hid hrg
            clear HNO HNX hrg
            go_wp2_with (first | (refine ldE R0.out rfl (by rfl) (by rfl) (by rfl) ?_; intro K2 hK2; go_simp) | (refine ldE C1r.out rfl (by rfl) (by rfl) (by rfl) ?_; intro K2 hK2; go_simp))
            refine (isr_to st kd sv ru fm true yr mo k9 v d n c true _ HA1.out HM1.out s1 s2 HG).mono ?_
            rintro e w2 ⟨rfl, hb2⟩
            have HB2 := Lib.hid (bstep HB1.out hb2)
            have HC2 := Lib.hid (HC1.out.below hb2)
            clear hb2 HB1 HC1 z1 z5 C1 C1r R0
            go_wp2
            go_roundw
            case rel => exact ⟨k + 1, by omega, by go_num, HR, HC2, HB2⟩
            case measure => simp [intOf]; omega
    · have HR : Hid (0 = q) := Lib.hid (by
        have e : k = N := by omega
        rw [← hE.out, if_pos (by rw [← e]; exact hall.out)])
      go_wp2
      go_ret
      exact ⟨ret_i HR.out, HB.out⟩
end Zon
end Go.Proofs.YthefgagmjamdkaaGreatDoor
