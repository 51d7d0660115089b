/-
  NumTexts: the law answers true at every input, in whatever world that holds the table of powers of ten.
-/
import Derived.Test.YtopclopmgnkoeaaDoorNum4
import Derived.Deep.DeepCutAuto
namespace Go.Proofs.YtopclopmgnkoeaaDoor
open Go.RowKit

theorem u64_nn (n : Int) : 0 ≤ IntKind.u64.wrap n := by
  have h : IntKind.u64.wrap n = n % 18446744073709551616 := by
    simp [IntKind.wrap, IntKind.bits, IntKind.signed]
  rw [h]; omega

theorem tx_len (m k : Int) (h0 : 0 ≤ m) (h1 : m < 1000000000) (k0 : 0 ≤ k) (k1 : k < 19) :
    (Sol.textL m k).all Sol.isDig = true ∧ Sol.digVal (Sol.textL m k) = m ∧ k ≤ ((Sol.textL m k).length : Int) ∧ 1 ≤ (Sol.textL m k).length ∧ (Sol.textL m k).length ≤ 18 := by
  rw [textL_in h0 k0 (by omega)]
  have a1 := Sol.decDigits_len (k := 8) (u := m.toNat) (by omega)
  have a2 := Sol.decDigits_pos m.toNat
  refine ⟨Sol.padL_all _ _, by rw [Sol.padL_val]; omega, ?_, ?_, ?_⟩ <;> rw [Sol.padL_len] <;> omega
theorem tx_head (m k : Int) (h0 : 0 ≤ m) (k0 : 0 ≤ k) (k1 : k < 19) (h : max k 1 < ((Sol.textL m k).length : Int)) :
    ∃ c r, Sol.textL m k = c :: r ∧ c ≠ 48 := by
  rw [textL_in h0 k0 (by omega)] at h ⊢
  rw [Sol.padL_len] at h
  have e : k.toNat ≤ (Lib.decDigits m.toNat).length := by omega
  rw [padL_short e]
  exact Sol.decDigits_head _ (by omega)

theorem tx_byte {s : ByteArray} {c : UInt8} {r : List UInt8} (h : s.data.toList = c :: r) (h0 : 0 < s.size) (n : c ≠ 48) : ((s[0].toNat : Int) == 48) = false := by
  have e : s[0] = c := by
    have h1 : s.data.toList[0]? = some c := by rw [h]; rfl
    rw [Array.getElem?_toList] at h1
    have h2 : s.data[0]? = some s.data[0] := Array.getElem?_eq_getElem h0
    rw [h2] at h1
    exact Option.some.inj h1
  rw [e, beq_eq_false_iff_ne]
  intro h3
  exact n (UInt8.toNat_inj.1 (by show c.toNat = 48; omega))

theorem tx_conv (c : UInt8) (w : World) : Sem.run Tryd.prog (convert 37 9 (Value.slice (some ⟨w.heap.size, 0, none⟩) 1 1)) (w.alloc (Obj.cells #[Value.int IntKind.u8 (c.toNat : Int)] 5)).drew = .ok (.string ⟨#[c]⟩) (w.alloc (Obj.cells #[Value.int IntKind.u8 (c.toNat : Int)] 5)).drew := by
  refine run_convert_bytes_back (P := Tryd.prog) _ 37 9 5 _ 1 [c] Tryd.underlying37 Tryd.underlying5 Tryd.underlying9 ?_
  intro j hj
  obtain rfl : j = 0 := by simpa using hj
  simp [Addr.add, World.cell?_alloc_new]

theorem tx_last (s : ByteArray) (p : Nat) (c : UInt8) (hp : s.size = p + 1) (h18 : s.size ≤ 18) (ha : s.data.toList.all Sol.isDig = true) :
    (s.extract 0 p ++ ⟨#[c]⟩ : ByteArray).size ≤ maxLen ∧ Sol.parseB (s.data.toList.take p ++ [c]) = Sol.isDig c := by
  have e : (s.extract 0 p ++ ⟨#[c]⟩ : ByteArray).data.toList = s.data.toList.take p ++ [c] := by
    rw [ByteArray.data_append, ByteArray.data_extract, Array.toList_append, Array.toList_extract]
    simp
  have hz : (s.data.toList.take p).length = p := by
    rw [List.length_take, Sol.list_len]; omega
  have hl : (s.extract 0 p ++ ⟨#[c]⟩ : ByteArray).size = p + 1 := by
    rw [← Sol.list_len, e, List.length_append, hz]; rfl
  refine ⟨by rw [hl]; unfold maxLen; omega, ?_⟩
  rw [Sol.parseB, Sol.all_snoc, List.length_append, hz]
  have h2 : (s.data.toList.take p).all Sol.isDig = true := by
    rw [List.all_eq_true] at ha ⊢
    exact fun x hx => ha x (List.mem_of_mem_take hx)
  rw [h2, Bool.true_and]
  have h3 : decide (1 ≤ p + [c].length ∧ p + [c].length ≤ 18) = true := by simp; omega
  rw [h3, Bool.true_and]

theorem tx_empty : Sol.parseB (ByteArray.mk #[]).data.toList = false := by decide +kernel

set_option maxRecDepth 100000 in
set_option maxHeartbeats 800000 in
theorem texts_any (n d : Int) (c : UInt8) (w : World) (hp : Pow w) :
    Calls Tryd.prog 5 #[.int .i64 n, .int .i64 d, .int .u8 (c.toNat : Int)] w fun e w' => e = .returned (.bool true) ∧ Below w.heap.size w w' := by
  have HP := Lib.hid hp
  clear hp
  have m0 : 0 ≤ (IntKind.u64.wrap n).tmod 1000000000 := Int.tmod_nonneg _ (u64_nn n)
  have m1 : (IntKind.u64.wrap n).tmod 1000000000 < 1000000000 := Int.tmod_lt_of_pos _ (by omega)
  have k0 : 0 ≤ (IntKind.u64.wrap d).tmod 19 := Int.tmod_nonneg _ (u64_nn d)
  have k1 : (IntKind.u64.wrap d).tmod 19 < 19 := Int.tmod_lt_of_pos _ (by omega)
  go_enter Tryd.func5, Tryd.ntmps5
  go_wp2_with fail
  generalize (IntKind.u64.wrap n).tmod 1000000000 = m at *
  generalize (IntKind.u64.wrap d).tmod 19 = k at *
  refine (text_any _ _ _ (by omega) (by omega) (by omega) (by omega) HP.out.here).mono ?_
  rintro e w1 ⟨rfl, hb⟩
  obtain ⟨t1, t2, t3, t4, t5⟩ := tx_len m k m0 m1 k0 k1
  have t6 := tx_head m k m0 k0 k1
  generalize Sol.textL m k = l at *
  have HA := Lib.hid t1
  have HV := Lib.hid t2
  have HH := Lib.hid t6
  have HB : Hid (Sol.parseB l = true) := Lib.hid (Sol.parseB_yes t4 t5 t1)
  clear t1 t2 t6
  obtain ⟨s, hs⟩ : ∃ s : ByteArray, s = ⟨l.toArray⟩ := ⟨_, rfl⟩
  have hl : s.data.toList = l := by rw [hs]
  have hz : s.size = l.length := by rw [← hl]; exact (Sol.list_len s).symm
  rw [← hs]
  have HL := Lib.hid hl
  have HZ := Lib.hid hz
  have z1 : 1 ≤ s.size := by omega
  have z2 : s.size ≤ 18 := by omega
  have z3 : k ≤ (s.size : Int) := by omega
  clear hs hl hz t3 t4 t5
  go_wp2_with fail
  refine (parse_any _ _ (by unfold maxLen; omega)).mono ?_
  rintro e w2 ⟨rfl, rfl⟩
  rw [HL.out, HB.out, Sol.parseV_yes HB.out, HV.out]
  have hz0 : 0 < s.size := by omega
  go_upto_region 4 with fail
  go_cut [55] (fun x wx => x = .bool false ∧ w1 = wx)
  case first =>
    by_cases hm : max k 1 < (s.size : Int)
    · have hx : ((s[0].toNat : Int) == 48) = false := by
        obtain ⟨c0, r0, e0, n0⟩ := HH.out (by have := HZ.out; omega)
        exact tx_byte (HL.out.trans e0) hz0 n0
      go_wp2
      go_meet
      exact ⟨congrArg Value.bool (by simp; omega), rfl⟩
    · go_wp2
      go_meet
      exact ⟨congrArg Value.bool (by simp; omega), rfl⟩
  case rest =>
    obtain ⟨rfl, rfl⟩ := hcut
    go_upto_region 6 with fail
    obtain ⟨p, hp⟩ : ∃ p : Nat, s.size = p + 1 := ⟨s.size - 1, by omega⟩
    have f1 : IntKind.i64.wrap ((s.size : Int) - 1) = (p : Int) := by rw [IntWalk.i64_in _ (by omega)]; omega
    have f2 : wrap64 ((s.size : Int) - 1) = (p : Int) := by rw [IntWalk.wrap64_in _ (by omega)]; omega
    have f3 : p ≤ s.size := by omega
    have HP1 := Lib.hid hp
    clear hp
    have hcv := tx_conv c w1
    have HT := Lib.hid (tx_last s p c HP1.out z2 (by rw [HL.out]; exact HA.out))
    go_cut [10, 11] (fun x y wx => (∃ v : Int, x = .int .i64 v) ∧ y = .bool (Sol.isDig c) ∧ Below w.heap.size w wx)
    case first =>
      go_region_with (go_at_call 18; refine (parse_any _ _ HT.out.1).mono ?_; rintro e w2 ⟨rfl, rfl⟩)
      all_goals (go_wp2_with fail; go_meet)
      all_goals exact ⟨⟨_, rfl⟩, by rw [HT.out.2], (hb.alloc hb.size _).drew⟩
    case rest =>
      obtain ⟨⟨v, rfl⟩, rfl, hb2⟩ := hcut
      clear f1 f2 hcv
      by_cases g1 : 48 ≤ (c.toNat : Int)
      · by_cases g2 : (c.toNat : Int) ≤ 57
        · rw [(Sol.isDig_iff c).2 ⟨g1, g2⟩]
          go_wp2_with fail
          refine (parse_any _ _ (by decide)).mono ?_
          rintro e w3 ⟨rfl, rfl⟩
          rw [tx_empty]
          go_wp2_with fail
          refine (text_any _ _ _ (by omega) (by omega) (by omega) (by omega) (HP.out.stays hb2).here).mono ?_
          rintro e w3 ⟨rfl, hb3⟩
          rw [textL_neg (by omega)]
          have hb4 := hb2.trans (hb3.mono hb2.size)
          go_wp2_with fail
          refine (wakes1_any _ (HP.out.stays hb4)).mono ?_
          rintro e w4 ⟨rfl, hb5⟩
          go_wp2
          go_ret
          exact ⟨rfl, hb4.trans (hb5.mono hb4.size)⟩
        · rw [Sol.isDig_hi g2]
          go_wp2_with fail
          refine (parse_any _ _ (by decide)).mono ?_
          rintro e w3 ⟨rfl, rfl⟩
          rw [tx_empty]
          go_wp2_with fail
          refine (text_any _ _ _ (by omega) (by omega) (by omega) (by omega) (HP.out.stays hb2).here).mono ?_
          rintro e w3 ⟨rfl, hb3⟩
          rw [textL_neg (by omega)]
          have hb4 := hb2.trans (hb3.mono hb2.size)
          go_wp2_with fail
          refine (wakes1_any _ (HP.out.stays hb4)).mono ?_
          rintro e w4 ⟨rfl, hb5⟩
          go_wp2
          go_ret
          exact ⟨rfl, hb4.trans (hb5.mono hb4.size)⟩
      · rw [Sol.isDig_lo g1]
        go_wp2_with fail
        refine (parse_any _ _ (by decide)).mono ?_
        rintro e w3 ⟨rfl, rfl⟩
        rw [tx_empty]
        go_wp2_with fail
        refine (text_any _ _ _ (by omega) (by omega) (by omega) (by omega) (HP.out.stays hb2).here).mono ?_
        rintro e w3 ⟨rfl, hb3⟩
        rw [textL_neg (by omega)]
        have hb4 := hb2.trans (hb3.mono hb2.size)
        go_wp2_with fail
        refine (wakes1_any _ (HP.out.stays hb4)).mono ?_
        rintro e w4 ⟨rfl, hb5⟩
        go_wp2
        go_ret
        exact ⟨rfl, hb4.trans (hb5.mono hb4.size)⟩

theorem texts_int (n d c : Int) (w : World) (hp : Pow w) (c1 : 0 ≤ c) (c2 : c ≤ 255) :
    Calls Tryd.prog 5 #[.int .i64 n, .int .i64 d, .int .u8 c] w fun e w' => e = .returned (.bool true) ∧ Below w.heap.size w w' := by
  have e : c = ((UInt8.ofNat c.toNat).toNat : Int) := by rw [UInt8.toNat_ofNat']; omega
  rw [e]
  exact texts_any n d _ w hp
end Go.Proofs.YtopclopmgnkoeaaDoor
