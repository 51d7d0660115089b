/-
  strings.ContainsAny of whatever text, held against the two signs of a line end.
-/
import Derived.Test.YtdakpncfophjnaaBdH
import Derived.Test.YtdakpncfophjnaaShelf
import Derived.WalkKit
import Derived.Below
import Derived.Lib.Hide
import Derived.Lib.IndexAny
import Derived.Lib.OthersKept
import Derived.Laws.Runes
import Derived.Laws.RangeAny
import Derived.LoopN
import Derived.WalkMore
import Derived.Outline
import Derived.BigQuiet
import Derived.Deep.QuietTactic
namespace Go.Proofs.Ytdakpncfophjnaa
open Go.RowKit
namespace Fld
theorem decode_wide (s : ByteArray) (i : Nat) (h : i < s.size) (ha : 128 ≤ (s[i]'h).toNat) : ∀ j, j < (Utf8.decode s i).2 → ∃ hj : i + j < s.size, 128 ≤ (s[i + j]'hj).toNat := by
  have hn : ¬ (s[i]'h).toNat < 128 := by omega
  have key : ∀ k, (decide (i + k < s.size) && (s.get! (i + k)).toNat / 64 == 2) = true → ∃ hj : i + k < s.size, 128 ≤ (s[i + k]'hj).toNat := fun k hk => by
    rw [Bool.and_eq_true] at hk
    have h1 := of_decide_eq_true hk.1
    refine ⟨h1, ?_⟩
    have h2 := beq_iff_eq.1 hk.2
    have e := get_at s (i + k) h1
    rw [Nat.add_zero] at e
    rw [← e]
    omega
  have k0 : ∃ hj : i + 0 < s.size, 128 ≤ (s[i + 0]'hj).toNat := ⟨h, ha⟩
  intro j hj
  simp only [Utf8.decode, get_at s i h, hn, if_false] at hj
  split at hj
  · rename_i c1
    rw [Bool.and_eq_true] at c1
    have k1 := key 1 (by simpa using c1.2)
    split at hj
    · match j, hj with
      | 0, _ => exact k0
      | 1, _ => exact k1
      | n + 2, hj => simp at hj; omega
    · match j, hj with
      | 0, _ => exact k0
      | n + 1, hj => simp at hj
  · split at hj
    · rename_i c1
      rw [Bool.and_eq_true, Bool.and_eq_true] at c1
      have k1 := key 1 (by simpa using c1.1.2)
      have k2 := key 2 (by simpa using c1.2)
      split at hj
      · match j, hj with
        | 0, _ => exact k0
        | 1, _ => exact k1
        | 2, _ => exact k2
        | n + 3, hj => simp at hj; omega
      · match j, hj with
        | 0, _ => exact k0
        | n + 1, hj => simp at hj
    · split at hj
      · rename_i c1
        rw [Bool.and_eq_true, Bool.and_eq_true, Bool.and_eq_true] at c1
        have k1 := key 1 (by simpa using c1.1.1.2)
        have k2 := key 2 (by simpa using c1.1.2)
        have k3 := key 3 (by simpa using c1.2)
        split at hj
        · match j, hj with
          | 0, _ => exact k0
          | 1, _ => exact k1
          | 2, _ => exact k2
          | 3, _ => exact k3
          | n + 4, hj => simp at hj; omega
        · match j, hj with
          | 0, _ => exact k0
          | n + 1, hj => simp at hj
      · match j, hj with
        | 0, _ => exact k0
        | n + 1, hj => simp at hj
set_option maxHeartbeats 3200000 in
set_option maxRecDepth 100000 in
theorem ir_err (w : World) :
    Calls Try.prog 62 #[.string ⟨#[13, 10]⟩, .int .i32 65533] w fun e w' => e = .returned (.int .i64 (-1)) ∧ Below w.heap.size w w' := by
  have n0 : ∀ ty, (Instr.next (.pointer (some ⟨w.heap.size, 0, none⟩)) true ty).run Try.prog (w.iter ⟨#[13, 10]⟩ 0) = .ok (.tuple #[.bool true, .int .i64 0, .int .i32 13]) (w.iter ⟨#[13, 10]⟩ 1) := fun ty => by
    have := run_next_ascii (P := Try.prog) w ⟨#[13, 10]⟩ 0 ty (by decide) (by decide)
    exact this
  have n1 : ∀ ty, (Instr.next (.pointer (some ⟨w.heap.size, 0, none⟩)) true ty).run Try.prog (w.iter ⟨#[13, 10]⟩ 1) = .ok (.tuple #[.bool true, .int .i64 1, .int .i32 10]) (w.iter ⟨#[13, 10]⟩ 2) := fun ty => by
    have := run_next_ascii (P := Try.prog) w ⟨#[13, 10]⟩ 1 ty (by decide) (by decide)
    exact this
  have n2 := fun ty => run_next_end (P := Try.prog) w ⟨#[13, 10]⟩ 2 ty (by decide)
  have hb : Below w.heap.size w (w.iter ⟨#[13, 10]⟩ 2) := (Below.refl _ _).alloc (Nat.le_refl _) _
  go_enter Try.func62, Try.ntmps62
  go_wp2
  refine wp_loop_rounds 3 ?_
  rw [rounds_succ]
  go_wp2
  rw [rounds_succ]
  go_wp2
  rw [rounds_succ]
  go_wp2
  go_ret
  exact ⟨rfl, hb⟩
theorem iby_none (c : Int) (w : World) : Calls Try.prog 53 #[.string ((⟨#[13, 10]⟩ : ByteArray).extract 2 2), .int .u8 c] w fun e w' => e = .returned (.int .i64 (-1)) ∧ w' = w := by
  have h := Try.strings_IndexByte ((⟨#[13, 10]⟩ : ByteArray).extract 2 2) c w
  exact h
set_option maxHeartbeats 3200000 in
set_option maxRecDepth 100000 in
theorem ir_high (r : Int) (w : World) (h : 128 ≤ r) (hm : r ≤ 2147483647) :
    Calls Try.prog 62 #[.string ⟨#[13, 10]⟩, .int .i32 r] w fun e w' => e = .returned (.int .i64 (-1)) ∧ Below w.heap.size w w' := by
  by_cases h1 : r = 65533
  · subst h1; exact ir_err w
  have hr1 : (r == 65533) = false := beq_eq_false_iff_ne.2 h1
  have hr2 : ¬ r < 128 := by omega
  clear h1
  have hvr := Try.utf8_ValidRune r w
  cases hv : Lib.validRune r with
  | false =>
    rw [hv] at hvr
    have HV := Lib.hid hvr
    clear hvr hv
    go_enter Try.func62, Try.ntmps62
    go_wp2_with fail
    refine HV.out.mono ?_
    rintro e w' ⟨rfl, rfl⟩
    go_wp2
    go_ret
    exact ⟨rfl, Below.refl _ _⟩
  | true =>
    have huv : Utf8.valid r = true := by rw [validRune_eq]; exact hv
    obtain ⟨e2, e4, el⟩ := encode_facts r huv h
    rw [hv] at hvr
    have HV := Lib.hid hvr
    clear hvr hv huv
    by_cases hs2 : (Utf8.encode r).size = 2
    · obtain ⟨q, hq⟩ : ∃ q, (Utf8.encode r)[1]'(by omega) = q := ⟨_, rfl⟩
      have hq2 : 128 ≤ q.toNat := by
        have := el (by omega)
        rw [← hq]
        simpa [hs2] using this
      have hne : ((10 : Int) == (q.toNat : Int)) = false := beq_eq_false_iff_ne.2 (by omega)
      have hlt := q.toNat_lt
      have hne2 : ((10 : Int) != (q.toNat : Int)) = true := by rw [bne, hne]; rfl
      have hz : (⟨#[13, 10]⟩ : ByteArray)[1] = 10 := rfl
      have EL := Lib.hid el
      clear el
      go_enter Try.func62, Try.ntmps62
      go_wp2_with fail
      refine HV.out.mono ?_
      rintro e w' ⟨rfl, rfl⟩
      go_wp2_with fail
      go_step3
      go_wp2_with fail
      refine wp_loop_rounds 1 ?_
      rw [rounds_succ]
      go_wp2_with fail
      go_step3
      go_wp2_with fail
      go_quiet (fail)
      obtain ⟨W, hW⟩ : ∃ x, w'.drewN nq = x := ⟨_, rfl⟩
      have hb : Below w'.heap.size w' W := by rw [← hW]; exact below_drewN (Below.refl _ _) nq
      rw [hW]
      clear hW
      go_wp2_with fail
      have HI : Hid (∀ c W, Calls Try.prog 53 #[.string ((⟨#[13, 10]⟩ : ByteArray).extract 2 2), .int .u8 c] W fun e w' => e = .returned (.int .i64 (-1)) ∧ w' = W) := Lib.hid (fun c W => iby_none c W)
      go_quiet ((go_at_call 53; exact Calls.quiet_of_same (HI.out _ _)))
      go_wp2
      rw [Exit.noGoto_ret]
      go_wp2
      rw [Exit.noGoto_ret]
      go_ret
      exact ⟨rfl, below_drewN hb _⟩
    · have h3 : ¬ ((Utf8.encode r).size : Int) - 1 < 2 := by omega
      have EL := Lib.hid el
      clear el
      go_enter Try.func62, Try.ntmps62
      go_wp2_with fail
      refine HV.out.mono ?_
      rintro e w' ⟨rfl, rfl⟩
      go_wp2_with fail
      go_step3
      go_wp2_with fail
      refine wp_loop_rounds 1 ?_
      rw [rounds_succ]
      go_wp2
      rw [Exit.noGoto_ret]
      go_ret
      exact ⟨rfl, Below.refl _ _⟩
/-- A sign of a line end. -/
def le (c : UInt8) : Bool := c == 13 || c == 10
def hit (S : List UInt8) : Bool := S.any le
theorem indexAny_hitB (S : List UInt8) : decide (0 ≤ Lib.indexAny S [13, 10]) = hit S := by
  induction S with
  | nil => rfl
  | cons c S ih =>
    unfold hit at ih ⊢
    rw [Lib.indexAny, List.any_cons, ← ih]
    have e : ([13, 10] : List UInt8).contains c = le c := by
      unfold le
      simp
      rfl
    rw [e]
    have hg := Lib.indexAny_ge [13, 10] S
    cases h : le c with
    | true => simp
    | false =>
      by_cases h1 : Lib.indexAny S [13, 10] = -1
      · rw [h1]; simp
      · have h2 : (Lib.indexAny S [13, 10] == -1) = false := beq_eq_false_iff_ne.2 h1
        rw [h2]
        simp
        omega
theorem run_zero (w : World) : (zeroValue 100).run Try.prog w = .ok (.agg (Array.replicate 256 (.bool false))) w := by kernel_rfl
theorem ir_ascii (x : UInt8) (w : World) (h : x.toNat < 128) : Calls Try.prog 62 #[.string ⟨#[13, 10]⟩, .int .i32 (x.toNat : Int)] w fun e w' => e = .returned (.int .i64 (if x = 13 then 0 else if x = 10 then 1 else -1)) ∧ w = w' := by
  refine (Try.strings_IndexRune_ascii ⟨#[13, 10]⟩ (x.toNat : Int) w (by omega) (by omega)).mono ?_
  rintro e w' ⟨rfl, rfl⟩
  refine ⟨?_, rfl⟩
  have e : ((x.toNat : Int)).toNat.toUInt8 = x := by simp
  rw [e]
  congr 2
  show Lib.indexByte [13, 10] x = _
  by_cases h1 : x = 13
  · subst h1; rfl
  · by_cases h2 : x = 10
    · subst h2; rfl
    · have e1 : ((13 : UInt8) == x) = false := beq_eq_false_iff_ne.2 (fun e => h1 e.symm)
      have e2 : ((10 : UInt8) == x) = false := beq_eq_false_iff_ne.2 (fun e => h2 e.symm)
      have e3 : Lib.indexByte [10] x = -1 := by simp [Lib.indexByte, e2]
      rw [if_neg h1, if_neg h2, Lib.indexByte, e1, e3]
      rfl
set_option maxHeartbeats 8000000 in
set_option maxRecDepth 1000000 in
theorem ia_short (s : ByteArray) (S : List UInt8) (w : World) (h8 : s.size ≤ 8) (hS : Hid (s.data.toList = S)) :
    Calls Try.prog 43 #[.string s, .string ⟨#[13, 10]⟩] w fun e w' => ∃ v, e = .returned (.int .i64 v) ∧ Hid (decide (0 ≤ v) = hit S) ∧ Below w.heap.size w w' := by
  have hl : S.length = s.size := by rw [← hS.out]; simp
  have HL := Lib.hid hl
  clear hl
  have h8z : decide ((8 : Int) < (s.size : Int)) = false := decide_eq_false (by omega)
  have h8c := Try.strings_shouldUseASCIISet (s.size : Int) w
  rw [h8z] at h8c
  have H8 := Lib.hid h8c
  clear h8z h8c
  have hb0 : Below w.heap.size w (w.iter s 0) := (Below.refl _ _).alloc (Nat.le_refl _) _
  have hi0 : (w.iter s 0).heap[w.heap.size]? = some (.stringIter s 0) := World.iter_heap w s 0
  have HB := Lib.hid hb0
  have HI := Lib.hid hi0
  clear hb0 hi0
  go_enter Try.func43, Try.ntmps43
  go_wp2_with fail
  refine H8.out.mono ?_
  rintro e w' ⟨rfl, rfl⟩
  go_wp2_with fail
  go_loopg [9, 10] s.size (fun g _ _ wx => ∃ i : Nat, i + g = s.size ∧ Hid (wx.heap[w'.heap.size]? = some (.stringIter s i)) ∧ Hid (hit (S.take i) = false) ∧ Below w'.heap.size w' wx)
  case atStart => exact ⟨0, by omega, HI, Lib.hid rfl, HB.out⟩
  case round =>
    obtain ⟨i, hig, hit0, hno, hb⟩ := hrel
    cases gk with
    | zero =>
      obtain rfl : i = s.size := by omega
      have hnx := fun ty => Lib.run_next_end_at (P := Try.prog) wr w'.heap.size s s.size ty hit0.out (by omega)
      go_wp2
      go_ret
      exact ⟨-1, rfl, Lib.hid (by have h := hno.out; rw [List.take_of_length_le (by rw [HL.out]; exact Nat.le_refl _)] at h; rw [h]; rfl), hb⟩
    | succ g =>
      have hi : i < s.size := by omega
      have hiS : i < S.length := by rw [HL.out]; exact hi
      obtain ⟨x, hx⟩ : ∃ x : UInt8, s[i]'hi = x := ⟨_, rfl⟩
      have hxS : S[i]'hiS = x := by
        rw [← hx]
        have : s[i] = s.data.toList[i]'(by simpa using hi) := by simp [ByteArray.getElem_eq_getElem_data]
        rw [this]
        exact (List.getElem_of_eq hS.out _).symm
      have hlt := (hb.size)
      have hKlt : w'.heap.size < wr.heap.size := (Array.getElem?_eq_some_iff.1 hit0.out).1
      by_cases hx128 : x.toNat < 128
      · have hnx := fun ty => Lib.run_next_ascii_at (P := Try.prog) wr w'.heap.size s i ty hit0.out hi (by rw [hx]; exact hx128)
        rw [hx] at hnx
        have hbn : Below w'.heap.size w' (wr.iterAt w'.heap.size s (i + 1)) := ⟨hb.os, hb.tape, hb.output, by rw [Lib.iterAt_size]; exact hb.size, fun k hk => by rw [Lib.iterAt_other _ _ _ _ _ (by omega)]; exact hb.block k hk⟩
        have hin := Lib.iterAt_heap wr w'.heap.size s i (i + 1) hit0.out
        have HNX : Hid (le x = false → hit (S.take (i + 1)) = false) := Lib.hid (fun h => by rw [List.take_succ_eq_append_getElem hiS, hit, List.any_append, hxS, List.any_cons, h]; rw [show (S.take i).any le = false from hno.out]; rfl)
        have HYES : Hid (le x = true → hit S = true) := Lib.hid (fun h => List.any_eq_true.2 ⟨x, by rw [← hxS]; exact List.getElem_mem hiS, h⟩)
        have HIN := Lib.hid hin
        have HBN := Lib.hid hbn
        have HA := Lib.hid (fun W => ir_ascii x W hx128)
        obtain ⟨wn, hwn⟩ : ∃ wn, wr.iterAt w'.heap.size s (i + 1) = wn := ⟨_, rfl⟩
        rw [hwn] at hnx HIN HBN
        clear hwn hin hbn hx hxS hiS hlt hKlt hb hno
        by_cases h13 : x = 13
        · subst h13
          have HY := Lib.hid (HYES.out rfl)
          clear HNX HYES
          go_wp2_with fail
          refine (HA.out _).mono ?_
          rintro e w2 ⟨rfl, rfl⟩
          go_wp2
          go_ret
          exact ⟨_, rfl, Lib.hid (by rw [HY.out]; simp), HBN.out⟩
        · by_cases h10 : x = 10
          · subst h10
            have HY := Lib.hid (HYES.out rfl)
            clear HNX HYES
            go_wp2_with fail
            refine (HA.out _).mono ?_
            rintro e w2 ⟨rfl, rfl⟩
            go_wp2
            go_ret
            exact ⟨_, rfl, Lib.hid (by rw [HY.out]; simp), HBN.out⟩
          · have HN := Lib.hid (HNX.out (by unfold le; simp [h13, h10]))
            clear HNX HYES
            go_wp2_with fail
            refine (HA.out _).mono ?_
            rintro e w2 ⟨rfl, rfl⟩
            rw [if_neg h13, if_neg h10]
            go_wp2
            go_roundg g
            case measure => omega
            case rel => exact ⟨i + 1, by omega, HIN, HN, HBN.out⟩
      · have hhi : 128 ≤ (s[i]'hi).toNat := by rw [hx]; omega
        have hdh := decode_high s i hi hhi
        have hdw := decode_wide s i hi hhi
        have hdl := decode_le s i
        have hnx := fun ty => Lib.run_next_any_at (P := Try.prog) wr w'.heap.size s i ty hit0.out hi
        obtain ⟨c, hc⟩ : ∃ c, (Utf8.decode s i).1 = c := ⟨_, rfl⟩
        obtain ⟨d, hd⟩ : ∃ d, (Utf8.decode s i).2 = d := ⟨_, rfl⟩
        rw [hc] at hnx hdh hdl
        rw [hd] at hnx hdh hdw
        have hdS : i + d ≤ s.size := by
          obtain ⟨h1, _⟩ := hdw (d - 1) (by omega)
          omega
        have hbn : Below w'.heap.size w' (wr.iterAt w'.heap.size s (i + d)) := ⟨hb.os, hb.tape, hb.output, by rw [Lib.iterAt_size]; exact hb.size, fun k hk => by rw [Lib.iterAt_other _ _ _ _ _ (by omega)]; exact hb.block k hk⟩
        have hin := Lib.iterAt_heap wr w'.heap.size s i (i + d) hit0.out
        have HN : Hid (hit (S.take (i + d)) = false) := Lib.hid (by
          rw [List.take_add, hit, List.any_append, show (S.take i).any le = false from hno.out, Bool.false_or]
          rw [List.any_eq_false]
          intro y hy
          obtain ⟨j, hj, rfl⟩ := List.getElem_of_mem hy
          rw [List.length_take, List.length_drop] at hj
          obtain ⟨h1, h2⟩ := hdw j (by omega)
          rw [List.getElem_take, List.getElem_drop]
          have e : S[i + j]'(by omega) = s[i + j] := by
            have : s[i + j] = s.data.toList[i + j]'(by simpa using h1) := by simp [ByteArray.getElem_eq_getElem_data]
            rw [this]
            exact (List.getElem_of_eq hS.out _).symm
          rw [e]
          unfold le
          intro hh
          rw [Bool.or_eq_true, beq_iff_eq, beq_iff_eq] at hh
          rcases hh with hh | hh <;> (rw [hh] at h2; revert h2; decide))
        have HIN := Lib.hid hin
        have HBN := Lib.hid hbn
        have HSZ : Hid (w'.heap.size < (wr.iterAt w'.heap.size s (i + d)).heap.size) := Lib.hid (by rw [Lib.iterAt_size]; exact hKlt)
        obtain ⟨wn, hwn⟩ : ∃ wn, wr.iterAt w'.heap.size s (i + d) = wn := ⟨_, rfl⟩
        rw [hwn] at hnx HIN HBN HSZ
        have HDW := Lib.hid hdw
        clear hwn hin hbn hx hxS hiS hlt hKlt hb hno hdw hc hd
        go_wp2_with fail
        refine (ir_high (c : Int) _ (by omega) (by omega)).mono ?_
        rintro e w2 ⟨rfl, b2⟩
        go_wp2
        go_roundg (s.size - (i + d))
        case measure => omega
        case rel => exact ⟨i + d, by omega, Lib.hid ((b2.block _ HSZ.out).trans HIN.out), HN, HBN.out.trans (b2.mono HBN.out.size)⟩
set_option maxHeartbeats 1600000 in
set_option maxRecDepth 100000 in
/-- strings.ContainsAny(s, "\r\n"): does a sign of a line end stand in s? -/
theorem ca_to (s : ByteArray) (S : List UInt8) (b : Bool) (w : World) (hs : s.size ≤ 1000000) (hS : Hid (s.data.toList = S)) (h : Hid (hit S = b)) :
    Calls Try.prog 41 #[.string s, .string ⟨#[13, 10]⟩] w fun e w' => e = .returned (.bool b) ∧ Below w.heap.size w w' := by
  have key : Calls Try.prog 43 #[.string s, .string ⟨#[13, 10]⟩] w fun e w' => ∃ v, e = .returned (.int .i64 v) ∧ Hid (decide (0 ≤ v) = hit S) ∧ Below w.heap.size w w' := by
    by_cases h8 : s.size ≤ 8
    · exact ia_short s S w h8 hS
    · refine (Try.strings_IndexAny_long run_zero s ⟨#[13, 10]⟩ w (by decide) (by omega) (by omega) (by decide) (fun j b hj => ?_)).mono ?_
      · match j, hj with
        | 0, hj => simp at hj; subst hj; decide
        | 1, hj => simp at hj; subst hj; decide
        | n + 2, hj => simp at hj
      · rintro e w' ⟨rfl, rfl⟩
        refine ⟨_, rfl, Lib.hid ?_, ((Below.refl _ _).alloc (Nat.le_refl _) _).alloc (by simp) _⟩
        rw [hS.out]
        exact indexAny_hitB S
  have HK := Lib.hid key
  clear key
  go_enter Try.func41, Try.ntmps41
  go_wp2_with fail
  refine HK.out.mono ?_
  rintro e w' ⟨v, rfl, hv, hb⟩
  go_wp2
  go_ret
  exact ⟨ret_b (by rw [hv.out]; exact h.out), hb⟩
end Fld
end Go.Proofs.Ytdakpncfophjnaa
