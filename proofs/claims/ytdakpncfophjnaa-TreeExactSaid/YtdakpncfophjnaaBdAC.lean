/-
  Several texts in one (FldA, FldB, FldC, FldU, FldV, FldX).
-/
import Derived.Test.YtdakpncfophjnaaBdH
import Derived.Test.YtdakpncfophjnaaShelf
import Derived.WalkKit
import Derived.Below
import Derived.Lib.Hide
import Derived.Lib.IndexAny
import Derived.Lib.OthersKept
import Derived.Laws.Runes
import Derived.Laws.RangeAny
import Derived.LoopN
import Derived.WalkMore
import Derived.Outline
import Derived.BigQuiet
import Derived.Deep.QuietTactic
import Derived.Test.YtdakpncfophjnaaMrgF
/-
  strings.ContainsAny of whatever text, held against the two signs of a line end.
-/
namespace Go.Proofs.Ytdakpncfophjnaa
open Go.RowKit
namespace Fld
theorem decode_wide (s : ByteArray) (i : Nat) (h : i < s.size) (ha : 128 ≤ (s[i]'h).toNat) : ∀ j, j < (Utf8.decode s i).2 → ∃ hj : i + j < s.size, 128 ≤ (s[i + j]'hj).toNat := by
  have hn : ¬ (s[i]'h).toNat < 128 := by omega
  have key : ∀ k, (decide (i + k < s.size) && (s.get! (i + k)).toNat / 64 == 2) = true → ∃ hj : i + k < s.size, 128 ≤ (s[i + k]'hj).toNat := fun k hk => by
    rw [Bool.and_eq_true] at hk
    have h1 := of_decide_eq_true hk.1
    refine ⟨h1, ?_⟩
    have h2 := beq_iff_eq.1 hk.2
    have e := get_at s (i + k) h1
    rw [Nat.add_zero] at e
    rw [← e]
    omega
  have k0 : ∃ hj : i + 0 < s.size, 128 ≤ (s[i + 0]'hj).toNat := ⟨h, ha⟩
  intro j hj
  simp only [Utf8.decode, get_at s i h, hn, if_false] at hj
  split at hj
  · rename_i c1
    rw [Bool.and_eq_true] at c1
    have k1 := key 1 (by simpa using c1.2)
    split at hj
    · match j, hj with
      | 0, _ => exact k0
      | 1, _ => exact k1
      | n + 2, hj => simp at hj; omega
    · match j, hj with
      | 0, _ => exact k0
      | n + 1, hj => simp at hj
  · split at hj
    · rename_i c1
      rw [Bool.and_eq_true, Bool.and_eq_true] at c1
      have k1 := key 1 (by simpa using c1.1.2)
      have k2 := key 2 (by simpa using c1.2)
      split at hj
      · match j, hj with
        | 0, _ => exact k0
        | 1, _ => exact k1
        | 2, _ => exact k2
        | n + 3, hj => simp at hj; omega
      · match j, hj with
        | 0, _ => exact k0
        | n + 1, hj => simp at hj
    · split at hj
      · rename_i c1
        rw [Bool.and_eq_true, Bool.and_eq_true, Bool.and_eq_true] at c1
        have k1 := key 1 (by simpa using c1.1.1.2)
        have k2 := key 2 (by simpa using c1.1.2)
        have k3 := key 3 (by simpa using c1.2)
        split at hj
        · match j, hj with
          | 0, _ => exact k0
          | 1, _ => exact k1
          | 2, _ => exact k2
          | 3, _ => exact k3
          | n + 4, hj => simp at hj; omega
        · match j, hj with
          | 0, _ => exact k0
          | n + 1, hj => simp at hj
      · match j, hj with
        | 0, _ => exact k0
        | n + 1, hj => simp at hj
set_option maxHeartbeats 3200000 in
set_option maxRecDepth 100000 in
theorem ir_err (w : World) :
    Calls Try.prog 62 #[.string ⟨#[13, 10]⟩, .int .i32 65533] w fun e w' => e = .returned (.int .i64 (-1)) ∧ Below w.heap.size w w' := by
  have n0 : ∀ ty, (Instr.next (.pointer (some ⟨w.heap.size, 0, none⟩)) true ty).run Try.prog (w.iter ⟨#[13, 10]⟩ 0) = .ok (.tuple #[.bool true, .int .i64 0, .int .i32 13]) (w.iter ⟨#[13, 10]⟩ 1) := fun ty => by
    have := run_next_ascii (P := Try.prog) w ⟨#[13, 10]⟩ 0 ty (by decide) (by decide)
    exact this
  have n1 : ∀ ty, (Instr.next (.pointer (some ⟨w.heap.size, 0, none⟩)) true ty).run Try.prog (w.iter ⟨#[13, 10]⟩ 1) = .ok (.tuple #[.bool true, .int .i64 1, .int .i32 10]) (w.iter ⟨#[13, 10]⟩ 2) := fun ty => by
    have := run_next_ascii (P := Try.prog) w ⟨#[13, 10]⟩ 1 ty (by decide) (by decide)
    exact this
  have n2 := fun ty => run_next_end (P := Try.prog) w ⟨#[13, 10]⟩ 2 ty (by decide)
  have hb : Below w.heap.size w (w.iter ⟨#[13, 10]⟩ 2) := (Below.refl _ _).alloc (Nat.le_refl _) _
  go_enter Try.func62, Try.ntmps62
  go_wp2
  refine wp_loop_rounds 3 ?_
  rw [rounds_succ]
  go_wp2
  rw [rounds_succ]
  go_wp2
  rw [rounds_succ]
  go_wp2
  go_ret
  exact ⟨rfl, hb⟩
theorem iby_none (c : Int) (w : World) : Calls Try.prog 53 #[.string ((⟨#[13, 10]⟩ : ByteArray).extract 2 2), .int .u8 c] w fun e w' => e = .returned (.int .i64 (-1)) ∧ w' = w := by
  have h := Try.strings_IndexByte ((⟨#[13, 10]⟩ : ByteArray).extract 2 2) c w
  exact h
set_option maxHeartbeats 3200000 in
set_option maxRecDepth 100000 in
theorem ir_high (r : Int) (w : World) (h : 128 ≤ r) (hm : r ≤ 2147483647) :
    Calls Try.prog 62 #[.string ⟨#[13, 10]⟩, .int .i32 r] w fun e w' => e = .returned (.int .i64 (-1)) ∧ Below w.heap.size w w' := by
  by_cases h1 : r = 65533
  · subst h1; exact ir_err w
  have hr1 : (r == 65533) = false := beq_eq_false_iff_ne.2 h1
  have hr2 : ¬ r < 128 := by omega
  clear h1
  have hvr := Try.utf8_ValidRune r w
  cases hv : Lib.validRune r with
  | false =>
    rw [hv] at hvr
    have HV := Lib.hid hvr
    clear hvr hv
    go_enter Try.func62, Try.ntmps62
    go_wp2_with fail
    refine HV.out.mono ?_
    rintro e w' ⟨rfl, rfl⟩
    go_wp2
    go_ret
    exact ⟨rfl, Below.refl _ _⟩
  | true =>
    have huv : Utf8.valid r = true := by rw [validRune_eq]; exact hv
    obtain ⟨e2, e4, el⟩ := encode_facts r huv h
    rw [hv] at hvr
    have HV := Lib.hid hvr
    clear hvr hv huv
    by_cases hs2 : (Utf8.encode r).size = 2
    · obtain ⟨q, hq⟩ : ∃ q, (Utf8.encode r)[1]'(by omega) = q := ⟨_, rfl⟩
      have hq2 : 128 ≤ q.toNat := by
        have := el (by omega)
        rw [← hq]
        simpa [hs2] using this
      have hne : ((10 : Int) == (q.toNat : Int)) = false := beq_eq_false_iff_ne.2 (by omega)
      have hlt := q.toNat_lt
      have hne2 : ((10 : Int) != (q.toNat : Int)) = true := by rw [bne, hne]; rfl
      have hz : (⟨#[13, 10]⟩ : ByteArray)[1] = 10 := rfl
      have EL := Lib.hid el
      clear el
      go_enter Try.func62, Try.ntmps62
      go_wp2_with fail
      refine HV.out.mono ?_
      rintro e w' ⟨rfl, rfl⟩
      go_wp2_with fail
      go_step3
      go_wp2_with fail
      refine wp_loop_rounds 1 ?_
      rw [rounds_succ]
      go_wp2_with fail
      go_step3
      go_wp2_with fail
      go_quiet (fail)
      obtain ⟨W, hW⟩ : ∃ x, w'.drewN nq = x := ⟨_, rfl⟩
      have hb : Below w'.heap.size w' W := by rw [← hW]; exact below_drewN (Below.refl _ _) nq
      rw [hW]
      clear hW
      go_wp2_with fail
      have HI : Hid (∀ c W, Calls Try.prog 53 #[.string ((⟨#[13, 10]⟩ : ByteArray).extract 2 2), .int .u8 c] W fun e w' => e = .returned (.int .i64 (-1)) ∧ w' = W) := Lib.hid (fun c W => iby_none c W)
      go_quiet ((go_at_call 53; exact Calls.quiet_of_same (HI.out _ _)))
      go_wp2
      rw [Exit.noGoto_ret]
      go_wp2
      rw [Exit.noGoto_ret]
      go_ret
      exact ⟨rfl, below_drewN hb _⟩
    · have h3 : ¬ ((Utf8.encode r).size : Int) - 1 < 2 := by omega
      have EL := Lib.hid el
      clear el
      go_enter Try.func62, Try.ntmps62
      go_wp2_with fail
      refine HV.out.mono ?_
      rintro e w' ⟨rfl, rfl⟩
      go_wp2_with fail
      go_step3
      go_wp2_with fail
      refine wp_loop_rounds 1 ?_
      rw [rounds_succ]
      go_wp2
      rw [Exit.noGoto_ret]
      go_ret
      exact ⟨rfl, Below.refl _ _⟩
/-- A sign of a line end. -/
def le (c : UInt8) : Bool := c == 13 || c == 10
def hit (S : List UInt8) : Bool := S.any le
theorem indexAny_hitB (S : List UInt8) : decide (0 ≤ Lib.indexAny S [13, 10]) = hit S := by
  induction S with
  | nil => rfl
  | cons c S ih =>
    unfold hit at ih ⊢
    rw [Lib.indexAny, List.any_cons, ← ih]
    have e : ([13, 10] : List UInt8).contains c = le c := by
      unfold le
      simp
      rfl
    rw [e]
    have hg := Lib.indexAny_ge [13, 10] S
    cases h : le c with
    | true => simp
    | false =>
      by_cases h1 : Lib.indexAny S [13, 10] = -1
      · rw [h1]; simp
      · have h2 : (Lib.indexAny S [13, 10] == -1) = false := beq_eq_false_iff_ne.2 h1
        rw [h2]
        simp
        omega
theorem run_zero (w : World) : (zeroValue 100).run Try.prog w = .ok (.agg (Array.replicate 256 (.bool false))) w := by kernel_rfl
theorem ir_ascii (x : UInt8) (w : World) (h : x.toNat < 128) : Calls Try.prog 62 #[.string ⟨#[13, 10]⟩, .int .i32 (x.toNat : Int)] w fun e w' => e = .returned (.int .i64 (if x = 13 then 0 else if x = 10 then 1 else -1)) ∧ w = w' := by
  refine (Try.strings_IndexRune_ascii ⟨#[13, 10]⟩ (x.toNat : Int) w (by omega) (by omega)).mono ?_
  rintro e w' ⟨rfl, rfl⟩
  refine ⟨?_, rfl⟩
  have e : ((x.toNat : Int)).toNat.toUInt8 = x := by simp
  rw [e]
  congr 2
  show Lib.indexByte [13, 10] x = _
  by_cases h1 : x = 13
  · subst h1; rfl
  · by_cases h2 : x = 10
    · subst h2; rfl
    · have e1 : ((13 : UInt8) == x) = false := beq_eq_false_iff_ne.2 (fun e => h1 e.symm)
      have e2 : ((10 : UInt8) == x) = false := beq_eq_false_iff_ne.2 (fun e => h2 e.symm)
      have e3 : Lib.indexByte [10] x = -1 := by simp [Lib.indexByte, e2]
      rw [if_neg h1, if_neg h2, Lib.indexByte, e1, e3]
      rfl
set_option maxHeartbeats 8000000 in
set_option maxRecDepth 1000000 in
theorem ia_short (s : ByteArray) (S : List UInt8) (w : World) (h8 : s.size ≤ 8) (hS : Hid (s.data.toList = S)) :
    Calls Try.prog 43 #[.string s, .string ⟨#[13, 10]⟩] w fun e w' => ∃ v, e = .returned (.int .i64 v) ∧ Hid (decide (0 ≤ v) = hit S) ∧ Below w.heap.size w w' := by
  have hl : S.length = s.size := by rw [← hS.out]; simp
  have HL := Lib.hid hl
  clear hl
  have h8z : decide ((8 : Int) < (s.size : Int)) = false := decide_eq_false (by omega)
  have h8c := Try.strings_shouldUseASCIISet (s.size : Int) w
  rw [h8z] at h8c
  have H8 := Lib.hid h8c
  clear h8z h8c
  have hb0 : Below w.heap.size w (w.iter s 0) := (Below.refl _ _).alloc (Nat.le_refl _) _
  have hi0 : (w.iter s 0).heap[w.heap.size]? = some (.stringIter s 0) := World.iter_heap w s 0
  have HB := Lib.hid hb0
  have HI := Lib.hid hi0
  clear hb0 hi0
  go_enter Try.func43, Try.ntmps43
  go_wp2_with fail
  refine H8.out.mono ?_
  rintro e w' ⟨rfl, rfl⟩
  go_wp2_with fail
  go_loopg [9, 10] s.size (fun g _ _ wx => ∃ i : Nat, i + g = s.size ∧ Hid (wx.heap[w'.heap.size]? = some (.stringIter s i)) ∧ Hid (hit (S.take i) = false) ∧ Below w'.heap.size w' wx)
  case atStart => exact ⟨0, by omega, HI, Lib.hid rfl, HB.out⟩
  case round =>
    obtain ⟨i, hig, hit0, hno, hb⟩ := hrel
    cases gk with
    | zero =>
      obtain rfl : i = s.size := by omega
      have hnx := fun ty => Lib.run_next_end_at (P := Try.prog) wr w'.heap.size s s.size ty hit0.out (by omega)
      go_wp2
      go_ret
      exact ⟨-1, rfl, Lib.hid (by have h := hno.out; rw [List.take_of_length_le (by rw [HL.out]; exact Nat.le_refl _)] at h; rw [h]; rfl), hb⟩
    | succ g =>
      have hi : i < s.size := by omega
      have hiS : i < S.length := by rw [HL.out]; exact hi
      obtain ⟨x, hx⟩ : ∃ x : UInt8, s[i]'hi = x := ⟨_, rfl⟩
      have hxS : S[i]'hiS = x := by
        rw [← hx]
        have : s[i] = s.data.toList[i]'(by simpa using hi) := by simp [ByteArray.getElem_eq_getElem_data]
        rw [this]
        exact (List.getElem_of_eq hS.out _).symm
      have hlt := (hb.size)
      have hKlt : w'.heap.size < wr.heap.size := (Array.getElem?_eq_some_iff.1 hit0.out).1
      by_cases hx128 : x.toNat < 128
      · have hnx := fun ty => Lib.run_next_ascii_at (P := Try.prog) wr w'.heap.size s i ty hit0.out hi (by rw [hx]; exact hx128)
        rw [hx] at hnx
        have hbn : Below w'.heap.size w' (wr.iterAt w'.heap.size s (i + 1)) := ⟨hb.os, hb.tape, hb.output, by rw [Lib.iterAt_size]; exact hb.size, fun k hk => by rw [Lib.iterAt_other _ _ _ _ _ (by omega)]; exact hb.block k hk⟩
        have hin := Lib.iterAt_heap wr w'.heap.size s i (i + 1) hit0.out
        have HNX : Hid (le x = false → hit (S.take (i + 1)) = false) := Lib.hid (fun h => by rw [List.take_succ_eq_append_getElem hiS, hit, List.any_append, hxS, List.any_cons, h]; rw [show (S.take i).any le = false from hno.out]; rfl)
        have HYES : Hid (le x = true → hit S = true) := Lib.hid (fun h => List.any_eq_true.2 ⟨x, by rw [← hxS]; exact List.getElem_mem hiS, h⟩)
        have HIN := Lib.hid hin
        have HBN := Lib.hid hbn
        have HA := Lib.hid (fun W => ir_ascii x W hx128)
        obtain ⟨wn, hwn⟩ : ∃ wn, wr.iterAt w'.heap.size s (i + 1) = wn := ⟨_, rfl⟩
        rw [hwn] at hnx HIN HBN
        clear hwn hin hbn hx hxS hiS hlt hKlt hb hno
        by_cases h13 : x = 13
        · subst h13
          have HY := Lib.hid (HYES.out rfl)
          clear HNX HYES
          go_wp2_with fail
          refine (HA.out _).mono ?_
          rintro e w2 ⟨rfl, rfl⟩
          go_wp2
          go_ret
          exact ⟨_, rfl, Lib.hid (by rw [HY.out]; simp), HBN.out⟩
        · by_cases h10 : x = 10
          · subst h10
            have HY := Lib.hid (HYES.out rfl)
            clear HNX HYES
            go_wp2_with fail
            refine (HA.out _).mono ?_
            rintro e w2 ⟨rfl, rfl⟩
            go_wp2
            go_ret
            exact ⟨_, rfl, Lib.hid (by rw [HY.out]; simp), HBN.out⟩
          · have HN := Lib.hid (HNX.out (by unfold le; simp [h13, h10]))
            clear HNX HYES
            go_wp2_with fail
            refine (HA.out _).mono ?_
            rintro e w2 ⟨rfl, rfl⟩
            rw [if_neg h13, if_neg h10]
            go_wp2
            go_roundg g
            case measure => omega
            case rel => exact ⟨i + 1, by omega, HIN, HN, HBN.out⟩
      · have hhi : 128 ≤ (s[i]'hi).toNat := by rw [hx]; omega
        have hdh := decode_high s i hi hhi
        have hdw := decode_wide s i hi hhi
        have hdl := decode_le s i
        have hnx := fun ty => Lib.run_next_any_at (P := Try.prog) wr w'.heap.size s i ty hit0.out hi
        obtain ⟨c, hc⟩ : ∃ c, (Utf8.decode s i).1 = c := ⟨_, rfl⟩
        obtain ⟨d, hd⟩ : ∃ d, (Utf8.decode s i).2 = d := ⟨_, rfl⟩
        rw [hc] at hnx hdh hdl
        rw [hd] at hnx hdh hdw
        have hdS : i + d ≤ s.size := by
          obtain ⟨h1, _⟩ := hdw (d - 1) (by omega)
          omega
        have hbn : Below w'.heap.size w' (wr.iterAt w'.heap.size s (i + d)) := ⟨hb.os, hb.tape, hb.output, by rw [Lib.iterAt_size]; exact hb.size, fun k hk => by rw [Lib.iterAt_other _ _ _ _ _ (by omega)]; exact hb.block k hk⟩
        have hin := Lib.iterAt_heap wr w'.heap.size s i (i + d) hit0.out
        have HN : Hid (hit (S.take (i + d)) = false) := Lib.hid (by
          rw [List.take_add, hit, List.any_append, show (S.take i).any le = false from hno.out, Bool.false_or]
          rw [List.any_eq_false]
          intro y hy
          obtain ⟨j, hj, rfl⟩ := List.getElem_of_mem hy
          rw [List.length_take, List.length_drop] at hj
          obtain ⟨h1, h2⟩ := hdw j (by omega)
          rw [List.getElem_take, List.getElem_drop]
          have e : S[i + j]'(by omega) = s[i + j] := by
            have : s[i + j] = s.data.toList[i + j]'(by simpa using h1) := by simp [ByteArray.getElem_eq_getElem_data]
            rw [this]
            exact (List.getElem_of_eq hS.out _).symm
          rw [e]
          unfold le
          intro hh
          rw [Bool.or_eq_true, beq_iff_eq, beq_iff_eq] at hh
          rcases hh with hh | hh <;> (rw [hh] at h2; revert h2; decide))
        have HIN := Lib.hid hin
        have HBN := Lib.hid hbn
        have HSZ : Hid (w'.heap.size < (wr.iterAt w'.heap.size s (i + d)).heap.size) := Lib.hid (by rw [Lib.iterAt_size]; exact hKlt)
        obtain ⟨wn, hwn⟩ : ∃ wn, wr.iterAt w'.heap.size s (i + d) = wn := ⟨_, rfl⟩
        rw [hwn] at hnx HIN HBN HSZ
        have HDW := Lib.hid hdw
        clear hwn hin hbn hx hxS hiS hlt hKlt hb hno hdw hc hd
        go_wp2_with fail
        refine (ir_high (c : Int) _ (by omega) (by omega)).mono ?_
        rintro e w2 ⟨rfl, b2⟩
        go_wp2
        go_roundg (s.size - (i + d))
        case measure => omega
        case rel => exact ⟨i + d, by omega, Lib.hid ((b2.block _ HSZ.out).trans HIN.out), HN, HBN.out.trans (b2.mono HBN.out.size)⟩
set_option maxHeartbeats 1600000 in
set_option maxRecDepth 100000 in
/-- strings.ContainsAny(s, "\r\n"): does a sign of a line end stand in s? -/
theorem ca_to (s : ByteArray) (S : List UInt8) (b : Bool) (w : World) (hs : s.size ≤ 1000000) (hS : Hid (s.data.toList = S)) (h : Hid (hit S = b)) :
    Calls Try.prog 41 #[.string s, .string ⟨#[13, 10]⟩] w fun e w' => e = .returned (.bool b) ∧ Below w.heap.size w w' := by
  have key : Calls Try.prog 43 #[.string s, .string ⟨#[13, 10]⟩] w fun e w' => ∃ v, e = .returned (.int .i64 v) ∧ Hid (decide (0 ≤ v) = hit S) ∧ Below w.heap.size w w' := by
    by_cases h8 : s.size ≤ 8
    · exact ia_short s S w h8 hS
    · refine (Try.strings_IndexAny_long run_zero s ⟨#[13, 10]⟩ w (by decide) (by omega) (by omega) (by decide) (fun j b hj => ?_)).mono ?_
      · match j, hj with
        | 0, hj => simp at hj; subst hj; decide
        | 1, hj => simp at hj; subst hj; decide
        | n + 2, hj => simp at hj
      · rintro e w' ⟨rfl, rfl⟩
        refine ⟨_, rfl, Lib.hid ?_, ((Below.refl _ _).alloc (Nat.le_refl _) _).alloc (by simp) _⟩
        rw [hS.out]
        exact indexAny_hitB S
  have HK := Lib.hid key
  clear key
  go_enter Try.func41, Try.ntmps41
  go_wp2_with fail
  refine HK.out.mono ?_
  rintro e w' ⟨v, rfl, hv, hb⟩
  go_wp2
  go_ret
  exact ⟨ret_b (by rw [hv.out]; exact h.out), hb⟩
end Fld
end Go.Proofs.Ytdakpncfophjnaa
/-
  Package fold: isTail, cut, Line; the reference's goesOn, Fold. Both say the same.
-/
namespace Go.Proofs.Ytdakpncfophjnaa
open Go.RowKit
namespace Fld
/-- A byte that goes on. -/
def isT (c : UInt8) : Bool := decide (128 ≤ c.toNat ∧ c.toNat ≤ 191)
def tailAt (S : List UInt8) (k : Nat) : Bool := isT (S.getD k 0)
/-- Where a piece ends that has so much room. -/
def cutN (S : List UInt8) (r : Nat) : Nat := if tailAt S r = false then r else if tailAt S (r - 1) = false then r - 1 else if tailAt S (r - 2) = false then r - 2 else if tailAt S (r - 3) = false then r - 3 else r
theorem cutN_bd (S : List UInt8) (r : Nat) (h : 3 ≤ r) : r - 3 ≤ cutN S r ∧ cutN S r ≤ r := by
  unfold cutN
  repeat' split
  all_goals omega
def foldG : Nat → List UInt8 → Nat → List UInt8
  | 0, S, _ => S ++ [13, 10]
  | f + 1, S, room => if S.length ≤ room then S ++ [13, 10] else S.take (cutN S room) ++ [13, 10, 32] ++ foldG f (S.drop (cutN S room)) 74
theorem foldG_fuel : ∀ (f g : Nat) (S : List UInt8) (room : Nat), 4 ≤ room → S.length ≤ f → S.length ≤ g → foldG f S room = foldG g S room
  | 0, 0, _, _, _, _, _ => rfl
  | 0, g + 1, S, room, _, h, _ => by rw [foldG, foldG, if_pos (by omega)]
  | f + 1, 0, S, room, _, _, h => by rw [foldG, foldG, if_pos (by omega)]
  | f + 1, g + 1, S, room, hr, h1, h2 => by
    rw [foldG, foldG]
    by_cases h : S.length ≤ room
    · rw [if_pos h, if_pos h]
    · have hc := cutN_bd S room (by omega)
      rw [if_neg h, if_neg h, foldG_fuel f g _ 74 (by omega) (by rw [List.length_drop]; omega) (by rw [List.length_drop]; omega)]
def foldR (S : List UInt8) (room : Nat) : List UInt8 := foldG S.length S room
def foldL (S : List UInt8) : List UInt8 := foldR S 75
theorem foldR_last {S : List UInt8} {room : Nat} (h : S.length ≤ room) : foldR S room = S ++ [13, 10] := by
  unfold foldR
  cases S with
  | nil => rfl
  | cons c S => rw [List.length_cons, foldG, if_pos (by simpa using h)]
theorem foldR_more {S : List UInt8} {room : Nat} (hr : 4 ≤ room) (h : room < S.length) : foldR S room = S.take (cutN S room) ++ [13, 10, 32] ++ foldR (S.drop (cutN S room)) 74 := by
  have hc := cutN_bd S room (by omega)
  unfold foldR
  obtain ⟨n, hn⟩ : ∃ n, S.length = n + 1 := ⟨S.length - 1, by omega⟩
  rw [hn, foldG, if_neg (by omega)]
  rw [foldG_fuel n (S.drop (cutN S room)).length _ 74 (by omega) (by rw [List.length_drop]; omega) (Nat.le_refl _)]
theorem isT_to (c : UInt8) (b : Bool) (w : World) (h : Hid (isT c = b)) : Calls Try.prog 87 #[.int .u8 (c.toNat : Int)] w fun e w' => e = .returned (.bool b) ∧ w = w' := by
  have HH := h.out
  unfold isT at HH
  have hb := c.toNat_lt
  clear h
  by_cases h1 : c.toNat < 128
  · rw [decide_eq_false (by omega)] at HH
    subst HH
    have h2 : ¬ (128 : Int) ≤ (c.toNat : Int) := by omega
    go_enter Try.func87, Try.ntmps87
    go_wp2
    go_ret
    exact ⟨ret_b (by simp [*]), rfl⟩
  · by_cases h2 : c.toNat ≤ 191
    · rw [decide_eq_true (by omega)] at HH
      subst HH
      have h3 : (128 : Int) ≤ (c.toNat : Int) := by omega
      have h4 : (c.toNat : Int) ≤ 191 := by omega
      go_enter Try.func87, Try.ntmps87
      go_wp2
      go_ret
      exact ⟨ret_b (by simp [*]), rfl⟩
    · rw [decide_eq_false (by omega)] at HH
      subst HH
      have h3 : (128 : Int) ≤ (c.toNat : Int) := by omega
      have h4 : ¬ (c.toNat : Int) ≤ 191 := by omega
      go_enter Try.func87, Try.ntmps87
      go_wp2
      go_ret
      exact ⟨ret_b (by simp [*]), rfl⟩
theorem goe_to (c : UInt8) (b : Bool) (w : World) (h : Hid (isT c = b)) : Calls Try.prog 76 #[.int .u8 (c.toNat : Int)] w fun e w' => e = .returned (.bool b) ∧ w = w' := by
  have HH := h.out
  unfold isT at HH
  have hb := c.toNat_lt
  clear h
  by_cases h1 : c.toNat < 128
  · rw [decide_eq_false (by omega)] at HH
    subst HH
    have h2 : ¬ (128 : Int) ≤ (c.toNat : Int) := by omega
    go_enter Try.func76, Try.ntmps76
    go_wp2
    go_ret
    exact ⟨ret_b (by simp [*]), rfl⟩
  · by_cases h2 : c.toNat ≤ 191
    · rw [decide_eq_true (by omega)] at HH
      subst HH
      have h3 : (128 : Int) ≤ (c.toNat : Int) := by omega
      have h4 : (c.toNat : Int) < 192 := by omega
      go_enter Try.func76, Try.ntmps76
      go_wp2
      go_ret
      exact ⟨ret_b (by simp [*]), rfl⟩
    · rw [decide_eq_false (by omega)] at HH
      subst HH
      have h3 : (128 : Int) ≤ (c.toNat : Int) := by omega
      have h4 : ¬ (c.toNat : Int) < 192 := by omega
      go_enter Try.func76, Try.ntmps76
      go_wp2
      go_ret
      exact ⟨ret_b (by simp [*]), rfl⟩
theorem at_get {s : ByteArray} {S : List UInt8} (hS : s.data.toList = S) (k : Nat) (h : k < s.size) : s[k] = S.getD k 0 := by
  have h2 : k < S.length := by rw [← hS]; simpa using h
  have : s[k] = s.data.toList[k]'(by simpa using h) := by simp [ByteArray.getElem_eq_getElem_data]
  rw [this, List.getD_eq_getElem?_getD, List.getElem?_eq_getElem h2]
  exact List.getElem_of_eq hS _
/-- How far back the first byte stands that does not go on. -/
theorem cutN_at {S : List UInt8} {r k : Nat} (hk : k ≤ 3) (h : ∀ j, j < k → tailAt S (r - j) = true) (h2 : tailAt S (r - k) = false) : cutN S r = r - k := by
  unfold cutN
  match k, hk with
  | 0, _ => rw [Nat.sub_zero] at h2; rw [if_pos h2]; rfl
  | 1, _ =>
    have h0 := h 0 (by omega)
    rw [Nat.sub_zero] at h0
    rw [if_neg (by rw [h0]; decide), if_pos h2]
  | 2, _ =>
    have h0 := h 0 (by omega)
    have h1 := h 1 (by omega)
    rw [Nat.sub_zero] at h0
    rw [if_neg (by rw [h0]; decide), if_neg (by rw [h1]; decide), if_pos h2]
  | 3, _ =>
    have h0 := h 0 (by omega)
    have h1 := h 1 (by omega)
    have h3 := h 2 (by omega)
    rw [Nat.sub_zero] at h0
    rw [if_neg (by rw [h0]; decide), if_neg (by rw [h1]; decide), if_neg (by rw [h3]; decide), if_pos h2]
theorem cutN_none {S : List UInt8} {r : Nat} (h : ∀ j, j < 4 → tailAt S (r - j) = true) : cutN S r = r := by
  unfold cutN
  have h0 := h 0 (by omega)
  have h1 := h 1 (by omega)
  have h2 := h 2 (by omega)
  have h3 := h 3 (by omega)
  rw [Nat.sub_zero] at h0
  rw [if_neg (by rw [h0]; decide), if_neg (by rw [h1]; decide), if_neg (by rw [h2]; decide), if_neg (by rw [h3]; decide)]
set_option maxHeartbeats 1600000 in
set_option maxRecDepth 100000 in
theorem cut_to (s : ByteArray) (S : List UInt8) (r : Nat) (w : World) (hr : 3 ≤ r) (hrs : r < s.size) (hrm : r ≤ 1000) (hS : Hid (s.data.toList = S)) :
    Calls Try.prog 85 #[.string s, .int .i64 (r : Int)] w fun e w' => e = .returned (.int .i64 (cutN S r : Int)) ∧ w = w' := by
  go_enter Try.func85, Try.ntmps85
  go_wp2
  go_loopw [5] (fun tv wx => ∃ k : Nat, k ≤ 4 ∧ tv = .int .i64 k ∧ Hid (∀ j, j < k → tailAt S (r - j) = true) ∧ w = wx) (fun tv _ => 4 - (intOf tv).toNat)
  case atStart => exact ⟨0, Nat.zero_le _, rfl, Lib.hid (fun j hj => by omega), rfl⟩
  case round =>
    obtain ⟨k, hk, rfl, hall, rfl⟩ := hrel
    by_cases hk4 : k ≤ 3
    · have hsub : (r : Int) - (k : Int) = ((r - k : Nat) : Int) := by omega
      obtain ⟨n, hn⟩ : ∃ n, r - k = n := ⟨_, rfl⟩
      have hns : n < s.size := by omega
      rw [hn] at hsub
      have hx := at_get hS.out n hns
      obtain ⟨c, hc⟩ : ∃ c, s[n] = c := ⟨_, rfl⟩
      rw [hc] at hx
      cases hb : isT c with
      | true =>
        have HB := Lib.hid hb
        have HN : Hid (∀ j, j < k + 1 → tailAt S (r - j) = true) := Lib.hid (fun j hj => by
          by_cases e : j = k
          · rw [e, hn, tailAt, ← hx]; exact hb
          · exact hall.out j (by omega))
        clear hb hx hall hn
        go_wp2_with fail
        refine (isT_to c true _ HB).mono ?_
        rintro e w2 ⟨rfl, rfl⟩
        go_wp2
        go_roundw
        case rel => exact ⟨k + 1, by omega, by go_num, HN, trivial⟩
        case measure => simp [intOf]; omega
      | false =>
        have HB := Lib.hid hb
        have HN : Hid (cutN S r = n) := Lib.hid (by rw [← hn]; exact cutN_at hk4 hall.out (by rw [hn, tailAt, ← hx]; exact hb))
        clear hb hx hall hn
        go_wp2_with fail
        refine (isT_to c false _ HB).mono ?_
        rintro e w2 ⟨rfl, rfl⟩
        go_wp2
        go_ret
        exact ⟨ret_i (by rw [HN.out]), rfl⟩
    · obtain rfl : k = 4 := by omega
      have HN : Hid (cutN S r = r) := Lib.hid (cutN_none hall.out)
      clear hall
      go_wp2
      go_ret
      exact ⟨ret_i (by rw [HN.out]), rfl⟩
def szOf : Value → Nat
  | .string s => s.size
  | _ => 0
theorem dt (s : ByteArray) (a b : Nat) : (s.extract a b).data.toList = (s.data.toList.drop a).take (b - a) := Lib.extract_data s a b
theorem dt0 (s : ByteArray) (b : Nat) : (s.extract 0 b).data.toList = s.data.toList.take b := by rw [dt]; simp
theorem dtE (s : ByteArray) (a : Nat) : (s.extract a s.size).data.toList = s.data.toList.drop a := by
  rw [dt, List.take_of_length_le]
  rw [List.length_drop]
  simp
theorem dtS (s : ByteArray) (a : Nat) : (s.extract a s.size).size = s.size - a := by
  rw [Lib.size_eq, dtE, List.length_drop]
  simp
set_option maxHeartbeats 6400000 in
set_option maxRecDepth 100000 in
theorem line_to (s : ByteArray) (S : List UInt8) (w : World) (hs : s.size ≤ 60000) (hS : Hid (s.data.toList = S)) (h : Hid (hit S = false)) :
    Calls Try.prog 74 #[.string s] w fun e w' => e = .returned (.tuple #[.string ⟨(foldL S).toArray⟩, .int .i64 0]) ∧ Below w.heap.size w w' := by
  have hl : S.length = s.size := by rw [← hS.out]; simp
  have HL := Lib.hid hl
  clear hl
  go_enter Try.func74, Try.ntmps74
  go_wp2_with fail
  refine (ca_to s S false _ (by omega) hS h).mono ?_
  rintro e w1 ⟨rfl, b1⟩
  have hf := Bld.fresh w1
  have hb1 : Below w.heap.size w (w1.alloc (.cells #[.pointer none, .slice none 0 0] 69)) := b1.alloc b1.size _
  have hsz : w1.heap.size < (w1.alloc (.cells #[.pointer none, .slice none 0 0] 69)).heap.size := by simp
  have hwB : w.heap.size ≤ w1.heap.size := b1.size
  go_wp2_with fail
  obtain ⟨B, hB⟩ : ∃ B, w1.heap.size = B := ⟨_, rfl⟩
  rw [hB] at hf hsz hwB ⊢
  obtain ⟨w2, hw2⟩ : ∃ x, w1.alloc (.cells #[.pointer none, .slice none 0 0] 69) = x := ⟨_, rfl⟩
  rw [hw2] at hf hb1 hsz ⊢
  clear hw2 b1 hB
  go_loopw [0, 5] (fun sv rv wr => ∃ (t : ByteArray) (room : Nat) (D : List UInt8), sv = .string t ∧ rv = .int .i64 room ∧ (74 ≤ room ∧ room ≤ 75) ∧ D.length + 4 * t.size ≤ 4 * s.size ∧ Hid (foldL S = D ++ foldR t.data.toList room) ∧ Lib.IsBuilder 69 5 B B (Lib.byteCells D) wr ∧ B < wr.heap.size ∧ Below w.heap.size w wr) (fun sv _ _ => szOf sv)
  case atStart => exact ⟨s, 75, [], rfl, rfl, ⟨by omega, by omega⟩, by simp, Lib.hid (by rw [hS.out]; rfl), hf, hsz, hb1⟩
  case round =>
    obtain ⟨t, room, D, rfl, rfl, ⟨hr1, hr2⟩, hD, hP, hbl, hsz, hb⟩ := hrel
    have htl : t.data.toList.length = t.size := by simp
    by_cases hlt : room < t.size
    · have hc := cutN_bd t.data.toList room (by omega)
      have HM : Hid (foldL S = D ++ t.data.toList.take (cutN t.data.toList room) ++ [13, 10, 32] ++ foldR (t.data.toList.drop (cutN t.data.toList room)) 74) := Lib.hid (by rw [hP.out, foldR_more (by omega) (by omega)]; simp)
      have hct := cut_to t t.data.toList room wr (by omega) hlt (by omega) (Lib.hid rfl)
      obtain ⟨n, hn⟩ : ∃ n, cutN t.data.toList room = n := ⟨_, rfl⟩
      rw [hn] at hc HM hct
      have HCT := Lib.hid hct
      have hx1 : Hid ((t.extract 0 n ++ ⟨#[13, 10]⟩ ++ ⟨#[32]⟩).data.toList = t.data.toList.take n ++ [13, 10, 32]) := Lib.hid (by rw [Rws.cat_data, Rws.cat_data, dt0, List.append_assoc]; rfl)
      have hx2 : (t.extract 0 n ++ ⟨#[13, 10]⟩ ++ ⟨#[32]⟩).size = n + 3 := by rw [Lib.size_eq, hx1.out, List.length_append, List.length_take, htl]; simp; omega
      have HX2 := Lib.hid hx2
      have HTS := Lib.hid (dtS t n)
      have HTE := Lib.hid (dtE t n)
      clear hct hn hP htl hx2
      go_wp2_with fail
      refine HCT.out.mono ?_
      rintro e w3 ⟨rfl, rfl⟩
      go_wp2_with fail
      refine (Bld.ws_to B B D _ _ hbl (by rw [HX2.out]; omega) (by omega)).mono ?_
      rintro e w4 ⟨rfl, hbl4, hb4⟩
      have hb5 := hb.trans (hb4.mono hwB)
      have hsz4 : B < w4.heap.size := Nat.lt_of_lt_of_le hsz hb4.size
      rw [hx1.out] at hbl4
      clear hbl hb4 hsz hb
      go_wp2
      go_roundw
      case rel => exact ⟨t.extract n t.size, 74, D ++ (t.data.toList.take n ++ [13, 10, 32]), rfl, rfl, ⟨by omega, by omega⟩, by rw [HTS.out, List.length_append, List.length_append, List.length_take]; simp; omega, Lib.hid (by rw [HTE.out, HM.out]; simp), hbl4, hsz4, hb5⟩
      case measure => simp only [szOf]; rw [HTS.out]; omega
    · have HM : Hid (foldL S = D ++ (t.data.toList ++ [13, 10])) := Lib.hid (by rw [hP.out, foldR_last (by omega)])
      have hx1 : Hid ((t ++ ⟨#[13, 10]⟩).data.toList = t.data.toList ++ [13, 10]) := Lib.hid (by rw [Rws.cat_data])
      have hx2 : (t ++ ⟨#[13, 10]⟩).size = t.size + 2 := by rw [Lib.size_eq, hx1.out, List.length_append, htl]; rfl
      have HX2 := Lib.hid hx2
      clear hx2 hP htl
      go_wp2_with fail
      refine (Bld.ws_to B B D _ _ hbl (by rw [HX2.out]; omega) (by omega)).mono ?_
      rintro e w4 ⟨rfl, hbl4, hb4⟩
      have hb5 := hb.trans (hb4.mono hwB)
      have hsz4 : B < w4.heap.size := Nat.lt_of_lt_of_le hsz hb4.size
      rw [hx1.out, ← HM.out] at hbl4
      clear hbl hb4 hsz hb
      go_wp2_with fail
      refine (Bld.str_to B B _ _ hbl4 (by omega)).mono ?_
      rintro e w6 ⟨rfl, hb6⟩
      go_wp2
      go_ret2
      exact ⟨rfl, hb5.trans (hb6.mono hwB)⟩
set_option maxRecDepth 100000 in
theorem line_no (s : ByteArray) (S : List UInt8) (w : World) (hs : s.size ≤ 60000) (hS : Hid (s.data.toList = S)) (h : Hid (hit S = true)) :
    Calls Try.prog 74 #[.string s] w fun e w' => e = .returned (.tuple #[.string ⟨#[]⟩, .int .i64 18]) ∧ Below w.heap.size w w' := by
  go_enter Try.func74, Try.ntmps74
  go_wp2_with fail
  refine (ca_to s S true _ (by omega) hS h).mono ?_
  rintro e w1 ⟨rfl, b1⟩
  go_wp2
  go_ret2
  exact ⟨rfl, b1⟩
end Fld
end Go.Proofs.Ytdakpncfophjnaa
/-
  The reference's Fold; what the lines of a text are; fold.Unfold and the reference's: both say so.
-/
namespace Go.Proofs.Ytdakpncfophjnaa
open Go.RowKit
namespace Fld
open Opn (sv TxtV)
open Rws (RowB RowS)
theorem ret_s {a b : ByteArray} (h : a = b) : Ending.returned (.string a) = .returned (.string b) := by rw [h]
set_option maxHeartbeats 6400000 in
set_option maxRecDepth 100000 in
theorem rfold_to (s : ByteArray) (S : List UInt8) (w : World) (hs : s.size ≤ 60000) (hS : Hid (s.data.toList = S)) :
    Calls Try.prog 60 #[.string s] w fun e w' => e = .returned (.string ⟨(foldL S).toArray⟩) ∧ Below w.heap.size w w' := by
  go_enter Try.func60, Try.ntmps60
  go_wp2
  go_loopw [0, 3, 4] (fun sv ov rv wr => ∃ (t : ByteArray) (room : Nat) (D : List UInt8), sv = .string t ∧ ov = .string ⟨D.toArray⟩ ∧ rv = .int .i64 room ∧ (74 ≤ room ∧ room ≤ 75) ∧ D.length + 4 * t.size ≤ 4 * s.size ∧ Hid (foldL S = D ++ foldR t.data.toList room) ∧ Below w.heap.size w wr) (fun sv _ _ _ => szOf sv)
  case atStart => exact ⟨s, 75, [], rfl, rfl, rfl, ⟨by omega, by omega⟩, by simp, Lib.hid (by rw [hS.out]; rfl), Below.refl _ _⟩
  case round =>
    obtain ⟨t, room, D, rfl, rfl, rfl, ⟨hr1, hr2⟩, hD, hP, hb⟩ := hrel
    have htl : t.data.toList.length = t.size := by simp
    by_cases hlt : room < t.size
    · obtain ⟨T, hT⟩ : ∃ T, t.data.toList = T := ⟨_, rfl⟩
      have HT := Lib.hid hT
      rw [hT] at hP htl
      clear hT
      obtain ⟨wo, hwo⟩ : ∃ wo : World, wo = wr := ⟨_, rfl⟩
      rw [← hwo] at hb ⊢
      clear hwo
      go_wp2_with fail
      go_loopw [6] (fun bv wx => ∃ k : Nat, k ≤ 3 ∧ bv = .int .i64 k ∧ Hid (∀ j, j < k → tailAt T (room - j) = true) ∧ wo = wx) (fun bv _ => 3 - (intOf bv).toNat)
      case atStart => exact ⟨0, Nat.zero_le _, rfl, Lib.hid (fun j hj => by omega), rfl⟩
      case round =>
        obtain ⟨k, hk, rfl, hall, rfl⟩ := hrel
        have hsub : (room : Int) - (k : Int) = ((room - k : Nat) : Int) := by omega
        obtain ⟨m, hm⟩ : ∃ m, room - k = m := ⟨_, rfl⟩
        have hms : m < t.size := by omega
        have hm0 : 0 < m := by omega
        have HMM := Lib.hid hm
        rw [hm] at hsub
        have hx := at_get HT.out m hms
        obtain ⟨c, hc⟩ : ∃ c, t[m] = c := ⟨_, rfl⟩
        rw [hc] at hx
        by_cases hgo : k < 3 ∧ isT c = true
        · have HB := Lib.hid hgo.2
          have hk3 := hgo.1
          have HN : Hid (∀ j, j < k + 1 → tailAt T (room - j) = true) := Lib.hid (fun j hj => by
            by_cases e : j = k
            · rw [e, hm, tailAt, ← hx]; exact HB.out
            · exact hall.out j (by omega))
          clear hgo hx hall hm
          go_wp2_with fail
          refine (goe_to c true _ HB).mono ?_
          rintro e w2 ⟨rfl, rfl⟩
          go_wp2
          go_roundw
          case rel => exact ⟨k + 1, by omega, by go_num, HN, trivial⟩
          case measure => simp [intOf]; omega
        · have hres : Hid (∃ n, cutN T room = n ∧ ((isT c = true ∨ k = 0) → n = room) ∧ ((isT c = false ∧ 0 < k) → n = m)) := Lib.hid (by
            by_cases hb : isT c = true
            · have hk3 : k = 3 := by
                by_cases h : k < 3
                · exact absurd ⟨h, hb⟩ hgo
                · omega
              refine ⟨room, cutN_none (fun j hj => ?_), fun _ => rfl, fun h => by rw [hb] at h; cases h.1⟩
              by_cases e : j = k
              · rw [e, hm, tailAt, ← hx]; exact hb
              · exact hall.out j (by omega)
            · have hbf : isT c = false := by simpa using hb
              have hcn := cutN_at hk hall.out (by rw [hm, tailAt, ← hx]; exact hbf)
              rw [hm] at hcn
              refine ⟨m, hcn, fun h => ?_, fun _ => rfl⟩
              rcases h with h | h
              · rw [hbf] at h; cases h
              · omega)
          obtain ⟨n, hn, hn1, hn2⟩ := hres.out
          have hcb := cutN_bd T room (by omega)
          have HM : Hid (foldL S = D ++ T.take n ++ [13, 10, 32] ++ foldR (T.drop n) 74) := Lib.hid (by rw [hP.out, foldR_more (by omega) (by omega), hn]; simp)
          rw [hn] at hcb
          have HN1 := Lib.hid hn1
          have HN2 := Lib.hid hn2
          clear hres hn hn1 hn2 hall hP hx hm
          have hfin : ∀ v : Nat, v = n → Hid ((⟨D.toArray⟩ ++ t.extract 0 v ++ ⟨#[13, 10, 32]⟩ : ByteArray) = ⟨(D ++ T.take n ++ [13, 10, 32]).toArray⟩) := fun v hv => Lib.hid (by
            subst hv
            apply Rws.ba_eq
            rw [Rws.cat_data, Rws.cat_data, dt0, HT.out])
          have HFIN := Lib.hid hfin
          have HTS := fun v => Lib.hid (dtS t v)
          have HTE := fun v => Lib.hid (dtE t v)
          have HTS2 := Lib.hid HTS
          have HTE2 := Lib.hid HTE
          clear hfin HTS HTE
          cases hb : isT c with
          | true =>
            have hnr : n = room := HN1.out (Or.inl hb)
            have hk3 : ¬ k < 3 := fun h => hgo ⟨h, hb⟩
            have HB := Lib.hid hb
            subst hnr
            have HF := Lib.hid ((HFIN.out n rfl).out)
            clear hgo hb HN1 HN2 HFIN
            go_wp2_with fail
            refine (goe_to c true _ HB).mono ?_
            rintro e w2 ⟨rfl, rfl⟩
            go_wp2
            go_roundw
            case rel => exact ⟨t.extract n t.size, 74, D ++ T.take n ++ [13, 10, 32], rfl, by rw [HF.out], rfl, ⟨by omega, by omega⟩, by rw [(HTS2.out n).out, List.length_append, List.length_append, List.length_take]; simp; omega, Lib.hid (by rw [(HTE2.out n).out, HT.out, HM.out]), hb⟩
            case measure => simp only [szOf]; rw [(HTS2.out n).out]; omega
          | false =>
            have HB := Lib.hid hb
            by_cases hk0 : k = 0
            · have hnr : n = room := HN1.out (Or.inr hk0)
              have hmn : m = n := by have := HMM.out; omega
              subst hk0
              subst hmn
              subst hnr
              have HF := Lib.hid ((HFIN.out m rfl).out)
              clear hgo hb HN1 HN2 HFIN
              go_wp2_with fail
              refine (goe_to c false _ HB).mono ?_
              rintro e w2 ⟨rfl, rfl⟩
              go_wp2
              go_roundw
              case rel => exact ⟨t.extract m t.size, 74, D ++ T.take m ++ [13, 10, 32], rfl, by rw [HF.out], rfl, ⟨by omega, by omega⟩, by rw [(HTS2.out m).out, List.length_append, List.length_append, List.length_take]; simp; omega, Lib.hid (by rw [(HTE2.out m).out, HT.out, HM.out]), hb⟩
              case measure => simp only [szOf]; rw [(HTS2.out m).out]; omega
            · have hnm : n = m := HN2.out ⟨hb, by omega⟩
              have hkp : 0 < k := by omega
              subst hnm
              have HF := Lib.hid ((HFIN.out n rfl).out)
              clear hgo hb HN1 HN2 HFIN hk0
              by_cases hk3 : k < 3
              all_goals
                go_wp2_with fail
                first
                  | (refine (goe_to c false _ HB).mono ?_
                     rintro e w2 ⟨rfl, rfl⟩
                     go_wp2_with fail
                     refine (goe_to c false _ HB).mono ?_)
                  | (refine (goe_to c false _ HB).mono ?_)
                rintro e w2 ⟨rfl, rfl⟩
                go_wp2
                go_roundw
                case rel => exact ⟨t.extract n t.size, 74, D ++ T.take n ++ [13, 10, 32], rfl, by rw [HF.out], rfl, ⟨by omega, by omega⟩, by rw [(HTS2.out n).out, List.length_append, List.length_append, List.length_take]; simp; omega, Lib.hid (by rw [(HTE2.out n).out, HT.out, HM.out]), hb⟩
                case measure => simp only [szOf]; rw [(HTS2.out n).out]; omega
    · have HM : Hid ((⟨D.toArray⟩ ++ t ++ ⟨#[13, 10]⟩ : ByteArray) = ⟨(foldL S).toArray⟩) := Lib.hid (by
        apply Rws.ba_eq
        rw [Rws.cat_data, Rws.cat_data, hP.out, foldR_last (by omega)]
        simp)
      clear hP htl
      go_wp2
      go_ret
      exact ⟨ret_s HM.out, hb⟩
end Fld
end Go.Proofs.Ytdakpncfophjnaa
/-
  The lines of a text; fold.Unfold and the reference's Unfold: both say so.
-/
namespace Go.Proofs.Ytdakpncfophjnaa
open Go.RowKit
namespace Fld
open Opn (sv TxtV)
open Rws (RowB RowS)
def fin (P : List UInt8) : List (List UInt8) := if P.length = 0 then [] else [P]
/-- The lines of what follows; the first one has begun. -/
def unfG : List UInt8 → List UInt8 → List (List UInt8)
  | P, [] => fin P
  | P, [c] => if c = 13 then fin P else if c = 10 then [P] else [P ++ [c]]
  | P, c :: d :: T => if c = 13 then unfG P (d :: T) else if c = 10 then (if d = 32 ∨ d = 9 then unfG P T else P :: unfG [] (d :: T)) else unfG (P ++ [c]) (d :: T)
def unfS (S : List UInt8) : List (List UInt8) := unfG [] S
theorem unf_nil (P : List UInt8) : unfG P [] = fin P := by rw [unfG]
theorem unf_cr (P T : List UInt8) : unfG P (13 :: T) = unfG P T := by
  cases T with
  | nil => simp [unfG]
  | cons d T => rw [unfG, if_pos rfl]
theorem fin_ne (P : List UInt8) (c : UInt8) : fin (P ++ [c]) = [P ++ [c]] := by unfold fin; rw [if_neg (by simp)]
theorem unf_any (P T : List UInt8) {c : UInt8} (h1 : c ≠ 13) (h2 : c ≠ 10) : unfG P (c :: T) = unfG (P ++ [c]) T := by
  cases T with
  | nil => rw [unf_nil, fin_ne]; simp [unfG, h1, h2]
  | cons d T => rw [unfG, if_neg h1, if_neg h2]
def blank (o : Option UInt8) : Bool := o == some 32 || o == some 9
theorem unf_lf (P T : List UInt8) (h : blank T.head? = false) : unfG P (10 :: T) = P :: unfG [] T := by
  cases T with
  | nil => simp [unfG, fin]
  | cons d T =>
    have : ¬ (d = 32 ∨ d = 9) := fun e => by
      rcases e with rfl | rfl <;> cases h
    rw [unfG, if_neg (by decide), if_pos rfl, if_neg this]
theorem unf_fold (P T : List UInt8) {d : UInt8} (h : d = 32 ∨ d = 9) : unfG P (10 :: d :: T) = unfG P T := by
  rw [unfG, if_neg (by decide), if_pos rfl, if_pos h]
/-- Each 0D has a 0A behind it. -/
def okCR : List UInt8 → Bool
  | [] => true
  | c :: T => (c != 13 || T.head? == some 10) && okCR T
theorem ok_cons (c : UInt8) (T : List UInt8) : okCR (c :: T) = ((c != 13 || T.head? == some 10) && okCR T) := rfl
theorem head_drop {S : List UInt8} {k : Nat} (h : k < S.length) : (S.drop k).head? = some (S[k]'h) := by rw [List.drop_eq_getElem_cons h]; rfl
set_option maxHeartbeats 6400000 in
set_option maxRecDepth 100000 in
theorem unf_no (s : ByteArray) (S : List UInt8) (w : World) (hs : s.size ≤ 600000) (hS : Hid (s.data.toList = S)) (h : Hid (okCR S = false)) :
    Calls Try.prog 56 #[.string s] w fun e w' => e = .returned (.tuple #[.slice none 0 0, .int .i64 18]) ∧ Below w.heap.size w w' := by
  have hl : S.length = s.size := by rw [← hS.out]; simp
  have HL := Lib.hid hl
  clear hl
  go_enter Try.func56, Try.ntmps56
  go_wp2
  go_loopw [4] (fun iv wr => ∃ k : Nat, k ≤ s.size ∧ iv = .int .i64 k ∧ Hid (okCR (S.drop k) = false) ∧ Below w.heap.size w wr) (fun iv _ => s.size - (intOf iv).toNat)
  case atStart => exact ⟨0, Nat.zero_le _, rfl, h, Below.refl _ _⟩
  case round =>
    obtain ⟨k, hk, rfl, hok, hb⟩ := hrel
    have hks : k < s.size := by
      by_cases e : k < s.size
      · exact e
      · have := hok.out
        rw [List.drop_eq_nil_of_le (by rw [HL.out]; omega)] at this
        cases this
    have hkS : k < S.length := by rw [HL.out]; exact hks
    have hok2 := hok.out
    rw [List.drop_eq_getElem_cons hkS, ok_cons] at hok2
    have hx := at_get hS.out k hks
    obtain ⟨c, hc⟩ : ∃ c, s[k] = c := ⟨_, rfl⟩
    have hcS : S[k] = c := by rw [← hc, hx, List.getD_eq_getElem?_getD, List.getElem?_eq_getElem hkS]; rfl
    rw [hcS] at hok2
    have cb := c.toNat_lt
    have hcs : (((c.toNat : Int) == 13) = false ∧ okCR (S.drop (k + 1)) = false) ∨ (c = 13 ∧ ((k + 1 = s.size) ∨ ∃ (h2 : k + 1 < s.size) (d : UInt8), s[k + 1] = d ∧ ((d = 10 ∧ okCR (S.drop (k + 1)) = false) ∨ ((d.toNat : Int) != 10) = true))) := by
      by_cases h13 : c = 13
      · refine Or.inr ⟨h13, ?_⟩
        by_cases h2 : k + 1 < s.size
        · refine Or.inr ⟨h2, s[k + 1], rfl, ?_⟩
          have hk2 : k + 1 < S.length := by rw [HL.out]; exact h2
          rw [head_drop hk2] at hok2
          have hd := at_get hS.out (k + 1) h2
          rw [List.getD_eq_getElem?_getD, List.getElem?_eq_getElem hk2] at hd
          simp only [Option.getD_some] at hd
          rw [← hd] at hok2
          by_cases h10 : s[k + 1] = 10
          · refine Or.inl ⟨h10, ?_⟩
            rw [h10] at hok2
            simpa using hok2
          · exact Or.inr (by have := Esc.u8_ne (n := 10) (by decide) h10; simpa [bne] using this)
        · exact Or.inl (by omega)
      · refine Or.inl ⟨Esc.u8_ne (n := 13) (by decide) h13, ?_⟩
        have : (c != 13) = true := by simpa [bne] using h13
        rw [this] at hok2
        simpa using hok2
    clear hok2 hx hcS hkS hok
    rcases hcs with ⟨h13, ho⟩ | ⟨rfl, hend | ⟨h2, d, hd, ⟨rfl, ho⟩ | hd10⟩⟩
    · have HO := Lib.hid ho
      clear ho
      go_wp2
      go_roundw
      case rel => exact ⟨k + 1, by omega, by go_num, HO, hb⟩
      case measure => simp [intOf]; omega
    · have he : (((k : Int) + 1) == (s.size : Int)) = true := beq_iff_eq.2 (by omega)
      go_wp2
      go_ret2
      exact ⟨rfl, hb⟩
    · have HO := Lib.hid ho
      have he : (((k : Int) + 1) == (s.size : Int)) = false := beq_eq_false_iff_ne.2 (by omega)
      clear ho
      go_wp2
      go_roundw
      case rel => exact ⟨k + 1, by omega, by go_num, HO, hb⟩
      case measure => simp [intOf]; omega
    · have he : (((k : Int) + 1) == (s.size : Int)) = false := beq_eq_false_iff_ne.2 (by omega)
      have db := d.toNat_lt
      go_wp2
      go_ret2
      exact ⟨rfl, hb⟩
/-- What stands at a place of a text whose ends are right. -/
theorem here (s : ByteArray) (S : List UInt8) (k : Nat) (hS : s.data.toList = S) (hks : k < s.size) (hok : okCR (S.drop k) = true) :
    ∃ c, s[k] = c ∧ S.drop k = c :: S.drop (k + 1) ∧ okCR (S.drop (k + 1)) = true ∧ (c = 13 → ∃ h2 : k + 1 < s.size, s[k + 1] = 10 ∧ S.drop (k + 1) = 10 :: S.drop (k + 2)) ∧
      (k + 1 = s.size ∧ S.drop (k + 1) = [] ∨ ∃ (h2 : k + 1 < s.size) (d : UInt8), s[k + 1] = d ∧ S.drop (k + 1) = d :: S.drop (k + 2)) := by
  have hl : S.length = s.size := by rw [← hS]; simp
  have hkS : k < S.length := by omega
  have g : ∀ j (h : j < s.size), s[j] = S[j]'(by omega) := fun j h => by
    have hx := at_get hS j h
    rw [hx, List.getD_eq_getElem?_getD, List.getElem?_eq_getElem (by omega)]
    rfl
  rw [List.drop_eq_getElem_cons hkS, ok_cons, Bool.and_eq_true] at hok
  refine ⟨s[k], rfl, by rw [g k hks, ← List.drop_eq_getElem_cons hkS], hok.2, fun h13 => ?_, ?_⟩
  · have h1 := hok.1
    rw [← g k hks, h13] at h1
    by_cases h2 : k + 1 < s.size
    · have h2S : k + 1 < S.length := by omega
      rw [head_drop h2S] at h1
      have e : S[k + 1] = 10 := by simpa using h1
      exact ⟨h2, by rw [g _ h2, e], by rw [List.drop_eq_getElem_cons h2S, e]⟩
    · rw [List.drop_eq_nil_of_le (by omega)] at h1
      simp at h1
  · by_cases h2 : k + 1 < s.size
    · exact Or.inr ⟨h2, s[k + 1], rfl, by rw [g _ h2, ← List.drop_eq_getElem_cons (by omega)]⟩
    · exact Or.inl ⟨by omega, List.drop_eq_nil_of_le (by omega)⟩
set_option maxHeartbeats 6400000 in
set_option maxRecDepth 100000 in
theorem unf_to (s : ByteArray) (S : List UInt8) (w : World) (hs : s.size ≤ 600000) (hS : Hid (s.data.toList = S)) (h : Hid (okCR S = true)) :
    Calls Try.prog 56 #[.string s] w fun e w' => ∃ v, e = .returned (.tuple #[v, .int .i64 0]) ∧ TxtV w' v (unfS S) ∧ Below w.heap.size w w' := by
  have hl : S.length = s.size := by rw [← hS.out]; simp
  have HL := Lib.hid hl
  clear hl
  go_enter Try.func56, Try.ntmps56
  go_wp2
  go_loopw [4] (fun iv wr => ∃ k : Nat, k ≤ s.size ∧ iv = .int .i64 k ∧ Hid (okCR (S.drop k) = true) ∧ Below w.heap.size w wr) (fun iv _ => s.size - (intOf iv).toNat)
  case atStart => exact ⟨0, Nat.zero_le _, rfl, h, Below.refl _ _⟩
  case round =>
    obtain ⟨k, hk, rfl, hok, hb⟩ := hrel
    by_cases hks : k < s.size
    · obtain ⟨c, hc, _, hok1, h13, _⟩ := here s S k hS.out hks hok.out
      have HOK := Lib.hid hok1
      have cb := c.toNat_lt
      have hcs : (((c.toNat : Int) == 13) = false) ∨ (c = 13 ∧ ∃ h2 : k + 1 < s.size, s[k + 1] = 10) := by
        by_cases e : c = 13
        · obtain ⟨h2, h3, _⟩ := h13 e
          exact Or.inr ⟨e, h2, h3⟩
        · exact Or.inl (Esc.u8_ne (n := 13) (by decide) e)
      clear hok1 h13 hok
      rcases hcs with n13 | ⟨rfl, h2, hd⟩
      · go_wp2
        go_roundw
        case rel => exact ⟨k + 1, by omega, by go_num, HOK, hb⟩
        case measure => simp [intOf]; omega
      · have he : (((k : Int) + 1) == (s.size : Int)) = false := beq_eq_false_iff_ne.2 (by omega)
        go_wp2
        go_roundw
        case rel => exact ⟨k + 1, by omega, by go_num, HOK, hb⟩
        case measure => simp [intOf]; omega
    · clear hok
      go_wp2
      obtain ⟨wo, rfl⟩ : ∃ wo : World, wo = wr := ⟨_, rfl⟩
      have hwB := hb.size
      go_loopw [5, 6, 7] (fun lv bv iv wr => ∃ (k : Nat) (L : List (List UInt8)) (P : List UInt8), k ≤ s.size ∧ iv = .int .i64 k ∧ L.length ≤ k ∧ P.length ≤ k ∧ Hid (okCR (S.drop k) = true) ∧ Hid (unfS S = L ++ unfG P (S.drop k)) ∧ RowS w.heap.size wr lv L ∧ RowB w.heap.size wr bv P ∧ Below w.heap.size w wr) (fun _ _ iv _ => s.size - (intOf iv).toNat)
      case atStart => exact ⟨0, [], [], Nat.zero_le _, rfl, Nat.le_refl _, Nat.le_refl _, h, Lib.hid rfl, RowS.nil _ _, RowB.nil _ _, hb⟩
      case round =>
        obtain ⟨k, L, P, hk, rfl, hLk, hPk, hok, hu, hl, hp, hb⟩ := hrel
        by_cases hks : k < s.size
        · obtain ⟨c, hc, hd0, hok1, h13, hnx⟩ := here s S k hS.out hks hok.out
          have HOK := Lib.hid hok1
          have cb := c.toNat_lt
          have hu1 := hu.out
          rw [hd0] at hu1
          have hcs : (c = 13 ∧ unfS S = L ++ unfG P (S.drop (k + 1))) ∨ (((c.toNat : Int) == 13) = false ∧ ((((c.toNat : Int) != 10) = true ∧ unfS S = L ++ unfG (P ++ [c]) (S.drop (k + 1))) ∨ (c = 10 ∧
              ((∃ h2 : k + 1 < s.size, (s[k + 1] = 32 ∨ s[k + 1] = 9) ∧ unfS S = L ++ unfG P (S.drop (k + 2)) ∧ okCR (S.drop (k + 2)) = true) ∨ (unfS S = (L ++ [P]) ++ unfG [] (S.drop (k + 1)) ∧ (k + 1 = s.size ∨ ∃ (h2 : k + 1 < s.size) (d : UInt8), s[k + 1] = d ∧ ((d.toNat : Int) == 32) = false ∧ ((d.toNat : Int) == 9) = false)))))) := by
            by_cases e13 : c = 13
            · exact Or.inl ⟨e13, by rw [hu1, e13, unf_cr]⟩
            · refine Or.inr ⟨Esc.u8_ne (n := 13) (by decide) e13, ?_⟩
              by_cases e10 : c = 10
              · refine Or.inr ⟨e10, ?_⟩
                rw [e10] at hu1
                rcases hnx with ⟨h1, h2⟩ | ⟨h2, d, hd, hdd⟩
                · exact Or.inr ⟨by rw [hu1, h2, unf_lf _ _ rfl]; simp, Or.inl h1⟩
                · by_cases hbl : d = 32 ∨ d = 9
                  · refine Or.inl ⟨h2, by rw [hd]; exact hbl, by rw [hu1, hdd, unf_fold _ _ hbl], ?_⟩
                    rw [hdd, ok_cons, Bool.and_eq_true] at hok1
                    exact hok1.2
                  · refine Or.inr ⟨?_, Or.inr ⟨h2, d, hd, Esc.u8_ne (n := 32) (by decide) (fun e => hbl (Or.inl e)), Esc.u8_ne (n := 9) (by decide) (fun e => hbl (Or.inr e))⟩⟩
                    rw [hu1, unf_lf _ _ (by
                      rw [hdd]
                      unfold blank
                      have a : (some d == some (32 : UInt8)) = false := by simpa using fun e => hbl (Or.inl e)
                      have b : (some d == some (9 : UInt8)) = false := by simpa using fun e => hbl (Or.inr e)
                      rw [List.head?_cons, a, b]; rfl)]
                    simp
              · exact Or.inl ⟨by have := Esc.u8_ne (n := 10) (by decide) e10; simpa [bne] using this, by rw [hu1, unf_any _ _ e13 e10]⟩
          clear hu1 hu hok1 h13 hnx hd0 hok
          rcases hcs with ⟨rfl, ho⟩ | ⟨n13, ⟨n10, ho⟩ | ⟨rfl, ⟨h2, hdd, ho, hok2⟩ | ⟨ho, hend⟩⟩⟩
          · have HO := Lib.hid ho
            clear ho
            go_wp2
            go_roundw
            case rel => exact ⟨k + 1, L, P, by omega, by go_num, by omega, by omega, HOK, HO, hl, hp, hb⟩
            case measure => simp [intOf]; omega
          · have HO := Lib.hid ho
            clear ho
            go_wp2_with (at_builtin; refine Rws.appB rfl _ _ rfl w.heap.size _ P rfl hp c rfl (by omega) hb.size ?_)
            intro w5 gg gcap r5 g5
            have hl5 : RowS w.heap.size w5 _ L := g5.other _ _ _ _ _ _ (by decide) hl
            have hb5 := g5.below _ _ (Nat.le_refl _) hb hb.size
            have HPL : Hid ((P ++ [c]).length ≤ k + 1) := Lib.hid (by rw [List.length_append]; simp; omega)
            clear g5 hl hp hb
            go_wp2
            go_roundw
            case rel => exact ⟨k + 1, L, P ++ [c], by omega, by go_num, by omega, HPL.out, HOK, HO, hl5, r5, hb5⟩
            case measure => simp [intOf]; omega
          · have HO := Lib.hid ho
            have HOK2 := Lib.hid hok2
            have hsx : (k : Int) + 1 < (s.size : Int) := by omega
            clear ho hok2 HOK
            rcases hdd with hd | hd
            all_goals
              go_wp2
              go_roundw
              case rel => exact ⟨k + 2, L, P, by omega, by first | go_num | (apply congrArg; omega), by omega, by omega, HOK2, HO, hl, hp, hb⟩
              case measure => simp [intOf]; omega
          · have HO := Lib.hid ho
            clear ho
            have HLL : Hid ((L ++ [P]).length ≤ k + 1) := Lib.hid (by rw [List.length_append]; simp; omega)
            have hcv := hp.conv
            rcases hp.cases with ⟨rfl, rfl⟩ | ⟨g, cap, rfl⟩
            all_goals
              rcases hend with hend | ⟨h2, d, hd, d1, d2⟩
              all_goals
                try have db := d.toNat_lt
                go_wp2_with (at_builtin; refine Rws.appS rfl _ _ rfl w.heap.size _ L rfl hl _ _ rfl rfl (by omega) hb.size ?_)
                intro w5 gg gcap r5 g5
                have hp5 : RowB w.heap.size w5 _ _ := g5.other _ _ _ _ _ _ (by decide) hp
                have hb5 := g5.below _ _ (Nat.le_refl _) hb hb.size
                try have hp6 := hp5.cut
                clear g5 hl hp hb hcv
                go_wp2
                go_roundw
                case rel => first | exact ⟨k + 1, L ++ [_], [], by omega, by go_num, HLL.out, Nat.zero_le _, HOK, HO, r5, hp6, hb5⟩ | exact ⟨k + 1, L ++ [_], [], by omega, by go_num, HLL.out, Nat.zero_le _, HOK, HO, r5, hp5, hb5⟩
                case measure => simp [intOf]; omega
        · have hu1 : unfS S = L ++ fin P := by rw [hu.out, List.drop_eq_nil_of_le (by rw [HL.out]; omega), unf_nil]
          clear hu hok
          by_cases hP : P.length = 0
          · have HU : Hid (unfS S = L) := Lib.hid (by rw [hu1, fin, if_pos hP]; simp)
            have hT := hl.txt
            rw [← HU.out] at hT
            have e := List.length_eq_zero_iff.1 hP
            subst e
            rcases hp.cases with ⟨rfl, _⟩ | ⟨g, cap, rfl⟩
            all_goals
              clear hu1 hl hp hP
              go_wp2
              go_ret2
              exact ⟨_, rfl, hT, hb⟩
          · have HU : Hid (unfS S = L ++ [P]) := Lib.hid (by rw [hu1, fin, if_neg hP])
            have hcv := hp.conv
            rcases hp.cases with ⟨rfl, rfl⟩ | ⟨g, cap, rfl⟩
            · exact absurd rfl hP
            · have hP0 : 0 < P.length := by omega
              clear hu1 hP
              go_wp2_with (at_builtin; refine Rws.appS rfl _ _ rfl w.heap.size _ L rfl hl _ _ rfl rfl (by omega) hb.size ?_)
              intro w5 gg gcap r5 g5
              have hb5 := g5.below _ _ (Nat.le_refl _) hb hb.size
              have hT := r5.txt
              rw [← HU.out] at hT
              clear g5 hl hp hb hcv r5
              go_wp2
              go_ret2
              exact ⟨_, rfl, hT, hb5⟩
end Fld
end Go.Proofs.Ytdakpncfophjnaa
/-
  The reference's Unfold: it says what the program's says. (Written by gen/gen_fldv.py.)
-/
namespace Go.Proofs.Ytdakpncfophjnaa
open Go.RowKit
namespace Fld
open Opn (sv TxtV)
open Rws (RowB RowS)
set_option maxHeartbeats 6400000 in
set_option maxRecDepth 100000 in
theorem runf_no (s : ByteArray) (S : List UInt8) (w : World) (hs : s.size ≤ 600000) (hS : Hid (s.data.toList = S)) (h : Hid (okCR S = false)) :
    Calls Try.prog 58 #[.string s] w fun e w' => e = .returned (.tuple #[.slice none 0 0, .int .i64 18]) ∧ Below w.heap.size w w' := by
  have hl : S.length = s.size := by rw [← hS.out]; simp
  have HL := Lib.hid hl
  clear hl
  go_enter Try.func58, Try.ntmps58
  go_wp2
  go_loopw [4] (fun iv wr => ∃ k : Nat, k ≤ s.size ∧ iv = .int .i64 k ∧ Hid (okCR (S.drop k) = false) ∧ Below w.heap.size w wr) (fun iv _ => s.size - (intOf iv).toNat)
  case atStart => exact ⟨0, Nat.zero_le _, rfl, h, Below.refl _ _⟩
  case round =>
    obtain ⟨k, hk, rfl, hok, hb⟩ := hrel
    have hks : k < s.size := by
      by_cases e : k < s.size
      · exact e
      · have := hok.out
        rw [List.drop_eq_nil_of_le (by rw [HL.out]; omega)] at this
        cases this
    have hkS : k < S.length := by rw [HL.out]; exact hks
    have hok2 := hok.out
    rw [List.drop_eq_getElem_cons hkS, ok_cons] at hok2
    have hx := at_get hS.out k hks
    obtain ⟨c, hc⟩ : ∃ c, s[k] = c := ⟨_, rfl⟩
    have hcS : S[k] = c := by rw [← hc, hx, List.getD_eq_getElem?_getD, List.getElem?_eq_getElem hkS]; rfl
    rw [hcS] at hok2
    have cb := c.toNat_lt
    have hcs : (((c.toNat : Int) == 13) = false ∧ okCR (S.drop (k + 1)) = false) ∨ (c = 13 ∧ ((k + 1 = s.size) ∨ ∃ (h2 : k + 1 < s.size) (d : UInt8), s[k + 1] = d ∧ ((d = 10 ∧ okCR (S.drop (k + 1)) = false) ∨ ((d.toNat : Int) != 10) = true))) := by
      by_cases h13 : c = 13
      · refine Or.inr ⟨h13, ?_⟩
        by_cases h2 : k + 1 < s.size
        · refine Or.inr ⟨h2, s[k + 1], rfl, ?_⟩
          have hk2 : k + 1 < S.length := by rw [HL.out]; exact h2
          rw [head_drop hk2] at hok2
          have hd := at_get hS.out (k + 1) h2
          rw [List.getD_eq_getElem?_getD, List.getElem?_eq_getElem hk2] at hd
          simp only [Option.getD_some] at hd
          rw [← hd] at hok2
          by_cases h10 : s[k + 1] = 10
          · refine Or.inl ⟨h10, ?_⟩
            rw [h10] at hok2
            simpa using hok2
          · exact Or.inr (by have := Esc.u8_ne (n := 10) (by decide) h10; simpa [bne] using this)
        · exact Or.inl (by omega)
      · refine Or.inl ⟨Esc.u8_ne (n := 13) (by decide) h13, ?_⟩
        have : (c != 13) = true := by simpa [bne] using h13
        rw [this] at hok2
        simpa using hok2
    clear hok2 hx hcS hkS hok
    rcases hcs with ⟨h13, ho⟩ | ⟨rfl, hend | ⟨h2, d, hd, ⟨rfl, ho⟩ | hd10⟩⟩
    · have HO := Lib.hid ho
      clear ho
      go_wp2
      go_roundw
      case rel => exact ⟨k + 1, by omega, by go_num, HO, hb⟩
      case measure => simp [intOf]; omega
    · have he : (((k : Int) + 1) == (s.size : Int)) = true := beq_iff_eq.2 (by omega)
      go_wp2
      go_ret2
      exact ⟨rfl, hb⟩
    · have HO := Lib.hid ho
      have he : (((k : Int) + 1) == (s.size : Int)) = false := beq_eq_false_iff_ne.2 (by omega)
      clear ho
      go_wp2
      go_roundw
      case rel => exact ⟨k + 1, by omega, by go_num, HO, hb⟩
      case measure => simp [intOf]; omega
    · have he : (((k : Int) + 1) == (s.size : Int)) = false := beq_eq_false_iff_ne.2 (by omega)
      have db := d.toNat_lt
      go_wp2
      go_ret2
      exact ⟨rfl, hb⟩
/-- What a line end does at a place: the next line goes on, or begins. -/
def AtEnd (s : ByteArray) (S : List UInt8) (L : List (List UInt8)) (P : List UInt8) (j : Nat) : Prop :=
  (∃ h2 : j + 1 < s.size, (s[j + 1] = 32 ∨ s[j + 1] = 9) ∧ unfS S = L ++ unfG P (S.drop (j + 2)) ∧ okCR (S.drop (j + 2)) = true) ∨
  (unfS S = (L ++ [P]) ++ unfG [] (S.drop (j + 1)) ∧ (j + 1 = s.size ∨ ∃ (h2 : j + 1 < s.size) (d : UInt8), s[j + 1] = d ∧ ((d.toNat : Int) == 32) = false ∧ ((d.toNat : Int) == 9) = false))
theorem at_end {s : ByteArray} {S : List UInt8} {L : List (List UInt8)} {P : List UInt8} {j : Nat} (hu1 : unfS S = L ++ unfG P (10 :: S.drop (j + 1))) (hok1 : okCR (S.drop (j + 1)) = true)
    (hnx : j + 1 = s.size ∧ S.drop (j + 1) = [] ∨ ∃ (h2 : j + 1 < s.size) (d : UInt8), s[j + 1] = d ∧ S.drop (j + 1) = d :: S.drop (j + 2)) : AtEnd s S L P j := by
  rcases hnx with ⟨h1, h2⟩ | ⟨h2, d, hd, hdd⟩
  · exact Or.inr ⟨by rw [hu1, h2, unf_lf _ _ rfl]; simp, Or.inl h1⟩
  · by_cases hbl : d = 32 ∨ d = 9
    · refine Or.inl ⟨h2, by rw [hd]; exact hbl, by rw [hu1, hdd, unf_fold _ _ hbl], ?_⟩
      rw [hdd, ok_cons, Bool.and_eq_true] at hok1
      exact hok1.2
    · refine Or.inr ⟨?_, Or.inr ⟨h2, d, hd, Esc.u8_ne (n := 32) (by decide) (fun e => hbl (Or.inl e)), Esc.u8_ne (n := 9) (by decide) (fun e => hbl (Or.inr e))⟩⟩
      rw [hu1, unf_lf _ _ (by
        rw [hdd]
        unfold blank
        have a : (some d == some (32 : UInt8)) = false := by simpa using fun e => hbl (Or.inl e)
        have b : (some d == some (9 : UInt8)) = false := by simpa using fun e => hbl (Or.inr e)
        rw [List.head?_cons, a, b]; rfl)]
      simp
set_option maxHeartbeats 6400000 in
set_option maxRecDepth 100000 in
theorem runf_to (s : ByteArray) (S : List UInt8) (w : World) (hs : s.size ≤ 600000) (hS : Hid (s.data.toList = S)) (h : Hid (okCR S = true)) :
    Calls Try.prog 58 #[.string s] w fun e w' => ∃ v, e = .returned (.tuple #[v, .int .i64 0]) ∧ TxtV w' v (unfS S) ∧ Below w.heap.size w w' := by
  have hl : S.length = s.size := by rw [← hS.out]; simp
  have HL := Lib.hid hl
  clear hl
  go_enter Try.func58, Try.ntmps58
  go_wp2
  go_loopw [4] (fun iv wr => ∃ k : Nat, k ≤ s.size ∧ iv = .int .i64 k ∧ Hid (okCR (S.drop k) = true) ∧ Below w.heap.size w wr) (fun iv _ => s.size - (intOf iv).toNat)
  case atStart => exact ⟨0, Nat.zero_le _, rfl, h, Below.refl _ _⟩
  case round =>
    obtain ⟨k, hk, rfl, hok, hb⟩ := hrel
    by_cases hks : k < s.size
    · obtain ⟨c, hc, _, hok1, h13, _⟩ := here s S k hS.out hks hok.out
      have HOK := Lib.hid hok1
      have cb := c.toNat_lt
      have hcs : (((c.toNat : Int) == 13) = false) ∨ (c = 13 ∧ ∃ h2 : k + 1 < s.size, s[k + 1] = 10) := by
        by_cases e : c = 13
        · obtain ⟨h2, h3, _⟩ := h13 e
          exact Or.inr ⟨e, h2, h3⟩
        · exact Or.inl (Esc.u8_ne (n := 13) (by decide) e)
      clear hok1 h13 hok
      rcases hcs with n13 | ⟨rfl, h2, hd⟩
      · go_wp2
        go_roundw
        case rel => exact ⟨k + 1, by omega, by go_num, HOK, hb⟩
        case measure => simp [intOf]; omega
      · have he : (((k : Int) + 1) == (s.size : Int)) = false := beq_eq_false_iff_ne.2 (by omega)
        go_wp2
        go_roundw
        case rel => exact ⟨k + 1, by omega, by go_num, HOK, hb⟩
        case measure => simp [intOf]; omega
    · clear hok
      obtain ⟨wo, rfl⟩ : ∃ wo : World, wo = wr := ⟨_, rfl⟩
      have hrow := RowB.empty w.heap.size wo hb.size
      have hb1 : Below w.heap.size w (wo.alloc (.cells #[] 5)) := hb.alloc hb.size _
      go_wp2
      go_loopw [5, 6, 7, 8] (fun lv bv ov iv wr => ∃ (k : Nat) (L : List (List UInt8)) (P : List UInt8) (op : Bool), k ≤ s.size ∧ iv = .int .i64 k ∧ L.length ≤ k ∧ P.length ≤ k ∧ Hid (okCR (S.drop k) = true) ∧ Hid (unfS S = L ++ unfG P (S.drop k)) ∧ ov = .bool op ∧ Hid (op = false → P = []) ∧ RowS w.heap.size wr lv L ∧ RowB w.heap.size wr bv P ∧ Below w.heap.size w wr) (fun _ _ _ iv _ => s.size - (intOf iv).toNat)
      case atStart => exact ⟨0, [], [], false, Nat.zero_le _, rfl, Nat.le_refl _, Nat.le_refl _, h, Lib.hid rfl, rfl, Lib.hid (fun _ => rfl), RowS.nil _ _, hrow, hb1⟩
      case round =>
        obtain ⟨k, L, P, op, hk, rfl, hLk, hPk, hok, hu, rfl, hop, hl, hp, hb⟩ := hrel
        by_cases hks : k < s.size
        · obtain ⟨c, hc, hd0, hok1, h13, hnx⟩ := here s S k hS.out hks hok.out
          have cb := c.toNat_lt
          have hu1 := hu.out
          rw [hd0] at hu1
          by_cases e13 : c = 13
          · obtain ⟨h2, hc2, hd2⟩ := h13 e13
            obtain ⟨c2, hcc, _, hok3, _, hnx2⟩ := here s S (k + 1) hS.out h2 hok1
            have hend : AtEnd s S L P (k + 1) := at_end (by rw [hu1, e13, unf_cr, hd2]) hok3 hnx2
            have HOKN := Lib.hid hok3
            subst e13
            have hsy : (k : Int) + 1 < (s.size : Int) := by omega
            clear hu1 hu hok1 h13 hnx hd0 hok hok3 hnx2 hcc hd2 hop
            have HE := Lib.hid hend
            clear hend
            rcases HE.out with ⟨h2, hdd, ho, hok2⟩ | ⟨ho, hend⟩
            · have HO := Lib.hid ho
              have HOK2 := Lib.hid hok2
              clear HE ho hok2
              have hsx : (k : Int) + 2 < (s.size : Int) := by omega
              rcases hdd with hd | hd
              all_goals
                go_wp2
                go_roundw
                case rel => exact ⟨k + 3, L, P, true, by omega, by first | go_num | (apply congrArg; omega), by omega, by omega, HOK2, HO, rfl, Lib.hid (fun h => by cases h), hl, hp, hb⟩
                case measure => simp [intOf]; omega
            · have HO := Lib.hid ho
              clear HE ho
              have HLL : Hid ((L ++ [P]).length ≤ k + 2) := Lib.hid (by rw [List.length_append]; simp; omega)
              have hcv := hp.conv
              rcases hend with hend | ⟨h2, d, hd, d1, d2⟩
              all_goals
                try have db := d.toNat_lt
                rcases hp.cases with ⟨rfl, rfl⟩ | ⟨g, cap, rfl⟩
                all_goals
                  go_wp2_with (at_builtin; refine Rws.appS rfl _ _ rfl w.heap.size _ L rfl hl _ _ rfl rfl (by omega) hb.size ?_)
                  intro w5 gg gcap r5 g5
                  have hb5 := g5.below _ _ (Nat.le_refl _) hb hb.size
                  clear g5 hl hp hb hcv
                  go_wp2
                  go_roundw
                  case rel => exact ⟨k + 2, L ++ [_], [], false, by omega, by first | go_num | (apply congrArg; omega), HLL.out, Nat.zero_le _, HOKN, HO, rfl, Lib.hid (fun _ => rfl), r5, RowB.nil _ _, hb5⟩
                  case measure => simp [intOf]; omega
          · have n13 := Esc.u8_ne (n := 13) (by decide) e13
            have n13b : ((c.toNat : Int) != 13) = true := by simpa [bne] using n13
            by_cases e10 : c = 10
            · have hend : AtEnd s S L P k := at_end (by rw [hu1, e10]) hok1 hnx
              have HOKN := Lib.hid hok1
              subst e10
              clear hu1 hu hok1 h13 hnx hd0 hok hop n13 n13b e13
              have HE := Lib.hid hend
              clear hend
              rcases HE.out with ⟨h2, hdd, ho, hok2⟩ | ⟨ho, hend⟩
              · have HO := Lib.hid ho
                have HOK2 := Lib.hid hok2
                clear HE ho hok2
                have hsx : (k : Int) + 1 < (s.size : Int) := by omega
                rcases hdd with hd | hd
                all_goals
                  go_wp2
                  go_roundw
                  case rel => exact ⟨k + 2, L, P, true, by omega, by first | go_num | (apply congrArg; omega), by omega, by omega, HOK2, HO, rfl, Lib.hid (fun h => by cases h), hl, hp, hb⟩
                  case measure => simp [intOf]; omega
              · have HO := Lib.hid ho
                clear HE ho
                have HLL : Hid ((L ++ [P]).length ≤ k + 1) := Lib.hid (by rw [List.length_append]; simp; omega)
                have hcv := hp.conv
                rcases hend with hend | ⟨h2, d, hd, d1, d2⟩
                all_goals
                  try have db := d.toNat_lt
                  rcases hp.cases with ⟨rfl, rfl⟩ | ⟨g, cap, rfl⟩
                  all_goals
                    go_wp2_with (at_builtin; refine Rws.appS rfl _ _ rfl w.heap.size _ L rfl hl _ _ rfl rfl (by omega) hb.size ?_)
                    intro w5 gg gcap r5 g5
                    have hb5 := g5.below _ _ (Nat.le_refl _) hb hb.size
                    clear g5 hl hp hb hcv
                    go_wp2
                    go_roundw
                    case rel => exact ⟨k + 1, L ++ [_], [], false, by omega, by first | go_num | (apply congrArg; omega), HLL.out, Nat.zero_le _, HOKN, HO, rfl, Lib.hid (fun _ => rfl), r5, RowB.nil _ _, hb5⟩
                    case measure => simp [intOf]; omega
            · have n10 : ((c.toNat : Int) != 10) = true := by have := Esc.u8_ne (n := 10) (by decide) e10; simpa [bne] using this
              have HO : Hid (unfS S = L ++ unfG (P ++ [c]) (S.drop (k + 1))) := Lib.hid (by rw [hu1, unf_any _ _ e13 e10])
              have HOKN := Lib.hid hok1
              clear hu1 hu hok1 h13 hnx hd0 hok hop
              go_wp2_with (at_builtin; refine Rws.appB rfl _ _ rfl w.heap.size _ P rfl hp c rfl (by omega) hb.size ?_)
              intro w5 gg gcap r5 g5
              have hl5 : RowS w.heap.size w5 _ L := g5.other _ _ _ _ _ _ (by decide) hl
              have hb5 := g5.below _ _ (Nat.le_refl _) hb hb.size
              have HPL : Hid ((P ++ [c]).length ≤ k + 1) := Lib.hid (by rw [List.length_append]; simp; omega)
              clear g5 hl hp hb
              go_wp2
              go_roundw
              case rel => exact ⟨k + 1, L, P ++ [c], true, by omega, by go_num, by omega, HPL.out, HOKN, HO, rfl, Lib.hid (fun h => by cases h), hl5, r5, hb5⟩
              case measure => simp [intOf]; omega
        · have hu1 : unfS S = L ++ fin P := by rw [hu.out, List.drop_eq_nil_of_le (by rw [HL.out]; omega), unf_nil]
          clear hu hok
          by_cases hP : P.length = 0
          · have HU : Hid (unfS S = L) := Lib.hid (by rw [hu1, fin, if_pos hP]; simp)
            have hT := hl.txt
            rw [← HU.out] at hT
            have e := List.length_eq_zero_iff.1 hP
            subst e
            rcases hp.cases with ⟨rfl, _⟩ | ⟨g, cap, rfl⟩
            all_goals
              clear hu1 hl hp hP hop
              cases op
              all_goals
                go_wp2
                go_ret2
                exact ⟨_, rfl, hT, hb⟩
          · have HU : Hid (unfS S = L ++ [P]) := Lib.hid (by rw [hu1, fin, if_neg hP])
            have hcv := hp.conv
            cases op with
            | false => exact absurd (by rw [hop.out rfl]; rfl) hP
            | true =>
            rcases hp.cases with ⟨rfl, rfl⟩ | ⟨g, cap, rfl⟩
            · exact absurd rfl hP
            · have hP0 : 0 < P.length := by omega
              clear hu1 hP hop
              go_wp2_with (at_builtin; refine Rws.appS rfl _ _ rfl w.heap.size _ L rfl hl _ _ rfl rfl (by omega) hb.size ?_)
              intro w5 gg gcap r5 g5
              have hb5 := g5.below _ _ (Nat.le_refl _) hb hb.size
              have hT := r5.txt
              rw [← HU.out] at hT
              clear g5 hl hp hb hcv r5
              go_wp2
              go_ret2
              exact ⟨_, rfl, hT, hb5⟩
end Fld
end Go.Proofs.Ytdakpncfophjnaa
/-
  fold's calls, whole; its waking call; FoldExact: the walk.
-/
namespace Go.Proofs.Ytdakpncfophjnaa
open Go.RowKit
namespace Fld
open Opn (sv TxtV)
def unfR (S : List UInt8) : List (List UInt8) × Int := if okCR S = true then (unfS S, 0) else ([], 18)
def lineR (S : List UInt8) : List UInt8 × Int := if hit S = true then ([], 18) else (foldL S, 0)
theorem unfold_any (s : ByteArray) (S : List UInt8) (L : List (List UInt8)) (rc : Int) (w : World) (hs : s.size ≤ 600000) (hS : Hid (s.data.toList = S)) (h : Hid (unfR S = (L, rc))) :
    Calls Try.prog 56 #[.string s] w fun e w' => ∃ v, e = .returned (.tuple #[v, .int .i64 rc]) ∧ TxtV w' v L ∧ Below w.heap.size w w' := by
  have hh := h.out
  unfold unfR at hh
  cases ho : okCR S with
  | true =>
    rw [ho, if_pos rfl] at hh
    injection hh with a b
    subst a b
    exact unf_to s S w hs hS (Lib.hid ho)
  | false =>
    rw [ho, if_neg (by decide)] at hh
    injection hh with a b
    subst a b
    exact (unf_no s S w hs hS (Lib.hid ho)).mono fun e w' ⟨h1, h2⟩ => ⟨_, h1, TxtV.none _, h2⟩
theorem runf_any (s : ByteArray) (S : List UInt8) (L : List (List UInt8)) (rc : Int) (w : World) (hs : s.size ≤ 600000) (hS : Hid (s.data.toList = S)) (h : Hid (unfR S = (L, rc))) :
    Calls Try.prog 58 #[.string s] w fun e w' => ∃ v, e = .returned (.tuple #[v, .int .i64 rc]) ∧ TxtV w' v L ∧ Below w.heap.size w w' := by
  have hh := h.out
  unfold unfR at hh
  cases ho : okCR S with
  | true =>
    rw [ho, if_pos rfl] at hh
    injection hh with a b
    subst a b
    exact runf_to s S w hs hS (Lib.hid ho)
  | false =>
    rw [ho, if_neg (by decide)] at hh
    injection hh with a b
    subst a b
    exact (runf_no s S w hs hS (Lib.hid ho)).mono fun e w' ⟨h1, h2⟩ => ⟨_, h1, TxtV.none _, h2⟩
theorem line_any (s : ByteArray) (S R : List UInt8) (rc : Int) (w : World) (hs : s.size ≤ 60000) (hS : Hid (s.data.toList = S)) (h : Hid (lineR S = (R, rc))) :
    Calls Try.prog 74 #[.string s] w fun e w' => e = .returned (.tuple #[.string ⟨R.toArray⟩, .int .i64 rc]) ∧ Below w.heap.size w w' := by
  have hh := h.out
  unfold lineR at hh
  cases ho : hit S with
  | true =>
    rw [ho, if_pos rfl] at hh
    injection hh with a b
    subst a b
    exact line_no s S w hs hS (Lib.hid ho)
  | false =>
    rw [ho, if_neg (by decide)] at hh
    injection hh with a b
    subst a b
    exact line_to s S w hs hS (Lib.hid ho)
theorem txt_lit1 (w : World) (x : ByteArray) (X : List UInt8) (hx : x = ⟨X.toArray⟩) : TxtV (w.alloc (.cells #[.string x] 9)) (.slice (some ⟨w.heap.size, 0, none⟩) 1 1) [X] := by
  subst hx
  refine ⟨_, _, _, rfl, rfl, fun j hj => ⟨_, 0, rfl, by simp, ?_⟩⟩
  match j, hj with
  | 0, _ => rw [World.cell?_alloc_new]; rfl
theorem txt_lit2 (w : World) (x y : ByteArray) (X Y : List UInt8) (hx : x = ⟨X.toArray⟩) (hy : y = ⟨Y.toArray⟩) : TxtV (w.alloc (.cells #[.string x, .string y] 9)) (.slice (some ⟨w.heap.size, 0, none⟩) 2 2) [X, Y] := by
  subst hx hy
  refine ⟨_, _, _, rfl, rfl, fun j hj => ⟨_, 0, rfl, by simp, ?_⟩⟩
  match j, hj with
  | 0, _ => rw [World.cell?_alloc_new]; rfl
  | 1, _ => rw [World.cell?_alloc_new]; rfl
/-- The waking call's long line. -/
def as76 : List UInt8 := List.replicate 76 97
theorem wk_l1 : ∃ T, lineR as76 = (T, 0) ∧ T.length = 81 ∧ unfR T = ([as76], 0) := ⟨_, rfl, by decide +kernel, by decide +kernel⟩
theorem wk_l2 : lineR [97, 10] = ([], 18) := by decide +kernel
theorem wk_u2 : unfR [97, 13, 10, 32, 98, 10, 99] = ([[97, 98], [99]], 0) := by decide +kernel
end Fld
end Go.Proofs.Ytdakpncfophjnaa
