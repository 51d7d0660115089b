/-
  strings.IndexAny, ContainsAny of whatever text, held against a few ASCII signs. (Written by gen/gen_any.py.)
-/
import Derived.Test.YtdehpljpionpfaaEscA
import Derived.Test.YtdehpljpionpfaaShelf
import Derived.WalkKit
import Derived.Below
import Derived.Lib.Hide
import Derived.Lib.IndexAny
import Derived.Lib.OthersKept
import Derived.Laws.Runes
import Derived.Laws.RangeAny
import Derived.LoopN
import Derived.IntWalk
import Derived.WalkMore
import Derived.Outline
import Derived.BigQuiet
import Derived.Deep.QuietTactic
namespace Go.Proofs.Ytdehpljpionpfaa
open Go.RowKit
namespace SAny
theorem decode_wide (s : ByteArray) (i : Nat) (h : i < s.size) (ha : 128 ≤ (s[i]'h).toNat) : ∀ j, j < (Utf8.decode s i).2 → ∃ hj : i + j < s.size, 128 ≤ (s[i + j]'hj).toNat := by
  have hn : ¬ (s[i]'h).toNat < 128 := by omega
  have key : ∀ k, (decide (i + k < s.size) && (s.get! (i + k)).toNat / 64 == 2) = true → ∃ hj : i + k < s.size, 128 ≤ (s[i + k]'hj).toNat := fun k hk => by
    rw [Bool.and_eq_true] at hk
    have h1 := of_decide_eq_true hk.1
    refine ⟨h1, ?_⟩
    have h2 := beq_iff_eq.1 hk.2
    have e := get_at s (i + k) h1
    rw [Nat.add_zero] at e
    rw [← e]
    omega
  have k0 : ∃ hj : i + 0 < s.size, 128 ≤ (s[i + 0]'hj).toNat := ⟨h, ha⟩
  intro j hj
  simp only [Utf8.decode, get_at s i h, hn, if_false] at hj
  split at hj
  · rename_i c1
    rw [Bool.and_eq_true] at c1
    have k1 := key 1 (by simpa using c1.2)
    split at hj
    · match j, hj with
      | 0, _ => exact k0
      | 1, _ => exact k1
      | n + 2, hj => simp at hj; omega
    · match j, hj with
      | 0, _ => exact k0
      | n + 1, hj => simp at hj
  · split at hj
    · rename_i c1
      rw [Bool.and_eq_true, Bool.and_eq_true] at c1
      have k1 := key 1 (by simpa using c1.1.2)
      have k2 := key 2 (by simpa using c1.2)
      split at hj
      · match j, hj with
        | 0, _ => exact k0
        | 1, _ => exact k1
        | 2, _ => exact k2
        | n + 3, hj => simp at hj; omega
      · match j, hj with
        | 0, _ => exact k0
        | n + 1, hj => simp at hj
    · split at hj
      · rename_i c1
        rw [Bool.and_eq_true, Bool.and_eq_true, Bool.and_eq_true] at c1
        have k1 := key 1 (by simpa using c1.1.1.2)
        have k2 := key 2 (by simpa using c1.1.2)
        have k3 := key 3 (by simpa using c1.2)
        split at hj
        · match j, hj with
          | 0, _ => exact k0
          | 1, _ => exact k1
          | 2, _ => exact k2
          | 3, _ => exact k3
          | n + 4, hj => simp at hj; omega
        · match j, hj with
          | 0, _ => exact k0
          | n + 1, hj => simp at hj
      · match j, hj with
        | 0, _ => exact k0
        | n + 1, hj => simp at hj
/-- The signs: two at least, eight at most, all ASCII. -/
structure Sgn (cs : ByteArray) (C : List UInt8) : Prop where
  eq : cs.data.toList = C
  lo : 2 ≤ cs.size
  hi : cs.size ≤ 8
  asc : ∀ (k : Nat) (h : k < cs.size), (cs[k]'h).toNat < 128
theorem Sgn.len {cs : ByteArray} {C : List UInt8} (h : Sgn cs C) : C.length = cs.size := by rw [← h.eq]; simp
theorem get_list {s : ByteArray} {S : List UInt8} (hS : s.data.toList = S) (k : Nat) (h : k < s.size) : ∃ h2 : k < S.length, s[k] = S[k] := by
  have hl : S.length = s.size := by rw [← hS]; simp
  have : s[k] = s.data.toList[k]'(by simpa using h) := by simp [ByteArray.getElem_eq_getElem_data]
  refine ⟨by omega, ?_⟩
  rw [this]
  exact List.getElem_of_eq hS _
theorem Sgn.asc' {cs : ByteArray} {C : List UInt8} (h : Sgn cs C) : ∀ (j : Nat) b, cs.data.toList[j]? = some b → b.toNat < 128 := fun j b hj => by
  have hl := h.len
  rw [h.eq] at hj
  have hj2 : j < cs.size := by
    have := (List.getElem?_eq_some_iff.1 hj).1
    omega
  obtain ⟨h2, e⟩ := get_list h.eq j hj2
  rw [List.getElem?_eq_getElem h2, ← e] at hj
  injection hj with hj
  rw [← hj]
  exact h.asc j hj2
theorem indexByte_none : ∀ (l : List UInt8) (c : UInt8), (∀ b ∈ l, b ≠ c) → Lib.indexByte l c = -1
  | [], _, _ => rfl
  | b :: l, c, h => by
    have e : (b == c) = false := beq_eq_false_iff_ne.2 (h b List.mem_cons_self)
    rw [Lib.indexByte, e, indexByte_none l c (fun x hx => h x (List.mem_cons_of_mem _ hx))]
    rfl
theorem iby_none (cs : ByteArray) (C : List UInt8) (hc : Sgn cs C) (a e : Nat) (q : UInt8) (hq : 128 ≤ q.toNat) (w : World) : Calls Try.prog 16 #[.string (cs.extract a e), .int .u8 (q.toNat : Int)] w fun e w' => e = .returned (.int .i64 (-1)) ∧ w' = w := by
  have h := Try.strings_IndexByte (cs.extract a e) (q.toNat : Int) w
  have e1 : ((q.toNat : Int)).toNat.toUInt8 = q := by simp
  rw [e1, indexByte_none _ q (fun b hb hbq => by
    have hm := mem_extract hb
    obtain ⟨j, hj, hjb⟩ := List.getElem_of_mem hm
    have := hc.asc' j b (by rw [List.getElem?_eq_getElem hj, hjb])
    rw [hbq] at this
    omega)] at h
  exact h
set_option maxHeartbeats 6400000 in
set_option maxRecDepth 100000 in
theorem ir_err (cs : ByteArray) (C : List UInt8) (hc : Sgn cs C) (w : World) :
    Calls Try.prog 23 #[.string cs, .int .i32 65533] w fun e w' => e = .returned (.int .i64 (-1)) ∧ Below w.heap.size w w' := by
  have HC := Lib.hid hc
  have hb0 : Below w.heap.size w (w.iter cs 0) := (Below.refl _ _).alloc (Nat.le_refl _) _
  have hi0 : (w.iter cs 0).heap[w.heap.size]? = some (.stringIter cs 0) := World.iter_heap w cs 0
  have HB := Lib.hid hb0
  have HI := Lib.hid hi0
  clear hb0 hi0 hc
  go_enter Try.func23, Try.ntmps23
  go_wp2
  go_loopg [5, 6] cs.size (fun g _ _ wx => ∃ i : Nat, i + g = cs.size ∧ Hid (wx.heap[w.heap.size]? = some (.stringIter cs i)) ∧ Below w.heap.size w wx) 
  case atStart => exact ⟨0, by omega, HI, HB.out⟩
  case round =>
    obtain ⟨i, hig, hit0, hb⟩ := hrel
    cases gk with
    | zero =>
      obtain rfl : i = cs.size := by omega
      have hnx := fun ty => Lib.run_next_end_at (P := Try.prog) wr w.heap.size cs cs.size ty hit0.out (by omega)
      go_wp2
      go_ret
      exact ⟨rfl, hb⟩
    | succ g =>
      have hi : i < cs.size := by omega
      have hx128 := HC.out.asc i hi
      have hnx := fun ty => Lib.run_next_ascii_at (P := Try.prog) wr w.heap.size cs i ty hit0.out hi hx128
      have hbn : Below w.heap.size w (wr.iterAt w.heap.size cs (i + 1)) := ⟨hb.os, hb.tape, hb.output, by rw [Lib.iterAt_size]; exact hb.size, fun k hk => by rw [Lib.iterAt_other _ _ _ _ _ (by omega)]; exact hb.block k hk⟩
      have hin := Lib.iterAt_heap wr w.heap.size cs i (i + 1) hit0.out
      obtain ⟨q, hq⟩ : ∃ q, (cs[i]'hi) = q := ⟨_, rfl⟩
      rw [hq] at hnx hx128
      have hne : ((q.toNat : Int) == 65533) = false := beq_eq_false_iff_ne.2 (by omega)
      have HIN := Lib.hid hin
      have HBN := Lib.hid hbn
      obtain ⟨wn, hwn⟩ : ∃ wn, wr.iterAt w.heap.size cs (i + 1) = wn := ⟨_, rfl⟩
      rw [hwn] at hnx HIN HBN
      clear hwn hin hbn hq hb
      go_wp2
      go_roundg g
      case measure => omega
      case rel => exact ⟨i + 1, by omega, HIN, HBN.out⟩
set_option maxHeartbeats 6400000 in
set_option maxRecDepth 100000 in
theorem ir_high (cs : ByteArray) (C : List UInt8) (hc : Sgn cs C) (r : Int) (w : World) (h : 128 ≤ r) (hm : r ≤ 2147483647) :
    Calls Try.prog 23 #[.string cs, .int .i32 r] w fun e w' => e = .returned (.int .i64 (-1)) ∧ Below w.heap.size w w' := by
  by_cases h1 : r = 65533
  · subst h1; exact ir_err cs C hc w
  have hr1 : (r == 65533) = false := beq_eq_false_iff_ne.2 h1
  have hr2 : ¬ r < 128 := by omega
  clear h1
  have c2 := hc.lo
  have c8 := hc.hi
  have HC := Lib.hid hc
  clear hc
  have hvr := Try.utf8_ValidRune r w
  cases hv : Lib.validRune r with
  | false =>
    rw [hv] at hvr
    have HV := Lib.hid hvr
    clear hvr hv
    go_enter Try.func23, Try.ntmps23
    go_wp2_with fail
    refine HV.out.mono ?_
    rintro e w' ⟨rfl, rfl⟩
    go_wp2
    go_ret
    exact ⟨rfl, Below.refl _ _⟩
  | true =>
    have huv : Utf8.valid r = true := by rw [validRune_eq]; exact hv
    obtain ⟨e2, e4, el⟩ := encode_facts r huv h
    rw [hv] at hvr
    have HV := Lib.hid hvr
    clear hvr hv huv
    obtain ⟨m, hm2⟩ : ∃ m, (Utf8.encode r).size = m + 1 := ⟨(Utf8.encode r).size - 1, by omega⟩
    have hml : m < (Utf8.encode r).size := by omega
    obtain ⟨q, hq⟩ : ∃ q, (Utf8.encode r)[m]'hml = q := ⟨_, rfl⟩
    have hq2 : 128 ≤ q.toNat := by
      have := el (by omega)
      rw [← hq]
      simpa [hm2] using this
    have hm1 : 1 ≤ m := by omega
    have hm3 : m ≤ 3 := by omega
    have hlt := q.toNat_lt
    have hw1 : ((m + 1 : Nat) : Int) - 1 = (m : Int) := by omega
    clear el e2 e4
    by_cases hmc : m < cs.size
    · have hx := HC.out.asc m hmc
      obtain ⟨x, hxx⟩ : ∃ x, cs[m]'hmc = x := ⟨_, rfl⟩
      rw [hxx] at hx
      have hne : ((x.toNat : Int) == (q.toNat : Int)) = false := beq_eq_false_iff_ne.2 (by omega)
      have hne2 : ((x.toNat : Int) != (q.toNat : Int)) = true := by rw [bne, hne]; rfl
      have HI : Hid (∀ a e W, Calls Try.prog 16 #[.string (cs.extract a e), .int .u8 (q.toNat : Int)] W fun e w' => e = .returned (.int .i64 (-1)) ∧ w' = W) := Lib.hid (fun a e W => iby_none cs C HC.out a e q hq2 W)
      go_enter Try.func23, Try.ntmps23
      go_wp2_with fail
      refine HV.out.mono ?_
      rintro e w' ⟨rfl, rfl⟩
      go_wp2_with fail
      go_step3
      go_wp2_with fail
      refine wp_loop_rounds 1 ?_
      rw [rounds_succ]
      go_wp2_with fail
      go_step3
      go_wp2_with fail
      go_quiet (fail)
      obtain ⟨W, hW⟩ : ∃ x, w'.drewN nq = x := ⟨_, rfl⟩
      have hb : Below w'.heap.size w' W := by rw [← hW]; exact below_drewN (Below.refl _ _) nq
      rw [hW]
      clear hW
      go_wp2_with fail
      have hi0 : ((m : Int) + 1).toNat = m + 1 := by omega
      have hi4 : (0 : Int) ≤ (m : Int) + 1 := by omega
      have hi2 : (m : Int) + 1 ≤ (cs.size : Int) := by omega
      have hi1 : IntKind.i64.wrap ((m : Int) + 1) = (m : Int) + 1 := IntWalk.i64_in _ (by omega)
      go_quiet ((go_at_call 16; exact Calls.quiet_of_same (HI.out _ _ _)))
      go_wp2
      rw [Exit.noGoto_ret]
      go_wp2
      rw [Exit.noGoto_ret]
      go_ret
      exact ⟨rfl, below_drewN hb _⟩
    · have h3 : ¬ (m : Int) < (cs.size : Int) := by omega
      go_enter Try.func23, Try.ntmps23
      go_wp2_with fail
      refine HV.out.mono ?_
      rintro e w' ⟨rfl, rfl⟩
      go_wp2_with fail
      go_step3
      go_wp2_with fail
      refine wp_loop_rounds 1 ?_
      rw [rounds_succ]
      go_wp2
      rw [Exit.noGoto_ret]
      go_ret
      exact ⟨rfl, Below.refl _ _⟩
theorem ir_ascii (cs : ByteArray) (C : List UInt8) (hc : Sgn cs C) (x : UInt8) (w : World) (h : x.toNat < 128) : Calls Try.prog 23 #[.string cs, .int .i32 (x.toNat : Int)] w fun e w' => e = .returned (.int .i64 (Lib.indexByte C x)) ∧ w = w' := by
  refine (Try.strings_IndexRune_ascii cs (x.toNat : Int) w (by omega) (by omega)).mono ?_
  rintro e w' ⟨rfl, rfl⟩
  refine ⟨?_, rfl⟩
  have e : ((x.toNat : Int)).toNat.toUInt8 = x := by simp
  rw [e, hc.eq]
theorem run_zero (w : World) : (zeroValue 56).run Try.prog w = .ok (.agg (Array.replicate 256 (.bool false))) w := by kernel_rfl
set_option maxHeartbeats 8000000 in
set_option maxRecDepth 1000000 in
theorem ia_short (s cs : ByteArray) (S C : List UInt8) (w : World) (hc : Sgn cs C) (h8 : s.size ≤ 8) (hS : Hid (s.data.toList = S)) :
    Calls Try.prog 19 #[.string s, .string cs] w fun e w' => e = .returned (.int .i64 (Lib.indexAny S C)) ∧ Below w.heap.size w w' := by
  have hl : S.length = s.size := by rw [← hS.out]; simp
  have HL := Lib.hid hl
  have c2 := hc.lo
  have c8 := hc.hi
  have hemp : cs.toList.isEmpty = false := by
    rw [Lib.toList_data, hc.eq]
    have := hc.len
    cases C with
    | nil => simp at this; omega
    | cons _ _ => rfl
  have hn1 : ((cs.size : Int) == 1) = false := beq_eq_false_iff_ne.2 (by omega)
  have HC := Lib.hid hc
  clear hl hc
  have h8z : decide ((8 : Int) < (s.size : Int)) = false := decide_eq_false (by omega)
  have h8c := Try.strings_shouldUseASCIISet (s.size : Int) w
  rw [h8z] at h8c
  have H8 := Lib.hid h8c
  clear h8z h8c
  have hb0 : Below w.heap.size w (w.iter s 0) := (Below.refl _ _).alloc (Nat.le_refl _) _
  have hi0 : (w.iter s 0).heap[w.heap.size]? = some (.stringIter s 0) := World.iter_heap w s 0
  have HB := Lib.hid hb0
  have HI := Lib.hid hi0
  clear hb0 hi0
  go_enter Try.func19, Try.ntmps19
  go_wp2_with fail
  refine H8.out.mono ?_
  rintro e w' ⟨rfl, rfl⟩
  go_wp2_with fail
  go_loopg [9, 10] s.size (fun g _ _ wx => ∃ i : Nat, i + g = s.size ∧ Hid (wx.heap[w'.heap.size]? = some (.stringIter s i)) ∧ Hid (Lib.NoAny S C i) ∧ Below w'.heap.size w' wx)
  case atStart => exact ⟨0, by omega, HI, Lib.hid (Lib.NoAny.zero _ _), HB.out⟩
  case round =>
    obtain ⟨i, hig, hit0, hno, hb⟩ := hrel
    cases gk with
    | zero =>
      obtain rfl : i = s.size := by omega
      have hnx := fun ty => Lib.run_next_end_at (P := Try.prog) wr w'.heap.size s s.size ty hit0.out (by omega)
      have HR : Hid (Lib.indexAny S C = -1) := Lib.hid (Lib.indexAny_none (by rw [HL.out]; exact hno.out))
      clear hno
      go_wp2
      go_ret
      exact ⟨ret_i HR.out.symm, hb⟩
    | succ g =>
      have hi : i < s.size := by omega
      obtain ⟨hiS, hxe⟩ := get_list hS.out i hi
      obtain ⟨x, hx⟩ : ∃ x : UInt8, s[i]'hi = x := ⟨_, rfl⟩
      have hxS : S[i]? = some x := by rw [List.getElem?_eq_getElem hiS, ← hxe, hx]
      have hKlt : w'.heap.size < wr.heap.size := (Array.getElem?_eq_some_iff.1 hit0.out).1
      by_cases hx128 : x.toNat < 128
      · have hnx := fun ty => Lib.run_next_ascii_at (P := Try.prog) wr w'.heap.size s i ty hit0.out hi (by rw [hx]; exact hx128)
        rw [hx] at hnx
        have hbn : Below w'.heap.size w' (wr.iterAt w'.heap.size s (i + 1)) := ⟨hb.os, hb.tape, hb.output, by rw [Lib.iterAt_size]; exact hb.size, fun k hk => by rw [Lib.iterAt_other _ _ _ _ _ (by omega)]; exact hb.block k hk⟩
        have hin := Lib.iterAt_heap wr w'.heap.size s i (i + 1) hit0.out
        have HA := Lib.hid (fun W => ir_ascii cs C HC.out x W hx128)
        have hcon := Lib.contains_iff_indexByte C x
        have HIN := Lib.hid hin
        have HBN := Lib.hid hbn
        have HXS := Lib.hid hxS
        obtain ⟨wn, hwn⟩ : ∃ wn, wr.iterAt w'.heap.size s (i + 1) = wn := ⟨_, rfl⟩
        rw [hwn] at hnx HIN HBN
        obtain ⟨ib, hib⟩ : ∃ ib, Lib.indexByte C x = ib := ⟨_, rfl⟩
        rw [hib] at hcon HA
        clear hwn hin hbn hx hxS hxe hiS hKlt hb hib
        cases hcc : C.contains x with
        | true =>
          have HR : Hid (Lib.indexAny S C = i) := Lib.hid (Lib.indexAny_hit hno.out HXS.out hcc)
          rw [hcc] at hcon
          have hge : (0 : Int) ≤ ib := of_decide_eq_true hcon.symm
          clear hcon hcc hno
          go_wp2_with fail
          refine (HA.out _).mono ?_
          rintro e w2 ⟨rfl, rfl⟩
          go_wp2
          go_ret
          exact ⟨ret_i HR.out.symm, HBN.out⟩
        | false =>
          have HN : Hid (Lib.NoAny S C (i + 1)) := Lib.hid (hno.out.succ HXS.out hcc)
          rw [hcc] at hcon
          have hge : ¬ (0 : Int) ≤ ib := of_decide_eq_false hcon.symm
          clear hcon hcc hno
          go_wp2_with fail
          refine (HA.out _).mono ?_
          rintro e w2 ⟨rfl, rfl⟩
          go_wp2
          go_roundg g
          case measure => omega
          case rel => exact ⟨i + 1, by omega, HIN, HN, HBN.out⟩
      · have hhi : 128 ≤ (s[i]'hi).toNat := by rw [hx]; omega
        have hdh := decode_high s i hi hhi
        have hdw := decode_wide s i hi hhi
        have hdl := decode_le s i
        have hnx := fun ty => Lib.run_next_any_at (P := Try.prog) wr w'.heap.size s i ty hit0.out hi
        obtain ⟨c, hc⟩ : ∃ c, (Utf8.decode s i).1 = c := ⟨_, rfl⟩
        obtain ⟨d, hd⟩ : ∃ d, (Utf8.decode s i).2 = d := ⟨_, rfl⟩
        rw [hc] at hnx hdh hdl
        rw [hd] at hnx hdh hdw
        have hdS : i + d ≤ s.size := by
          obtain ⟨h1, _⟩ := hdw (d - 1) (by omega)
          omega
        have hbn : Below w'.heap.size w' (wr.iterAt w'.heap.size s (i + d)) := ⟨hb.os, hb.tape, hb.output, by rw [Lib.iterAt_size]; exact hb.size, fun k hk => by rw [Lib.iterAt_other _ _ _ _ _ (by omega)]; exact hb.block k hk⟩
        have hin := Lib.iterAt_heap wr w'.heap.size s i (i + d) hit0.out
        have HN : Hid (Lib.NoAny S C (i + d)) := Lib.hid (fun j b hj hb => by
          by_cases hji : j < i
          · exact hno.out j b hji hb
          · obtain ⟨h1, h2⟩ := hdw (j - i) (by omega)
            have e1 : i + (j - i) = j := by omega
            obtain ⟨h3, e3⟩ := get_list hS.out (i + (j - i)) h1
            rw [e3] at h2
            have hb2 : S[i + (j - i)]'h3 = b := by
              rw [← e1, List.getElem?_eq_getElem h3] at hb
              injection hb
            rw [hb2] at h2
            cases hcn : C.contains b with
            | false => rfl
            | true =>
              obtain ⟨m, hm, hmb⟩ := List.getElem_of_mem (List.contains_iff_mem.1 hcn)
              have := HC.out.asc' m b (by rw [HC.out.eq, List.getElem?_eq_getElem hm, hmb])
              omega)
        have HIN := Lib.hid hin
        have HBN := Lib.hid hbn
        have HSZ : Hid (w'.heap.size < (wr.iterAt w'.heap.size s (i + d)).heap.size) := Lib.hid (by rw [Lib.iterAt_size]; exact hKlt)
        obtain ⟨wn, hwn⟩ : ∃ wn, wr.iterAt w'.heap.size s (i + d) = wn := ⟨_, rfl⟩
        rw [hwn] at hnx HIN HBN HSZ
        clear hwn hin hbn hx hxS hxe hiS hKlt hb hno hdw hc hd
        go_wp2_with fail
        refine (ir_high cs C HC.out (c : Int) _ (by omega) (by omega)).mono ?_
        rintro e w2 ⟨rfl, b2⟩
        go_wp2
        go_roundg (s.size - (i + d))
        case measure => omega
        case rel => exact ⟨i + d, by omega, Lib.hid ((b2.block _ HSZ.out).trans HIN.out), HN, HBN.out.trans (b2.mono HBN.out.size)⟩
/-- strings.IndexAny of whatever text, held against a few ASCII signs. -/
theorem ia_to (s cs : ByteArray) (S C : List UInt8) (w : World) (hc : Sgn cs C) (hs : s.size ≤ 1000000) (hS : Hid (s.data.toList = S)) :
    Calls Try.prog 19 #[.string s, .string cs] w fun e w' => e = .returned (.int .i64 (Lib.indexAny S C)) ∧ Below w.heap.size w w' := by
  by_cases h8 : s.size ≤ 8
  · exact ia_short s cs S C w hc h8 hS
  · have h2 := hc.lo
    have h3 := hc.hi
    refine (Try.strings_IndexAny_long run_zero s cs w h2 (by omega) (by omega) (by omega) hc.asc').mono ?_
    rintro e w' ⟨rfl, rfl⟩
    rw [hS.out, hc.eq]
    exact ⟨rfl, ((Below.refl _ _).alloc (Nat.le_refl _) _).alloc (by simp) _⟩
/-- Does one of the signs stand in the text? -/
def hitA (S C : List UInt8) : Bool := S.any (fun c => C.contains c)
theorem indexAny_hit' (S C : List UInt8) : decide (0 ≤ Lib.indexAny S C) = hitA S C := by
  induction S with
  | nil => rfl
  | cons c S ih =>
    unfold hitA at ih ⊢
    rw [Lib.indexAny, List.any_cons, ← ih]
    have hg := Lib.indexAny_ge C S
    cases h : C.contains c with
    | true => simp
    | false =>
      by_cases h1 : Lib.indexAny S C = -1
      · rw [h1]; simp
      · have h2 : (Lib.indexAny S C == -1) = false := beq_eq_false_iff_ne.2 h1
        rw [h2]
        simp
        omega
set_option maxHeartbeats 1600000 in
set_option maxRecDepth 100000 in
/-- strings.ContainsAny of whatever text, held against a few ASCII signs. -/
theorem ca_any (s cs : ByteArray) (S C : List UInt8) (b : Bool) (w : World) (hc : Sgn cs C) (hs : s.size ≤ 1000000) (hS : Hid (s.data.toList = S)) (h : Hid (hitA S C = b)) :
    Calls Try.prog 10 #[.string s, .string cs] w fun e w' => e = .returned (.bool b) ∧ Below w.heap.size w w' := by
  have HK := Lib.hid (ia_to s cs S C w hc hs hS)
  have HD := Lib.hid (indexAny_hit' S C)
  obtain ⟨v, hv⟩ : ∃ v, Lib.indexAny S C = v := ⟨_, rfl⟩
  rw [hv] at HK HD
  clear hv hc
  go_enter Try.func10, Try.ntmps10
  go_wp2_with fail
  refine HK.out.mono ?_
  rintro e w' ⟨rfl, hb⟩
  go_wp2
  go_ret
  exact ⟨ret_b (by rw [HD.out]; exact h.out), hb⟩
end SAny
end Go.Proofs.Ytdehpljpionpfaa
