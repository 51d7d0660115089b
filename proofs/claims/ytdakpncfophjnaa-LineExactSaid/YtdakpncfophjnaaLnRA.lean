/-
  Lines, the reference's words: Name, clean, Line. (Written by gen/gen_lnra.py.)
-/
import Derived.Test.YtdakpncfophjnaaLinO
import Derived.Test.YtdakpncfophjnaaLinY
import Derived.Test.YtdakpncfophjnaaEscR
namespace Go.Proofs.Ytdakpncfophjnaa
open Go.RowKit
namespace Lin
open CutB Cel
open Opn (TxtV)
theorem ctl_eq (c : UInt8) : Esc.ctl c = ctlB c := by
  rw [Esc.ctl, ctlB]
  by_cases x1 : (c.toNat : Int) < 32 <;> by_cases x2 : c = 9 <;> by_cases x3 : c = 127 <;> simp [x1, x2, x3]
theorem rbad_l (c : UInt8) (b : Bool) (w : World) (h : Hid (ctlB c = b)) : Calls Try.prog 71 #[.int .u8 (c.toNat : Int)] w fun e w' => e = .returned (.bool b) ∧ w = w' :=
  Esc.rbad_to c b w (Lib.hid (by rw [ctl_eq]; exact h.out))
def cq (q : Bool) (c : UInt8) : Bool := ctlB c || (q && decide (c = 34))
def clB (q : Bool) (S : List UInt8) : Bool := S.all (fun c => !cq q c)
theorem cl_pln (S : List UInt8) : clB false S = plnB S := by
  rw [clB, plnB]; congr 1; funext c; simp [cq]
theorem cl_val : ∀ (S : List UInt8), clB true S = valB S
  | [] => rfl
  | c :: S => by
    have ih := cl_val S
    rw [clB, List.all_cons, ← clB, ih, valB, valB, plnB, plnB, List.all_cons, List.contains_cons]
    have : (34 == c) = decide (c = 34) := by
      by_cases h : c = 34
      · subst h; rfl
      · rw [decide_eq_false h]; exact beq_eq_false_iff_ne.2 (fun e => h e.symm)
    rw [this]
    simp only [cq, Bool.true_and]
    cases ctlB c <;> cases decide (c = 34) <;> simp
theorem cl_snoc (q : Bool) (S : List UInt8) (k : Nat) (hk : k < S.length) (h : clB q (S.take k) = true) (hc : cq q S[k] = false) : clB q (S.take (k + 1)) = true := by
  rw [clB] at h ⊢
  rw [List.take_succ_eq_append_getElem hk, List.all_append, h, List.all_cons, hc]
  rfl
theorem cl_no (q : Bool) (S : List UInt8) (k : Nat) (hk : k < S.length) (hc : cq q S[k] = true) : clB q S = false := by
  cases e : clB q S with
  | false => rfl
  | true =>
    have := List.all_eq_true.1 e S[k] (List.getElem_mem hk)
    rw [hc] at this; cases this
set_option maxHeartbeats 3200000 in
set_option maxRecDepth 100000 in
theorem rcl_to (s : ByteArray) (S : List UInt8) (q b : Bool) (w : World) (hs : s.size ≤ 1000000) (hS : Hid (s.data.toList = S)) (h : Hid (clB q S = b)) :
    Calls Try.prog 50 #[.string s, .bool q] w fun e w' => e = .returned (.bool b) ∧ w = w' := by
  have hl : S.length = s.size := by rw [← hS.out]; simp
  have HL := Lib.hid hl
  clear hl
  go_enter Try.func50, Try.ntmps50
  go_wp2
  go_loopw [5] (fun i wr => ∃ k : Nat, k ≤ s.size ∧ Hid (clB q (S.take k) = true) ∧ i = .int .i64 k ∧ w = wr) (fun i _ => s.size - (intOf i).toNat)
  case atStart => exact ⟨0, Nat.zero_le _, Lib.hid rfl, rfl, rfl⟩
  case round =>
    obtain ⟨k, hk, hall, rfl, rfl⟩ := hrel
    by_cases hlt : k < s.size
    · have hkS : k < S.length := by rw [HL.out]; exact hlt
      obtain ⟨d, hx⟩ : ∃ c, S[k]'hkS = c := ⟨_, rfl⟩
      have hcc : s[k] = d := by
        have : s[k] = s.data.toList[k]'(by simpa using hlt) := by simp [ByteArray.getElem_eq_getElem_data]
        rw [this, ← hx]
        exact List.getElem_of_eq hS.out _
      have db := d.toNat_lt
      have HN : Hid (cq q d = false → clB q (S.take (k + 1)) = true) := Lib.hid (fun e => cl_snoc q S k hkS hall.out (by rw [hx]; exact e))
      have HF : Hid (cq q d = true → b = false) := Lib.hid (fun e => by rw [← h.out]; exact cl_no q S k hkS (by rw [hx]; exact e))
      clear hx hkS
      cases hct : ctlB d with
      | true =>
        have HB := Lib.hid (HF.out (by rw [cq, hct]; rfl)).symm
        have HCT := Lib.hid hct
        clear hct HN HF
        go_wp2_with fail
        refine (rbad_l d true _ HCT).mono ?_
        rintro e w1 ⟨rfl, rfl⟩
        go_wp2
        go_ret
        exact ⟨ret_b HB.out, rfl⟩
      | false =>
        have HCT := Lib.hid hct
        cases q with
        | false =>
          have HNN := Lib.hid (HN.out (by rw [cq, hct]; rfl))
          clear hct HN HF
          go_wp2_with fail
          refine (rbad_l d false _ HCT).mono ?_
          rintro e w1 ⟨rfl, rfl⟩
          go_wp2
          go_roundw
          case rel => exact ⟨k + 1, by omega, HNN, by go_num, trivial⟩
          case measure => simp [intOf]; omega
        | true =>
          by_cases h34 : d = 34
          · subst h34
            have HB := Lib.hid (HF.out (by decide)).symm
            clear hct HN HF
            go_wp2_with fail
            refine (rbad_l 34 false _ HCT).mono ?_
            rintro e w1 ⟨rfl, rfl⟩
            go_wp2
            go_ret
            exact ⟨ret_b HB.out, rfl⟩
          · have HNN := Lib.hid (HN.out (by rw [cq, hct, decide_eq_false h34]; rfl))
            have x4 : ((d.toNat : Int) == 34) = false := beq_eq_false_iff_ne.2 (fun e => h34 (UInt8.toNat_inj.1 (by show d.toNat = 34; omega)))
            clear hct HN HF h34
            go_wp2_with fail
            refine (rbad_l d false _ HCT).mono ?_
            rintro e w1 ⟨rfl, rfl⟩
            go_wp2
            go_roundw
            case rel => exact ⟨k + 1, by omega, HNN, by go_num, trivial⟩
            case measure => simp [intOf]; omega
    · have HB : Hid (true = b) := Lib.hid (by rw [← h.out, ← hall.out, List.take_of_length_le (by rw [HL.out]; omega)])
      go_wp2
      go_ret
      exact ⟨ret_b HB.out, rfl⟩
set_option maxHeartbeats 1600000 in
theorem rin_to (n lo hi : Int) (b : Bool) (w : World) (h : decide (lo ≤ n ∧ n ≤ hi) = b) :
    Calls Try.prog 70 #[.int .i64 n, .int .i64 lo, .int .i64 hi] w fun e w' => e = .returned (.bool b) ∧ w = w' := by
  subst h
  by_cases x : lo ≤ n
  · by_cases y : n ≤ hi
    · go_enter Try.func70, Try.ntmps70
      go_wp2
      go_ret
      first | exact ⟨rfl, rfl⟩ | exact ⟨ret_b (by simp [x, y]), rfl⟩
    · have z : decide (n ≤ hi) = false := decide_eq_false y
      go_enter Try.func70, Try.ntmps70
      go_wp2
      go_ret
      first | exact ⟨rfl, rfl⟩ | exact ⟨ret_b (by simp [x, y]), rfl⟩
  · have z : decide (lo ≤ n) = false := decide_eq_false x
    go_enter Try.func70, Try.ntmps70
    go_wp2
    go_ret
    first | exact ⟨rfl, rfl⟩ | exact ⟨ret_b (by simp [x]), rfl⟩
def nmC (n : Int) : Bool := decide ((65 ≤ n ∧ n ≤ 90) ∨ (97 ≤ n ∧ n ≤ 122) ∨ (48 ≤ n ∧ n ≤ 57) ∨ n = 45)
theorem nmc_ok (c : UInt8) : Fm.okB [45] c = nmC c.toNat := by
  have h : ∀ k < 256, Fm.okB [45] (UInt8.ofNat k) = nmC k := by decide +kernel
  have := h c.toNat c.toNat_lt
  rw [UInt8.ofNat_toNat] at this
  exact this
theorem only_snoc (S : List UInt8) (k : Nat) (hk : k < S.length) (h : Fm.onlyB (S.take k) [45] = true) (hc : nmC S[k].toNat = true) : Fm.onlyB (S.take (k + 1)) [45] = true := by
  rw [Fm.onlyB] at h ⊢
  rw [List.take_succ_eq_append_getElem hk, List.all_append, h, List.all_cons, nmc_ok, hc]
  rfl
theorem only_no (S : List UInt8) (k : Nat) (hk : k < S.length) (hc : nmC S[k].toNat = false) : Fm.onlyB S [45] = false := by
  cases e : Fm.onlyB S [45] with
  | false => rfl
  | true =>
    have := List.all_eq_true.1 e S[k] (List.getElem_mem hk)
    rw [nmc_ok, hc] at this; cases this
set_option maxHeartbeats 3200000 in
set_option maxRecDepth 100000 in
theorem rnm_to (s : ByteArray) (S : List UInt8) (b : Bool) (w : World) (hs : s.size ≤ 1000000) (hS : Hid (s.data.toList = S)) (h : Hid (nmB S = b)) :
    Calls Try.prog 49 #[.string s] w fun e w' => e = .returned (.bool b) ∧ w = w' := by
  have hl : S.length = s.size := by rw [← hS.out]; simp
  have HL := Lib.hid hl
  obtain ⟨r, hr⟩ : ∃ r, decide ((1 : Int) ≤ (s.size : Int) ∧ (s.size : Int) ≤ 40) = r := ⟨_, rfl⟩
  cases r with
  | false =>
    have HB : Hid (false = b) := Lib.hid (by
      have := of_decide_eq_false hr
      rw [← h.out, nmB, decide_eq_false (by omega)]; rfl)
    clear hl
    go_enter Try.func49, Try.ntmps49
    go_wp2_with fail
    refine (rin_to _ _ _ false _ hr).mono ?_
    rintro e w1 ⟨rfl, rfl⟩
    go_wp2
    go_ret
    exact ⟨ret_b HB.out, rfl⟩
  | true =>
    have hx := of_decide_eq_true hr
    have HB : Hid (Fm.onlyB S [45] = b) := Lib.hid (by rw [← h.out, nmB, decide_eq_true (by omega), Bool.true_and])
    clear hl hx
    go_enter Try.func49, Try.ntmps49
    go_wp2_with fail
    refine (rin_to _ _ _ true _ hr).mono ?_
    rintro e w1 ⟨rfl, rfl⟩
    go_wp2
    go_loopw [3] (fun i wr => ∃ k : Nat, k ≤ s.size ∧ Hid (Fm.onlyB (S.take k) [45] = true) ∧ i = .int .i64 k ∧ w = wr) (fun i _ => s.size - (intOf i).toNat)
    case atStart => exact ⟨0, Nat.zero_le _, Lib.hid rfl, rfl, rfl⟩
    case round =>
      obtain ⟨k, hk, hall, rfl, rfl⟩ := hrel
      by_cases hlt : k < s.size
      · have hkS : k < S.length := by rw [HL.out]; exact hlt
        obtain ⟨d, hx⟩ : ∃ c, S[k]'hkS = c := ⟨_, rfl⟩
        have hcc : s[k] = d := by
          have : s[k] = s.data.toList[k]'(by simpa using hlt) := by simp [ByteArray.getElem_eq_getElem_data]
          rw [this, ← hx]
          exact List.getElem_of_eq hS.out _
        have db := d.toNat_lt
        have HN : Hid (nmC d.toNat = true → Fm.onlyB (S.take (k + 1)) [45] = true) := Lib.hid (fun e => only_snoc S k hkS hall.out (by rw [hx]; exact e))
        have HF : Hid (nmC d.toNat = false → false = b) := Lib.hid (fun e => by rw [← HB.out]; exact (only_no S k hkS (by rw [hx]; exact e)).symm)
        clear hx hkS hr
        obtain ⟨n, hn⟩ : ∃ n : Int, (d.toNat : Int) = n := ⟨_, rfl⟩
        rw [hn] at HN HF
        have n0 : 0 ≤ n := by omega
        have n1 : n < 256 := by omega
        have hcs : n < 45 ∨ n = 45 ∨ (45 < n ∧ n < 48) ∨ (48 ≤ n ∧ n ≤ 57) ∨ (57 < n ∧ n < 65) ∨ (65 ≤ n ∧ n ≤ 90) ∨ (90 < n ∧ n < 97) ∨ (97 ≤ n ∧ n ≤ 122) ∨ 122 < n := by omega
        have y7 : (n != 45) = !decide (n = 45) := by
          by_cases q : n = 45
          · subst q; rfl
          · rw [decide_eq_false q]; exact bne_iff_ne.2 q
        rcases hcs with x | x | x | x | x | x | x | x | x
        · have z : nmC n = false := decide_eq_false (by omega)
          have f1 : n < 65 := by omega
          have f2 : ¬ 90 < n := by omega
          have f3 : n < 97 := by omega
          have f4 : ¬ 122 < n := by omega
          have f5 : n < 48 := by omega
          have f6 : ¬ 57 < n := by omega
          have f7 : (n != 45) = true := by rw [y7, decide_eq_false (by omega)]; rfl
          have HBB := Lib.hid (HF.out z)
          clear HN HF z y7
          go_wp2
          go_ret
          exact ⟨ret_b HBB.out, rfl⟩
        · have z : nmC n = true := decide_eq_true (by omega)
          have f1 : n < 65 := by omega
          have f2 : ¬ 90 < n := by omega
          have f3 : n < 97 := by omega
          have f4 : ¬ 122 < n := by omega
          have f5 : n < 48 := by omega
          have f6 : ¬ 57 < n := by omega
          have f7 : (n != 45) = false := by rw [y7, decide_eq_true x]; rfl
          have HNN := Lib.hid (HN.out z)
          clear HN HF z y7
          go_wp2
          go_roundw
          case rel => exact ⟨k + 1, by omega, HNN, by go_num, trivial⟩
          case measure => simp [intOf]; omega
        · have z : nmC n = false := decide_eq_false (by omega)
          have f1 : n < 65 := by omega
          have f2 : ¬ 90 < n := by omega
          have f3 : n < 97 := by omega
          have f4 : ¬ 122 < n := by omega
          have f5 : n < 48 := by omega
          have f6 : ¬ 57 < n := by omega
          have f7 : (n != 45) = true := by rw [y7, decide_eq_false (by omega)]; rfl
          have HBB := Lib.hid (HF.out z)
          clear HN HF z y7
          go_wp2
          go_ret
          exact ⟨ret_b HBB.out, rfl⟩
        · have z : nmC n = true := decide_eq_true (by omega)
          have f1 : n < 65 := by omega
          have f2 : ¬ 90 < n := by omega
          have f3 : n < 97 := by omega
          have f4 : ¬ 122 < n := by omega
          have f5 : ¬ n < 48 := by omega
          have f6 : ¬ 57 < n := by omega
          have f7 : (n != 45) = true := by rw [y7, decide_eq_false (by omega)]; rfl
          have HNN := Lib.hid (HN.out z)
          clear HN HF z y7
          go_wp2
          go_roundw
          case rel => exact ⟨k + 1, by omega, HNN, by go_num, trivial⟩
          case measure => simp [intOf]; omega
        · have z : nmC n = false := decide_eq_false (by omega)
          have f1 : n < 65 := by omega
          have f2 : ¬ 90 < n := by omega
          have f3 : n < 97 := by omega
          have f4 : ¬ 122 < n := by omega
          have f5 : ¬ n < 48 := by omega
          have f6 : 57 < n := by omega
          have f7 : (n != 45) = true := by rw [y7, decide_eq_false (by omega)]; rfl
          have HBB := Lib.hid (HF.out z)
          clear HN HF z y7
          go_wp2
          go_ret
          exact ⟨ret_b HBB.out, rfl⟩
        · have z : nmC n = true := decide_eq_true (by omega)
          have f1 : ¬ n < 65 := by omega
          have f2 : ¬ 90 < n := by omega
          have f3 : n < 97 := by omega
          have f4 : ¬ 122 < n := by omega
          have f5 : ¬ n < 48 := by omega
          have f6 : 57 < n := by omega
          have f7 : (n != 45) = true := by rw [y7, decide_eq_false (by omega)]; rfl
          have HNN := Lib.hid (HN.out z)
          clear HN HF z y7
          go_wp2
          go_roundw
          case rel => exact ⟨k + 1, by omega, HNN, by go_num, trivial⟩
          case measure => simp [intOf]; omega
        · have z : nmC n = false := decide_eq_false (by omega)
          have f1 : ¬ n < 65 := by omega
          have f2 : 90 < n := by omega
          have f3 : n < 97 := by omega
          have f4 : ¬ 122 < n := by omega
          have f5 : ¬ n < 48 := by omega
          have f6 : 57 < n := by omega
          have f7 : (n != 45) = true := by rw [y7, decide_eq_false (by omega)]; rfl
          have HBB := Lib.hid (HF.out z)
          clear HN HF z y7
          go_wp2
          go_ret
          exact ⟨ret_b HBB.out, rfl⟩
        · have z : nmC n = true := decide_eq_true (by omega)
          have f1 : ¬ n < 65 := by omega
          have f2 : 90 < n := by omega
          have f3 : ¬ n < 97 := by omega
          have f4 : ¬ 122 < n := by omega
          have f5 : ¬ n < 48 := by omega
          have f6 : 57 < n := by omega
          have f7 : (n != 45) = true := by rw [y7, decide_eq_false (by omega)]; rfl
          have HNN := Lib.hid (HN.out z)
          clear HN HF z y7
          go_wp2
          go_roundw
          case rel => exact ⟨k + 1, by omega, HNN, by go_num, trivial⟩
          case measure => simp [intOf]; omega
        · have z : nmC n = false := decide_eq_false (by omega)
          have f1 : ¬ n < 65 := by omega
          have f2 : 90 < n := by omega
          have f3 : ¬ n < 97 := by omega
          have f4 : 122 < n := by omega
          have f5 : ¬ n < 48 := by omega
          have f6 : 57 < n := by omega
          have f7 : (n != 45) = true := by rw [y7, decide_eq_false (by omega)]; rfl
          have HBB := Lib.hid (HF.out z)
          clear HN HF z y7
          go_wp2
          go_ret
          exact ⟨ret_b HBB.out, rfl⟩
      · have HBB : Hid (true = b) := Lib.hid (by rw [← HB.out, ← hall.out, List.take_of_length_le (by rw [HL.out]; omega)])
        clear hr
        go_wp2
        go_ret
        exact ⟨ret_b HBB.out, rfl⟩
end Lin
end Go.Proofs.Ytdakpncfophjnaa
