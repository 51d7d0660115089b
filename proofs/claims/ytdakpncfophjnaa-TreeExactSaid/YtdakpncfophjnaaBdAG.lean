/-
  Several texts in one (LnRA, LnRB, LnRF).
-/
import Derived.Test.YtdakpncfophjnaaBdY
import Derived.Test.YtdakpncfophjnaaBdAF
import Derived.Test.YtdakpncfophjnaaEscR
/-
  Lines, the reference's words: Name, clean, Line. (Written by gen/gen_lnra.py.)
-/
namespace Go.Proofs.Ytdakpncfophjnaa
open Go.RowKit
namespace Lin
open CutB Cel
open Opn (TxtV)
theorem ctl_eq (c : UInt8) : Esc.ctl c = ctlB c := by
  rw [Esc.ctl, ctlB]
  by_cases x1 : (c.toNat : Int) < 32 <;> by_cases x2 : c = 9 <;> by_cases x3 : c = 127 <;> simp [x1, x2, x3]
theorem rbad_l (c : UInt8) (b : Bool) (w : World) (h : Hid (ctlB c = b)) : Calls Try.prog 71 #[.int .u8 (c.toNat : Int)] w fun e w' => e = .returned (.bool b) ∧ w = w' :=
  Esc.rbad_to c b w (Lib.hid (by rw [ctl_eq]; exact h.out))
def cq (q : Bool) (c : UInt8) : Bool := ctlB c || (q && decide (c = 34))
def clB (q : Bool) (S : List UInt8) : Bool := S.all (fun c => !cq q c)
theorem cl_pln (S : List UInt8) : clB false S = plnB S := by
  rw [clB, plnB]; congr 1; funext c; simp [cq]
theorem cl_val : ∀ (S : List UInt8), clB true S = valB S
  | [] => rfl
  | c :: S => by
    have ih := cl_val S
    rw [clB, List.all_cons, ← clB, ih, valB, valB, plnB, plnB, List.all_cons, List.contains_cons]
    have : (34 == c) = decide (c = 34) := by
      by_cases h : c = 34
      · subst h; rfl
      · rw [decide_eq_false h]; exact beq_eq_false_iff_ne.2 (fun e => h e.symm)
    rw [this]
    simp only [cq, Bool.true_and]
    cases ctlB c <;> cases decide (c = 34) <;> simp
theorem cl_snoc (q : Bool) (S : List UInt8) (k : Nat) (hk : k < S.length) (h : clB q (S.take k) = true) (hc : cq q S[k] = false) : clB q (S.take (k + 1)) = true := by
  rw [clB] at h ⊢
  rw [List.take_succ_eq_append_getElem hk, List.all_append, h, List.all_cons, hc]
  rfl
theorem cl_no (q : Bool) (S : List UInt8) (k : Nat) (hk : k < S.length) (hc : cq q S[k] = true) : clB q S = false := by
  cases e : clB q S with
  | false => rfl
  | true =>
    have := List.all_eq_true.1 e S[k] (List.getElem_mem hk)
    rw [hc] at this; cases this
set_option maxHeartbeats 3200000 in
set_option maxRecDepth 100000 in
theorem rcl_to (s : ByteArray) (S : List UInt8) (q b : Bool) (w : World) (hs : s.size ≤ 1000000) (hS : Hid (s.data.toList = S)) (h : Hid (clB q S = b)) :
    Calls Try.prog 50 #[.string s, .bool q] w fun e w' => e = .returned (.bool b) ∧ w = w' := by
  have hl : S.length = s.size := by rw [← hS.out]; simp
  have HL := Lib.hid hl
  clear hl
  go_enter Try.func50, Try.ntmps50
  go_wp2
  go_loopw [5] (fun i wr => ∃ k : Nat, k ≤ s.size ∧ Hid (clB q (S.take k) = true) ∧ i = .int .i64 k ∧ w = wr) (fun i _ => s.size - (intOf i).toNat)
  case atStart => exact ⟨0, Nat.zero_le _, Lib.hid rfl, rfl, rfl⟩
  case round =>
    obtain ⟨k, hk, hall, rfl, rfl⟩ := hrel
    by_cases hlt : k < s.size
    · have hkS : k < S.length := by rw [HL.out]; exact hlt
      obtain ⟨d, hx⟩ : ∃ c, S[k]'hkS = c := ⟨_, rfl⟩
      have hcc : s[k] = d := by
        have : s[k] = s.data.toList[k]'(by simpa using hlt) := by simp [ByteArray.getElem_eq_getElem_data]
        rw [this, ← hx]
        exact List.getElem_of_eq hS.out _
      have db := d.toNat_lt
      have HN : Hid (cq q d = false → clB q (S.take (k + 1)) = true) := Lib.hid (fun e => cl_snoc q S k hkS hall.out (by rw [hx]; exact e))
      have HF : Hid (cq q d = true → b = false) := Lib.hid (fun e => by rw [← h.out]; exact cl_no q S k hkS (by rw [hx]; exact e))
      clear hx hkS
      cases hct : ctlB d with
      | true =>
        have HB := Lib.hid (HF.out (by rw [cq, hct]; rfl)).symm
        have HCT := Lib.hid hct
        clear hct HN HF
        go_wp2_with fail
        refine (rbad_l d true _ HCT).mono ?_
        rintro e w1 ⟨rfl, rfl⟩
        go_wp2
        go_ret
        exact ⟨ret_b HB.out, rfl⟩
      | false =>
        have HCT := Lib.hid hct
        cases q with
        | false =>
          have HNN := Lib.hid (HN.out (by rw [cq, hct]; rfl))
          clear hct HN HF
          go_wp2_with fail
          refine (rbad_l d false _ HCT).mono ?_
          rintro e w1 ⟨rfl, rfl⟩
          go_wp2
          go_roundw
          case rel => exact ⟨k + 1, by omega, HNN, by go_num, trivial⟩
          case measure => simp [intOf]; omega
        | true =>
          by_cases h34 : d = 34
          · subst h34
            have HB := Lib.hid (HF.out (by decide)).symm
            clear hct HN HF
            go_wp2_with fail
            refine (rbad_l 34 false _ HCT).mono ?_
            rintro e w1 ⟨rfl, rfl⟩
            go_wp2
            go_ret
            exact ⟨ret_b HB.out, rfl⟩
          · have HNN := Lib.hid (HN.out (by rw [cq, hct, decide_eq_false h34]; rfl))
            have x4 : ((d.toNat : Int) == 34) = false := beq_eq_false_iff_ne.2 (fun e => h34 (UInt8.toNat_inj.1 (by show d.toNat = 34; omega)))
            clear hct HN HF h34
            go_wp2_with fail
            refine (rbad_l d false _ HCT).mono ?_
            rintro e w1 ⟨rfl, rfl⟩
            go_wp2
            go_roundw
            case rel => exact ⟨k + 1, by omega, HNN, by go_num, trivial⟩
            case measure => simp [intOf]; omega
    · have HB : Hid (true = b) := Lib.hid (by rw [← h.out, ← hall.out, List.take_of_length_le (by rw [HL.out]; omega)])
      go_wp2
      go_ret
      exact ⟨ret_b HB.out, rfl⟩
set_option maxHeartbeats 1600000 in
theorem rin_to (n lo hi : Int) (b : Bool) (w : World) (h : decide (lo ≤ n ∧ n ≤ hi) = b) :
    Calls Try.prog 70 #[.int .i64 n, .int .i64 lo, .int .i64 hi] w fun e w' => e = .returned (.bool b) ∧ w = w' := by
  subst h
  by_cases x : lo ≤ n
  · by_cases y : n ≤ hi
    · go_enter Try.func70, Try.ntmps70
      go_wp2
      go_ret
      first | exact ⟨rfl, rfl⟩ | exact ⟨ret_b (by simp [x, y]), rfl⟩
    · have z : decide (n ≤ hi) = false := decide_eq_false y
      go_enter Try.func70, Try.ntmps70
      go_wp2
      go_ret
      first | exact ⟨rfl, rfl⟩ | exact ⟨ret_b (by simp [x, y]), rfl⟩
  · have z : decide (lo ≤ n) = false := decide_eq_false x
    go_enter Try.func70, Try.ntmps70
    go_wp2
    go_ret
    first | exact ⟨rfl, rfl⟩ | exact ⟨ret_b (by simp [x]), rfl⟩
def nmC (n : Int) : Bool := decide ((65 ≤ n ∧ n ≤ 90) ∨ (97 ≤ n ∧ n ≤ 122) ∨ (48 ≤ n ∧ n ≤ 57) ∨ n = 45)
theorem nmc_ok (c : UInt8) : Fm.okB [45] c = nmC c.toNat := by
  have h : ∀ k < 256, Fm.okB [45] (UInt8.ofNat k) = nmC k := by decide +kernel
  have := h c.toNat c.toNat_lt
  rw [UInt8.ofNat_toNat] at this
  exact this
theorem only_snoc (S : List UInt8) (k : Nat) (hk : k < S.length) (h : Fm.onlyB (S.take k) [45] = true) (hc : nmC S[k].toNat = true) : Fm.onlyB (S.take (k + 1)) [45] = true := by
  rw [Fm.onlyB] at h ⊢
  rw [List.take_succ_eq_append_getElem hk, List.all_append, h, List.all_cons, nmc_ok, hc]
  rfl
theorem only_no (S : List UInt8) (k : Nat) (hk : k < S.length) (hc : nmC S[k].toNat = false) : Fm.onlyB S [45] = false := by
  cases e : Fm.onlyB S [45] with
  | false => rfl
  | true =>
    have := List.all_eq_true.1 e S[k] (List.getElem_mem hk)
    rw [nmc_ok, hc] at this; cases this
set_option maxHeartbeats 3200000 in
set_option maxRecDepth 100000 in
theorem rnm_to (s : ByteArray) (S : List UInt8) (b : Bool) (w : World) (hs : s.size ≤ 1000000) (hS : Hid (s.data.toList = S)) (h : Hid (nmB S = b)) :
    Calls Try.prog 49 #[.string s] w fun e w' => e = .returned (.bool b) ∧ w = w' := by
  have hl : S.length = s.size := by rw [← hS.out]; simp
  have HL := Lib.hid hl
  obtain ⟨r, hr⟩ : ∃ r, decide ((1 : Int) ≤ (s.size : Int) ∧ (s.size : Int) ≤ 40) = r := ⟨_, rfl⟩
  cases r with
  | false =>
    have HB : Hid (false = b) := Lib.hid (by
      have := of_decide_eq_false hr
      rw [← h.out, nmB, decide_eq_false (by omega)]; rfl)
    clear hl
    go_enter Try.func49, Try.ntmps49
    go_wp2_with fail
    refine (rin_to _ _ _ false _ hr).mono ?_
    rintro e w1 ⟨rfl, rfl⟩
    go_wp2
    go_ret
    exact ⟨ret_b HB.out, rfl⟩
  | true =>
    have hx := of_decide_eq_true hr
    have HB : Hid (Fm.onlyB S [45] = b) := Lib.hid (by rw [← h.out, nmB, decide_eq_true (by omega), Bool.true_and])
    clear hl hx
    go_enter Try.func49, Try.ntmps49
    go_wp2_with fail
    refine (rin_to _ _ _ true _ hr).mono ?_
    rintro e w1 ⟨rfl, rfl⟩
    go_wp2
    go_loopw [3] (fun i wr => ∃ k : Nat, k ≤ s.size ∧ Hid (Fm.onlyB (S.take k) [45] = true) ∧ i = .int .i64 k ∧ w = wr) (fun i _ => s.size - (intOf i).toNat)
    case atStart => exact ⟨0, Nat.zero_le _, Lib.hid rfl, rfl, rfl⟩
    case round =>
      obtain ⟨k, hk, hall, rfl, rfl⟩ := hrel
      by_cases hlt : k < s.size
      · have hkS : k < S.length := by rw [HL.out]; exact hlt
        obtain ⟨d, hx⟩ : ∃ c, S[k]'hkS = c := ⟨_, rfl⟩
        have hcc : s[k] = d := by
          have : s[k] = s.data.toList[k]'(by simpa using hlt) := by simp [ByteArray.getElem_eq_getElem_data]
          rw [this, ← hx]
          exact List.getElem_of_eq hS.out _
        have db := d.toNat_lt
        have HN : Hid (nmC d.toNat = true → Fm.onlyB (S.take (k + 1)) [45] = true) := Lib.hid (fun e => only_snoc S k hkS hall.out (by rw [hx]; exact e))
        have HF : Hid (nmC d.toNat = false → false = b) := Lib.hid (fun e => by rw [← HB.out]; exact (only_no S k hkS (by rw [hx]; exact e)).symm)
        clear hx hkS hr
        obtain ⟨n, hn⟩ : ∃ n : Int, (d.toNat : Int) = n := ⟨_, rfl⟩
        rw [hn] at HN HF
        have n0 : 0 ≤ n := by omega
        have n1 : n < 256 := by omega
        have hcs : n < 45 ∨ n = 45 ∨ (45 < n ∧ n < 48) ∨ (48 ≤ n ∧ n ≤ 57) ∨ (57 < n ∧ n < 65) ∨ (65 ≤ n ∧ n ≤ 90) ∨ (90 < n ∧ n < 97) ∨ (97 ≤ n ∧ n ≤ 122) ∨ 122 < n := by omega
        have y7 : (n != 45) = !decide (n = 45) := by
          by_cases q : n = 45
          · subst q; rfl
          · rw [decide_eq_false q]; exact bne_iff_ne.2 q
        rcases hcs with x | x | x | x | x | x | x | x | x
        · have z : nmC n = false := decide_eq_false (by omega)
          have f1 : n < 65 := by omega
          have f2 : ¬ 90 < n := by omega
          have f3 : n < 97 := by omega
          have f4 : ¬ 122 < n := by omega
          have f5 : n < 48 := by omega
          have f6 : ¬ 57 < n := by omega
          have f7 : (n != 45) = true := by rw [y7, decide_eq_false (by omega)]; rfl
          have HBB := Lib.hid (HF.out z)
          clear HN HF z y7
          go_wp2
          go_ret
          exact ⟨ret_b HBB.out, rfl⟩
        · have z : nmC n = true := decide_eq_true (by omega)
          have f1 : n < 65 := by omega
          have f2 : ¬ 90 < n := by omega
          have f3 : n < 97 := by omega
          have f4 : ¬ 122 < n := by omega
          have f5 : n < 48 := by omega
          have f6 : ¬ 57 < n := by omega
          have f7 : (n != 45) = false := by rw [y7, decide_eq_true x]; rfl
          have HNN := Lib.hid (HN.out z)
          clear HN HF z y7
          go_wp2
          go_roundw
          case rel => exact ⟨k + 1, by omega, HNN, by go_num, trivial⟩
          case measure => simp [intOf]; omega
        · have z : nmC n = false := decide_eq_false (by omega)
          have f1 : n < 65 := by omega
          have f2 : ¬ 90 < n := by omega
          have f3 : n < 97 := by omega
          have f4 : ¬ 122 < n := by omega
          have f5 : n < 48 := by omega
          have f6 : ¬ 57 < n := by omega
          have f7 : (n != 45) = true := by rw [y7, decide_eq_false (by omega)]; rfl
          have HBB := Lib.hid (HF.out z)
          clear HN HF z y7
          go_wp2
          go_ret
          exact ⟨ret_b HBB.out, rfl⟩
        · have z : nmC n = true := decide_eq_true (by omega)
          have f1 : n < 65 := by omega
          have f2 : ¬ 90 < n := by omega
          have f3 : n < 97 := by omega
          have f4 : ¬ 122 < n := by omega
          have f5 : ¬ n < 48 := by omega
          have f6 : ¬ 57 < n := by omega
          have f7 : (n != 45) = true := by rw [y7, decide_eq_false (by omega)]; rfl
          have HNN := Lib.hid (HN.out z)
          clear HN HF z y7
          go_wp2
          go_roundw
          case rel => exact ⟨k + 1, by omega, HNN, by go_num, trivial⟩
          case measure => simp [intOf]; omega
        · have z : nmC n = false := decide_eq_false (by omega)
          have f1 : n < 65 := by omega
          have f2 : ¬ 90 < n := by omega
          have f3 : n < 97 := by omega
          have f4 : ¬ 122 < n := by omega
          have f5 : ¬ n < 48 := by omega
          have f6 : 57 < n := by omega
          have f7 : (n != 45) = true := by rw [y7, decide_eq_false (by omega)]; rfl
          have HBB := Lib.hid (HF.out z)
          clear HN HF z y7
          go_wp2
          go_ret
          exact ⟨ret_b HBB.out, rfl⟩
        · have z : nmC n = true := decide_eq_true (by omega)
          have f1 : ¬ n < 65 := by omega
          have f2 : ¬ 90 < n := by omega
          have f3 : n < 97 := by omega
          have f4 : ¬ 122 < n := by omega
          have f5 : ¬ n < 48 := by omega
          have f6 : 57 < n := by omega
          have f7 : (n != 45) = true := by rw [y7, decide_eq_false (by omega)]; rfl
          have HNN := Lib.hid (HN.out z)
          clear HN HF z y7
          go_wp2
          go_roundw
          case rel => exact ⟨k + 1, by omega, HNN, by go_num, trivial⟩
          case measure => simp [intOf]; omega
        · have z : nmC n = false := decide_eq_false (by omega)
          have f1 : ¬ n < 65 := by omega
          have f2 : 90 < n := by omega
          have f3 : n < 97 := by omega
          have f4 : ¬ 122 < n := by omega
          have f5 : ¬ n < 48 := by omega
          have f6 : 57 < n := by omega
          have f7 : (n != 45) = true := by rw [y7, decide_eq_false (by omega)]; rfl
          have HBB := Lib.hid (HF.out z)
          clear HN HF z y7
          go_wp2
          go_ret
          exact ⟨ret_b HBB.out, rfl⟩
        · have z : nmC n = true := decide_eq_true (by omega)
          have f1 : ¬ n < 65 := by omega
          have f2 : 90 < n := by omega
          have f3 : ¬ n < 97 := by omega
          have f4 : ¬ 122 < n := by omega
          have f5 : ¬ n < 48 := by omega
          have f6 : 57 < n := by omega
          have f7 : (n != 45) = true := by rw [y7, decide_eq_false (by omega)]; rfl
          have HNN := Lib.hid (HN.out z)
          clear HN HF z y7
          go_wp2
          go_roundw
          case rel => exact ⟨k + 1, by omega, HNN, by go_num, trivial⟩
          case measure => simp [intOf]; omega
        · have z : nmC n = false := decide_eq_false (by omega)
          have f1 : ¬ n < 65 := by omega
          have f2 : 90 < n := by omega
          have f3 : ¬ n < 97 := by omega
          have f4 : 122 < n := by omega
          have f5 : ¬ n < 48 := by omega
          have f6 : 57 < n := by omega
          have f7 : (n != 45) = true := by rw [y7, decide_eq_false (by omega)]; rfl
          have HBB := Lib.hid (HF.out z)
          clear HN HF z y7
          go_wp2
          go_ret
          exact ⟨ret_b HBB.out, rfl⟩
      · have HBB : Hid (true = b) := Lib.hid (by rw [← HB.out, ← hall.out, List.take_of_length_le (by rw [HL.out]; omega)])
        clear hr
        go_wp2
        go_ret
        exact ⟨ret_b HBB.out, rfl⟩
end Lin
end Go.Proofs.Ytdakpncfophjnaa
/-
  Lines, the reference's words: Line.
-/
namespace Go.Proofs.Ytdakpncfophjnaa
open Go.RowKit
namespace Lin
open CutB Cel
open Opn (TxtV)
theorem nmv (l : List UInt8) (b : Bool) (w : World) (hs : l.length ≤ 1000000) (h : Hid (nmB l = b)) :
    Calls Try.prog 49 #[.string ⟨l.toArray⟩] w fun e w' => e = .returned (.bool b) ∧ w = w' := rnm_to _ l b w hs (Lib.hid rfl) h
theorem clv (l : List UInt8) (q b : Bool) (w : World) (hs : l.length ≤ 1000000) (h : Hid (clB q l = b)) :
    Calls Try.prog 50 #[.string ⟨l.toArray⟩, .bool q] w fun e w' => e = .returned (.bool b) ∧ w = w' := rcl_to _ l q b w hs (Lib.hid rfl) h
set_option maxHeartbeats 3200000 in
set_option maxRecDepth 100000 in
theorem rln_1 (nm vl : List UInt8) (pv : Value) (w : World) (h1 : nm.length ≤ 1000000) (hn : Hid (nmB nm = false)) :
    Calls Try.prog 21 #[.agg #[.string ⟨nm.toArray⟩, pv, .string ⟨vl.toArray⟩]] w (KlQ false w) := by
  go_enter Try.func21, Try.ntmps21
  go_wp2_with fail
  refine (nmv nm false _ h1 hn).mono ?_
  rintro e w1 ⟨rfl, rfl⟩
  go_wp2
  go_ret
  exact ⟨rfl, (Below.refl _ _).alloc (Nat.le_refl _) _⟩
set_option maxHeartbeats 3200000 in
set_option maxRecDepth 100000 in
theorem rln_2 (nm vl : List UInt8) (pv : Value) (w : World) (h1 : nm.length ≤ 1000000) (h2 : vl.length ≤ 1000000) (hn : Hid (nmB nm = true)) (hv : Hid (clB false vl = false)) :
    Calls Try.prog 21 #[.agg #[.string ⟨nm.toArray⟩, pv, .string ⟨vl.toArray⟩]] w (KlQ false w) := by
  go_enter Try.func21, Try.ntmps21
  go_wp2_with fail
  refine (nmv nm true _ h1 hn).mono ?_
  rintro e w1 ⟨rfl, rfl⟩
  go_wp2_with fail
  refine (clv vl false false _ h2 hv).mono ?_
  rintro e w1 ⟨rfl, rfl⟩
  go_wp2
  go_ret
  exact ⟨rfl, (Below.refl _ _).alloc (Nat.le_refl _) _⟩
set_option maxHeartbeats 3200000 in
set_option maxRecDepth 100000 in
theorem rln_3 (nm vl : List UInt8) (a : Option Addr) (c : Nat) (w : World) (h1 : nm.length ≤ 1000000) (h2 : vl.length ≤ 1000000) (hn : Hid (nmB nm = true)) (hv : Hid (clB false vl = true)) :
    Calls Try.prog 21 #[.agg #[.string ⟨nm.toArray⟩, .slice a 0 c, .string ⟨vl.toArray⟩]] w (KlQ true w) := by
  go_enter Try.func21, Try.ntmps21
  go_wp2_with fail
  refine (nmv nm true _ h1 hn).mono ?_
  rintro e w1 ⟨rfl, rfl⟩
  go_wp2_with fail
  refine (clv vl false true _ h2 hv).mono ?_
  rintro e w1 ⟨rfl, rfl⟩
  go_wp2
  go_loopw [3] (fun i wr => i = .int .i64 0 ∧ wr = w.alloc (Obj.cells #[.string ⟨nm.toArray⟩, .slice a 0 c, .string ⟨vl.toArray⟩] 24)) (fun _ _ => 0)
  case atStart => exact ⟨rfl, rfl⟩
  case round =>
    obtain ⟨rfl, rfl⟩ := hrel
    go_wp2
    go_ret
    exact ⟨rfl, (Below.refl _ _).alloc (Nat.le_refl _) _⟩
set_option maxHeartbeats 12800000 in
set_option maxRecDepth 100000 in
theorem rln_4 (nm vl : List UInt8) (b off c N : Nat) (ps : List PV) (r : Bool) (w : World) (h1 : nm.length ≤ 1000000) (h2 : vl.length ≤ 1000000) (hn : Hid (nmB nm = true)) (hv : Hid (clB false vl = true)) (hN : Hid (ps.length = N)) (hlen : N ≤ 1000000)
    (hbl : b < w.heap.size) (hp : Hid (∀ (j : Nat) (hj : j < ps.length), ∃ sv, w.cell? ⟨b, off + j * 2, none⟩ = some (.string ⟨(ps[j]).nm.toArray⟩) ∧ w.cell? ⟨b, off + j * 2 + 1, none⟩ = some sv ∧ TxtV w sv (ps[j]).vs)) (hsm : Hid (∀ p ∈ ps, smlP p)) (hR : Hid (ps.all parB = r)) :
    Calls Try.prog 21 #[.agg #[.string ⟨nm.toArray⟩, .slice (some ⟨b, off, none⟩) N c, .string ⟨vl.toArray⟩]] w (KlQ r w) := by
  have C0 := Lib.hid (Cs.new w [.string ⟨nm.toArray⟩, .slice (some ⟨b, off, none⟩) N c, .string ⟨vl.toArray⟩] 24)
  go_enter Try.func21, Try.ntmps21
  go_wp2_with fail
  refine (nmv nm true _ h1 hn).mono ?_
  rintro e w1 ⟨rfl, rfl⟩
  go_wp2_with fail
  refine (clv vl false true _ h2 hv).mono ?_
  rintro e w1 ⟨rfl, rfl⟩
  go_wp2
  go_loopw [3] (fun i wr => ∃ k : Nat, k ≤ N ∧ i = .int .i64 k ∧ Hid ((ps.take k).all parB = true) ∧ Cs w.heap.size wr [.string ⟨nm.toArray⟩, .slice (some ⟨b, off, none⟩) N c, .string ⟨vl.toArray⟩] ∧ Below w.heap.size w wr) (fun i _ => N - (intOf i).toNat)
  case atStart => exact ⟨0, Nat.zero_le _, rfl, Lib.hid rfl, C0.out, (Below.refl _ _).alloc (Nat.le_refl _) _⟩
  case round =>
    obtain ⟨k, hk, rfl, hall, hc, hb⟩ := hrel
    have HC := Lib.hid hc
    have HB := Lib.hid hb
    have gq : w.heap.size < wr.heap.size := hc.1
    have z1 := (hc.2 1 _ rfl).1
    clear hc hb C0
    by_cases hlt : k < N
    · have hkp : k < ps.length := by rw [hN.out]; exact hlt
      obtain ⟨sv, c0, c1, ht⟩ := hp.out k hkp
      obtain ⟨p, hpk⟩ : ∃ p, ps[k]'hkp = p := ⟨_, rfl⟩
      rw [hpk] at c0 ht
      obtain ⟨s1, s2, s3⟩ := hsm.out p (hpk ▸ List.getElem_mem hkp)
      have HNX : Hid (parB p = true → (ps.take (k + 1)).all parB = true) := Lib.hid (fun q => par_snoc ps k hkp hall.out (by rw [hpk]; exact q))
      have HNO : Hid (parB p = false → false = r) := Lib.hid (fun q => by rw [← hR.out]; exact (par_no ps k hkp (by rw [hpk]; exact q)).symm)
      have d0 := (HB.out.cell (p := ⟨b, off + k * 2, none⟩) hbl).trans c0
      have d1 := (HB.out.cell (p := ⟨b, off + k * 2 + 1, none⟩) hbl).trans c1
      have gb : b < wr.heap.size := Nat.lt_of_lt_of_le hbl HB.out.size
      have HT := Lib.hid ht
      have S3 := Lib.hid s3
      obtain ⟨a2, c2, hsv⟩ := ht.slice
      subst hsv
      obtain ⟨M, hM⟩ : ∃ M, p.vs.length = M := ⟨_, rfl⟩
      have HM := Lib.hid hM
      rw [hM] at d1 s2
      have BA := Lib.hid (HB.out.alloc HB.out.size (Obj.cells #[.string ⟨p.nm.toArray⟩, .slice a2 M c2] 45))
      clear c0 c1 ht hpk hkp hM s3
      cases hnm : nmB p.nm with
      | false =>
        have HR := Lib.hid (HNO.out (by rw [parB, hnm]; rfl))
        have HNM := Lib.hid hnm
        clear hnm hall
        go_wp2_with fail
        refine (nmv p.nm false _ s1 HNM).mono ?_
        rintro e w1 ⟨rfl, rfl⟩
        go_wp2
        go_ret
        exact ⟨ret_b HR.out, BA.out⟩
      | true =>
        have HNM := Lib.hid hnm
        by_cases h0 : M = 0
        · have HR := Lib.hid (HNO.out (by rw [parB, hnm, HM.out, h0]; rfl))
          subst h0
          clear hnm hall
          go_wp2_with fail
          refine (nmv p.nm true _ s1 HNM).mono ?_
          rintro e w1 ⟨rfl, rfl⟩
          go_wp2
          go_ret
          exact ⟨ret_b HR.out, BA.out⟩
        · obtain ⟨b2, off2, c2', hf, hb2, hc2⟩ := HT.out.form (by rw [HM.out]; omega)
          obtain ⟨rfl, -, rfl⟩ : a2 = some ⟨b2, off2, none⟩ ∧ M = p.vs.length ∧ c2 = c2' := by
            injection hf with q1 q2 q3; exact ⟨q1, by rw [HM.out], q3⟩
          have HC2 := Lib.hid hc2
          have x0 : ((M : Int) == 0) = false := beq_eq_false_iff_ne.2 (by omega)
          have CA := Lib.hid (Cs.new wr [.string ⟨p.nm.toArray⟩, .slice (some ⟨b2, off2, none⟩) M c2] 45)
          have HPB : Hid (p.vs.all valB = true → parB p = true) := Lib.hid (fun q => by rw [parB, hnm, q, HM.out, decide_eq_true (show 0 < M by omega)]; rfl)
          have HPN : Hid (p.vs.all valB = false → parB p = false) := Lib.hid (fun q => by rw [parB, q]; simp)
          have HCA := Lib.hid (HC.out.alloc (Obj.cells #[.string ⟨p.nm.toArray⟩, .slice (some ⟨b2, off2, none⟩) M c2] 45))
          clear hnm hf hc2 h0
          go_wp2_with fail
          refine (nmv p.nm true _ s1 HNM).mono ?_
          rintro e w1 ⟨rfl, rfl⟩
          go_wp2
          go_loopw [5] (fun i wx => ∃ j : Nat, j ≤ M ∧ i = .int .i64 j ∧ Hid ((p.vs.take j).all valB = true) ∧ wx = wr.alloc (Obj.cells #[.string ⟨p.nm.toArray⟩, .slice (some ⟨b2, off2, none⟩) M c2] 45)) (fun i _ => M - (intOf i).toNat)
          case atStart => exact ⟨0, Nat.zero_le _, rfl, Lib.hid rfl, rfl⟩
          case round =>
            obtain ⟨j, hj, rfl, hvall, rfl⟩ := hrel
            by_cases hjt : j < M
            · have hjv : j < p.vs.length := by rw [HM.out]; exact hjt
              have f0 := (BA.out.cell (p := ⟨b2, off2 + j, none⟩) hb2).trans (HC2.out j hjv)
              obtain ⟨v, hvj⟩ : ∃ v, p.vs[j]'hjv = v := ⟨_, rfl⟩
              rw [hvj] at f0
              have Z4 := S3.out v (hvj ▸ List.getElem_mem hjv)
              have HVX : Hid (valB v = true → (p.vs.take (j + 1)).all valB = true) := Lib.hid (fun q => val_snoc p.vs j hjv hvall.out (by rw [hvj]; exact q))
              have HVN : Hid (valB v = false → false = r) := Lib.hid (fun q => HNO.out (HPN.out (val_no p.vs j hjv (by rw [hvj]; exact q))))
              clear hvj hjv hvall
              obtain ⟨cv, hcv⟩ : ∃ cv, clB true v = cv := ⟨_, rfl⟩
              have HCV := Lib.hid hcv
              rw [cl_val] at hcv
              cases cv with
              | false =>
                have HR := Lib.hid (HVN.out hcv)
                clear hcv
                go_wp2_with fail
                refine (clv v true false _ Z4 HCV).mono ?_
                rintro e w1 ⟨rfl, rfl⟩
                go_wp2
                go_ret
                exact ⟨ret_b HR.out, BA.out⟩
              | true =>
                have HR := Lib.hid (HVX.out hcv)
                clear hcv
                go_wp2_with fail
                refine (clv v true true _ Z4 HCV).mono ?_
                rintro e w1 ⟨rfl, rfl⟩
                go_wp2
                go_roundw
                case rel => exact ⟨j + 1, by omega, by go_num, HR, trivial⟩
                case measure => simp [intOf]; omega
            · have HPP := Lib.hid (HNX.out (HPB.out (by
                have := hvall.out
                rwa [List.take_of_length_le (by rw [HM.out]; omega)] at this)))
              clear hvall hall
              go_wp2
              go_roundw
              case rel => exact ⟨k + 1, by omega, by go_num, HPP, HCA.out, BA.out⟩
              case measure => simp [intOf]; omega
    · have HR : Hid (true = r) := Lib.hid (by
        rw [← hR.out]
        have := hall.out
        rw [List.take_of_length_le (by rw [hN.out]; omega)] at this
        exact this.symm)
      clear hall
      go_wp2
      go_ret
      exact ⟨ret_b HR.out, HB.out⟩
theorem rln_to (nm vl : List UInt8) (pv : Value) (ps : List PV) (r : Bool) (w : World) (h1 : nm.length ≤ 1000000) (h2 : vl.length ≤ 1000000) (hp : ParsV w pv ps) (hlen : ps.length ≤ 1000000) (hsm : ∀ p ∈ ps, smlP p) (hR : Hid (lnB ⟨nm, ps, vl⟩ = r)) :
    Calls Try.prog 21 #[.agg #[.string ⟨nm.toArray⟩, pv, .string ⟨vl.toArray⟩]] w (KlQ r w) := by
  have hR := hR.out
  rw [lnB] at hR
  simp only at hR
  cases q1 : nmB nm with
  | false =>
    rw [q1] at hR
    have : r = false := by rw [← hR]; rfl
    subst this
    exact rln_1 nm vl pv w h1 (Lib.hid q1)
  | true =>
    cases q2 : plnB vl with
    | false =>
      rw [q1, q2] at hR
      have : r = false := by rw [← hR]; rfl
      subst this
      exact rln_2 nm vl pv w h1 h2 (Lib.hid q1) (Lib.hid (by rw [cl_pln]; exact q2))
    | true =>
      rw [q1, q2, Bool.true_and, Bool.true_and] at hR
      cases ps with
      | nil =>
        have : r = true := by rw [← hR]; rfl
        subst this
        obtain ⟨a, c, rfl⟩ := hp.nil
        exact rln_3 nm vl a c w h1 h2 (Lib.hid q1) (Lib.hid (by rw [cl_pln]; exact q2))
      | cons p ps =>
        obtain ⟨b, off, c, rfl, hb, hc⟩ := hp.form (by simp)
        exact rln_4 nm vl b off c _ (p :: ps) r w h1 h2 (Lib.hid q1) (Lib.hid (by rw [cl_pln]; exact q2)) (Lib.hid rfl) hlen hb (Lib.hid hc) (Lib.hid hsm) (Lib.hid hR)
end Lin
end Go.Proofs.Ytdakpncfophjnaa
/-
  Lines, the reference's words: small, Alike, Param.
-/
namespace Go.Proofs.Ytdakpncfophjnaa
open Go.RowKit
namespace Lin
open CutB Cel
open Opn (TxtV)
theorem quiet2 {f : FuncId} {args : Array Value} {w : World} {m n : Nat} {v : Value}
    (h : Calls Try.prog f args (w.drewN (m + n)) fun e w' => e = .returned v ∧ w' = w.drewN (m + n)) : Calls Try.prog f args (w.drewN (m + n)) fun e w'' => e = .returned v ∧ ∃ k, w'' = w.drewN (m + k) :=
  h.mono fun _ _ ⟨he, hm⟩ => ⟨he, n, hm⟩
set_option maxHeartbeats 1600000 in
theorem rsm_to (c d : UInt8) (w : World) (h : Hid (Wrd.smB c = d)) :
    Calls Try.prog 69 #[.int .u8 (c.toNat : Int)] w fun e w' => e = .returned (.int .u8 (d.toNat : Int)) ∧ w' = w := by
  have hk : ∀ k < 256, ((Wrd.smB (UInt8.ofNat k)).toNat : Int) = if 65 ≤ k ∧ k ≤ 90 then (k : Int) + 32 else (k : Int) := by decide +kernel
  have hd := hk c.toNat c.toNat_lt
  rw [UInt8.ofNat_toNat, h.out] at hd
  have h1 : (c.toNat : Int) < 256 := by have := c.toNat_lt; omega
  have h0 : 0 ≤ (c.toNat : Int) := by omega
  by_cases x1 : 65 ≤ c.toNat
  · by_cases x2 : c.toNat ≤ 90
    · rw [if_pos ⟨x1, x2⟩] at hd
      have HD := Lib.hid hd
      have y1 : (65 : Int) ≤ (c.toNat : Int) := by omega
      have y2 : (c.toNat : Int) ≤ 90 := by omega
      have y3 : IntKind.u8.wrap ((c.toNat : Int) + 32) = (c.toNat : Int) + 32 := by rw [IntKind.wrap_u8]; omega
      clear hk hd h
      go_enter Try.func69, Try.ntmps69
      go_wp2
      go_ret
      exact ⟨by rw [HD.out]; rfl, rfl⟩
    · rw [if_neg (by omega)] at hd
      have HD := Lib.hid hd
      have y1 : (65 : Int) ≤ (c.toNat : Int) := by omega
      have y2 : ¬ (c.toNat : Int) ≤ 90 := by omega
      have y4 : decide ((c.toNat : Int) ≤ 90) = false := decide_eq_false y2
      clear hk hd h
      go_enter Try.func69, Try.ntmps69
      go_wp2
      go_ret
      exact ⟨by rw [HD.out]; rfl, rfl⟩
  · rw [if_neg (by omega)] at hd
    have HD := Lib.hid hd
    have y1 : ¬ (65 : Int) ≤ (c.toNat : Int) := by omega
    have y4 : decide ((65 : Int) ≤ (c.toNat : Int)) = false := decide_eq_false y1
    clear hk hd h
    go_enter Try.func69, Try.ntmps69
    go_wp2
    go_ret
    exact ⟨by rw [HD.out]; rfl, rfl⟩
theorem sm_take {A B : List UInt8} {k : Nat} (ha : k < A.length) (hb : k < B.length) (h : Wrd.smL (A.take k) = Wrd.smL (B.take k)) (he : Wrd.smB A[k] = Wrd.smB B[k]) : Wrd.smL (A.take (k + 1)) = Wrd.smL (B.take (k + 1)) := by
  rw [Wrd.smL, Wrd.smL] at h ⊢
  rw [List.take_succ_eq_append_getElem ha, List.take_succ_eq_append_getElem hb, List.map_append, List.map_append, h, List.map_cons, List.map_cons, he]
theorem sm_no {A B : List UInt8} {k : Nat} (ha : k < A.length) (hb : k < B.length) (he : Wrd.smB A[k] ≠ Wrd.smB B[k]) : smN A B = false := by
  rw [smN]
  refine decide_eq_false (fun h => he ?_)
  have h1 := h.2
  rw [Wrd.smL, Wrd.smL] at h1
  have h2 : (A.map Wrd.smB)[k]'(by simpa using ha) = (B.map Wrd.smB)[k]'(by simpa using hb) := by simp only [h1]
  simpa using h2
set_option maxHeartbeats 3200000 in
set_option maxRecDepth 100000 in
theorem ral_to (a b : ByteArray) (A B : List UInt8) (r : Bool) (w : World) (ha : a.size ≤ 1000000) (_ : b.size ≤ 1000000) (hA : Hid (a.data.toList = A)) (hB : Hid (b.data.toList = B)) (h : Hid (smN A B = r)) :
    Calls Try.prog 48 #[.string a, .string b] w (KlQ r w) := by
  have hla : A.length = a.size := by rw [← hA.out]; simp
  have hlb : B.length = b.size := by rw [← hB.out]; simp
  by_cases hl : a.size = b.size
  · have hd : ((a.size : Int) == (b.size : Int)) = true := by simp [hl]
    have hd2 : ((a.size : Int) != (b.size : Int)) = false := by rw [bne, hd]; rfl
    have HLA := Lib.hid hla
    have HLB := Lib.hid hlb
    have HL := Lib.hid hl
    clear hla hlb hl
    go_enter Try.func48, Try.ntmps48
    go_wp2
    go_loopw [5] (fun i wr => ∃ k : Nat, k ≤ a.size ∧ i = .int .i64 k ∧ Hid (Wrd.smL (A.take k) = Wrd.smL (B.take k)) ∧ ∃ m, wr = w.drewN m) (fun i _ => a.size - (intOf i).toNat)
    case atStart => exact ⟨0, Nat.zero_le _, rfl, Lib.hid rfl, 0, rfl⟩
    case round =>
      obtain ⟨k, hk, rfl, hT, m, rfl⟩ := hrel
      by_cases hlt : k < a.size
      · have hlt2 : k < b.size := by rw [← HL.out]; exact hlt
        have hka : k < A.length := by rw [HLA.out]; exact hlt
        have hkb : k < B.length := by rw [HLB.out]; exact hlt2
        obtain ⟨c, hx⟩ : ∃ c, A[k]'hka = c := ⟨_, rfl⟩
        obtain ⟨d, hy⟩ : ∃ c, B[k]'hkb = c := ⟨_, rfl⟩
        have hcc : a[k] = c := by
          have : a[k] = a.data.toList[k]'(by simpa using hlt) := by simp [ByteArray.getElem_eq_getElem_data]
          rw [this, ← hx]
          exact List.getElem_of_eq hA.out _
        have hdd : b[k] = d := by
          have : b[k] = b.data.toList[k]'(by simpa using hlt2) := by simp [ByteArray.getElem_eq_getElem_data]
          rw [this, ← hy]
          exact List.getElem_of_eq hB.out _
        have cb := c.toNat_lt
        have db := d.toNat_lt
        obtain ⟨c', hc'⟩ : ∃ x, Wrd.smB c = x := ⟨_, rfl⟩
        obtain ⟨d', hd'⟩ : ∃ x, Wrd.smB d = x := ⟨_, rfl⟩
        have HC := Lib.hid hc'
        have HD := Lib.hid hd'
        have HSN : Hid (c' = d' → Wrd.smL (A.take (k + 1)) = Wrd.smL (B.take (k + 1))) := Lib.hid (fun e => sm_take hka hkb hT.out (by rw [hx, hy, hc', hd', e]))
        have HSO : Hid (c' ≠ d' → r = false) := Lib.hid (fun e => by rw [← h.out]; exact sm_no hka hkb (by rw [hx, hy, hc', hd']; exact e))
        clear hx hy hka hkb hc' hd' hT
        by_cases he : c' = d'
        · have HK := Lib.hid (HSN.out he)
          subst he
          clear HSN HSO
          go_wp2_with fail
          go_quiet (first | (go_at_call 69; with_reducible exact quiet2 (rsm_to c c' _ HC)) | (go_at_call 69; with_reducible exact quiet2 (rsm_to d c' _ HD)))
          go_wp2
          go_roundw
          case rel => exact ⟨k + 1, by omega, by go_num, HK, _, by first | rfl | rw [World.drewN_drewN]⟩
          case measure => simp [intOf]; omega
        · have HR := Lib.hid (HSO.out he)
          have y1 : ((c'.toNat : Int) != (d'.toNat : Int)) = true := bne_iff_ne.2 (fun e => he (UInt8.toNat_inj.1 (by omega)))
          clear HSN HSO he
          go_wp2_with fail
          go_quiet (first | (go_at_call 69; with_reducible exact quiet2 (rsm_to c c' _ HC)) | (go_at_call 69; with_reducible exact quiet2 (rsm_to d d' _ HD)))
          go_wp2
          go_ret
          exact ⟨by rw [HR.out]; rfl, below_drewN (below_drewN (Below.refl _ _) _) _⟩
      · have HR : Hid (true = r) := Lib.hid (by
          have h1 := hT.out
          rw [List.take_of_length_le (by rw [HLA.out]; omega), List.take_of_length_le (by rw [HLB.out]; have := HL.out; omega)] at h1
          rw [← h.out, smN]
          exact (decide_eq_true ⟨by rw [HLA.out, HLB.out]; exact HL.out, h1⟩).symm)
        go_wp2
        go_ret
        exact ⟨ret_b HR.out, below_drewN (Below.refl _ _) _⟩
  · have HR : Hid (false = r) := Lib.hid (by rw [← h.out, smN]; exact (decide_eq_false (fun q => hl (by omega))).symm)
    have hne : ((a.size : Int) == (b.size : Int)) = false := beq_eq_false_iff_ne.2 (by omega)
    have hne2 : ((a.size : Int) != (b.size : Int)) = true := by rw [bne, hne]; rfl
    clear hla hlb
    go_enter Try.func48, Try.ntmps48
    go_wp2
    go_ret
    exact ⟨ret_b HR.out, Below.refl _ _⟩
/-- What the reference's Param hands back: the line's own values. -/
def RpmQ (o : Option (List (List UInt8))) (w : World) (e : Ending) (w' : World) : Prop := ∃ v b, e = .returned (.tuple #[v, .bool b]) ∧ Hid (match o with | none => b = false ∧ v = .slice none 0 0 | some vs => b = true ∧ TxtV w' v vs) ∧ Below w.heap.size w w'
set_option maxHeartbeats 6400000 in
set_option maxRecDepth 100000 in
theorem rpm_4 (nm vl : List UInt8) (b off c M : Nat) (ps : List PV) (s : ByteArray) (N : List UInt8) (w : World) (hs : s.size ≤ 1000) (hS : Hid (s.data.toList = N)) (HM : Hid (ps.length = M))
    (hbl : b < w.heap.size) (hp : Hid (∀ (j : Nat) (hj : j < ps.length), ∃ sv, w.cell? ⟨b, off + j * 2, none⟩ = some (.string ⟨(ps[j]).nm.toArray⟩) ∧ w.cell? ⟨b, off + j * 2 + 1, none⟩ = some sv ∧ TxtV w sv (ps[j]).vs)) (hlen : M ≤ 1000000) (hsm : Hid (∀ p ∈ ps, smlP p)) :
    Calls Try.prog 18 #[.agg #[.string ⟨nm.toArray⟩, .slice (some ⟨b, off, none⟩) M c, .string ⟨vl.toArray⟩], .string s] w (RpmQ (pmL N ps) w) := by
  have C0 := Lib.hid (Cs.new w [.string ⟨nm.toArray⟩, .slice (some ⟨b, off, none⟩) M c, .string ⟨vl.toArray⟩] 24)
  go_enter Try.func18, Try.ntmps18
  go_wp2
  go_loopw [6] (fun i wr => ∃ k : Nat, k ≤ M ∧ i = .int .i64 k ∧ Hid ((ps.take k).all (fun p => !smN p.nm N) = true) ∧ Cs w.heap.size wr [.string ⟨nm.toArray⟩, .slice (some ⟨b, off, none⟩) M c, .string ⟨vl.toArray⟩] ∧ Below w.heap.size w wr) (fun i _ => M - (intOf i).toNat)
  case atStart => exact ⟨0, Nat.zero_le _, rfl, Lib.hid rfl, C0.out, (Below.refl _ _).alloc (Nat.le_refl _) _⟩
  case round =>
    obtain ⟨k, hk, rfl, hall, hc, hb⟩ := hrel
    have HC := Lib.hid hc
    have HB := Lib.hid hb
    have z1 := (hc.2 1 _ rfl).1
    clear hc hb C0
    by_cases hlt : k < M
    · have hkp : k < ps.length := by rw [HM.out]; exact hlt
      obtain ⟨sv, c0, c1, ht⟩ := hp.out k hkp
      obtain ⟨p, hpk⟩ : ∃ p, ps[k]'hkp = p := ⟨_, rfl⟩
      obtain ⟨s1, _, _⟩ := hsm.out p (hpk ▸ List.getElem_mem hkp)
      have HY : Hid (smN p.nm N = true → pmL N ps = some p.vs) := Lib.hid (fun q => by rw [← hpk]; exact pm_go N ps k hkp hall.out (by rw [hpk]; exact q))
      have HNX : Hid (smN p.nm N = false → (ps.take (k + 1)).all (fun p => !smN p.nm N) = true) := Lib.hid (fun q => by
        rw [List.take_succ_eq_append_getElem hkp, List.all_append, hall.out, List.all_cons, hpk, q]; rfl)
      rw [hpk] at c0 ht
      have d0 := (HB.out.cell (p := ⟨b, off + k * 2, none⟩) hbl).trans c0
      have HD1 := Lib.hid ((HB.out.cell (p := ⟨b, off + k * 2 + 1, none⟩) hbl).trans c1)
      have gb : b < wr.heap.size := Nat.lt_of_lt_of_le hbl HB.out.size
      have HT := Lib.hid ht
      have Z3 : Hid ((⟨p.nm.toArray⟩ : ByteArray).size ≤ 1000000) := Lib.hid s1
      clear c0 c1 ht hpk hkp hall s1
      obtain ⟨rr, hrr⟩ : ∃ r, smN p.nm N = r := ⟨_, rfl⟩
      have HS := Lib.hid hrr
      cases rr with
      | false =>
        have HN := Lib.hid (HNX.out hrr)
        clear hrr
        go_wp2_with fail
        refine (ral_to _ s p.nm N false _ Z3.out (by omega) (Lib.hid rfl) hS HS).mono ?_
        rintro e w3 ⟨rfl, b3⟩
        have C3 := Lib.hid (HC.out.below b3)
        have B3 := Lib.hid (bstep HB.out b3)
        clear b3
        go_wp2
        go_roundw
        case rel => exact ⟨k + 1, by omega, by go_num, HN, C3.out, B3.out⟩
        case measure => simp [intOf]; omega
      | true =>
        have HO := Lib.hid (HY.out hrr)
        clear hrr
        go_wp2_with fail
        refine (ral_to _ s p.nm N true _ Z3.out (by omega) (Lib.hid rfl) hS HS).mono ?_
        rintro e w3 ⟨rfl, b3⟩
        have C3 := Lib.hid (HC.out.below b3)
        have B3 := Lib.hid (bstep HB.out b3)
        have z2 := (C3.out.2 1 _ rfl).1
        have d2 := (b3.cell (p := ⟨b, off + k * 2 + 1, none⟩) gb).trans HD1.out
        clear b3 z1 d0
        go_wp2
        go_ret2
        exact ⟨_, _, rfl, Lib.hid (by rw [HO.out]; exact ⟨rfl, HT.out.below B3.out⟩), B3.out⟩
    · have HO : Hid (pmL N ps = none) := Lib.hid (pm_no N ps (by
        have := hall.out
        rw [List.take_of_length_le (by rw [HM.out]; omega)] at this
        exact this))
      go_wp2
      go_ret2
      exact ⟨_, _, rfl, Lib.hid (by rw [HO.out]; exact ⟨rfl, rfl⟩), HB.out⟩
end Lin
end Go.Proofs.Ytdakpncfophjnaa
