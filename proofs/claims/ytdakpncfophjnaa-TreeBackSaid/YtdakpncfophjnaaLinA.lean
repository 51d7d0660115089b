/-
  Contracts of package line: isName, isPlain, readValue.
-/
import Derived.Test.YtdakpncfophjnaaLinM
import Derived.Test.YtdakpncfophjnaaMrgF
import Derived.Test.YtdakpncfophjnaaCutB
import Derived.Deep.QuietTactic
import Derived.BigQuiet
namespace Go.Proofs.Ytdakpncfophjnaa
open Go.RowKit
namespace Lin
theorem at_l {s : ByteArray} {S : List UInt8} (hS : s.data.toList = S) (k : Nat) (h : k < s.size) : ∃ h2 : k < S.length, s[k] = S[k] := by
  subst hS
  exact ⟨by simpa using h, by simp [ByteArray.getElem_eq_getElem_data]⟩
set_option maxHeartbeats 1600000 in
set_option maxRecDepth 100000 in
theorem lnm_to (s : ByteArray) (S : List UInt8) (b : Bool) (w : World) (hs : s.size ≤ 1000000) (hS : Hid (s.data.toList = S)) (h : Hid (nmB S = b)) :
    Calls Try.prog 51 #[.string s] w fun e w' => e = .returned (.bool b) ∧ w = w' := by
  have hl : s.size = S.length := by rw [← hS.out]; simp
  have HH := h.out
  clear h
  rw [nmB] at HH
  obtain ⟨on, h1⟩ : ∃ x, Fm.onlyB S [45] = x := ⟨_, rfl⟩
  have H1 := Lib.hid h1
  rw [h1, ← hl] at HH
  clear h1 hl
  by_cases a1 : s.size < 1
  · have : b = false := by rw [← HH, decide_eq_false (by omega)]; rfl
    subst this
    have x1 : decide ((1 : Int) ≤ (s.size : Int)) = false := decide_eq_false (by omega)
    have x2 : ¬ 1 ≤ s.size := by omega
    clear HH
    go_enter Try.func51, Try.ntmps51
    go_wp2
    go_ret
    first | exact ⟨rfl, rfl⟩ | exact ⟨ret_b (by simp; omega), rfl⟩
  by_cases a2 : 40 < s.size
  · have : b = false := by rw [← HH, decide_eq_false (by omega)]; rfl
    subst this
    have x1 : decide ((s.size : Int) ≤ 40) = false := decide_eq_false (by omega)
    have x2 : ¬ s.size ≤ 40 := by omega
    have x3 : 1 ≤ s.size := by omega
    clear HH
    go_enter Try.func51, Try.ntmps51
    go_wp2
    go_ret
    first | exact ⟨rfl, rfl⟩ | exact ⟨ret_b (by simp; omega), rfl⟩
  have a3 : 1 ≤ s.size := by omega
  have a4 : s.size ≤ 40 := by omega
  rw [decide_eq_true ⟨a3, a4⟩, Bool.true_and] at HH
  subst HH
  clear a1 a2
  go_enter Try.func51, Try.ntmps51
  go_wp2_with fail
  refine (Fm.only_to s _ S [45] on _ hs hS (Lib.hid rfl) H1).mono ?_
  rintro e w1 ⟨rfl, rfl⟩
  go_wp2
  go_ret
  first | exact ⟨rfl, rfl⟩ | exact ⟨ret_b (by simp; omega), rfl⟩
theorem pln_snoc (S : List UInt8) (k : Nat) (hk : k < S.length) (h : plnB (S.take k) = true) (hc : ctlB S[k] = false) : plnB (S.take (k + 1)) = true := by
  rw [plnB] at h ⊢
  rw [List.take_succ_eq_append_getElem hk, List.all_append, h, List.all_cons, hc]
  rfl
theorem pln_no (S : List UInt8) (k : Nat) (hk : k < S.length) (hc : ctlB S[k] = true) : plnB S = false := by
  cases e : plnB S with
  | false => rfl
  | true =>
    have := List.all_eq_true.1 e S[k] (List.getElem_mem hk)
    rw [hc] at this; cases this
set_option maxHeartbeats 3200000 in
set_option maxRecDepth 100000 in
theorem lpl_to (s : ByteArray) (S : List UInt8) (b : Bool) (w : World) (hs : s.size ≤ 1000000) (hS : Hid (s.data.toList = S)) (h : Hid (plnB S = b)) :
    Calls Try.prog 52 #[.string s] w fun e w' => e = .returned (.bool b) ∧ w = w' := by
  have hl : S.length = s.size := by rw [← hS.out]; simp
  have HL := Lib.hid hl
  clear hl
  go_enter Try.func52, Try.ntmps52
  go_wp2
  go_loopw [3] (fun i wr => ∃ k : Nat, k ≤ s.size ∧ Hid (plnB (S.take k) = true) ∧ i = .int .i64 k ∧ w = wr) (fun i _ => s.size - (intOf i).toNat)
  case atStart => exact ⟨0, Nat.zero_le _, Lib.hid rfl, rfl, rfl⟩
  case round =>
    obtain ⟨k, hk, hall, rfl, rfl⟩ := hrel
    by_cases hlt : k < s.size
    · have hkS : k < S.length := by rw [HL.out]; exact hlt
      obtain ⟨d, hx⟩ : ∃ c, S[k]'hkS = c := ⟨_, rfl⟩
      have hcc : s[k] = d := by
        have : s[k] = s.data.toList[k]'(by simpa using hlt) := by simp [ByteArray.getElem_eq_getElem_data]
        rw [this, ← hx]
        exact List.getElem_of_eq hS.out _
      have db := d.toNat_lt
      have HN : Hid (ctlB d = false → plnB (S.take (k + 1)) = true) := Lib.hid (fun q => pln_snoc S k hkS hall.out (by rw [hx]; exact q))
      have HF : Hid (ctlB d = true → b = false) := Lib.hid (fun q => by rw [← h.out]; exact pln_no S k hkS (by rw [hx]; exact q))
      have hcs : ((d.toNat : Int) < 32 ∧ ((d.toNat : Int) != 9) = true ∧ ctlB d = true) ∨ ((d.toNat : Int) < 32 ∧ d = 9 ∧ ctlB d = false) ∨ (¬ (d.toNat : Int) < 32 ∧ d = 127 ∧ ctlB d = true) ∨ (¬ (d.toNat : Int) < 32 ∧ ((d.toNat : Int) == 127) = false ∧ ctlB d = false) := by
        by_cases x : (d.toNat : Int) < 32
        · by_cases y : d = 9
          · exact Or.inr (Or.inl ⟨x, y, by subst y; decide⟩)
          · exact Or.inl ⟨x, bne_iff_ne.2 (fun q => y (UInt8.toNat_inj.1 (by show d.toNat = 9; omega))), by rw [ctlB, decide_eq_true x, decide_eq_false y]; rfl⟩
        · by_cases y : d = 127
          · exact Or.inr (Or.inr (Or.inl ⟨x, y, by subst y; decide⟩))
          · exact Or.inr (Or.inr (Or.inr ⟨x, beq_eq_false_iff_ne.2 (fun q => y (UInt8.toNat_inj.1 (by show d.toNat = 127; omega))), by rw [ctlB, decide_eq_false x, decide_eq_false y]; rfl⟩))
      clear hx hkS
      rcases hcs with ⟨x, y, ho⟩ | ⟨x, rfl, ho⟩ | ⟨x, rfl, ho⟩ | ⟨x, y, ho⟩
      · have HB := Lib.hid (HF.out ho).symm
        clear ho HN HF
        go_wp2
        go_ret
        exact ⟨ret_b HB.out, rfl⟩
      · have HNN := Lib.hid (HN.out ho)
        clear ho HN HF
        go_wp2
        go_roundw
        case rel => exact ⟨k + 1, by omega, HNN, by go_num, trivial⟩
        case measure => simp [intOf]; omega
      · have HB := Lib.hid (HF.out ho).symm
        clear ho HN HF
        go_wp2
        go_ret
        exact ⟨ret_b HB.out, rfl⟩
      · have HNN := Lib.hid (HN.out ho)
        clear ho HN HF
        go_wp2
        go_roundw
        case rel => exact ⟨k + 1, by omega, HNN, by go_num, trivial⟩
        case measure => simp [intOf]; omega
    · have HB : Hid (true = b) := Lib.hid (by rw [← h.out, ← hall.out, List.take_of_length_le (by rw [HL.out]; omega)])
      go_wp2
      go_ret
      exact ⟨ret_b HB.out, rfl⟩
/-- What readValue hands back. -/
def RvQ (o : Option (List UInt8 × List UInt8)) (w : World) (e : Ending) (w' : World) : Prop := ∃ (a b : ByteArray) (c : Bool), e = .returned (.tuple #[.string a, .string b, .bool c]) ∧ Hid (match o with | none => c = false | some (V, R) => c = true ∧ a = ⟨V.toArray⟩ ∧ b = ⟨R.toArray⟩) ∧ Below w.heap.size w w'
theorem sg3 : SAny.Sgn ⟨#[58, 59, 44]⟩ [58, 59, 44] := ⟨rfl, by decide, by decide, by decide⟩
theorem sg2 : SAny.Sgn ⟨#[58, 59]⟩ [58, 59] := ⟨rfl, by decide, by decide, by decide⟩
end Lin
end Go.Proofs.Ytdakpncfophjnaa
