/-
  Several texts in one (LinA, LinB).
-/
import Derived.Test.YtdakpncfophjnaaLinM
import Derived.Test.YtdakpncfophjnaaMrgF
import Derived.Test.YtdakpncfophjnaaCutB
import Derived.Deep.QuietTactic
import Derived.BigQuiet
/-
  Contracts of package line: isName, isPlain, readValue.
-/
namespace Go.Proofs.Ytdakpncfophjnaa
open Go.RowKit
namespace Lin
theorem at_l {s : ByteArray} {S : List UInt8} (hS : s.data.toList = S) (k : Nat) (h : k < s.size) : ∃ h2 : k < S.length, s[k] = S[k] := by
  subst hS
  exact ⟨by simpa using h, by simp [ByteArray.getElem_eq_getElem_data]⟩
set_option maxHeartbeats 1600000 in
set_option maxRecDepth 100000 in
theorem lnm_to (s : ByteArray) (S : List UInt8) (b : Bool) (w : World) (hs : s.size ≤ 1000000) (hS : Hid (s.data.toList = S)) (h : Hid (nmB S = b)) :
    Calls Try.prog 51 #[.string s] w fun e w' => e = .returned (.bool b) ∧ w = w' := by
  have hl : s.size = S.length := by rw [← hS.out]; simp
  have HH := h.out
  clear h
  rw [nmB] at HH
  obtain ⟨on, h1⟩ : ∃ x, Fm.onlyB S [45] = x := ⟨_, rfl⟩
  have H1 := Lib.hid h1
  rw [h1, ← hl] at HH
  clear h1 hl
  by_cases a1 : s.size < 1
  · have : b = false := by rw [← HH, decide_eq_false (by omega)]; rfl
    subst this
    have x1 : decide ((1 : Int) ≤ (s.size : Int)) = false := decide_eq_false (by omega)
    have x2 : ¬ 1 ≤ s.size := by omega
    clear HH
    go_enter Try.func51, Try.ntmps51
    go_wp2
    go_ret
    first | exact ⟨rfl, rfl⟩ | exact ⟨ret_b (by simp; omega), rfl⟩
  by_cases a2 : 40 < s.size
  · have : b = false := by rw [← HH, decide_eq_false (by omega)]; rfl
    subst this
    have x1 : decide ((s.size : Int) ≤ 40) = false := decide_eq_false (by omega)
    have x2 : ¬ s.size ≤ 40 := by omega
    have x3 : 1 ≤ s.size := by omega
    clear HH
    go_enter Try.func51, Try.ntmps51
    go_wp2
    go_ret
    first | exact ⟨rfl, rfl⟩ | exact ⟨ret_b (by simp; omega), rfl⟩
  have a3 : 1 ≤ s.size := by omega
  have a4 : s.size ≤ 40 := by omega
  rw [decide_eq_true ⟨a3, a4⟩, Bool.true_and] at HH
  subst HH
  clear a1 a2
  go_enter Try.func51, Try.ntmps51
  go_wp2_with fail
  refine (Fm.only_to s _ S [45] on _ hs hS (Lib.hid rfl) H1).mono ?_
  rintro e w1 ⟨rfl, rfl⟩
  go_wp2
  go_ret
  first | exact ⟨rfl, rfl⟩ | exact ⟨ret_b (by simp; omega), rfl⟩
theorem pln_snoc (S : List UInt8) (k : Nat) (hk : k < S.length) (h : plnB (S.take k) = true) (hc : ctlB S[k] = false) : plnB (S.take (k + 1)) = true := by
  rw [plnB] at h ⊢
  rw [List.take_succ_eq_append_getElem hk, List.all_append, h, List.all_cons, hc]
  rfl
theorem pln_no (S : List UInt8) (k : Nat) (hk : k < S.length) (hc : ctlB S[k] = true) : plnB S = false := by
  cases e : plnB S with
  | false => rfl
  | true =>
    have := List.all_eq_true.1 e S[k] (List.getElem_mem hk)
    rw [hc] at this; cases this
set_option maxHeartbeats 3200000 in
set_option maxRecDepth 100000 in
theorem lpl_to (s : ByteArray) (S : List UInt8) (b : Bool) (w : World) (hs : s.size ≤ 1000000) (hS : Hid (s.data.toList = S)) (h : Hid (plnB S = b)) :
    Calls Try.prog 52 #[.string s] w fun e w' => e = .returned (.bool b) ∧ w = w' := by
  have hl : S.length = s.size := by rw [← hS.out]; simp
  have HL := Lib.hid hl
  clear hl
  go_enter Try.func52, Try.ntmps52
  go_wp2
  go_loopw [3] (fun i wr => ∃ k : Nat, k ≤ s.size ∧ Hid (plnB (S.take k) = true) ∧ i = .int .i64 k ∧ w = wr) (fun i _ => s.size - (intOf i).toNat)
  case atStart => exact ⟨0, Nat.zero_le _, Lib.hid rfl, rfl, rfl⟩
  case round =>
    obtain ⟨k, hk, hall, rfl, rfl⟩ := hrel
    by_cases hlt : k < s.size
    · have hkS : k < S.length := by rw [HL.out]; exact hlt
      obtain ⟨d, hx⟩ : ∃ c, S[k]'hkS = c := ⟨_, rfl⟩
      have hcc : s[k] = d := by
        have : s[k] = s.data.toList[k]'(by simpa using hlt) := by simp [ByteArray.getElem_eq_getElem_data]
        rw [this, ← hx]
        exact List.getElem_of_eq hS.out _
      have db := d.toNat_lt
      have HN : Hid (ctlB d = false → plnB (S.take (k + 1)) = true) := Lib.hid (fun q => pln_snoc S k hkS hall.out (by rw [hx]; exact q))
      have HF : Hid (ctlB d = true → b = false) := Lib.hid (fun q => by rw [← h.out]; exact pln_no S k hkS (by rw [hx]; exact q))
      have hcs : ((d.toNat : Int) < 32 ∧ ((d.toNat : Int) != 9) = true ∧ ctlB d = true) ∨ ((d.toNat : Int) < 32 ∧ d = 9 ∧ ctlB d = false) ∨ (¬ (d.toNat : Int) < 32 ∧ d = 127 ∧ ctlB d = true) ∨ (¬ (d.toNat : Int) < 32 ∧ ((d.toNat : Int) == 127) = false ∧ ctlB d = false) := by
        by_cases x : (d.toNat : Int) < 32
        · by_cases y : d = 9
          · exact Or.inr (Or.inl ⟨x, y, by subst y; decide⟩)
          · exact Or.inl ⟨x, bne_iff_ne.2 (fun q => y (UInt8.toNat_inj.1 (by show d.toNat = 9; omega))), by rw [ctlB, decide_eq_true x, decide_eq_false y]; rfl⟩
        · by_cases y : d = 127
          · exact Or.inr (Or.inr (Or.inl ⟨x, y, by subst y; decide⟩))
          · exact Or.inr (Or.inr (Or.inr ⟨x, beq_eq_false_iff_ne.2 (fun q => y (UInt8.toNat_inj.1 (by show d.toNat = 127; omega))), by rw [ctlB, decide_eq_false x, decide_eq_false y]; rfl⟩))
      clear hx hkS
      rcases hcs with ⟨x, y, ho⟩ | ⟨x, rfl, ho⟩ | ⟨x, rfl, ho⟩ | ⟨x, y, ho⟩
      · have HB := Lib.hid (HF.out ho).symm
        clear ho HN HF
        go_wp2
        go_ret
        exact ⟨ret_b HB.out, rfl⟩
      · have HNN := Lib.hid (HN.out ho)
        clear ho HN HF
        go_wp2
        go_roundw
        case rel => exact ⟨k + 1, by omega, HNN, by go_num, trivial⟩
        case measure => simp [intOf]; omega
      · have HB := Lib.hid (HF.out ho).symm
        clear ho HN HF
        go_wp2
        go_ret
        exact ⟨ret_b HB.out, rfl⟩
      · have HNN := Lib.hid (HN.out ho)
        clear ho HN HF
        go_wp2
        go_roundw
        case rel => exact ⟨k + 1, by omega, HNN, by go_num, trivial⟩
        case measure => simp [intOf]; omega
    · have HB : Hid (true = b) := Lib.hid (by rw [← h.out, ← hall.out, List.take_of_length_le (by rw [HL.out]; omega)])
      go_wp2
      go_ret
      exact ⟨ret_b HB.out, rfl⟩
/-- What readValue hands back. -/
def RvQ (o : Option (List UInt8 × List UInt8)) (w : World) (e : Ending) (w' : World) : Prop := ∃ (a b : ByteArray) (c : Bool), e = .returned (.tuple #[.string a, .string b, .bool c]) ∧ Hid (match o with | none => c = false | some (V, R) => c = true ∧ a = ⟨V.toArray⟩ ∧ b = ⟨R.toArray⟩) ∧ Below w.heap.size w w'
theorem sg3 : SAny.Sgn ⟨#[58, 59, 44]⟩ [58, 59, 44] := ⟨rfl, by decide, by decide, by decide⟩
theorem sg2 : SAny.Sgn ⟨#[58, 59]⟩ [58, 59] := ⟨rfl, by decide, by decide, by decide⟩
end Lin
end Go.Proofs.Ytdakpncfophjnaa
/-
  Contracts of package line: readValue.
-/
namespace Go.Proofs.Ytdakpncfophjnaa
open Go.RowKit
namespace Lin
open CutB
theorem ia_v (s cs : ByteArray) (S C : List UInt8) (v : Int) (w : World) (hc : SAny.Sgn cs C) (hs : s.size ≤ 1000000) (hS : Hid (s.data.toList = S)) (h : Hid (Lib.indexAny S C = v)) :
    Calls Try.prog 43 #[.string s, .string cs] w fun e w' => e = .returned (.int .i64 v) ∧ Below w.heap.size w w' :=
  (SAny.ia_to s cs S C w hc hs hS).mono fun _ _ ⟨he, hb⟩ => ⟨by rw [he, h.out], hb⟩
theorem ne_facts {s : ByteArray} (h : 0 < s.size) : s.toList.isEmpty = false ∧ (s.toList == []) = false ∧ ¬ s.toList = [] := by
  have h1 : ¬ s.toList = [] := by
    rw [Lib.toList_data]
    intro e
    have := congrArg List.length e
    rw [Array.length_toList] at this
    simp only [List.length_nil] at this
    have : s.size = 0 := this
    omega
  exact ⟨by simpa using h1, beq_eq_false_iff_ne.2 h1, h1⟩
set_option maxHeartbeats 3200000 in
set_option maxRecDepth 100000 in
theorem rv_to (s : ByteArray) (S : List UInt8) (w : World) (hs : s.size ≤ 1000000) (hS : Hid (s.data.toList = S)) :
    Calls Try.prog 67 #[.string s] w (RvQ (rvL S) w) := by
  have hl : S.length = s.size := by rw [← hS.out]; simp
  match S, hS, hl with
  | [], hS, hl =>
    obtain rfl : s = ⟨#[]⟩ := Rws.ba_eq hS.out
    have HV : Hid (Lib.indexAny [] [58, 59, 44] = -1) := Lib.hid rfl
    clear hl hs
    go_enter Try.func67, Try.ntmps67
    go_wp2_with fail
    refine (ia_v _ _ [] [58, 59, 44] (-1) _ sg3 (by decide) (Lib.hid rfl) HV).mono ?_
    rintro e w1 ⟨rfl, b1⟩
    have B1 := Lib.hid b1
    clear b1
    go_wp2
    go_ret3
    exact ⟨_, _, _, rfl, Lib.hid rfl, B1.out⟩
  | c :: T, hS, hl =>
    have h0 : 0 < s.size := by rw [← hl]; simp
    obtain ⟨_, hx⟩ := at_l hS.out 0 h0
    have hx : s[0] = c := hx
    obtain ⟨x1, x2, x3⟩ := ne_facts h0
    by_cases e : c = 34
    · subst e
      have hT : (s.extract 1 s.size).data.toList = T := by rw [dtE, hS.out]; rfl
      have hz : (s.extract 1 s.size).size ≤ 1000000 := by
        have : (s.extract 1 s.size).size = (s.extract 1 s.size).data.toList.length := by simp
        rw [this, hT]
        simp only [List.length_cons] at hl
        omega
      have HT := Lib.hid hT
      have HZ := Lib.hid hz
      have e1 : (1 : Int) ≤ (s.size : Int) := by omega
      have e2 : 1 ≤ s.size := by omega
      clear hT hz
      by_cases y : tlT [34] T = []
      · have HR : Hid (rvL (34 :: T) = none) := Lib.hid (by rw [rvL, if_pos rfl, if_pos y])
        have HB : Hid (Lib.indexByte T 34 = -1) := Lib.hid (by rw [ib_eq, if_pos y])
        rw [HR.out]
        clear y
        go_enter Try.func67, Try.ntmps67
        go_wp2_with fail
        refine (cut_none _ T 34 _ HT HB).mono ?_
        rintro e w1 ⟨rfl, rfl⟩
        go_wp2
        go_ret3
        exact ⟨_, _, _, rfl, Lib.hid rfl, Below.refl _ _⟩
      · have HR : Hid (rvL (34 :: T) = some (hdT [34] T, (tlT [34] T).tail)) := Lib.hid (by rw [rvL, if_pos rfl, if_neg y])
        have HB : Hid (Lib.indexByte T 34 = ((hdT [34] T).length : Nat)) := Lib.hid (by rw [ib_eq, if_neg y])
        rw [HR.out]
        clear y
        go_enter Try.func67, Try.ntmps67
        go_wp2_with fail
        refine (cut_some _ T 34 _ _ HZ.out HT HB).mono ?_
        rintro e w1 ⟨a, b, rfl, hab, b1⟩
        have B1 := Lib.hid b1
        clear b1
        go_wp2
        go_ret3
        exact ⟨_, _, _, rfl, Lib.hid ⟨rfl, Rws.ba_eq (by rw [hab.out.1, take_hd]), Rws.ba_eq (by rw [hab.out.2, drop_hd1])⟩, B1.out⟩
    · have x4 : ((c.toNat : Int) == 34) = false := beq_eq_false_iff_ne.2 (fun q => e (UInt8.toNat_inj.1 (by show c.toNat = 34; omega)))
      have cb := c.toNat_lt
      by_cases y : tlT [58, 59, 44] (c :: T) = []
      · have HR : Hid (rvL (c :: T) = none) := Lib.hid (by rw [rvL, if_neg e, if_pos y])
        have HB : Hid (Lib.indexAny (c :: T) [58, 59, 44] = -1) := Lib.hid (by rw [ia_eq, if_pos y])
        rw [HR.out]
        clear y e
        go_enter Try.func67, Try.ntmps67
        go_wp2_with fail
        refine (ia_v _ _ (c :: T) [58, 59, 44] (-1) _ sg3 hs hS HB).mono ?_
        rintro e w1 ⟨rfl, b1⟩
        have B1 := Lib.hid b1
        clear b1
        go_wp2
        go_ret3
        exact ⟨_, _, _, rfl, Lib.hid rfl, B1.out⟩
      · have HR : Hid (rvL (c :: T) = some (hdT [58, 59, 44] (c :: T), tlT [58, 59, 44] (c :: T))) := Lib.hid (by rw [rvL, if_neg e, if_neg y])
        obtain ⟨m, hm⟩ : ∃ m, (hdT [58, 59, 44] (c :: T)).length = m := ⟨_, rfl⟩
        have HB : Hid (Lib.indexAny (c :: T) [58, 59, 44] = (m : Int)) := Lib.hid (by rw [ia_eq, if_neg y, hm])
        have hlt : m < s.size := by rw [← hl, ← hm]; exact hd_lt y
        have HA : Hid (s.extract 0 m = ⟨(hdT [58, 59, 44] (c :: T)).toArray⟩ ∧ s.extract m s.size = ⟨(tlT [58, 59, 44] (c :: T)).toArray⟩) := Lib.hid ⟨Rws.ba_eq (by rw [dt0, hS.out, ← hm, take_hd]), Rws.ba_eq (by rw [dtE, hS.out, ← hm, drop_hd])⟩
        rw [HR.out]
        clear y e hm
        have t1 : (m : Int).toNat = m := rfl
        go_enter Try.func67, Try.ntmps67
        go_wp2_with fail
        refine (ia_v _ _ (c :: T) [58, 59, 44] (m : Int) _ sg3 hs hS HB).mono ?_
        rintro e w1 ⟨rfl, b1⟩
        have B1 := Lib.hid b1
        clear b1
        go_wp2
        go_quiet (fail)
        go_wp2
        go_ret3
        exact ⟨_, _, _, rfl, Lib.hid ⟨rfl, HA.out.1, HA.out.2⟩, by first | exact B1.out | exact below_drewN B1.out _⟩
end Lin
end Go.Proofs.Ytdakpncfophjnaa
