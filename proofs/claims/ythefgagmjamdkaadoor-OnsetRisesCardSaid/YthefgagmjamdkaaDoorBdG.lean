/-
  Several texts in one (FmA, FmB).
-/
import Derived.Test.YthefgagmjamdkaaDoorBdA
import Derived.Test.YthefgagmjamdkaaDoorShelf
import Derived.Lib.IndexMore
import Derived.Below
/-
  Package ascii: IsLetter, IsDigit, Only.
-/
namespace Go.Proofs.YthefgagmjamdkaaDoor
open Go.RowKit
namespace Fm
def isLt (c : UInt8) : Bool := decide ((97 ≤ (c.toNat : Int) ∧ (c.toNat : Int) ≤ 122) ∨ (65 ≤ (c.toNat : Int) ∧ (c.toNat : Int) ≤ 90))
def okB (O : List UInt8) (c : UInt8) : Bool := isLt c || Sol.isDig c || decide (0 ≤ Lib.indexByte O c)
def onlyB (S O : List UInt8) : Bool := S.all (okB O)
theorem isL_to (c : UInt8) (b : Bool) (w : World) (h : Hid (isLt c = b)) :
    Calls Tryd.prog 79 #[.int .u8 (c.toNat : Int)] w fun e w' => e = .returned (.bool b) ∧ w = w' := by
  have hb := c.toNat_lt
  have h1 : (c.toNat : Int) < 256 := by omega
  have h0 : 0 ≤ (c.toNat : Int) := by omega
  have HH := h.out
  rw [isLt] at HH
  clear h hb
  generalize (c.toNat : Int) = n at *
  have hc : n < 65 ∧ b = false ∨ (65 ≤ n ∧ n ≤ 90) ∧ b = true ∨ (90 < n ∧ n < 97) ∧ b = false ∨ (97 ≤ n ∧ n ≤ 122) ∧ b = true ∨ 122 < n ∧ b = false := by
    rw [← HH]
    by_cases x1 : n < 65
    · exact Or.inl ⟨x1, decide_eq_false (by omega)⟩
    · by_cases x2 : n ≤ 90
      · exact Or.inr (Or.inl ⟨⟨by omega, x2⟩, decide_eq_true (by omega)⟩)
      · by_cases x3 : n < 97
        · exact Or.inr (Or.inr (Or.inl ⟨⟨by omega, x3⟩, decide_eq_false (by omega)⟩))
        · by_cases x4 : n ≤ 122
          · exact Or.inr (Or.inr (Or.inr (Or.inl ⟨⟨by omega, x4⟩, decide_eq_true (by omega)⟩)))
          · exact Or.inr (Or.inr (Or.inr (Or.inr ⟨by omega, decide_eq_false (by omega)⟩)))
  clear HH
  rcases hc with ⟨x1, rfl⟩ | ⟨⟨x1, x2⟩, rfl⟩ | ⟨⟨x1, x2⟩, rfl⟩ | ⟨⟨x1, x2⟩, rfl⟩ | ⟨x1, rfl⟩
  all_goals try have y1 : ¬ 97 ≤ n := by omega
  all_goals try have y2 : ¬ 65 ≤ n := by omega
  all_goals try have y3 : ¬ n ≤ 90 := by omega
  all_goals try have y4 : ¬ n ≤ 122 := by omega
  all_goals try have y5 : 65 ≤ n := by omega
  all_goals
    go_enter Tryd.func79, Tryd.ntmps79
    go_wp2
    go_ret
    exact ⟨rfl, rfl⟩
theorem isD_to (c : UInt8) (b : Bool) (w : World) (h : Hid (Sol.isDig c = b)) :
    Calls Tryd.prog 71 #[.int .u8 (c.toNat : Int)] w fun e w' => e = .returned (.bool b) ∧ w = w' := by
  have hb := c.toNat_lt
  have h1 : (c.toNat : Int) < 256 := by omega
  have h0 : 0 ≤ (c.toNat : Int) := by omega
  have HH := h.out
  rw [Sol.isDig] at HH
  clear h hb
  generalize (c.toNat : Int) = n at *
  have hc : n < 48 ∧ b = false ∨ (48 ≤ n ∧ n ≤ 57) ∧ b = true ∨ 57 < n ∧ b = false := by
    rw [← HH]
    by_cases x1 : n < 48
    · exact Or.inl ⟨x1, decide_eq_false (by omega)⟩
    · by_cases x2 : n ≤ 57
      · exact Or.inr (Or.inl ⟨⟨by omega, x2⟩, decide_eq_true (by omega)⟩)
      · exact Or.inr (Or.inr ⟨by omega, decide_eq_false (by omega)⟩)
  clear HH
  rcases hc with ⟨x1, rfl⟩ | ⟨⟨x1, x2⟩, rfl⟩ | ⟨x1, rfl⟩
  all_goals try have y2 : ¬ 48 ≤ n := by omega
  all_goals try have y3 : ¬ n ≤ 57 := by omega
  all_goals try have y5 : 48 ≤ n := by omega
  all_goals
    go_enter Tryd.func71, Tryd.ntmps71
    go_wp2
    go_ret
    exact ⟨rfl, rfl⟩
theorem idx_to (o : ByteArray) (O : List UInt8) (c : UInt8) (v : Int) (w : World) (hO : Hid (o.data.toList = O)) (h : Hid (Lib.indexByte O c = v)) :
    Calls Tryd.prog 80 #[.string o, .int .u8 (c.toNat : Int)] w fun e w' => e = .returned (.int .i64 v) ∧ w = w' :=
  (Tryd.strings_IndexByte o (c.toNat : Int) w).mono fun _ _ ⟨he, hw⟩ => ⟨by
    have e1 : ((c.toNat : Int)).toNat.toUInt8 = c := by rw [Int.toNat_natCast]; simp
    rw [he, hO.out, e1, h.out], hw.symm⟩
theorem only_at {S O : List UInt8} {k : Nat} (hk : k < S.length) (h : okB O S[k] = false) : onlyB S O = false := by
  cases e : onlyB S O with
  | false => rfl
  | true =>
    have := List.all_eq_true.1 e S[k] (List.getElem_mem hk)
    rw [h] at this; cases this
set_option maxHeartbeats 3200000 in
set_option maxRecDepth 100000 in
theorem only_to (s o : ByteArray) (S O : List UInt8) (b : Bool) (w : World) (hs : s.size ≤ 1000000) (hS : Hid (s.data.toList = S)) (hO : Hid (o.data.toList = O)) (h : Hid (onlyB S O = b)) :
    Calls Tryd.prog 72 #[.string s, .string o] w fun e w' => e = .returned (.bool b) ∧ w = w' := by
  have hl : S.length = s.size := by rw [← hS.out]; simp
  have HL := Lib.hid hl
  clear hl
  go_enter Tryd.func72, Tryd.ntmps72
  go_wp2
  go_loopw [5] (fun i wr => ∃ k : Nat, k ≤ s.size ∧ Hid ((S.take k).all (okB O) = true) ∧ i = .int .i64 k ∧ w = wr) (fun i _ => s.size - (intOf i).toNat)
  case atStart => exact ⟨0, Nat.zero_le _, Lib.hid rfl, rfl, rfl⟩
  case round =>
    obtain ⟨k, hk, hall, rfl, rfl⟩ := hrel
    by_cases hlt : k < s.size
    · have hkS : k < S.length := by rw [HL.out]; exact hlt
      obtain ⟨c, hx⟩ : ∃ c, S[k]'hkS = c := ⟨_, rfl⟩
      have hcc : s[k] = c := by
        have : s[k] = s.data.toList[k]'(by simpa using hlt) := by simp [ByteArray.getElem_eq_getElem_data]
        rw [this, ← hx]
        exact List.getElem_of_eq hS.out _
      have HN : Hid (okB O c = true → (S.take (k + 1)).all (okB O) = true) := Lib.hid (fun h => by rw [List.take_succ_eq_append_getElem hkS, hx, List.all_append, hall.out, List.all_cons, h]; rfl)
      have HF : Hid (okB O c = false → b = false) := Lib.hid (fun h2 => by rw [← h.out]; exact only_at hkS (by rw [hx]; exact h2))
      have hok : okB O c = (isLt c || Sol.isDig c || decide (0 ≤ Lib.indexByte O c)) := rfl
      clear hx hkS
      obtain ⟨p, hp⟩ : ∃ p, isLt c = p := ⟨_, rfl⟩
      obtain ⟨q, hq⟩ : ∃ p, Sol.isDig c = p := ⟨_, rfl⟩
      obtain ⟨v, hv⟩ : ∃ p, Lib.indexByte O c = p := ⟨_, rfl⟩
      have HP := Lib.hid hp
      have HQ := Lib.hid hq
      have HV := Lib.hid hv
      rw [hp, hq, hv] at hok
      clear hp hq hv
      have hcs : (p = true ∧ okB O c = true) ∨ (p = false ∧ q = true ∧ okB O c = true) ∨ (p = false ∧ q = false ∧ 0 ≤ v ∧ okB O c = true) ∨ (p = false ∧ q = false ∧ v < 0 ∧ okB O c = false) := by
        rw [hok]
        cases p with
        | true => exact Or.inl ⟨rfl, rfl⟩
        | false =>
          cases q with
          | true => exact Or.inr (Or.inl ⟨rfl, rfl, rfl⟩)
          | false =>
            by_cases x : 0 ≤ v
            · exact Or.inr (Or.inr (Or.inl ⟨rfl, rfl, x, decide_eq_true x⟩))
            · exact Or.inr (Or.inr (Or.inr ⟨rfl, rfl, by omega, decide_eq_false x⟩))
      clear hok
      rcases hcs with ⟨rfl, ho⟩ | ⟨rfl, rfl, ho⟩ | ⟨rfl, rfl, hv, ho⟩ | ⟨rfl, rfl, hv, ho⟩
      · have HNN := Lib.hid (HN.out ho)
        clear ho HN HF
        go_wp2_with fail
        refine (isL_to c true _ HP).mono ?_
        rintro e w1 ⟨rfl, rfl⟩
        go_wp2
        go_roundw
        case rel => exact ⟨k + 1, by omega, HNN, by go_num, trivial⟩
        case measure => simp [intOf]; omega
      · have HNN := Lib.hid (HN.out ho)
        clear ho HN HF
        go_wp2_with fail
        refine (isL_to c false _ HP).mono ?_
        rintro e w1 ⟨rfl, rfl⟩
        go_wp2_with fail
        refine (isD_to c true _ HQ).mono ?_
        rintro e w1 ⟨rfl, rfl⟩
        go_wp2
        go_roundw
        case rel => exact ⟨k + 1, by omega, HNN, by go_num, trivial⟩
        case measure => simp [intOf]; omega
      · have HNN := Lib.hid (HN.out ho)
        clear ho HN HF
        go_wp2_with fail
        refine (isL_to c false _ HP).mono ?_
        rintro e w1 ⟨rfl, rfl⟩
        go_wp2_with fail
        refine (isD_to c false _ HQ).mono ?_
        rintro e w1 ⟨rfl, rfl⟩
        go_wp2_with fail
        refine (idx_to o O c v _ hO HV).mono ?_
        rintro e w1 ⟨rfl, rfl⟩
        go_wp2
        go_roundw
        case rel => exact ⟨k + 1, by omega, HNN, by go_num, trivial⟩
        case measure => simp [intOf]; omega
      · have HFF := Lib.hid (HF.out ho)
        clear ho HN HF
        go_wp2_with fail
        refine (isL_to c false _ HP).mono ?_
        rintro e w1 ⟨rfl, rfl⟩
        go_wp2_with fail
        refine (isD_to c false _ HQ).mono ?_
        rintro e w1 ⟨rfl, rfl⟩
        go_wp2_with fail
        refine (idx_to o O c v _ hO HV).mono ?_
        rintro e w1 ⟨rfl, rfl⟩
        go_wp2
        go_ret
        exact ⟨ret_b HFF.out.symm, rfl⟩
    · have HT : Hid (b = true) := Lib.hid (by rw [← h.out, onlyB, ← hall.out, List.take_of_length_le (by rw [HL.out]; omega)])
      go_wp2
      go_ret
      exact ⟨ret_b HT.out.symm, rfl⟩
end Fm
end Go.Proofs.YthefgagmjamdkaaDoor
/-
  Whether a format, a letter, a name is right: zone.Format, rule.Letter, format.Right. (Written by gen/gen_fmb.py.)
-/
namespace Go.Proofs.YthefgagmjamdkaaDoor
open Go.RowKit
namespace Fm
/-- The library's own bound holds some number. -/
def MaxL (w : World) : Prop := ∃ m, 1 < w.heap.size ∧ w.cell? ⟨1, 0, none⟩ = some (.int .i64 m)
theorem MaxL.stays {w w' : World} (h : MaxL w) (hb : Below w.heap.size w w') : MaxL w' := by
  obtain ⟨m, h1, h2⟩ := h
  exact ⟨m, Nat.lt_of_lt_of_le h1 hb.size, (hb.cell (p := ⟨1, 0, none⟩) h1).trans h2⟩
theorem MaxL.drewN {w : World} (h : MaxL w) (n : Nat) : MaxL (w.drewN n) := h.stays (below_drewN (Below.refl _ _) n)
/-- Whether a format is right. -/
def fmtB (S : List UInt8) : Bool := decide (1 ≤ S.length ∧ S.length ≤ 40) && (onlyB S [43, 45, 37, 47] &&
  (if decide (0 ≤ Lib.indexByte S 47) = true then decide ((S.count 37 : Int) = 0) && decide ((S.count 47 : Int) = 1)
   else decide ((S.count 37 : Int) = 0) || (decide ((S.count 37 : Int) = 1) && (Lib.contains S [37, 115] || Lib.contains S [37, 122]))))
def letB (S : List UInt8) : Bool := decide (S.length ≤ 6) && (!decide (S = [45]) && onlyB S [43, 45])
def rgtB (S : List UInt8) : Bool := decide (1 ≤ S.length ∧ S.length ≤ 40) && onlyB S [43, 45]
set_option maxHeartbeats 3200000 in
set_option maxRecDepth 100000 in
theorem let_to (s : ByteArray) (S : List UInt8) (b : Bool) (w : World) (hs : s.size ≤ 1000000) (hS : Hid (s.data.toList = S)) (h : Hid (letB S = b)) :
    Calls Tryd.prog 53 #[.string s] w fun e w' => e = .returned (.bool b) ∧ Below w.heap.size w w' := by
  have hl : s.size = S.length := by rw [← hS.out]; simp
  have HH := h.out
  clear h
  rw [letB] at HH
  obtain ⟨on, h1⟩ : ∃ x, onlyB S [43, 45] = x := ⟨_, rfl⟩
  have H1 := Lib.hid h1
  rw [h1, ← hl] at HH
  clear h1
  have hz : (6 < s.size ∧ b = false) ∨ (s.size ≤ 6 ∧ ((S = [45] ∧ b = false) ∨ (¬ s.toList = [45] ∧ b = on))) := by
    subst HH
    by_cases a1 : s.size ≤ 6
    · refine Or.inr ⟨a1, ?_⟩
      by_cases a2 : S = [45]
      · exact Or.inl ⟨a2, by rw [decide_eq_true a1, decide_eq_true a2]; rfl⟩
      · exact Or.inr ⟨by rw [Lib.toList_data, hS.out]; exact a2, by rw [decide_eq_true a1, decide_eq_false a2]; rfl⟩
    · exact Or.inl ⟨by omega, by rw [decide_eq_false a1]; rfl⟩
  clear HH hl
  rcases hz with ⟨a1, rfl⟩ | ⟨a1, ⟨a2, rfl⟩ | ⟨a2, rfl⟩⟩
  · go_enter Tryd.func53, Tryd.ntmps53
    go_wp2
    go_ret
    exact ⟨rfl, by repeat (first | exact Below.refl _ _ | refine below_drewN ?_ _ | refine Below.drew ?_)⟩
  · have a3 : s.toList = [45] := by rw [Lib.toList_data, hS.out]; exact a2
    go_enter Tryd.func53, Tryd.ntmps53
    go_wp2
    go_ret
    exact ⟨rfl, by repeat (first | exact Below.refl _ _ | refine below_drewN ?_ _ | refine Below.drew ?_)⟩
  · go_enter Tryd.func53, Tryd.ntmps53
    go_wp2_with fail
    refine (only_to s _ S _ _ _ hs hS (Lib.hid rfl) H1).mono ?_
    rintro e w1 ⟨rfl, rfl⟩
    go_wp2
    go_ret
    exact ⟨ret_b (by simp [a2]), by repeat (first | exact Below.refl _ _ | refine below_drewN ?_ _ | refine Below.drew ?_)⟩
end Fm
end Go.Proofs.YthefgagmjamdkaaDoor
