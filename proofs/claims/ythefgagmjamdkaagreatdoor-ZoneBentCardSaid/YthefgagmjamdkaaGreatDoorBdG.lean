/-
  Several texts in one (FmA, FmB).
-/
import Derived.Test.YthefgagmjamdkaaGreatDoorBdA
import Derived.Test.YthefgagmjamdkaaGreatDoorShelf
import Derived.Lib.IndexMore
import Derived.Below
/-
  Package ascii: IsLetter, IsDigit, Only.
-/
namespace Go.Proofs.YthefgagmjamdkaaGreatDoor
open Go.RowKit
namespace Fm
def isLt (c : UInt8) : Bool := decide ((97 ≤ (c.toNat : Int) ∧ (c.toNat : Int) ≤ 122) ∨ (65 ≤ (c.toNat : Int) ∧ (c.toNat : Int) ≤ 90))
def okB (O : List UInt8) (c : UInt8) : Bool := isLt c || Sol.isDig c || decide (0 ≤ Lib.indexByte O c)
def onlyB (S O : List UInt8) : Bool := S.all (okB O)
theorem isL_to (c : UInt8) (b : Bool) (w : World) (h : Hid (isLt c = b)) :
    Calls Tryz.prog 63 #[.int .u8 (c.toNat : Int)] w fun e w' => e = .returned (.bool b) ∧ w = w' := by
  have hb := c.toNat_lt
  have h1 : (c.toNat : Int) < 256 := by omega
  have h0 : 0 ≤ (c.toNat : Int) := by omega
  have HH := h.out
  rw [isLt] at HH
  clear h hb
  generalize (c.toNat : Int) = n at *
  have hc : n < 65 ∧ b = false ∨ (65 ≤ n ∧ n ≤ 90) ∧ b = true ∨ (90 < n ∧ n < 97) ∧ b = false ∨ (97 ≤ n ∧ n ≤ 122) ∧ b = true ∨ 122 < n ∧ b = false := by
    rw [← HH]
    by_cases x1 : n < 65
    · exact Or.inl ⟨x1, decide_eq_false (by omega)⟩
    · by_cases x2 : n ≤ 90
      · exact Or.inr (Or.inl ⟨⟨by omega, x2⟩, decide_eq_true (by omega)⟩)
      · by_cases x3 : n < 97
        · exact Or.inr (Or.inr (Or.inl ⟨⟨by omega, x3⟩, decide_eq_false (by omega)⟩))
        · by_cases x4 : n ≤ 122
          · exact Or.inr (Or.inr (Or.inr (Or.inl ⟨⟨by omega, x4⟩, decide_eq_true (by omega)⟩)))
          · exact Or.inr (Or.inr (Or.inr (Or.inr ⟨by omega, decide_eq_false (by omega)⟩)))
  clear HH
  rcases hc with ⟨x1, rfl⟩ | ⟨⟨x1, x2⟩, rfl⟩ | ⟨⟨x1, x2⟩, rfl⟩ | ⟨⟨x1, x2⟩, rfl⟩ | ⟨x1, rfl⟩
  all_goals try have y1 : ¬ 97 ≤ n := by omega
  all_goals try have y2 : ¬ 65 ≤ n := by omega
  all_goals try have y3 : ¬ n ≤ 90 := by omega
  all_goals try have y4 : ¬ n ≤ 122 := by omega
  all_goals try have y5 : 65 ≤ n := by omega
  all_goals
    go_enter Tryz.func63, Tryz.ntmps63
    go_wp2
    go_ret
    exact ⟨rfl, rfl⟩
theorem isD_to (c : UInt8) (b : Bool) (w : World) (h : Hid (Sol.isDig c = b)) :
    Calls Tryz.prog 64 #[.int .u8 (c.toNat : Int)] w fun e w' => e = .returned (.bool b) ∧ w = w' := by
  have hb := c.toNat_lt
  have h1 : (c.toNat : Int) < 256 := by omega
  have h0 : 0 ≤ (c.toNat : Int) := by omega
  have HH := h.out
  rw [Sol.isDig] at HH
  clear h hb
  generalize (c.toNat : Int) = n at *
  have hc : n < 48 ∧ b = false ∨ (48 ≤ n ∧ n ≤ 57) ∧ b = true ∨ 57 < n ∧ b = false := by
    rw [← HH]
    by_cases x1 : n < 48
    · exact Or.inl ⟨x1, decide_eq_false (by omega)⟩
    · by_cases x2 : n ≤ 57
      · exact Or.inr (Or.inl ⟨⟨by omega, x2⟩, decide_eq_true (by omega)⟩)
      · exact Or.inr (Or.inr ⟨by omega, decide_eq_false (by omega)⟩)
  clear HH
  rcases hc with ⟨x1, rfl⟩ | ⟨⟨x1, x2⟩, rfl⟩ | ⟨x1, rfl⟩
  all_goals try have y2 : ¬ 48 ≤ n := by omega
  all_goals try have y3 : ¬ n ≤ 57 := by omega
  all_goals try have y5 : 48 ≤ n := by omega
  all_goals
    go_enter Tryz.func64, Tryz.ntmps64
    go_wp2
    go_ret
    exact ⟨rfl, rfl⟩
theorem idx_to (o : ByteArray) (O : List UInt8) (c : UInt8) (v : Int) (w : World) (hO : Hid (o.data.toList = O)) (h : Hid (Lib.indexByte O c = v)) :
    Calls Tryz.prog 65 #[.string o, .int .u8 (c.toNat : Int)] w fun e w' => e = .returned (.int .i64 v) ∧ w = w' :=
  (Tryz.strings_IndexByte o (c.toNat : Int) w).mono fun _ _ ⟨he, hw⟩ => ⟨by
    have e1 : ((c.toNat : Int)).toNat.toUInt8 = c := by rw [Int.toNat_natCast]; simp
    rw [he, hO.out, e1, h.out], hw.symm⟩
theorem only_at {S O : List UInt8} {k : Nat} (hk : k < S.length) (h : okB O S[k] = false) : onlyB S O = false := by
  cases e : onlyB S O with
  | false => rfl
  | true =>
    have := List.all_eq_true.1 e S[k] (List.getElem_mem hk)
    rw [h] at this; cases this
set_option maxHeartbeats 3200000 in
set_option maxRecDepth 100000 in
theorem only_to (s o : ByteArray) (S O : List UInt8) (b : Bool) (w : World) (hs : s.size ≤ 1000000) (hS : Hid (s.data.toList = S)) (hO : Hid (o.data.toList = O)) (h : Hid (onlyB S O = b)) :
    Calls Tryz.prog 32 #[.string s, .string o] w fun e w' => e = .returned (.bool b) ∧ w = w' := by
  have hl : S.length = s.size := by rw [← hS.out]; simp
  have HL := Lib.hid hl
  clear hl
  go_enter Tryz.func32, Tryz.ntmps32
  go_wp2
  go_loopw [5] (fun i wr => ∃ k : Nat, k ≤ s.size ∧ Hid ((S.take k).all (okB O) = true) ∧ i = .int .i64 k ∧ w = wr) (fun i _ => s.size - (intOf i).toNat)
  case atStart => exact ⟨0, Nat.zero_le _, Lib.hid rfl, rfl, rfl⟩
  case round =>
    obtain ⟨k, hk, hall, rfl, rfl⟩ := hrel
    by_cases hlt : k < s.size
    · have hkS : k < S.length := by rw [HL.out]; exact hlt
      obtain ⟨c, hx⟩ : ∃ c, S[k]'hkS = c := ⟨_, rfl⟩
      have hcc : s[k] = c := by
        have : s[k] = s.data.toList[k]'(by simpa using hlt) := by simp [ByteArray.getElem_eq_getElem_data]
        rw [this, ← hx]
        exact List.getElem_of_eq hS.out _
      have HN : Hid (okB O c = true → (S.take (k + 1)).all (okB O) = true) := Lib.hid (fun h => by rw [List.take_succ_eq_append_getElem hkS, hx, List.all_append, hall.out, List.all_cons, h]; rfl)
      have HF : Hid (okB O c = false → b = false) := Lib.hid (fun h2 => by rw [← h.out]; exact only_at hkS (by rw [hx]; exact h2))
      have hok : okB O c = (isLt c || Sol.isDig c || decide (0 ≤ Lib.indexByte O c)) := rfl
      clear hx hkS
      obtain ⟨p, hp⟩ : ∃ p, isLt c = p := ⟨_, rfl⟩
      obtain ⟨q, hq⟩ : ∃ p, Sol.isDig c = p := ⟨_, rfl⟩
      obtain ⟨v, hv⟩ : ∃ p, Lib.indexByte O c = p := ⟨_, rfl⟩
      have HP := Lib.hid hp
      have HQ := Lib.hid hq
      have HV := Lib.hid hv
      rw [hp, hq, hv] at hok
      clear hp hq hv
      have hcs : (p = true ∧ okB O c = true) ∨ (p = false ∧ q = true ∧ okB O c = true) ∨ (p = false ∧ q = false ∧ 0 ≤ v ∧ okB O c = true) ∨ (p = false ∧ q = false ∧ v < 0 ∧ okB O c = false) := by
        rw [hok]
        cases p with
        | true => exact Or.inl ⟨rfl, rfl⟩
        | false =>
          cases q with
          | true => exact Or.inr (Or.inl ⟨rfl, rfl, rfl⟩)
          | false =>
            by_cases x : 0 ≤ v
            · exact Or.inr (Or.inr (Or.inl ⟨rfl, rfl, x, decide_eq_true x⟩))
            · exact Or.inr (Or.inr (Or.inr ⟨rfl, rfl, by omega, decide_eq_false x⟩))
      clear hok
      rcases hcs with ⟨rfl, ho⟩ | ⟨rfl, rfl, ho⟩ | ⟨rfl, rfl, hv, ho⟩ | ⟨rfl, rfl, hv, ho⟩
      · have HNN := Lib.hid (HN.out ho)
        clear ho HN HF
        go_wp2_with fail
        refine (isL_to c true _ HP).mono ?_
        rintro e w1 ⟨rfl, rfl⟩
        go_wp2
        go_roundw
        case rel => exact ⟨k + 1, by omega, HNN, by go_num, trivial⟩
        case measure => simp [intOf]; omega
      · have HNN := Lib.hid (HN.out ho)
        clear ho HN HF
        go_wp2_with fail
        refine (isL_to c false _ HP).mono ?_
        rintro e w1 ⟨rfl, rfl⟩
        go_wp2_with fail
        refine (isD_to c true _ HQ).mono ?_
        rintro e w1 ⟨rfl, rfl⟩
        go_wp2
        go_roundw
        case rel => exact ⟨k + 1, by omega, HNN, by go_num, trivial⟩
        case measure => simp [intOf]; omega
      · have HNN := Lib.hid (HN.out ho)
        clear ho HN HF
        go_wp2_with fail
        refine (isL_to c false _ HP).mono ?_
        rintro e w1 ⟨rfl, rfl⟩
        go_wp2_with fail
        refine (isD_to c false _ HQ).mono ?_
        rintro e w1 ⟨rfl, rfl⟩
        go_wp2_with fail
        refine (idx_to o O c v _ hO HV).mono ?_
        rintro e w1 ⟨rfl, rfl⟩
        go_wp2
        go_roundw
        case rel => exact ⟨k + 1, by omega, HNN, by go_num, trivial⟩
        case measure => simp [intOf]; omega
      · have HFF := Lib.hid (HF.out ho)
        clear ho HN HF
        go_wp2_with fail
        refine (isL_to c false _ HP).mono ?_
        rintro e w1 ⟨rfl, rfl⟩
        go_wp2_with fail
        refine (isD_to c false _ HQ).mono ?_
        rintro e w1 ⟨rfl, rfl⟩
        go_wp2_with fail
        refine (idx_to o O c v _ hO HV).mono ?_
        rintro e w1 ⟨rfl, rfl⟩
        go_wp2
        go_ret
        exact ⟨ret_b HFF.out.symm, rfl⟩
    · have HT : Hid (b = true) := Lib.hid (by rw [← h.out, onlyB, ← hall.out, List.take_of_length_le (by rw [HL.out]; omega)])
      go_wp2
      go_ret
      exact ⟨ret_b HT.out.symm, rfl⟩
end Fm
end Go.Proofs.YthefgagmjamdkaaGreatDoor
/-
  Whether a format, a letter, a name is right: zone.Format, rule.Letter, format.Right. (Written by gen/gen_fmb.py.)
-/
namespace Go.Proofs.YthefgagmjamdkaaGreatDoor
open Go.RowKit
namespace Fm
/-- The library's own bound holds some number. -/
def MaxL (w : World) : Prop := ∃ m, 0 < w.heap.size ∧ w.cell? ⟨0, 0, none⟩ = some (.int .i64 m)
theorem MaxL.stays {w w' : World} (h : MaxL w) (hb : Below w.heap.size w w') : MaxL w' := by
  obtain ⟨m, h1, h2⟩ := h
  exact ⟨m, Nat.lt_of_lt_of_le h1 hb.size, (hb.cell (p := ⟨0, 0, none⟩) h1).trans h2⟩
theorem MaxL.of_shape {w : World} (h : w.ShapedOpen Tryz.prog) : MaxL w := by
  obtain ⟨m, hm⟩ := Tryz.laysM219.s1_3 w h
  refine ⟨m, ?_, hm⟩
  rcases Nat.lt_or_ge 0 w.heap.size with h | h
  · exact h
  · have e : w.cell? ⟨0, 0, none⟩ = none := by
      unfold World.cell?
      rw [Array.getElem?_eq_none h]
    have hm' : w.cell? ⟨0, 0, none⟩ = some (.int .i64 m) := hm
    rw [e] at hm'
    cases hm'
theorem MaxL.drewN {w : World} (h : MaxL w) (n : Nat) : MaxL (w.drewN n) := h.stays (below_drewN (Below.refl _ _) n)
theorem cnt_to (s : ByteArray) (S : List UInt8) (c : UInt8) (v : Int) (w : World) (hS : Hid (s.data.toList = S)) (h : Hid ((S.count c : Int) = v)) :
    Calls Tryz.prog 33 #[.string s, .string ⟨#[c]⟩] w fun e w' => e = .returned (.int .i64 v) ∧ w = w' :=
  (Tryz.strings_Count_one s c w).mono fun _ _ ⟨he, hw⟩ => ⟨by rw [he, hS.out, ← h.out]; rfl, hw.symm⟩
theorem con1_to (s : ByteArray) (S : List UInt8) (c : UInt8) (b : Bool) (w : World) (hS : Hid (s.data.toList = S)) (h : Hid (decide (0 ≤ Lib.indexByte S c) = b)) :
    Calls Tryz.prog 34 #[.string s, .string ⟨#[c]⟩] w fun e w' => e = .returned (.bool b) ∧ w = w' :=
  (Tryz.strings_Contains_one s c w).mono fun _ _ ⟨he, hw⟩ => ⟨by rw [he, hS.out, ← h.out], hw.symm⟩
theorem con_to (s p : ByteArray) (S P : List UInt8) (b : Bool) (w : World) (hm : MaxL w) (hs : s.size ≤ 1000000) (hS : Hid (s.data.toList = S)) (hP : Hid (p.data.toList = P)) (h : Hid (Lib.contains S P = b)) :
    Calls Tryz.prog 34 #[.string s, .string p] w fun e w' => e = .returned (.bool b) ∧ w = w' := by
  obtain ⟨m, _, hc⟩ := hm
  exact (Tryz.strings_Contains s p m w (by omega) hc).mono fun _ _ ⟨he, hw⟩ => ⟨by rw [he, hS.out, hP.out, ← h.out], hw.symm⟩
theorem cut_to (s p : ByteArray) (S P X Y : List UInt8) (b : Bool) (w : World) (hm : MaxL w) (hs : s.size ≤ 1000000) (hS : Hid (s.data.toList = S)) (hP : Hid (p.data.toList = P)) (h : Hid (Lib.cut S P = (X, Y, b))) :
    Calls Tryz.prog 98 #[.string s, .string p] w fun e w' => e = .returned (.tuple #[.string ⟨X.toArray⟩, .string ⟨Y.toArray⟩, .bool b]) ∧ ∃ n, w' = w.drewN n := by
  obtain ⟨m, _, hc⟩ := hm
  exact (Tryz.strings_Cut s p m w (by omega) hc).mono fun _ _ ⟨he, hw⟩ => ⟨by rw [he, hS.out, hP.out, h.out], hw⟩
/-- Whether a format is right. -/
def fmtB (S : List UInt8) : Bool := decide (1 ≤ S.length ∧ S.length ≤ 40) && (onlyB S [43, 45, 37, 47] &&
  (if decide (0 ≤ Lib.indexByte S 47) = true then decide ((S.count 37 : Int) = 0) && decide ((S.count 47 : Int) = 1)
   else decide ((S.count 37 : Int) = 0) || (decide ((S.count 37 : Int) = 1) && (Lib.contains S [37, 115] || Lib.contains S [37, 122]))))
def letB (S : List UInt8) : Bool := decide (S.length ≤ 6) && (!decide (S = [45]) && onlyB S [43, 45])
def rgtB (S : List UInt8) : Bool := decide (1 ≤ S.length ∧ S.length ≤ 40) && onlyB S [43, 45]
set_option maxHeartbeats 3200000 in
set_option maxRecDepth 100000 in
theorem fmt_to (s : ByteArray) (S : List UInt8) (b : Bool) (w : World) (hm : MaxL w) (hs : s.size ≤ 1000000) (hS : Hid (s.data.toList = S)) (h : Hid (fmtB S = b)) :
    Calls Tryz.prog 12 #[.string s] w fun e w' => e = .returned (.bool b) ∧ Below w.heap.size w w' := by
  have hl : s.size = S.length := by rw [← hS.out]; simp
  have HM := Lib.hid hm
  clear hm
  have HH := h.out
  clear h
  rw [fmtB] at HH
  obtain ⟨on, h1⟩ : ∃ x, onlyB S [43, 45, 37, 47] = x := ⟨_, rfl⟩
  obtain ⟨sl, h2⟩ : ∃ x, decide (0 ≤ Lib.indexByte S 47) = x := ⟨_, rfl⟩
  obtain ⟨m, h3⟩ : ∃ x, (S.count 37 : Int) = x := ⟨_, rfl⟩
  obtain ⟨n, h4⟩ : ∃ x, (S.count 47 : Int) = x := ⟨_, rfl⟩
  obtain ⟨cs, h5⟩ : ∃ x, Lib.contains S [37, 115] = x := ⟨_, rfl⟩
  obtain ⟨cz, h6⟩ : ∃ x, Lib.contains S [37, 122] = x := ⟨_, rfl⟩
  have H1 := Lib.hid h1
  have H2 := Lib.hid h2
  have H3 := Lib.hid h3
  have H4 := Lib.hid h4
  have H5 := Lib.hid h5
  have H6 := Lib.hid h6
  have m0 : 0 ≤ m := by omega
  have m9 : m ≤ 1000000 := by have := List.count_le_length (a := (37 : UInt8)) (l := S); omega
  have n0 : 0 ≤ n := by omega
  have n9 : n ≤ 1000000 := by have := List.count_le_length (a := (47 : UInt8)) (l := S); omega
  rw [h1, h2, h3, h4, h5, h6, ← hl] at HH
  clear h1 h2 h3 h4 h5 h6 hl
  have hz : (s.size < 1 ∧ b = false) ∨ (40 < s.size ∧ b = false) ∨ ((1 ≤ s.size ∧ s.size ≤ 40) ∧ ((on = false ∧ b = false) ∨ (on = true ∧ ((sl = true ∧ (((m == 0) = false ∧ b = false) ∨ (m = 0 ∧ n = 1 ∧ b = true) ∨ (m = 0 ∧ (n == 1) = false ∧ b = false))) ∨
      (sl = false ∧ ((m = 0 ∧ b = true) ∨ ((m == 0) = false ∧ (m == 1) = false ∧ b = false) ∨ (m = 1 ∧ cs = true ∧ b = true) ∨ (m = 1 ∧ cs = false ∧ cz = true ∧ b = true) ∨ (m = 1 ∧ cs = false ∧ cz = false ∧ b = false))))))) := by
    subst HH
    by_cases a1 : s.size < 1
    · exact Or.inl ⟨a1, by rw [decide_eq_false (by omega)]; rfl⟩
    · by_cases a2 : 40 < s.size
      · exact Or.inr (Or.inl ⟨a2, by rw [decide_eq_false (by omega)]; rfl⟩)
      · refine Or.inr (Or.inr ⟨by omega, ?_⟩)
        rw [decide_eq_true (p := 1 ≤ s.size ∧ s.size ≤ 40) (by omega)]
        cases on with
        | false => exact Or.inl ⟨rfl, rfl⟩
        | true =>
          refine Or.inr ⟨rfl, ?_⟩
          cases sl with
          | true =>
            refine Or.inl ⟨rfl, ?_⟩
            by_cases b1 : m = 0
            · by_cases b2 : n = 1
              · exact Or.inr (Or.inl ⟨b1, b2, by rw [b1, b2]; rfl⟩)
              · exact Or.inr (Or.inr ⟨b1, beq_eq_false_iff_ne.2 b2, by rw [b1, decide_eq_false b2]; rfl⟩)
            · exact Or.inl ⟨beq_eq_false_iff_ne.2 b1, by rw [decide_eq_false b1]; rfl⟩
          | false =>
            refine Or.inr ⟨rfl, ?_⟩
            by_cases b1 : m = 0
            · exact Or.inl ⟨b1, by rw [b1]; rfl⟩
            · by_cases b2 : m = 1
              · cases cs with
                | true => exact Or.inr (Or.inr (Or.inl ⟨b2, rfl, by rw [b2]; rfl⟩))
                | false =>
                  cases cz with
                  | true => exact Or.inr (Or.inr (Or.inr (Or.inl ⟨b2, rfl, rfl, by rw [b2]; rfl⟩)))
                  | false => exact Or.inr (Or.inr (Or.inr (Or.inr ⟨b2, rfl, rfl, by rw [b2]; rfl⟩)))
              · exact Or.inr (Or.inl ⟨beq_eq_false_iff_ne.2 b1, beq_eq_false_iff_ne.2 b2, by rw [decide_eq_false b1, decide_eq_false b2]; rfl⟩)
  clear HH
  rcases hz with ⟨a1, rfl⟩ | ⟨a2, rfl⟩ | ⟨⟨a1, a2⟩, ⟨rfl, rfl⟩ | ⟨rfl, ⟨rfl, ⟨m1, rfl⟩ | ⟨rfl, rfl, rfl⟩ | ⟨rfl, n1, rfl⟩⟩ | ⟨rfl, ⟨rfl, rfl⟩ | ⟨m1, m2, rfl⟩ | ⟨rfl, rfl, rfl⟩ | ⟨rfl, rfl, rfl, rfl⟩ | ⟨rfl, rfl, rfl, rfl⟩⟩⟩⟩
  · go_enter Tryz.func12, Tryz.ntmps12
    go_wp2
    go_ret
    exact ⟨rfl, by repeat (first | exact Below.refl _ _ | refine below_drewN ?_ _ | refine Below.drew ?_)⟩
  · go_enter Tryz.func12, Tryz.ntmps12
    go_wp2
    go_ret
    exact ⟨rfl, by repeat (first | exact Below.refl _ _ | refine below_drewN ?_ _ | refine Below.drew ?_)⟩
  · go_enter Tryz.func12, Tryz.ntmps12
    go_wp2_with fail
    refine (only_to s _ S _ false _ hs hS (Lib.hid rfl) H1).mono ?_
    rintro e w1 ⟨rfl, rfl⟩
    go_wp2
    go_ret
    exact ⟨rfl, by repeat (first | exact Below.refl _ _ | refine below_drewN ?_ _ | refine Below.drew ?_)⟩
  · go_enter Tryz.func12, Tryz.ntmps12
    go_wp2_with fail
    refine (only_to s _ S _ true _ hs hS (Lib.hid rfl) H1).mono ?_
    rintro e w1 ⟨rfl, rfl⟩
    go_wp2_with fail
    refine (cnt_to s S 37 _ _ hS H3).mono ?_
    rintro e w1 ⟨rfl, rfl⟩
    go_wp2_with fail
    refine (con1_to s S 47 true _ hS H2).mono ?_
    rintro e w1 ⟨rfl, rfl⟩
    go_wp2
    go_ret
    exact ⟨rfl, by repeat (first | exact Below.refl _ _ | refine below_drewN ?_ _ | refine Below.drew ?_)⟩
  · go_enter Tryz.func12, Tryz.ntmps12
    go_wp2_with fail
    refine (only_to s _ S _ true _ hs hS (Lib.hid rfl) H1).mono ?_
    rintro e w1 ⟨rfl, rfl⟩
    go_wp2_with fail
    refine (cnt_to s S 37 _ _ hS H3).mono ?_
    rintro e w1 ⟨rfl, rfl⟩
    go_wp2_with fail
    refine (con1_to s S 47 true _ hS H2).mono ?_
    rintro e w1 ⟨rfl, rfl⟩
    go_wp2_with fail
    refine (cnt_to s S 47 _ _ hS H4).mono ?_
    rintro e w1 ⟨rfl, rfl⟩
    go_wp2
    go_ret
    exact ⟨rfl, by repeat (first | exact Below.refl _ _ | refine below_drewN ?_ _ | refine Below.drew ?_)⟩
  · go_enter Tryz.func12, Tryz.ntmps12
    go_wp2_with fail
    refine (only_to s _ S _ true _ hs hS (Lib.hid rfl) H1).mono ?_
    rintro e w1 ⟨rfl, rfl⟩
    go_wp2_with fail
    refine (cnt_to s S 37 _ _ hS H3).mono ?_
    rintro e w1 ⟨rfl, rfl⟩
    go_wp2_with fail
    refine (con1_to s S 47 true _ hS H2).mono ?_
    rintro e w1 ⟨rfl, rfl⟩
    go_wp2_with fail
    refine (cnt_to s S 47 _ _ hS H4).mono ?_
    rintro e w1 ⟨rfl, rfl⟩
    go_wp2
    go_ret
    exact ⟨rfl, by repeat (first | exact Below.refl _ _ | refine below_drewN ?_ _ | refine Below.drew ?_)⟩
  · go_enter Tryz.func12, Tryz.ntmps12
    go_wp2_with fail
    refine (only_to s _ S _ true _ hs hS (Lib.hid rfl) H1).mono ?_
    rintro e w1 ⟨rfl, rfl⟩
    go_wp2_with fail
    refine (cnt_to s S 37 _ _ hS H3).mono ?_
    rintro e w1 ⟨rfl, rfl⟩
    go_wp2_with fail
    refine (con1_to s S 47 false _ hS H2).mono ?_
    rintro e w1 ⟨rfl, rfl⟩
    go_wp2
    go_ret
    exact ⟨rfl, by repeat (first | exact Below.refl _ _ | refine below_drewN ?_ _ | refine Below.drew ?_)⟩
  · go_enter Tryz.func12, Tryz.ntmps12
    go_wp2_with fail
    refine (only_to s _ S _ true _ hs hS (Lib.hid rfl) H1).mono ?_
    rintro e w1 ⟨rfl, rfl⟩
    go_wp2_with fail
    refine (cnt_to s S 37 _ _ hS H3).mono ?_
    rintro e w1 ⟨rfl, rfl⟩
    go_wp2_with fail
    refine (con1_to s S 47 false _ hS H2).mono ?_
    rintro e w1 ⟨rfl, rfl⟩
    go_wp2
    go_ret
    exact ⟨rfl, by repeat (first | exact Below.refl _ _ | refine below_drewN ?_ _ | refine Below.drew ?_)⟩
  · go_enter Tryz.func12, Tryz.ntmps12
    go_wp2_with fail
    refine (only_to s _ S _ true _ hs hS (Lib.hid rfl) H1).mono ?_
    rintro e w1 ⟨rfl, rfl⟩
    go_wp2_with fail
    refine (cnt_to s S 37 _ _ hS H3).mono ?_
    rintro e w1 ⟨rfl, rfl⟩
    go_wp2_with fail
    refine (con1_to s S 47 false _ hS H2).mono ?_
    rintro e w1 ⟨rfl, rfl⟩
    go_wp2_with fail
    refine (con_to s _ S _ true _ (HM.out.stays (by repeat (first | exact Below.refl _ _ | refine below_drewN ?_ _ | refine Below.drew ?_))) hs hS (Lib.hid rfl) H5).mono ?_
    rintro e w1 ⟨rfl, rfl⟩
    go_wp2
    go_ret
    exact ⟨rfl, by repeat (first | exact Below.refl _ _ | refine below_drewN ?_ _ | refine Below.drew ?_)⟩
  · go_enter Tryz.func12, Tryz.ntmps12
    go_wp2_with fail
    refine (only_to s _ S _ true _ hs hS (Lib.hid rfl) H1).mono ?_
    rintro e w1 ⟨rfl, rfl⟩
    go_wp2_with fail
    refine (cnt_to s S 37 _ _ hS H3).mono ?_
    rintro e w1 ⟨rfl, rfl⟩
    go_wp2_with fail
    refine (con1_to s S 47 false _ hS H2).mono ?_
    rintro e w1 ⟨rfl, rfl⟩
    go_wp2_with fail
    refine (con_to s _ S _ false _ (HM.out.stays (by repeat (first | exact Below.refl _ _ | refine below_drewN ?_ _ | refine Below.drew ?_))) hs hS (Lib.hid rfl) H5).mono ?_
    rintro e w1 ⟨rfl, rfl⟩
    go_wp2_with fail
    refine (con_to s _ S _ true _ (HM.out.stays (by repeat (first | exact Below.refl _ _ | refine below_drewN ?_ _ | refine Below.drew ?_))) hs hS (Lib.hid rfl) H6).mono ?_
    rintro e w1 ⟨rfl, rfl⟩
    go_wp2
    go_ret
    exact ⟨rfl, by repeat (first | exact Below.refl _ _ | refine below_drewN ?_ _ | refine Below.drew ?_)⟩
  · go_enter Tryz.func12, Tryz.ntmps12
    go_wp2_with fail
    refine (only_to s _ S _ true _ hs hS (Lib.hid rfl) H1).mono ?_
    rintro e w1 ⟨rfl, rfl⟩
    go_wp2_with fail
    refine (cnt_to s S 37 _ _ hS H3).mono ?_
    rintro e w1 ⟨rfl, rfl⟩
    go_wp2_with fail
    refine (con1_to s S 47 false _ hS H2).mono ?_
    rintro e w1 ⟨rfl, rfl⟩
    go_wp2_with fail
    refine (con_to s _ S _ false _ (HM.out.stays (by repeat (first | exact Below.refl _ _ | refine below_drewN ?_ _ | refine Below.drew ?_))) hs hS (Lib.hid rfl) H5).mono ?_
    rintro e w1 ⟨rfl, rfl⟩
    go_wp2_with fail
    refine (con_to s _ S _ false _ (HM.out.stays (by repeat (first | exact Below.refl _ _ | refine below_drewN ?_ _ | refine Below.drew ?_))) hs hS (Lib.hid rfl) H6).mono ?_
    rintro e w1 ⟨rfl, rfl⟩
    go_wp2
    go_ret
    exact ⟨rfl, by repeat (first | exact Below.refl _ _ | refine below_drewN ?_ _ | refine Below.drew ?_)⟩
end Fm
end Go.Proofs.YthefgagmjamdkaaGreatDoor
