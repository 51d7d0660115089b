/-
  OnsetLetters. (Written by gen/gen_onsk.py.)
-/
import Derived.Test.YthefgagmjamdkaaDoorOnsL
import Derived.Test.YthefgagmjamdkaaDoorBdS
import Derived.Test.YthefgagmjamdkaaDoorBdFl
namespace Go.Proofs.YthefgagmjamdkaaDoor
open Go.RowKit
namespace Ons
open Rul Rs Cel
open Ap (Grew)
theorem infoV : (Tryd.prog.info? 43).map (fun i => (i.zero, i.size, i.bytes)) = some (some (.agg #[.string ⟨#[]⟩, .int .i64 0, .int .i64 0, .int .i64 0, .int .i64 0, .int .i64 0, .int .i64 0, .int .i64 0, .int .i64 0, .int .i64 0, .string ⟨#[]⟩]), 11, 104) := by kernel_rfl
def RowR (B : Nat) (w : World) (v : Value) (L : List RV) : Prop := RowT 43 rvC 11 B w v L
theorem RowR.nil (B : Nat) (w : World) : RowR B w (.slice none 0 0) [] := RowT.nil _ _ _ _ _
theorem RowR.below {B : Nat} {w w' : World} {v : Value} {L : List RV} (h : RowR B w v L) (hb : Below w.heap.size w w') : RowR B w' v L := RowT.below h hb
theorem appV {w : World} {ops : Array Oper} {rest : List Oper} {o : Oper} {a : Act} {Q : Exit → Act → World → Prop} (hgd : o.guard = none) (s x : Operand)
    (ho : o.op = .call { callee := .builtin .append, args := #[s, x], argTypes := #[22, 22] })
    (B : Nat) (v : Value) (L : List RV) (n : Nat) (hLn : L.length = n) (hs : a.eval s = v) (hown : RowR B w v L) (y : RV) (cs : Array Value) (hcs : cs = (rvC y).toArray)
    (hx : a.eval x = .slice (some ⟨w.heap.size, 0, none⟩) 1 1) (hn : n ≤ 100000000) (hB : B ≤ w.heap.size)
    (h : ∀ w' g cap, RowR B w' (.slice (some ⟨g, 0, none⟩) (n + 1) cap) (L ++ [y]) → Grew B v w w' → (v.ownBlock = some g ∨ g = w.heap.size + 1) → wpList Tryd.prog ops Q rest (a.put o.dst (.slice (some ⟨g, 0, none⟩) (n + 1) cap)) w') :
    wpList Tryd.prog ops Q (o :: rest) a (w.alloc (.cells cs 43)) := by
  subst hLn
  exact appR rvC_len rvC_one (by decide) (by decide) Tryd.underlying22 infoV rfl hgd s x ho B v L hs hown y cs 43 hcs hx hn hB h
/-- A value reads as a list of marks. -/
def BoolV (w : World) (v : Value) (B : List Bool) : Prop := ∃ a n c, v = .slice a n c ∧ n = B.length ∧ ∀ (j : Nat) (hj : j < B.length), ∃ b off, a = some ⟨b, off, none⟩ ∧ b < w.heap.size ∧ w.cell? ⟨b, off + j, none⟩ = some (.bool B[j])
section
open Go.Deep Go.ChangeShapes Go.WideShapes
variable {H : Type} {enc : TypeId × Value → H} {W : World} {base : Nat} {spare : Nat → Bool} {held : Bool}
theorem open_ints2 {fuel : Nat} {v : Value} {x : DataW H × List MemPlace} (h : DataW.trod enc Tryd.prog W base spare held fuel 50 [v] = some x) : ∃ L, Rcv.IntV W v L ∧ L.length ≤ maxLen := by
  obtain ⟨L, hL, _⟩ := Rct.open_ints h
  refine ⟨L, hL, ?_⟩
  obtain ⟨a, n, c, rfl, hn, _⟩ := hL
  obtain ⟨A, n', c', e, hn', _⟩ := Flat.open_rows Tryd.underlying50 (of_decide_eq_true (by kernel_rfl)) h
  injection e with e1 e2 e3
  omega
theorem open_bools {fuel : Nat} {v : Value} {x : DataW H × List MemPlace} (h : DataW.trod enc Tryd.prog W base spare held fuel 51 [v] = some x) : ∃ L, BoolV W v L ∧ L.length ≤ maxLen := by
  obtain ⟨A, n, c, rfl, hn, hj⟩ := Flat.open_rows Tryd.underlying51 (of_decide_eq_true (by kernel_rfl)) h
  have ke : Tryd.prog.cellsOf 4 = 1 := by kernel_rfl
  rw [ke] at hj
  obtain ⟨L, hl, hL⟩ := list_of (Q := fun j (p : Bool) => ∃ b off, A = some ⟨b, off, none⟩ ∧ b < W.heap.size ∧ W.cell? ⟨b, off + j, none⟩ = some (.bool p)) n (fun j hjn => by
    obtain ⟨b, off, cs, hA, hb, hlen, hc, m, y, hy⟩ := hj j hjn
    match cs, hlen with
    | [u], _ =>
      obtain ⟨s, rfl⟩ := Flat.leaf_b Tryd.underlying4 hy
      exact ⟨s, b, off, hA, hb, by have := hc 0 _ rfl; rwa [Nat.mul_one, Nat.add_zero] at this⟩)
  exact ⟨L, ⟨A, n, c, rfl, hl.symm, fun j hj => hL j hj⟩, by omega⟩
end
/-- The law's rule. -/
def leR (y m sv : Int) (c : UInt8) : RV := ⟨[69], y, 9999, m, 1, 0, 1, 0, 1, sv, [c]⟩
theorem le_chk {y m sv : Int} {k : Nat} (hy : 1 ≤ y ∧ y ≤ 9999) (hm : 1 ≤ m ∧ m ≤ 12) (hs : sv = 0 ∨ sv = 3600) (hk : k < 26) : chkB (leR y m sv (65 + UInt8.ofNat k)) = true := by
  have h1 : nameB [69] = true := by decide +kernel
  have h2 : ∀ k, k < 26 → Fm.letB [65 + UInt8.ofNat k] = true := by decide +kernel
  have h3 : Wk.onOk 1 0 1 = true := by decide
  have h4 : ∀ m : Nat, m < 13 → 1 ≤ m → (1 : Int) ≤ Cal.mlen 2000 m ∧ (1 : Int) ≤ Cal.mlen 2001 m := by decide +kernel
  have h5 : Atf.atOk 0 1 = true := by decide +kernel
  obtain ⟨mn, rfl⟩ : ∃ mn : Nat, m = mn := ⟨m.toNat, by omega⟩
  have h6 := h4 mn (by omega) (by omega)
  have h7 : fitB y 9999 mn 1 1 = true := by
    rw [fitB, decide_eq_false (by decide), Bool.false_or]
    apply decide_eq_true
    split
    · exact h6.2
    · exact h6.1
  unfold leR chkB
  simp only [Bool.and_eq_true, decide_eq_true_eq]
  refine ⟨h1, h2 k hk, ?_, ?_, ?_, ?_, ?_, h3, h7, h5, ?_, ?_⟩ <;> omega
theorem le_res {y m : Int} (hy : 1 ≤ y ∧ y ≤ 9999) (hm : 1 ≤ m ∧ m ≤ 12) : Wk.resE y m 1 0 1 = 0 ∧ Wk.resV y m 1 0 1 = Cal.num y m 1 := by
  have hl := (Cal.mlen_bd y m)
  have h4 : 1 ≤ Cal.mlen y m := by
    have := Cal.mlen_28 (y := y) hm.1 hm.2
    omega
  have hr : Wk.rday y m 1 1 = 1 := by unfold Wk.rday; rw [if_neg (by decide)]
  have hn : Civ.numE y m (Wk.rday y m 1 1) = 0 := by rw [hr]; exact (Civ.numE_yes ⟨by omega, by omega, by omega, h4⟩).1
  have := Wk.res_0 (v := 0) (d := 1) (k := 1) (m := m) (by decide) hy hn
  rw [hr] at this
  exact ⟨this.1, by rw [this.2]; rfl⟩
theorem le_first {y m sv : Int} {c : UInt8} (hy : 1 ≤ y ∧ y ≤ 9999) (hm : 1 ≤ m ∧ m ≤ 12) : firstO (leR y m sv c) = some (Cal.num y m 1 * 86400) := by
  obtain ⟨h1, h2⟩ := le_res hy hm
  have := first_at (r := leR y m sv c) (j := 0) (fun i hi => by omega) (by show y + (0 : Nat) ≤ 9999; omega) (by show Wk.resE (y + (0 : Nat)) m 1 0 1 = 0; rw [show y + ((0 : Nat) : Int) = y by omega]; exact h1)
  rw [this]
  show some (Wk.resV (y + (0 : Nat)) m 1 0 1 * 86400 + 0) = _
  rw [show y + ((0 : Nat) : Int) = y by omega, h2, Int.add_zero]
theorem ltG_app (nm : List UInt8) (L : List RV) (r : RV) : ∀ k : Nat, k ≤ L.length → ltG nm (L ++ [r]) k = ltG nm L k
  | 0, _ => rfl
  | k + 1, h => by
    rw [ltG_succ (by rw [List.length_append]; omega), ltG_succ (by omega), ltG_app nm L r k (by omega), List.getElem_append_left (by omega)]
theorem ltG_snoc (nm : List UInt8) (L : List RV) (r : RV) : ltG nm (L ++ [r]) (L ++ [r]).length = ltO nm (ltG nm L L.length) r := by
  have : (L ++ [r]).length = L.length + 1 := by simp
  rw [this, ltG_succ (by rw [List.length_append]; simp), ltG_app nm L r L.length (Nat.le_refl _)]
  simp
theorem appLe {w : World} {ops : Array Oper} {rest : List Oper} {o : Oper} {a : Act} {Q : Exit → Act → World → Prop} (hgd : o.guard = none) (s x : Operand)
    (ho : o.op = .call { callee := .builtin .append, args := #[s, x], argTypes := #[22, 22] })
    (B : Nat) (v : Value) (L : List RV) (n : Nat) (hLn : L.length = n) (hs : a.eval s = v) (hown : RowR B w v L) (y m sv : Int) (c : UInt8)
    (hx : a.eval x = .slice (some ⟨w.heap.size, 0, none⟩) 1 1) (hn : n ≤ 100000000) (hB : B ≤ w.heap.size)
    (h : ∀ w' g cap, RowR B w' (.slice (some ⟨g, 0, none⟩) (n + 1) cap) (L ++ [leR y m sv c]) → Grew B v w w' → (v.ownBlock = some g ∨ g = w.heap.size + 1) → wpList Tryd.prog ops Q rest (a.put o.dst (.slice (some ⟨g, 0, none⟩) (n + 1) cap)) w') :
    wpList Tryd.prog ops Q (o :: rest) a (w.alloc (.cells #[.string ⟨#[69]⟩, .int .i64 y, .int .i64 9999, .int .i64 m, .int .i64 1, .int .i64 0, .int .i64 1, .int .i64 0, .int .i64 1, .int .i64 sv, .string ⟨#[c]⟩] 43)) :=
  appV hgd s x ho B v L n hLn hs hown (leR y m sv c) _ rfl hx hn hB h
/-- What the law has found says what the letter's walk has found. -/
def LeI (L : List RV) (best : Int) (want : List UInt8) : Prop := (want = [] ∧ ltG [69] L L.length = ⟨[], 0, false⟩) ∨ (want ≠ [] ∧ ltG [69] L L.length = ⟨want, best * 86400, true⟩)
theorem LeI.skip {L : List RV} {best : Int} {want : List UInt8} (h : LeI L best want) {y m : Int} {c : UInt8} : LeI (L ++ [leR y m 3600 c]) best want := by
  unfold LeI
  rw [ltG_snoc, ltO, if_neg (fun q => absurd (show (3600 : Int) = 0 from q.2) (by decide))]
  exact h
theorem LeI.set {L : List RV} {best : Int} {want : List UInt8} (h : LeI L best want) {y m n : Int} {c : UInt8} (hy : 1 ≤ y ∧ y ≤ 9999) (hm : 1 ≤ m ∧ m ≤ 12) (hn : Cal.num y m 1 = n) (hc : want = [] ∨ n < best) : LeI (L ++ [leR y m 0 c]) n [c] := by
  refine Or.inr ⟨by simp, ?_⟩
  rw [ltG_snoc, ltO, if_pos ⟨rfl, rfl⟩, le_first hy hm, hn]
  show (if _ then _ else _) = _
  rcases h with ⟨h1, h2⟩ | ⟨h1, h2⟩
  · rw [h2, if_pos (Or.inl rfl)]; rfl
  · rcases hc with hc | hc
    · exact absurd hc h1
    · rw [h2, if_pos (Or.inr (by show n * 86400 < best * 86400; omega))]; rfl
theorem LeI.keep {L : List RV} {best : Int} {want : List UInt8} (h : LeI L best want) {y m n : Int} {c : UInt8} (hy : 1 ≤ y ∧ y ≤ 9999) (hm : 1 ≤ m ∧ m ≤ 12) (hn : Cal.num y m 1 = n) (h1 : want ≠ []) (h2 : ¬ n < best) : LeI (L ++ [leR y m 0 c]) best want := by
  rcases h with ⟨q, _⟩ | ⟨_, h3⟩
  · exact absurd q h1
  · refine Or.inr ⟨h1, ?_⟩
    rw [ltG_snoc, ltO, if_pos ⟨rfl, rfl⟩, le_first hy hm, hn, h3]
    show (if _ then _ else _) = _
    rw [if_neg (by
      rintro (q | q)
      · cases q
      · have q : n * 86400 < best * 86400 := q
        omega)]
/-- Rules of the law: each is called E, and right. -/
def LeR (L : List RV) : Prop := L.all chkB = true ∧ ∀ r ∈ L, r.nm = [69] ∧ r.lt.length = 1
theorem LeR.snoc {L : List RV} (h : LeR L) {y m sv : Int} {k : Nat} (hy : 1 ≤ y ∧ y ≤ 9999) (hm : 1 ≤ m ∧ m ≤ 12) (hs : sv = 0 ∨ sv = 3600) (hk : k < 26) : LeR (L ++ [leR y m sv (65 + UInt8.ofNat k)]) := by
  refine ⟨by rw [List.all_append, h.1]; simp [le_chk hy hm hs hk], fun r hr => ?_⟩
  rcases List.mem_append.1 hr with hr | hr
  · exact h.2 r hr
  · rw [List.mem_singleton] at hr; subst hr; exact ⟨rfl, rfl⟩
theorem le_none {L : List RV} (h : ∀ r ∈ L, r.nm = [69]) : ltS [70] L = [] := by
  have : ∀ k : Nat, k ≤ L.length → ltG [70] L k = ⟨[], 0, false⟩ := fun k => by
    induction k with
    | zero => intro _; rfl
    | succ k ih =>
      intro hk
      rw [ltG_succ (by omega), ih (by omega), ltO, if_neg (by rw [h _ (List.getElem_mem (by omega))]; rintro ⟨q, _⟩; exact absurd q (by decide))]
  rw [ltS, this _ (Nat.le_refl _)]
theorem LeI.lt {L : List RV} {best : Int} {want : List UInt8} (h : LeI L best want) : ltS [69] L = want := by
  rcases h with ⟨h1, h2⟩ | ⟨h1, h2⟩
  · rw [ltS, h2, h1]
  · rw [ltS, h2]
end Ons
end Go.Proofs.YthefgagmjamdkaaDoor
