/-
  Several texts in one (EscB, EscC, Open, Strs, Txt, Row, Bld, FdA, FdB): written by bin/merge.py.
-/
import Derived.Test.YthefgagmjamdkaaGreatDoorBdH
import Derived.LoopN
import Derived.Lib.Strings
import Derived.Test.YthefgagmjamdkaaGreatDoorRows
import Derived.WalkKit
import Derived.Deep.Slices
import Derived.ChangeArms
import Derived.OpenShut
import Derived.Test.YthefgagmjamdkaaGreatDoorBdA
import Derived.Below
import Derived.Lib.Builder
import Derived.Lib.AppendStr
import Derived.Test.YthefgagmjamdkaaGreatDoorShelf
import Derived.OwnWalk
/-
  Contracts of package escape: escaped, Get. (Written by gen/gen_escb.py.)
-/
namespace Go.Proofs.YthefgagmjamdkaaGreatDoor
open Go.RowKit
namespace Esc
/-- What is meant by a byte behind a backslash. -/
def mnt (d : UInt8) : Option UInt8 := if d = 92 ∨ d = 59 ∨ d = 44 then some d else if d = 110 ∨ d = 78 then some 10 else none
def getO : Nat → List UInt8 → Option (List UInt8)
  | 0, _ => some []
  | _ + 1, [] => some []
  | f + 1, c :: S => if ctl c = true ∨ c = 59 ∨ c = 44 then none else if c = 92 then
      (match S with
       | [] => none
       | d :: S' => match mnt d with
         | none => none
         | some m => (getO f S').map (fun r => m :: r))
      else (getO f S).map (fun r => c :: r)
theorem getO_cons (f : Nat) (c : UInt8) (S : List UInt8) : getO (f + 1) (c :: S) = if ctl c = true ∨ c = 59 ∨ c = 44 then none else if c = 92 then
      (match S with
       | [] => none
       | d :: S' => match mnt d with
         | none => none
         | some m => (getO f S').map (fun r => m :: r))
      else (getO f S).map (fun r => c :: r) := rfl
/-- More fuel than signs changes nothing. -/
theorem getO_fuel : ∀ (f g : Nat) (S : List UInt8), S.length ≤ f → S.length ≤ g → getO f S = getO g S
  | 0, 0, _, _, _ => rfl
  | 0, g + 1, S, h, _ => by
    have : S = [] := List.length_eq_zero_iff.1 (by omega)
    subst this; rfl
  | f + 1, 0, S, _, h => by
    have : S = [] := List.length_eq_zero_iff.1 (by omega)
    subst this; rfl
  | f + 1, g + 1, [], _, _ => rfl
  | f + 1, g + 1, c :: S, h1, h2 => by
    rw [List.length_cons] at h1 h2
    rw [getO_cons, getO_cons]
    split
    · rfl
    · split
      · match S with
        | [] => rfl
        | d :: S' =>
          rw [List.length_cons] at h1 h2
          simp only
          rw [getO_fuel f g S' (by omega) (by omega)]
      · rw [getO_fuel f g S (by omega) (by omega)]
def getS (S : List UInt8) : Option (List UInt8) := getO S.length S
theorem get_nil : getS [] = some [] := rfl
theorem get_cons (c : UInt8) (S : List UInt8) : getS (c :: S) = if ctl c = true ∨ c = 59 ∨ c = 44 then none else if c = 92 then
      (match S with
       | [] => none
       | d :: S' => match mnt d with
         | none => none
         | some m => (getS S').map (fun r => m :: r))
      else (getS S).map (fun r => c :: r) := by
  rw [getS, List.length_cons, getO_cons]
  split
  · rfl
  · split
    · match S with
      | [] => rfl
      | d :: S' =>
        simp only
        rw [getO_fuel _ _ S' (show S'.length ≤ (d :: S').length by simp) (Nat.le_refl _)]
        rfl
    · rfl
def getR (S : List UInt8) : List UInt8 × Int := match getS S with | some r => (r, 0) | none => ([], 3)
theorem ret_ub {a a' : Int} {b b' : Bool} (h : a = a') (k : b = b') : Ending.returned (.tuple #[.int .u8 a, .bool b]) = .returned (.tuple #[.int .u8 a', .bool b']) := by rw [h, k]
/-- The byte that is meant at a place. -/
def escV (o : Option UInt8) : UInt8 × Bool := match o with | none => (0, false) | some d => match mnt d with | none => (0, false) | some m => (m, true)
theorem escV_none : escV none = (0, false) := rfl
theorem escV_some (d : UInt8) : escV (some d) = match mnt d with | none => (0, false) | some m => (m, true) := rfl
end Esc
end Go.Proofs.YthefgagmjamdkaaGreatDoor
/-
  Package escape, at the waking call's texts: Unlist.
-/
namespace Go.Proofs.YthefgagmjamdkaaGreatDoor
open Go.RowKit
namespace Esc
theorem owns_below {w w' : World} {B : Nat} {e : TypeId} {size : Nat} {v : Value} {n : Nat} {xs : List Value} (h : w.ownsRow B e size v n xs) (hb : Below w.heap.size w w') : w'.ownsRow B e size v n xs := by
  obtain ⟨hl, h0 | ⟨g, cap, cur, hv, hB, hh, r⟩⟩ := h
  · exact ⟨hl, .inl h0⟩
  · have hg : g < w.heap.size := by
      rcases Nat.lt_or_ge g w.heap.size with h1 | h1
      · exact h1
      · rw [Array.getElem?_eq_none h1] at hh
        cases hh
    exact ⟨hl, .inr ⟨g, cap, cur, hv, hB, by rw [hb.block g hg]; exact hh, r⟩⟩
theorem is : (Tryz.prog.info? 9).map (fun i => (i.zero, i.size, i.bytes)) = some (some (.string ⟨#[]⟩), 1, 16) := by kernel_rfl
theorem wk_g1 : getR [97, 92, 44, 98] = ([97, 44, 98], 0) := by decide +kernel
theorem wk_g2 : getR [99] = ([99], 0) := by decide +kernel
end Esc
end Go.Proofs.YthefgagmjamdkaaGreatDoor
/-
  Slices that came in, opened.
-/
namespace Go.Proofs.YthefgagmjamdkaaGreatDoor
open Go.RowKit Go.Deep Go.ChangeShapes Go.WideShapes
namespace Opn
/-- A slice of bools that came in. -/
def Bools (A : Option Addr) (n : Nat) (ls : Nat → Bool) (w : World) : Prop := ∀ j, j < n → ∃ b off, A = some ⟨b, off, none⟩ ∧ b < w.heap.size ∧ w.cell? ⟨b, off + j, none⟩ = some (.bool (ls j))
/-- A slice of texts that came in. -/
def Strs (A : Option Addr) (n : Nat) (ls : Nat → ByteArray) (w : World) : Prop := ∀ j, j < n → ∃ b off, A = some ⟨b, off, none⟩ ∧ b < w.heap.size ∧ w.cell? ⟨b, off + j, none⟩ = some (.string (ls j)) ∧ (ls j).size ≤ maxLen
/-- A slice of numbers that came in. -/
def Ints (A : Option Addr) (n : Nat) (ls : Nat → Int) (w : World) : Prop := ∀ j, j < n → ∃ b off, A = some ⟨b, off, none⟩ ∧ b < w.heap.size ∧ w.cell? ⟨b, off + j, none⟩ = some (.int .i64 (ls j)) ∧ (Lit.int .i64 (ls j)).wf = true
theorem cell_lt {w : World} {b off : Nat} {v : Value} (h : w.cell? ⟨b, off, none⟩ = some v) : b < w.heap.size := by
  rcases Nat.lt_or_ge b w.heap.size with hl | hl
  · exact hl
  · have e : w.cell? ⟨b, off, none⟩ = none := by
      unfold World.cell?
      rw [Array.getElem?_eq_none hl]
    rw [e] at h
    cases h
section
variable {H : Type} {enc : TypeId × Value → H} {P : Program} {W : World} {base : Nat} {held : Bool}
def boolOf : Value → Bool
  | .bool b => b
  | _ => false
theorem open_bools {t e : TypeId} {fuel : Nat} {A : Option Addr} {n c : Nat} {x : DataW H × List MemPlace} (ht : P.underlying t = some (.slice e)) (he : P.underlying e = some .bool) (hc : P.cellsOf e = 1)
    (h : DataW.trod enc P W base (fun _ => true) held fuel t [.slice A n c] = some x) : n ≤ maxLen ∧ ∃ ls, Bools A n ls W := by
  rcases open_slice1 ht hc h with ⟨hcs, _⟩ | ⟨a, len, cap, m, n', V, D, Pl, hcs, _, hl, hm, hmm, _, hi⟩
  · simp at hcs
    obtain ⟨_, rfl, _⟩ := hcs
    exact ⟨Nat.zero_le _, fun _ => false, fun j hj => by omega⟩
  · simp at hcs
    obtain ⟨rfl, rfl, rfl⟩ := hcs
    simp at hmm
    subst hmm
    refine ⟨Nat.le_trans hl hm, fun j => boolOf (V j), fun j hj => ?_⟩
    obtain ⟨h1, h2⟩ := hi j (by omega)
    obtain ⟨b, hb, _⟩ := DataW.trod_bool he h2
    simp at hb
    obtain ⟨bl, off, spot⟩ := a
    have hspot : spot = none := by simpa [Addr.add] using World.cell?_spot (hi 0 (by omega)).1
    subst hspot
    rw [Go.WideShapes.add_plain, hb] at h1
    exact ⟨bl, off, rfl, cell_lt h1, by show _ = some (Value.bool (boolOf (V j))); rw [hb]; exact h1⟩
def strOf : Value → ByteArray
  | .string s => s
  | _ => ⟨#[]⟩
def intOfV : Value → Int
  | .int _ n => n
  | _ => 0
theorem open_strs {t e : TypeId} {fuel : Nat} {A : Option Addr} {n c : Nat} {x : DataW H × List MemPlace} (ht : P.underlying t = some (.slice e)) (he : P.underlying e = some .string) (hc : P.cellsOf e = 1)
    (h : DataW.trod enc P W base (fun _ => true) held fuel t [.slice A n c] = some x) : n ≤ maxLen ∧ ∃ ls, Strs A n ls W := by
  rcases open_slice1 ht hc h with ⟨hcs, _⟩ | ⟨a, len, cap, m, n', V, D, Pl, hcs, _, hl, hm, hmm, _, hi⟩
  · simp at hcs
    obtain ⟨_, rfl, _⟩ := hcs
    exact ⟨Nat.zero_le _, fun _ => ⟨#[]⟩, fun j hj => by omega⟩
  · simp at hcs
    obtain ⟨rfl, rfl, rfl⟩ := hcs
    simp at hmm
    subst hmm
    refine ⟨Nat.le_trans hl hm, fun j => strOf (V j), fun j hj => ?_⟩
    obtain ⟨h1, h2⟩ := hi j (by omega)
    obtain ⟨b, hb, _, hwf⟩ := DataW.trod_string he h2
    simp at hb
    obtain ⟨bl, off, spot⟩ := a
    have hspot : spot = none := by simpa [Addr.add] using World.cell?_spot (hi 0 (by omega)).1
    subst hspot
    rw [Go.WideShapes.add_plain, hb] at h1
    refine ⟨bl, off, rfl, cell_lt h1, ?_, ?_⟩
    · show _ = some (Value.string (strOf (V j)))
      rw [hb]; exact h1
    · show (strOf (V j)).size ≤ maxLen
      rw [hb]; exact hwf
theorem open_ints {t e : TypeId} {fuel : Nat} {A : Option Addr} {n c : Nat} {x : DataW H × List MemPlace} (ht : P.underlying t = some (.slice e)) (he : P.underlying e = some (.int .i64)) (hc : P.cellsOf e = 1)
    (h : DataW.trod enc P W base (fun _ => true) held fuel t [.slice A n c] = some x) : n ≤ maxLen ∧ ∃ ls, Ints A n ls W := by
  rcases open_slice1 ht hc h with ⟨hcs, _⟩ | ⟨a, len, cap, m, n', V, D, Pl, hcs, _, hl, hm, hmm, _, hi⟩
  · simp at hcs
    obtain ⟨_, rfl, _⟩ := hcs
    exact ⟨Nat.zero_le _, fun _ => 0, fun j hj => by omega⟩
  · simp at hcs
    obtain ⟨rfl, rfl, rfl⟩ := hcs
    simp at hmm
    subst hmm
    refine ⟨Nat.le_trans hl hm, fun j => intOfV (V j), fun j hj => ?_⟩
    obtain ⟨h1, h2⟩ := hi j (by omega)
    obtain ⟨b, hb, _, hwf⟩ := DataW.trod_int he h2
    simp at hb
    obtain ⟨bl, off, spot⟩ := a
    have hspot : spot = none := by simpa [Addr.add] using World.cell?_spot (hi 0 (by omega)).1
    subst hspot
    rw [Go.WideShapes.add_plain, hb] at h1
    refine ⟨bl, off, rfl, cell_lt h1, ?_, ?_⟩
    · show _ = some (Value.int .i64 (intOfV (V j)))
      rw [hb]; exact h1
    · show (Lit.int .i64 (intOfV (V j))).wf = true
      rw [hb]; exact hwf
end
end Opn
end Go.Proofs.YthefgagmjamdkaaGreatDoor
/-
  The laws' own Heavy over texts that came in; the laws' Texts over a row of their like.
-/
namespace Go.Proofs.YthefgagmjamdkaaGreatDoor
open Go.RowKit
namespace Opn
theorem Strs.form {A : Option Addr} {n : Nat} {ls : Nat → ByteArray} {w : World} (h : Strs A n ls w) (hn : 0 < n) : ∃ b off, A = some ⟨b, off, none⟩ ∧ b < w.heap.size ∧ ∀ j, j < n → w.cell? ⟨b, off + j, none⟩ = some (.string (ls j)) ∧ (ls j).size ≤ maxLen := by
  obtain ⟨b, off, hA, hb, _, _⟩ := h 0 hn
  refine ⟨b, off, hA, hb, fun j hj => ?_⟩
  obtain ⟨b', off', hA', _, h1, h2⟩ := h j hj
  rw [hA] at hA'
  injection hA' with e
  injection e with e1 e2 e3
  subst e1 e2
  exact ⟨h1, h2⟩
theorem Strs.below {A : Option Addr} {n : Nat} {ls : Nat → ByteArray} {w w' : World} (h : Strs A n ls w) (hb : Below w.heap.size w w') : Strs A n ls w' := fun j hj => by
  obtain ⟨b, off, hA, hl, h1, h2⟩ := h j hj
  exact ⟨b, off, hA, Nat.lt_of_lt_of_le hl hb.size, (hb.cell (p := ⟨b, off + j, none⟩) hl).trans h1, h2⟩
set_option maxHeartbeats 3200000 in
set_option maxRecDepth 100000 in
theorem heavy_to (A : Option Addr) (n c : Nat) (ls : Nat → ByteArray) (w : World) (hn : n ≤ maxLen) (h : Strs A n ls w) :
    Calls Tryz.prog 7 #[.slice A n c] w fun e w' => ∃ b, e = .returned (.bool b) ∧ Hid (b = false → n ≤ 60 ∧ ∀ j, j < n → (ls j).size ≤ 800) ∧ Below w.heap.size w w' := by
  unfold maxLen at hn
  by_cases h60 : 60 < n
  · go_enter Tryz.func7, Tryz.ntmps7
    go_wp2
    go_ret
    exact ⟨true, rfl, Lib.hid (fun h => by cases h), Below.refl _ _⟩
  have h60' : n ≤ 60 := by omega
  clear h60
  by_cases h0 : n = 0
  · subst h0
    go_enter Tryz.func7, Tryz.ntmps7
    go_wp2
    go_loopw [3] (fun iv wr => iv = .int .i64 0 ∧ Below w.heap.size w wr) (fun _ _ => 0)
    case atStart => exact ⟨rfl, Below.refl _ _⟩
    case round =>
      obtain ⟨rfl, hb⟩ := hrel
      go_wp2
      go_ret
      exact ⟨false, rfl, Lib.hid (fun _ => ⟨by omega, fun j hj => by omega⟩), hb⟩
  obtain ⟨bk, off, rfl, hbk, hcell⟩ := h.form (by omega)
  have HC := Lib.hid hcell
  clear h hcell
  go_enter Tryz.func7, Tryz.ntmps7
  go_wp2
  go_loopw [3] (fun iv wr => ∃ k : Nat, k ≤ n ∧ iv = .int .i64 k ∧ Hid (∀ j, j < k → (ls j).size ≤ 800) ∧ Below w.heap.size w wr) (fun iv _ => n - (intOf iv).toNat)
  case atStart => exact ⟨0, Nat.zero_le _, rfl, Lib.hid (fun j hj => by omega), Below.refl _ _⟩
  case round =>
    obtain ⟨k, hk, rfl, hall, hb⟩ := hrel
    by_cases hlt : k < n
    · obtain ⟨hc, hz⟩ := HC.out k hlt
      have hc2 := (hb.cell (p := ⟨bk, off + k, none⟩) hbk).trans hc
      unfold maxLen at hz
      clear hc
      by_cases h8 : 800 < (ls k).size
      · go_wp2
        go_ret
        exact ⟨true, rfl, Lib.hid (fun h => by cases h), hb⟩
      · have h8' : (ls k).size ≤ 800 := by omega
        have HN : Hid (∀ j, j < k + 1 → (ls j).size ≤ 800) := Lib.hid (fun j hj => by
          by_cases e : j = k
          · subst e; exact h8'
          · exact hall.out j (by omega))
        clear h8
        go_wp2
        go_roundw
        case rel => exact ⟨k + 1, by omega, by go_num, HN, hb⟩
        case measure => simp [intOf]; omega
    · have HN : Hid (n ≤ 60 ∧ ∀ j, j < n → (ls j).size ≤ 800) := Lib.hid ⟨h60', fun j hj => hall.out j (by omega)⟩
      go_wp2
      go_ret
      exact ⟨false, rfl, Lib.hid (fun _ => HN.out), hb⟩
set_option maxHeartbeats 3200000 in
set_option maxRecDepth 100000 in
theorem texts_to (g bk off n c1 c : Nat) (ls : Nat → ByteArray) (w : World) (hn : n ≤ 60)
    (hg : ∀ j, j < n → w.cell? ⟨g, j, none⟩ = some (.string (ls j))) (hl : ∀ j, j < n → w.cell? ⟨bk, off + j, none⟩ = some (.string (ls j))) :
    Calls Tryz.prog 14 #[.slice (some ⟨g, 0, none⟩) n c1, .slice (some ⟨bk, off, none⟩) n c] w fun e w' => e = .returned (.bool true) ∧ ∃ m, w' = w.drewN m := by
  have HG := Lib.hid hg
  have HLL := Lib.hid hl
  clear hg hl
  go_enter Tryz.func14, Tryz.ntmps14
  go_wp2_with fail
  go_loopw [5] (fun iv wr => ∃ k : Nat, k ≤ n ∧ iv = .int .i64 k ∧ ∃ m, wr = w.drewN m) (fun iv _ => n - (intOf iv).toNat)
  case atStart => exact ⟨0, Nat.zero_le _, rfl, 0, rfl⟩
  case round =>
    obtain ⟨k, hk, rfl, m, rfl⟩ := hrel
    by_cases hlt : k < n
    · have h1 := HG.out k hlt
      have h2 := HLL.out k hlt
      go_wp2_with fail
      go_quiet (fail)
      go_wp2
      go_roundw
      case rel => exact ⟨k + 1, by omega, by go_num, _, rfl⟩
      case measure => simp [intOf]; omega
    · go_wp2
      go_ret
      exact ⟨rfl, _, rfl⟩
end Opn
end Go.Proofs.YthefgagmjamdkaaGreatDoor
/-
  Slices of texts, wherever they came from: what they read as; the laws' Texts over any two; TwinTexts.
-/
namespace Go.Proofs.YthefgagmjamdkaaGreatDoor
open Go.RowKit
namespace Opn
def sv (t : List UInt8) : Value := .string ⟨t.toArray⟩
/-- The value reads as the texts L. -/
def TxtV (w : World) (v : Value) (L : List (List UInt8)) : Prop := ∃ a n c, v = .slice a n c ∧ n = L.length ∧ ∀ (j : Nat) (hj : j < L.length), ∃ b off, a = some ⟨b, off, none⟩ ∧ b < w.heap.size ∧ w.cell? ⟨b, off + j, none⟩ = some (.string ⟨(L[j]).toArray⟩)
theorem TxtV.below {w w' : World} {v : Value} {L : List (List UInt8)} (h : TxtV w v L) (hb : Below w.heap.size w w') : TxtV w' v L := by
  obtain ⟨a, n, c, hv, hn, hc⟩ := h
  refine ⟨a, n, c, hv, hn, fun j hj => ?_⟩
  obtain ⟨b, off, ha, hl, hcell⟩ := hc j hj
  exact ⟨b, off, ha, Nat.lt_of_lt_of_le hl hb.size, (hb.cell (p := ⟨b, off + j, none⟩) hl).trans hcell⟩
theorem TxtV.form {w : World} {v : Value} {L : List (List UInt8)} (h : TxtV w v L) (h0 : 0 < L.length) : ∃ b off c, v = .slice (some ⟨b, off, none⟩) L.length c ∧ b < w.heap.size ∧ ∀ (j : Nat) (hj : j < L.length), w.cell? ⟨b, off + j, none⟩ = some (.string ⟨(L[j]).toArray⟩) := by
  obtain ⟨a, n, c, hv, rfl, hc⟩ := h
  obtain ⟨b, off, rfl, hl, _⟩ := hc 0 h0
  refine ⟨b, off, c, hv, hl, fun j hj => ?_⟩
  obtain ⟨b', off', e, _, h2⟩ := hc j hj
  injection e with e
  injection e with e1 e2
  subst e1 e2
  exact h2
theorem TxtV.nil {w : World} {v : Value} (h : TxtV w v []) : ∃ a c, v = .slice a 0 c := by
  obtain ⟨a, n, c, hv, hn, _⟩ := h
  exact ⟨a, c, by rw [hv, hn]; rfl⟩
theorem TxtV.slice {w : World} {v : Value} {L : List (List UInt8)} (h : TxtV w v L) : ∃ a c, v = .slice a L.length c := by
  obtain ⟨a, n, c, hv, rfl, _⟩ := h
  exact ⟨a, c, hv⟩
theorem TxtV.none (w : World) : TxtV w (.slice none 0 0) [] := ⟨_, _, _, rfl, rfl, fun j hj => by simp at hj⟩
theorem TxtV.of_owns {w : World} {B : Nat} {e : TypeId} {v : Value} {n : Nat} {L : List (List UInt8)} (h : w.ownsRow B e 1 v n (L.map sv)) : TxtV w v L := by
  have hl := h.1
  rw [List.length_map, Nat.mul_one] at hl
  subst hl
  by_cases h0 : L.length = 0
  · have hL : L = [] := List.length_eq_zero_iff.1 h0
    subst hL
    rcases h.2 with ⟨hv, _⟩ | ⟨g, cap, cur, hv, _⟩
    · exact ⟨_, _, _, hv, rfl, fun j hj => by simp at hj⟩
    · exact ⟨_, _, _, hv, rfl, fun j hj => by simp at hj⟩
  · obtain ⟨g, cap, hv, _, hg⟩ := h.form (by omega)
    subst hv
    refine ⟨_, _, _, rfl, rfl, fun j hj => ⟨g, 0, rfl, hg, ?_⟩⟩
    rw [Nat.zero_add, h.cellAt j (by omega), List.getElem?_map, List.getElem?_eq_getElem hj]
    rfl
/-- The texts of a slice that came in. -/
def lst (ls : Nat → ByteArray) (n : Nat) : List (List UInt8) := (List.range n).map (fun j => (ls j).data.toList)
theorem lst_len (ls : Nat → ByteArray) (n : Nat) : (lst ls n).length = n := by simp [lst]
theorem lst_at (ls : Nat → ByteArray) (n j : Nat) (hj : j < (lst ls n).length) : (lst ls n)[j] = (ls j).data.toList := by simp [lst]
theorem back_str (s : ByteArray) : (⟨s.data.toList.toArray⟩ : ByteArray) = s := ByteArray.ext (by simp)
theorem TxtV.of_strs {w : World} {A : Option Addr} {n c : Nat} {ls : Nat → ByteArray} (h : Strs A n ls w) : TxtV w (.slice A n c) (lst ls n) := by
  refine ⟨A, n, c, rfl, (lst_len ls n).symm, fun j hj => ?_⟩
  obtain ⟨b, off, hA, hb, h1, _⟩ := h j (by rw [lst_len] at hj; exact hj)
  exact ⟨b, off, hA, hb, by rw [h1, lst_at, back_str]⟩
theorem TxtV.drew {w : World} {v : Value} {L : List (List UInt8)} (h : TxtV w v L) (m : Nat) : TxtV (w.drewN m) v L := h
theorem sb_ne {A B : List UInt8} (h : A ≠ B) : (⟨A.toArray⟩ : ByteArray) ≠ ⟨B.toArray⟩ := fun e => h (by injection e with e; injection e)
set_option maxHeartbeats 3200000 in
set_option maxRecDepth 100000 in
theorem texts_any (v u : Value) (L M : List (List UInt8)) (w : World) (hv : TxtV w v L) (hu : TxtV w u M) (hL : L.length ≤ 1000000) (hM : M.length ≤ 1000000) :
    Calls Tryz.prog 14 #[v, u] w fun e w' => ∃ b, e = .returned (.bool b) ∧ Hid (b = decide (L = M)) ∧ ∃ m, w' = w.drewN m := by
  by_cases hlen : L.length = M.length
  · by_cases h0 : L.length = 0
    · have e1 : L = [] := List.length_eq_zero_iff.1 h0
      have e2 : M = [] := List.length_eq_zero_iff.1 (by omega)
      subst e1 e2
      obtain ⟨a, c, rfl⟩ := hv.nil
      obtain ⟨a2, c2, rfl⟩ := hu.nil
      clear hv hu hlen h0 hL hM
      go_enter Tryz.func14, Tryz.ntmps14
      go_wp2_with fail
      go_loopw [5] (fun iv wr => iv = .int .i64 0 ∧ wr = w) (fun _ _ => 0)
      case atStart => exact ⟨rfl, rfl⟩
      case round =>
        obtain ⟨rfl, rfl⟩ := hrel
        go_wp2
        go_ret
        exact ⟨true, rfl, Lib.hid (by simp), 0, rfl⟩
    · obtain ⟨b1, o1, c1, rfl, _, k1⟩ := hv.form (by omega)
      obtain ⟨b2, o2, c2, rfl, _, k2⟩ := hu.form (by omega)
      obtain ⟨n, hn⟩ : ∃ n, L.length = n := ⟨_, rfl⟩
      have K1 : Hid (∀ (j : Nat) (hj : j < L.length), w.cell? ⟨b1, o1 + j, Option.none⟩ = some (.string ⟨(L[j]).toArray⟩)) := Lib.hid k1
      have K2 : Hid (∀ (j : Nat) (hj : j < M.length), w.cell? ⟨b2, o2 + j, Option.none⟩ = some (.string ⟨(M[j]).toArray⟩)) := Lib.hid k2
      have HN := Lib.hid hn
      have HM : Hid (M.length = n) := Lib.hid (hlen ▸ hn)
      rw [← hlen, hn]
      rw [hn] at hL
      clear k1 k2 hv hu h0 hM hlen hn
      go_enter Tryz.func14, Tryz.ntmps14
      go_wp2_with fail
      go_loopw [5] (fun iv wr => ∃ k : Nat, k ≤ n ∧ iv = .int .i64 k ∧ Hid (L.take k = M.take k) ∧ ∃ m, wr = w.drewN m) (fun iv _ => n - (intOf iv).toNat)
      case atStart => exact ⟨0, Nat.zero_le _, rfl, Lib.hid rfl, 0, rfl⟩
      case round =>
        obtain ⟨k, hk, rfl, hT, m, rfl⟩ := hrel
        by_cases hlt : k < n
        · have h1L : k < L.length := by rw [HN.out]; exact hlt
          have h1M : k < M.length := by rw [HM.out]; exact hlt
          have g1 := K1.out k h1L
          have g2 := K2.out k h1M
          by_cases he : L[k] = M[k]
          · have HT : Hid (L.take (k + 1) = M.take (k + 1)) := Lib.hid (by rw [List.take_succ_eq_append_getElem h1L, List.take_succ_eq_append_getElem h1M, hT.out, he])
            rw [← he] at g2
            obtain ⟨X, hX⟩ : ∃ X : ByteArray, ⟨(L[k]).toArray⟩ = X := ⟨_, rfl⟩
            rw [hX] at g1 g2
            clear he h1L h1M hX
            go_wp2_with fail
            go_quiet (fail)
            go_wp2
            go_roundw
            case rel => exact ⟨k + 1, by omega, by go_num, HT, m + nq, by first | rfl | rw [World.drewN_drewN]⟩
            case measure => simp [intOf]; omega
          · have HF : Hid (decide (L = M) = false) := Lib.hid (decide_eq_false (fun e => he (by subst e; rfl)))
            have hne := sb_ne he
            obtain ⟨X, hX⟩ : ∃ X : ByteArray, ⟨(L[k]).toArray⟩ = X := ⟨_, rfl⟩
            obtain ⟨Y, hY⟩ : ∃ Y : ByteArray, ⟨(M[k]).toArray⟩ = Y := ⟨_, rfl⟩
            rw [hX] at g1 hne
            rw [hY] at g2 hne
            have hb1 : (X.toList == Y.toList) = false := beq_eq_false_iff_ne.2 (fun e => hne (ByteArray.ext (Array.toList_inj.1 (by rw [← Lib.toList_data, ← Lib.toList_data, e]))))
            clear he h1L h1M hX hY hne
            go_wp2_with fail
            go_quiet (fail)
            go_wp2
            go_ret
            exact ⟨false, rfl, Lib.hid HF.out.symm, m + nq, by first | rfl | rw [World.drewN_drewN]⟩
        · have hkn : k = n := by omega
          subst hkn
          have HF : Hid (decide (L = M) = true) := Lib.hid (decide_eq_true (by have := hT.out; rwa [List.take_of_length_le (by rw [HN.out]; exact Nat.le_refl _), List.take_of_length_le (by rw [HM.out]; exact Nat.le_refl _)] at this))
          go_wp2
          go_ret
          exact ⟨true, rfl, Lib.hid HF.out.symm, _, rfl⟩
  · obtain ⟨a, c, rfl⟩ := hv.slice
    obtain ⟨a2, c2, rfl⟩ := hu.slice
    have HF : Hid (decide (L = M) = false) := Lib.hid (decide_eq_false (fun e => hlen (by rw [e])))
    obtain ⟨n, hn⟩ : ∃ n, L.length = n := ⟨_, rfl⟩
    obtain ⟨n2, hn2⟩ : ∃ n2, M.length = n2 := ⟨_, rfl⟩
    rw [hn] at hL hlen ⊢
    rw [hn2] at hM hlen ⊢
    have hne : ((n : Int) == (n2 : Int)) = false := beq_eq_false_iff_ne.2 (by omega)
    have hne2 : ((n : Int) != (n2 : Int)) = true := by rw [bne, hne]; rfl
    clear hv hu hn hn2
    go_enter Tryz.func14, Tryz.ntmps14
    go_wp2
    go_ret
    exact ⟨false, rfl, Lib.hid HF.out.symm, 0, rfl⟩
set_option maxHeartbeats 3200000 in
set_option maxRecDepth 100000 in
/-- TwinTexts: the same texts. -/
theorem twint_to (A : Option Addr) (n c : Nat) (ls : Nat → ByteArray) (w : World) (hn : n ≤ 60) (h : Strs A n ls w) :
    Calls Tryz.prog 8 #[.slice A n c] w fun e w' => ∃ v, e = .returned v ∧ TxtV w' v (lst ls n) ∧ Below w.heap.size w w' := by
  obtain ⟨i0, hi, hz0, hz1, hz2⟩ := info_parts Esc.is
  by_cases h0 : n = 0
  · subst h0
    by_cases hA : A = none
    · subst hA
      go_enter Tryz.func8, Tryz.ntmps8
      go_wp2
      go_ret
      exact ⟨_, rfl, TxtV.none _, Below.refl _ _⟩
    · obtain ⟨ad, rfl⟩ : ∃ ad, A = some ad := Option.ne_none_iff_exists'.1 hA
      go_enter Tryz.func8, Tryz.ntmps8
      go_wp2_with (at_builtin; refine wpList_append_own _ rfl _ _ 31 rfl w.heap.size 9 i0 (.string ⟨#[]⟩) 1 16 (by kernel_rfl) hi hz0 hz1 hz2 rfl (by decide) _ _ _ rfl (World.ownsRow_nil w _ _ _) ad 0 c [] rfl rfl ?d1 ?d2 ?d3 ?d4 ?d5 ?_)
      case d1 => intro j u hj; simp at hj
      case d2 => intro u hu; simp at hu
      case d3 => unfold maxLen; omega
      case d4 => omega
      case d5 => omega
      intro v' w5 r3 g3 hne
      have hb5 : Below w.heap.size w w5 := (Below.refl _ _).grown g3 (Nat.le_refl _) (fun j hj => by simp [Value.ownBlock] at hj)
      have hT : TxtV w5 v' (lst ls 0) := TxtV.of_owns (L := []) (by simpa using r3)
      clear r3 g3 hne
      go_wp2
      go_ret
      exact ⟨_, rfl, hT, hb5⟩
  · obtain ⟨bk, off, rfl, hbk, hcell⟩ := h.form (by omega)
    have HC := Lib.hid hcell
    clear h hcell
    go_enter Tryz.func8, Tryz.ntmps8
    go_wp2_with (at_builtin; refine wpList_append_own _ rfl _ _ 31 rfl w.heap.size 9 i0 (.string ⟨#[]⟩) 1 16 (by kernel_rfl) hi hz0 hz1 hz2 rfl (by decide) _ _ _ rfl (World.ownsRow_nil w _ _ _) ⟨bk, off, none⟩ n c ((lst ls n).map sv) rfl ?d0 ?d1 ?d2 ?d3 ?d4 ?d5 ?_)
    case d0 => rw [List.length_map, lst_len, Nat.mul_one]
    case d1 =>
      intro j u hj
      rw [List.getElem?_map] at hj
      have hj2 : j < n := by
        rcases Nat.lt_or_ge j n with h | h
        · exact h
        · rw [List.getElem?_eq_none (by rw [lst_len]; exact h)] at hj; cases hj
      rw [List.getElem?_eq_getElem (by rw [lst_len]; exact hj2), lst_at] at hj
      injection hj with hj
      subst hj
      have := (HC.out j hj2).1
      rw [show (⟨bk, off, none⟩ : Addr).add j = ⟨bk, off + j, none⟩ from by simp [Addr.add], this, sv, back_str]
    case d2 =>
      intro u hu
      obtain ⟨t, _, rfl⟩ := List.mem_map.1 hu
      rfl
    case d3 => unfold maxLen; omega
    case d4 => omega
    case d5 => omega
    intro v' w5 r3 g3 hne
    have hb5 : Below w.heap.size w w5 := (Below.refl _ _).grown g3 (Nat.le_refl _) (fun j hj => by simp [Value.ownBlock] at hj)
    have hT : TxtV w5 v' (lst ls n) := TxtV.of_owns (L := lst ls n) (by simpa using r3)
    clear r3 g3 hne
    go_wp2
    go_ret
    exact ⟨_, rfl, hT, hb5⟩
end Opn
end Go.Proofs.YthefgagmjamdkaaGreatDoor
/-
  Rows of bytes and of texts that a call owns: append, cut to nothing, made a text; each keeps the other.
-/
namespace Go.Proofs.YthefgagmjamdkaaGreatDoor
open Go.RowKit
namespace Rws
open Opn (sv TxtV)
open Esc (bv)
def RowB (B : Nat) (w : World) (v : Value) (P : List UInt8) : Prop := w.ownsRow B 5 1 v P.length (P.map bv)
def RowS (B : Nat) (w : World) (v : Value) (L : List (List UInt8)) : Prop := w.ownsRow B 9 1 v L.length (L.map sv)
theorem RowB.nil (B : Nat) (w : World) : RowB B w (.slice none 0 0) [] := World.ownsRow_nil _ _ _ _
theorem RowS.nil (B : Nat) (w : World) : RowS B w (.slice none 0 0) [] := World.ownsRow_nil _ _ _ _
theorem RowB.below {B : Nat} {w w' : World} {v : Value} {P : List UInt8} (h : RowB B w v P) (hb : Below w.heap.size w w') : RowB B w' v P := Esc.owns_below h hb
theorem RowS.below {B : Nat} {w w' : World} {v : Value} {P : List (List UInt8)} (h : RowS B w v P) (hb : Below w.heap.size w w') : RowS B w' v P := Esc.owns_below h hb
theorem RowS.txt {B : Nat} {w : World} {v : Value} {L : List (List UInt8)} (h : RowS B w v L) : TxtV w v L := TxtV.of_owns h
theorem RowB.cases {B : Nat} {w : World} {v : Value} {P : List UInt8} (h : RowB B w v P) : (v = .slice none 0 0 ∧ P = []) ∨ ∃ g cap, v = .slice (some ⟨g, 0, none⟩) P.length cap := by
  rcases h.2 with ⟨h1, h2⟩ | ⟨g, cap, cur, hv, _⟩
  · exact Or.inl ⟨h1, List.length_eq_zero_iff.1 h2⟩
  · exact Or.inr ⟨g, cap, hv⟩
theorem RowS.cases {B : Nat} {w : World} {v : Value} {P : List (List UInt8)} (h : RowS B w v P) : (v = .slice none 0 0 ∧ P = []) ∨ ∃ g cap, v = .slice (some ⟨g, 0, none⟩) P.length cap := by
  rcases h.2 with ⟨h1, h2⟩ | ⟨g, cap, cur, hv, _⟩
  · exact Or.inl ⟨h1, List.length_eq_zero_iff.1 h2⟩
  · exact Or.inr ⟨g, cap, hv⟩
/-- Rows of unlike elements lie in unlike blocks. -/
theorem apart {w : World} {B B' : Nat} {e e' : TypeId} {s s' : Nat} {v v' : Value} {n n' : Nat} {xs xs' : List Value} (h : w.ownsRow B e s v n xs) (h' : w.ownsRow B' e' s' v' n' xs') (hne : e ≠ e') : v.ownBlock = none ∨ v.ownBlock ≠ v'.ownBlock := by
  rcases h.2 with ⟨rfl, _⟩ | ⟨g, cap, cur, rfl, _, hg, _⟩
  · exact Or.inl rfl
  · refine Or.inr ?_
    rcases h'.2 with ⟨rfl, _⟩ | ⟨g', cap', cur', rfl, _, hg', _⟩
    · simp [Value.ownBlock]
    · intro e
      simp only [Value.ownBlock, Option.some.injEq] at e
      subst e
      rw [hg] at hg'
      injection hg' with e
      injection e with _ e _
      exact hne e
/-- What an append leaves: what lay below stands; rows of other elements stand. -/
structure Grew (B : Nat) (e : TypeId) (w w' : World) : Prop where
  below : ∀ (B0 : Nat) (W0 : World), B0 ≤ B → Below B0 W0 w → B0 ≤ w.heap.size → Below B0 W0 w'
  other : ∀ (B' : Nat) (e' : TypeId) (s : Nat) (v : Value) (n : Nat) (xs : List Value), e' ≠ e → w.ownsRow B' e' s v n xs → w'.ownsRow B' e' s v n xs
  size : w.heap.size ≤ w'.heap.size
theorem grew_of {B : Nat} {e : TypeId} {w w' : World} {v : Value} {n : Nat} {xs : List Value} {o : Obj} (hown : w.ownsRow B e 1 v n xs) (hg : (w.alloc o).grownBy w' v.ownBlock) : Grew B e w w' where
  below := fun B0 W0 hB hb hw => (hb.alloc hw _).grown hg (by simp; omega) (fun k hk => Nat.le_trans hB (hown.lt k hk).1)
  other := fun B' e' s v' n' xs' hne h' => (h'.alloc o).kept hg (apart h' hown hne)
  size := Nat.le_trans (by simp) hg.size
theorem appB {w : World} {ops : Array Oper} {rest : List Oper} {o : Oper} {a : Act} {Q : Exit → Act → World → Prop} (hgd : o.guard = none) (s x : Operand)
    (ho : o.op = .call { callee := .builtin .append, args := #[s, x], argTypes := #[93, 93] })
    (B : Nat) (v : Value) (P : List UInt8) (hs : a.eval s = v) (hown : RowB B w v P) (c : UInt8) (hx : a.eval x = .slice (some ⟨w.heap.size, 0, none⟩) 1 1)
    (hlen : P.length ≤ 1000000000) (hB : B ≤ w.heap.size)
    (h : ∀ w' g cap, RowB B w' (.slice (some ⟨g, 0, none⟩) (P.length + 1) cap) (P ++ [c]) → Grew B 5 w w' → wpList Tryz.prog ops Q rest (a.put o.dst (.slice (some ⟨g, 0, none⟩) (P.length + 1) cap)) w') :
    wpList Tryz.prog ops Q (o :: rest) a (w.alloc (.cells #[.int .u8 (c.toNat : Int)] 5)) := by
  obtain ⟨i0, hi0, hz0, hz1, hz2⟩ := info_parts Esc.iu
  refine wpList_append_own _ hgd s x 93 ho B 5 i0 (.int .u8 0) 1 1 (by kernel_rfl) hi0 hz0 hz1 hz2 rfl (by decide) v P.length _ hs (hown.alloc _) ⟨w.heap.size, 0, none⟩ 1 1 [.int .u8 (c.toNat : Int)] hx rfl ?_ ?_ (by unfold maxLen; omega) (by omega) (by simp; omega) ?_
  · intro j u hj
    match j, hj with
    | 0, hj =>
      simp at hj; subst hj
      rw [show (⟨w.heap.size, 0, none⟩ : Addr).add 0 = ⟨w.heap.size, 0, none⟩ from by simp [Addr.add], World.cell?_alloc_new]
      rfl
  · intro u hu; simp at hu; subst hu; rfl
  · intro v' w' r3 g3 hne
    have r4 : RowB B w' v' (P ++ [c]) := by
      unfold RowB
      rw [List.length_append, List.map_append]
      exact r3
    rcases r4.cases with ⟨_, e⟩ | ⟨g, cap, rfl⟩
    · simp at e
    · rw [List.length_append] at r4
      rw [List.length_append]
      exact h w' g cap r4 (grew_of hown g3)
theorem appS {w : World} {ops : Array Oper} {rest : List Oper} {o : Oper} {a : Act} {Q : Exit → Act → World → Prop} (hgd : o.guard = none) (s x : Operand)
    (ho : o.op = .call { callee := .builtin .append, args := #[s, x], argTypes := #[31, 31] })
    (B : Nat) (v : Value) (L : List (List UInt8)) (hs : a.eval s = v) (hown : RowS B w v L) (t : List UInt8) (y : ByteArray) (hy : y = ⟨t.toArray⟩) (hx : a.eval x = .slice (some ⟨w.heap.size, 0, none⟩) 1 1)
    (hlen : L.length ≤ 1000000000) (hB : B ≤ w.heap.size)
    (h : ∀ w' g cap, RowS B w' (.slice (some ⟨g, 0, none⟩) (L.length + 1) cap) (L ++ [t]) → Grew B 9 w w' → wpList Tryz.prog ops Q rest (a.put o.dst (.slice (some ⟨g, 0, none⟩) (L.length + 1) cap)) w') :
    wpList Tryz.prog ops Q (o :: rest) a (w.alloc (.cells #[.string y] 9)) := by
  obtain ⟨i0, hi0, hz0, hz1, hz2⟩ := info_parts Esc.is
  refine wpList_append_own _ hgd s x 31 ho B 9 i0 (.string ⟨#[]⟩) 1 16 (by kernel_rfl) hi0 hz0 hz1 hz2 rfl (by decide) v L.length _ hs (hown.alloc _) ⟨w.heap.size, 0, none⟩ 1 1 [.string y] hx rfl ?_ ?_ (by unfold maxLen; omega) (by omega) (by simp; omega) ?_
  · intro j u hj
    match j, hj with
    | 0, hj =>
      simp at hj; subst hj
      rw [show (⟨w.heap.size, 0, none⟩ : Addr).add 0 = ⟨w.heap.size, 0, none⟩ from by simp [Addr.add], World.cell?_alloc_new]
      rfl
  · intro u hu; simp at hu; subst hu; rfl
  · intro v' w' r3 g3 hne
    have r4 : RowS B w' v' (L ++ [t]) := by
      unfold RowS
      rw [List.length_append, List.map_append]
      subst hy
      exact r3
    rcases r4.cases with ⟨_, e⟩ | ⟨g, cap, rfl⟩
    · simp at e
    · rw [List.length_append] at r4
      rw [List.length_append]
      exact h w' g cap r4 (grew_of hown g3)
theorem grew_of0 {B : Nat} {e : TypeId} {w w' : World} {v : Value} {n : Nat} {xs : List Value} (hown : w.ownsRow B e 1 v n xs) (hg : w.grownBy w' v.ownBlock) : Grew B e w w' where
  below := fun _ _ hB hb hw => hb.grown hg hw (fun k hk => Nat.le_trans hB (hown.lt k hk).1)
  other := fun _ _ _ _ _ _ hne h' => h'.kept hg (apart h' hown hne)
  size := hg.size
/-- append(b, s...). -/
theorem appT {w : World} {ops : Array Oper} {rest : List Oper} {o : Oper} {a : Act} {Q : Exit → Act → World → Prop} (hgd : o.guard = none) (sl x : Operand)
    (ho : o.op = .call { callee := .builtin .append, args := #[sl, x], argTypes := #[93, 9] })
    (B : Nat) (v : Value) (P : List UInt8) (hs : a.eval sl = v) (hown : RowB B w v P) (y : ByteArray) (hx : a.eval x = .string y)
    (hlen : P.length + y.size ≤ 1000000000) (hB : B ≤ w.heap.size)
    (h : ∀ v' w', RowB B w' v' (P ++ y.data.toList) → Grew B 5 w w' → wpList Tryz.prog ops Q rest (a.put o.dst v') w') :
    wpList Tryz.prog ops Q (o :: rest) a w := by
  obtain ⟨i0, hi0, hz0, hz1, hz2⟩ := info_parts Esc.iu
  refine Lib.wpList_append_own_string w hgd sl x 93 9 ho B 5 i0 (by kernel_rfl) (by kernel_rfl) hi0 hz0 hz1 hz2 v P.length _ hs hown y hx (by unfold maxLen; omega) (by omega) hB ?_
  intro v' w' r3 g3 _
  have r4 : RowB B w' v' (P ++ y.data.toList) := by
    unfold RowB
    rw [List.length_append, List.map_append]
    have e : y.data.toList.length = y.size := by simp
    rw [e]
    exact r3
  exact h v' w' r4 (grew_of0 hown g3)
/-- A row cut to nothing is still owned. -/
theorem RowB.cut {B g n cap : Nat} {w : World} {P : List UInt8} (h : RowB B w (.slice (some ⟨g, 0, none⟩) n cap) P) : RowB B w (.slice (some ⟨g, 0, none⟩) 0 cap) [] := by
  rcases h.2 with ⟨h1, _⟩ | ⟨g', cap', cur, hv, hB, hg, _, hc, hs, _⟩
  · cases h1
  · injection hv with e1 e2 e3
    injection e1 with e1
    injection e1 with e1
    subst e1 e3
    exact ⟨rfl, Or.inr ⟨g, cap, cur, rfl, hB, hg, Nat.zero_le _, hc, hs, by simp⟩⟩
theorem RowB.empty (B : Nat) (w : World) (hB : B ≤ w.heap.size) : RowB B (w.alloc (.cells #[] 5)) (.slice (some ⟨w.heap.size, 0, none⟩) 0 0) [] :=
  ⟨rfl, Or.inr ⟨w.heap.size, 0, #[], rfl, hB, heap_alloc_new w _, Nat.le_refl _, Nat.zero_le _, rfl, rfl⟩⟩
/-- A row of bytes, made a text. -/
theorem RowB.conv {B : Nat} {w : World} {v : Value} {P : List UInt8} (h : RowB B w v P) : (convert 93 9 v).run Tryz.prog w = .ok (.string ⟨P.toArray⟩) w := by
  rcases h.cases with ⟨rfl, rfl⟩ | ⟨g, cap, rfl⟩
  · rw [run_convert_bytes_string w 93 9 5 none 0 0 (by kernel_rfl) (by kernel_rfl) (by kernel_rfl)]
    first | rfl | (simp; done) | (simp [loadCells]; done)
  · exact run_convert_bytes_back (P := Tryz.prog) w 93 9 5 ⟨g, 0, none⟩ cap P (by kernel_rfl) (by kernel_rfl) (by kernel_rfl) (Esc.own_cells h rfl)
theorem bapp (A B : List UInt8) : (⟨A.toArray⟩ : ByteArray) ++ ⟨B.toArray⟩ = ⟨(A ++ B).toArray⟩ := ByteArray.ext (by simp)
theorem cat_data (a b : ByteArray) : (a ++ b).data.toList = a.data.toList ++ b.data.toList := by simp
theorem ba_eq {s : ByteArray} {S : List UInt8} (h : s.data.toList = S) : s = ⟨S.toArray⟩ := ByteArray.ext (Array.toList_inj.1 (by rw [h]))
end Rws
end Go.Proofs.YthefgagmjamdkaaGreatDoor
/-
  strings.Builder: copyCheck, WriteString, WriteByte, of a builder that the call made itself.
-/
namespace Go.Proofs.YthefgagmjamdkaaGreatDoor
open Go.RowKit
namespace Bld
theorem infoB : (Tryz.prog.info? 134).map (·.size) = some 2 := by kernel_rfl
set_option maxRecDepth 100000 in
theorem cc_used (b : Nat) (w : World) (h0 : w.cell? ⟨b, 0, none⟩ = some (.pointer (some ⟨b, 0, none⟩))) :
    Calls Tryz.prog 133 #[.pointer (some ⟨b, 0, none⟩)] w fun e w' => e = .returned (.tuple #[]) ∧ w = w' := by
  obtain ⟨j, hj, _⟩ := Option.map_eq_some_iff.1 infoB
  go_enter Tryz.func133, Tryz.ntmps133
  go_wp2
  rw [Lib.run_neq_ptr_same w _ Tryz.underlying132 hj]
  go_wp2
  go_end0
  exact ⟨rfl, rfl⟩
set_option maxRecDepth 100000 in
theorem cc_fresh (b : Nat) (w : World) (h0 : w.cell? ⟨b, 0, none⟩ = some (.pointer none)) (hsh : w.shape? b = some (134, 2)) (hfz : w.frozen? ⟨b, 0, none⟩ = false) :
    Calls Tryz.prog 133 #[.pointer (some ⟨b, 0, none⟩)] w fun e w' => e = .returned (.tuple #[]) ∧ w' = w.setCell ⟨b, 0, none⟩ (.pointer (some ⟨b, 0, none⟩)) := by
  obtain ⟨j, hj, hjs⟩ := Option.map_eq_some_iff.1 infoB
  go_enter Tryz.func133, Tryz.ntmps133
  go_wp2
  rw [Lib.run_to_unsafe w ⟨b, 0, none⟩ Tryz.underlying132 Tryz.underlying159 hj (by rw [hjs]; decide) hsh (Nat.zero_lt_succ 1)]
  simp only [Result.andThen]
  rw [Oper.upon_value]
  go_wp2
  rw [run_callFunc_extern Tryz.func143 (by kernel_rfl) (by kernel_rfl) (by kernel_rfl) (e := Extern.AbiNoEscape.same) (by kernel_rfl)]
  rw [Lib.run_noEscape]
  simp only [Result.andThen]
  rw [Oper.upon_value]
  go_wp2
  rw [Lib.run_from_unsafe w ⟨b, 0, none⟩ Tryz.underlying159 Tryz.underlying132 hj hsh (by kernel_rfl)]
  simp only [Result.andThen]
  rw [Oper.upon_value]
  go_wp2
  go_end0
  exact ⟨rfl, rfl⟩
theorem cc_to (B b : Nat) (bs : List Value) (w : World) (h : Lib.IsBuilder 134 5 B b bs w) :
    Calls Tryz.prog 133 #[.pointer (some ⟨b, 0, none⟩)] w fun e w' => e = .returned (.tuple #[]) ∧ Lib.BuilderAt 134 5 B b (.pointer (some ⟨b, 0, none⟩)) bs w' ∧ Below B w w' := by
  rcases h with h | h
  · exact (cc_fresh b w h.cell0 h.shape h.frozen0).mono fun e w' ⟨he, hw⟩ => ⟨he, hw ▸ h.used _, hw ▸ (Below.refl B w).setCell (p := ⟨b, 0, none⟩) h.1 _⟩
  · exact (cc_used b w h.cell0).mono fun e w' ⟨he, hw⟩ => ⟨he, hw ▸ h, hw ▸ Below.refl B _⟩
set_option maxHeartbeats 2000000 in
set_option maxRecDepth 100000 in
theorem ws_to (B b : Nat) (l : List UInt8) (s : ByteArray) (w : World) (h : Lib.IsBuilder 134 5 B b (Lib.byteCells l) w) (hlen : l.length + s.size ≤ 1000000000) (hBw : B ≤ w.heap.size) :
    Calls Tryz.prog 110 #[.pointer (some ⟨b, 0, none⟩), .string s] w fun e w' => e = .returned (.tuple #[.int .i64 s.size, .nilIface]) ∧ Lib.IsBuilder 134 5 B b (Lib.byteCells (l ++ s.data.toList)) w' ∧ Below B w w' := by
  obtain ⟨i0, hi, hz0, hz1, hz2⟩ := info_parts Esc.iu
  have hl : (Lib.byteCells l).length = l.length := by simp [Lib.byteCells]
  have HL := Lib.hid hl
  clear hl
  go_enter Tryz.func110, Tryz.ntmps110
  go_wp2_with fail
  refine (cc_to B b _ _ h).mono ?_
  rintro e w1 ⟨rfl, h1, hb1⟩
  obtain ⟨hB, v, hbk, hown, hne⟩ := h1
  rw [HL.out] at hown
  have c0 : w1.cell? ⟨b, 0, none⟩ = some (.pointer (some ⟨b, 0, none⟩)) := by rw [Lib.cell_of_heap hbk]; rfl
  have c1 : w1.cell? ⟨b, 1, none⟩ = some v := by rw [Lib.cell_of_heap hbk]; rfl
  go_wp2_with (at_builtin; refine Lib.wpList_append_own_string _ rfl _ _ 93 9 rfl B 5 i0 Tryz.underlying93 Tryz.underlying9 hi hz0 hz1 hz2 _ _ _ rfl hown s rfl ?c3 ?c4 ?c5 ?_)
  case c3 => unfold maxLen; omega
  case c4 => omega
  case c5 => have := hb1.size; omega
  intro v' w2 hown' hgrow _
  have hlt : b < w1.heap.size := by
    rcases Nat.lt_or_ge b w1.heap.size with h' | h'
    · exact h'
    · simp [Array.getElem?_eq_none h'] at hbk
  have hb2 : w2.heap[b]? = some (.cells #[.pointer (some ⟨b, 0, none⟩), v] 134 (0, 0)) := by
    rw [hgrow.block b hlt (fun e => hne e.symm)]
    exact hbk
  have d0 : w2.cell? ⟨b, 0, none⟩ = some (.pointer (some ⟨b, 0, none⟩)) := by rw [Lib.cell_of_heap hb2]; rfl
  have d1 : w2.cell? ⟨b, 1, none⟩ = some v := by rw [Lib.cell_of_heap hb2]; rfl
  have f1 : w2.frozen? ⟨b, 1, none⟩ = false := Lib.frozen_of_heap hb2 1
  obtain ⟨ao, n', cap, rfl⟩ : ∃ ao n' cap, v' = .slice ao n' cap := by
    rcases hown'.2 with ⟨hv, _⟩ | ⟨g, cap, cur, hv, _⟩
    · exact ⟨_, _, _, hv⟩
    · exact ⟨_, _, _, hv⟩
  have HO := Lib.hid hown'
  clear hown'
  go_wp2
  go_ret2
  refine ⟨rfl, Or.inr ?_, ?_⟩
  · refine Lib.BuilderAt.put (T := 134) (e := 5) hB hb2 (bs' := Lib.byteCells (l ++ s.data.toList)) ?_ (by decide)
    have := HO.out
    have e1 : (Lib.byteCells (l ++ s.data.toList)).length = l.length + s.size := by simp [Lib.byteCells]
    have e2 : Lib.byteCells (l ++ s.data.toList) = Lib.byteCells l ++ Lib.strCells s := by simp [Lib.byteCells, Lib.strCells]
    rw [e1, e2]
    exact this
  · exact (hb1.grown hgrow (by have := hb1.size; omega) (fun k hk => (hown.lt k hk).1)).setCell (p := ⟨b, 1, none⟩) hB _
set_option maxRecDepth 100000 in
theorem len_to (B b : Nat) (l : List UInt8) (w : World) (h : Lib.IsBuilder 134 5 B b (Lib.byteCells l) w) :
    Calls Tryz.prog 111 #[.pointer (some ⟨b, 0, none⟩)] w fun e w' => e = .returned (.int .i64 (l.length : Int)) ∧ w = w' := by
  obtain ⟨p, v, hbk, hn⟩ : ∃ p v, w.heap[b]? = some (.cells #[p, v] 134 (0, 0)) ∧ ∃ a c, v = .slice a l.length c := by
    have hl : (Lib.byteCells l).length = l.length := by simp [Lib.byteCells]
    have key : ∀ p, Lib.BuilderAt 134 5 B b p (Lib.byteCells l) w → ∃ p v, w.heap[b]? = some (.cells #[p, v] 134 (0, 0)) ∧ ∃ a c, v = .slice a l.length c := fun p h => by
      obtain ⟨_, v, hb, hown, _⟩ := h
      refine ⟨p, v, hb, ?_⟩
      rw [hl] at hown
      rcases hown.2 with ⟨hv, h0⟩ | ⟨g, cap, cur, hv, _⟩
      · exact ⟨_, _, by rw [hv, h0]⟩
      · exact ⟨_, _, hv⟩
    rcases h with h | h
    · exact key _ h
    · exact key _ h
  obtain ⟨a, c, rfl⟩ := hn
  have c1 : w.cell? ⟨b, 1, none⟩ = some (.slice a l.length c) := by rw [Lib.cell_of_heap hbk]; rfl
  clear h hbk
  obtain ⟨n, hn⟩ : ∃ n, l.length = n := ⟨_, rfl⟩
  rw [hn] at c1 ⊢
  go_enter Tryz.func111, Tryz.ntmps111
  go_wp2
  go_ret
  exact ⟨rfl, rfl⟩
theorem fresh (w : World) : Lib.IsBuilder 134 5 w.heap.size w.heap.size (Lib.byteCells []) (w.alloc (.cells #[.pointer none, .slice none 0 0] 134)) := Lib.fresh_isBuilder _ _ w
theorem str_to (B b : Nat) (l : List UInt8) (w : World) (h : Lib.IsBuilder 134 5 B b (Lib.byteCells l) w) (hBw : B ≤ w.heap.size) :
    Calls Tryz.prog 112 #[.pointer (some ⟨b, 0, none⟩)] w fun e w' => e = .returned (.string ⟨l.toArray⟩) ∧ Below B w w' := Tryz.Builder_String_any B b l w h hBw
end Bld
end Go.Proofs.YthefgagmjamdkaaGreatDoor
/-
  Package fields: isBlank, read, Split.
-/
namespace Go.Proofs.YthefgagmjamdkaaGreatDoor
open Go.RowKit
namespace Fds
open Opn (sv TxtV)
open Rws (RowB RowS)
theorem bl_to (c : UInt8) (b : Bool) (w : World) (h : Hid (isBl c = b)) : Calls Tryz.prog 74 #[.int .u8 (c.toNat : Int)] w fun e w' => e = .returned (.bool b) ∧ w = w' := by
  have HH := h.out
  unfold isBl at HH
  clear h
  have cb := c.toNat_lt
  by_cases h1 : c = 32
  · subst h1
    have : b = true := HH.symm
    subst this
    go_enter Tryz.func74, Tryz.ntmps74
    go_wp2
    go_ret
    exact ⟨rfl, rfl⟩
  by_cases h2 : c = 9
  · subst h2
    have : b = true := HH.symm
    subst this
    go_enter Tryz.func74, Tryz.ntmps74
    go_wp2
    go_ret
    exact ⟨rfl, rfl⟩
  by_cases h3 : c = 13
  · subst h3
    have : b = true := HH.symm
    subst this
    go_enter Tryz.func74, Tryz.ntmps74
    go_wp2
    go_ret
    exact ⟨rfl, rfl⟩
  have : b = false := by
    rw [← HH]
    simp [h1, h2, h3]
  subst this
  have n1 : ((c.toNat : Int) == 32) = false := Esc.u8_ne (n := 32) (by decide) h1
  have n2 : ((c.toNat : Int) == 9) = false := Esc.u8_ne (n := 9) (by decide) h2
  have n3 : ((c.toNat : Int) == 13) = false := Esc.u8_ne (n := 13) (by decide) h3
  clear HH
  go_enter Tryz.func74, Tryz.ntmps74
  go_wp2
  go_ret
  exact ⟨ret_b (by simp [*]), rfl⟩
theorem iby_to (s : ByteArray) (S : List UInt8) (c : UInt8) (w : World) (hS : Hid (s.data.toList = S)) : Calls Tryz.prog 65 #[.string s, .int .u8 (c.toNat : Int)] w fun e w' => e = .returned (.int .i64 (Lib.indexByte S c)) ∧ w = w' := by
  have h := Tryz.strings_IndexByte s (c.toNat : Int) w
  have e1 : ((c.toNat : Int)).toNat.toUInt8 = c := by simp
  rw [e1, hS.out] at h
  exact h.mono fun e w' ⟨h1, h2⟩ => ⟨h1, h2.symm⟩
theorem dtE (s : ByteArray) (a : Nat) : (s.extract a s.size).data.toList = s.data.toList.drop a := by
  rw [Lib.extract_data, List.take_of_length_le]
  rw [List.length_drop]
  simp
/-- What read answers. -/
def RdP (S : List UInt8) (at0 : Nat) (F : List UInt8) (e : Int) (ok : Bool) : Prop :=
  (ok = true ∧ ∃ k : Nat, e = k ∧ at0 < k ∧ k ≤ S.length ∧ F.length ≤ S.length ∧ spG 0 [] (S.drop at0) = (spG 0 [] (S.drop k)).map (fun r => F :: r)) ∨ (ok = false ∧ e = 0 ∧ F = [] ∧ spG 0 [] (S.drop at0) = none)
theorem ret_sib {s s' : ByteArray} {a a' : Int} {b b' : Bool} (k : s = s') (h : a = a') (g : b = b') : Ending.returned (.tuple #[.string s, .int .i64 a, .bool b]) = .returned (.tuple #[.string s', .int .i64 a', .bool b']) := by rw [h, k, g]
set_option maxHeartbeats 6400000 in
set_option maxRecDepth 100000 in
theorem rd_to (s : ByteArray) (S : List UInt8) (at0 : Nat) (w : World) (hs : s.size ≤ 1000000) (hS : Hid (s.data.toList = S)) (h0 : at0 < s.size) (hb0 : Hid (isBl (S.getD at0 0) = false ∧ S.getD at0 0 ≠ 35)) :
    Calls Tryz.prog 75 #[.string s, .int .i64 (at0 : Int)] w fun e w' => ∃ F v ok, e = .returned (.tuple #[.string ⟨F.toArray⟩, .int .i64 v, .bool ok]) ∧ RdP S at0 F v ok ∧ Below w.heap.size w w' := by
  have hl : S.length = s.size := by rw [← hS.out]; simp
  have HL := Lib.hid hl
  clear hl
  have HB : Hid (spG 0 [] (S.drop at0) = spG 1 [] (S.drop at0)) := Lib.hid (by
    have hlt : at0 < S.length := by rw [HL.out]; exact h0
    have h := hb0.out
    rw [List.getD_eq_getElem?_getD, List.getElem?_eq_getElem hlt] at h
    rw [List.drop_eq_getElem_cons hlt]
    exact sp_begin _ h.2 h.1)
  go_enter Tryz.func75, Tryz.ntmps75
  go_wp2
  go_loopw [1, 7] (fun av bv wr => ∃ (k : Nat) (P : List UInt8), at0 ≤ k ∧ k ≤ s.size ∧ P.length ≤ k ∧ av = .int .i64 k ∧ Hid (spG 0 [] (S.drop at0) = spG 1 P (S.drop k)) ∧ RowB w.heap.size wr bv P ∧ Below w.heap.size w wr) (fun av _ _ => s.size - (intOf av).toNat)
  case atStart => exact ⟨at0, [], Nat.le_refl _, by omega, Nat.zero_le _, rfl, HB, RowB.nil _ _, Below.refl _ _⟩
  case round =>
    obtain ⟨k, P, hak, hks, hPk, rfl, hsp, hp, hb⟩ := hrel
    by_cases hlt : k < s.size
    · obtain ⟨hkS, hx⟩ := SAny.get_list hS.out k hlt
      obtain ⟨c, hc⟩ : ∃ c, s[k] = c := ⟨_, rfl⟩
      rw [hc] at hx
      have cb := c.toNat_lt
      have hd : S.drop k = c :: S.drop (k + 1) := by rw [List.drop_eq_getElem_cons hkS, hx]
      have hsp1 := hsp.out
      rw [hd] at hsp1
      have hne : k = at0 → isBl c = false ∧ c ≠ 35 := fun e => by
        subst e
        have h := hb0.out
        rw [List.getD_eq_getElem?_getD, List.getElem?_eq_getElem hkS] at h
        rw [hx]
        exact h
      cases hbl : isBl c with
      | true =>
        have HR : RdP S at0 P (k : Int) true := Or.inl ⟨rfl, k, rfl, by
          by_cases e : k = at0
          · have := (hne e).1; rw [hbl] at this; cases this
          · omega, by omega, by omega, by rw [hsp1, hd]; exact sp_ends _ _ (Or.inr hbl)⟩
        have HBL := Lib.hid hbl
        have hcv := hp.conv
        clear hsp1 hsp hne hbl hd hx
        go_wp2_with fail
        refine (bl_to c true _ HBL).mono ?_
        rintro e w2 ⟨rfl, rfl⟩
        go_wp2
        refine bodyPost_ret (v := .tuple #[.string ⟨P.toArray⟩, .int .i64 k, .bool true]) (by simp [results, Tryz.results75, go_sem]) rfl ⟨_, _, _, rfl, HR, hb⟩
      | false =>
        have HBL := Lib.hid hbl
        by_cases h35 : c = 35
        · subst h35
          have HR : RdP S at0 P (k : Int) true := Or.inl ⟨rfl, k, rfl, by
            by_cases e : k = at0
            · exact absurd rfl (hne e).2
            · omega, by omega, by omega, by rw [hsp1, hd]; exact sp_ends _ _ (Or.inl rfl)⟩
          have hcv := hp.conv
          clear hsp1 hsp hne hbl hd hx
          go_wp2_with fail
          refine (bl_to 35 false _ HBL).mono ?_
          rintro e w2 ⟨rfl, rfl⟩
          go_wp2
          refine bodyPost_ret (v := .tuple #[.string ⟨P.toArray⟩, .int .i64 k, .bool true]) (by simp [results, Tryz.results75, go_sem]) rfl ⟨_, _, _, rfl, HR, hb⟩
        · have n35 : ((c.toNat : Int) != 35) = true := by have := Esc.u8_ne (n := 35) (by decide) h35; simpa [bne] using this
          by_cases h34 : c = 34
          · subst h34
            have HX : Hid ((s.extract (k + 1) s.size).data.toList = S.drop (k + 1)) := Lib.hid (by rw [dtE, hS.out])
            have hsp2 : spG 0 [] (S.drop at0) = spG 2 P (S.drop (k + 1)) := by rw [hsp1, sp_quote]
            have hib := fun W => iby_to (s.extract (k + 1) s.size) (S.drop (k + 1)) 34 W HX
            have hge : -1 ≤ Lib.indexByte (S.drop (k + 1)) 34 := by
              have : ∀ l : List UInt8, -1 ≤ Lib.indexByte l 34 := fun l => by
                induction l with
                | nil => exact Int.le_refl _
                | cons a l ih => rw [Lib.indexByte]; repeat' split
                                 all_goals omega
              exact this _
            obtain ⟨ib, hibv⟩ : ∃ ib, Lib.indexByte (S.drop (k + 1)) 34 = ib := ⟨_, rfl⟩
            rw [hibv] at hib hge
            have HIB := Lib.hid hib
            by_cases hn : ib < 0
            · have HR : RdP S at0 [] 0 false := Or.inr ⟨rfl, rfl, rfl, by rw [hsp2]; exact sp_qnone _ _ (by omega)⟩
              clear hsp1 hsp hne hbl hd hx hsp2 hib hibv
              go_wp2_with fail
              refine (bl_to 34 false _ HBL).mono ?_
              rintro e w2 ⟨rfl, rfl⟩
              go_wp2_with fail
              refine (HIB.out _).mono ?_
              rintro e w2 ⟨rfl, rfl⟩
              go_wp2
              refine bodyPost_ret (v := .tuple #[.string ⟨#[]⟩, .int .i64 0, .bool false]) (by simp [results, Tryz.results75, go_sem]) rfl ⟨[], _, _, rfl, HR, hb⟩
            · obtain ⟨m, rfl⟩ : ∃ m : Nat, ib = m := ⟨ib.toNat, by omega⟩
              obtain ⟨hm, hq⟩ := sp_qsome (S.drop (k + 1)) P m hibv
              rw [List.length_drop, HL.out] at hm
              have HN : Hid (spG 0 [] (S.drop at0) = spG 1 (P ++ (S.drop (k + 1)).take m) (S.drop (k + m + 2))) := Lib.hid (by rw [hsp2, hq, List.drop_drop, show k + 1 + (m + 1) = k + m + 2 from by omega])
              have HY : Hid ((s.extract (k + 1) (k + 1 + m)).data.toList = (S.drop (k + 1)).take m) := Lib.hid (by rw [Lib.extract_data, hS.out]; congr 1; omega)
              have hyz : (s.extract (k + 1) (k + 1 + m)).size = m := by rw [Lib.size_eq, HY.out, List.length_take, List.length_drop, HL.out]; omega
              have HYZ := Lib.hid hyz
              have HPL : Hid ((P ++ (S.drop (k + 1)).take m).length ≤ k + m + 2) := Lib.hid (by rw [List.length_append, List.length_take]; omega)
              clear hsp1 hsp hne hbl hd hx hsp2 hib hibv hq hyz hn hge
              go_wp2_with fail
              refine (bl_to 34 false _ HBL).mono ?_
              rintro e w2 ⟨rfl, rfl⟩
              go_wp2_with fail
              refine (HIB.out _).mono ?_
              rintro e w2 ⟨rfl, rfl⟩
              go_wp2_with (at_builtin; refine Rws.appT rfl _ _ rfl w.heap.size _ P rfl hp _ rfl ?d1 hb.size ?_)
              case d1 => rw [HYZ.out]; omega
              intro v' w5 r5 g5
              have hb5 := g5.below _ _ (Nat.le_refl _) hb hb.size
              first | rw [HY.out] at r5 | rw [hS.out] at r5
              clear g5 hp hb
              go_wp2
              go_roundw
              case rel => exact ⟨k + m + 2, P ++ (S.drop (k + 1)).take m, by omega, by omega, HPL.out, by first | go_num | (apply congrArg; omega), HN, r5, hb5⟩
              case measure => simp [intOf]; omega
          · have n34 : ((c.toNat : Int) != 34) = true := by have := Esc.u8_ne (n := 34) (by decide) h34; simpa [bne] using this
            have HN : Hid (spG 0 [] (S.drop at0) = spG 1 (P ++ [c]) (S.drop (k + 1))) := Lib.hid (by rw [hsp1, sp_more _ _ h35 hbl h34])
            have HPL : Hid ((P ++ [c]).length ≤ k + 1) := Lib.hid (by rw [List.length_append]; simp; omega)
            clear hsp1 hsp hne hbl hd hx
            go_wp2_with fail
            refine (bl_to c false _ HBL).mono ?_
            rintro e w2 ⟨rfl, rfl⟩
            go_wp2_with (at_builtin; refine Rws.appB rfl _ _ rfl w.heap.size _ P rfl hp c rfl (by omega) hb.size ?_)
            intro w5 gg gcap r5 g5
            have hb5 := g5.below _ _ (Nat.le_refl _) hb hb.size
            clear g5 hp hb
            go_wp2
            go_roundw
            case rel => exact ⟨k + 1, P ++ [c], by omega, by omega, HPL.out, by go_num, HN, r5, hb5⟩
            case measure => simp [intOf]; omega
    · obtain rfl : k = s.size := by omega
      have HR : RdP S at0 P (s.size : Int) true := Or.inl ⟨rfl, s.size, rfl, by omega, by rw [HL.out]; exact Nat.le_refl _, by rw [HL.out]; exact hPk, by rw [hsp.out, List.drop_eq_nil_of_le (by rw [HL.out]; exact Nat.le_refl _)]; exact sp_end _⟩
      have hcv := hp.conv
      clear hsp
      go_wp2
      refine bodyPost_ret (v := .tuple #[.string ⟨P.toArray⟩, .int .i64 s.size, .bool true]) (by simp [results, Tryz.results75, go_sem]) rfl ⟨_, _, _, rfl, HR, hb⟩
end Fds
end Go.Proofs.YthefgagmjamdkaaGreatDoor
/-
  Package fields: Split, whole.
-/
namespace Go.Proofs.YthefgagmjamdkaaGreatDoor
open Go.RowKit
namespace Fds
open Opn (sv TxtV)
open Rws (RowB RowS)
theorem split_cases (S : List UInt8) (L : List (List UInt8)) (rc : Int) (h : splitR S = (L, rc)) :
    (600 < S.length ∧ L = [] ∧ rc = 2) ∨ (S.length ≤ 600 ∧ bad0 S = true ∧ L = [] ∧ rc = 6) ∨ (S.length ≤ 600 ∧ bad0 S = false ∧ ((spG 0 [] S = none ∧ L = [] ∧ rc = 6) ∨ (spG 0 [] S = some L ∧ rc = 0))) := by
  unfold splitR at h
  by_cases h1 : 600 < S.length
  · rw [if_pos h1] at h
    injection h with a b
    exact Or.inl ⟨h1, a.symm, b.symm⟩
  · rw [if_neg h1] at h
    cases hb : bad0 S with
    | true =>
      rw [hb, if_pos rfl] at h
      injection h with a b
      exact Or.inr (Or.inl ⟨by omega, rfl, a.symm, b.symm⟩)
    | false =>
      rw [hb, if_neg (by decide)] at h
      refine Or.inr (Or.inr ⟨by omega, rfl, ?_⟩)
      cases hs : spG 0 [] S with
      | none => rw [hs] at h; injection h with a b; exact Or.inl ⟨rfl, a.symm, b.symm⟩
      | some M => rw [hs] at h; injection h with a b; exact Or.inr ⟨by rw [a], b.symm⟩
set_option maxHeartbeats 6400000 in
set_option maxRecDepth 100000 in
theorem spl_loop (s : ByteArray) (S : List UInt8) (L : List (List UInt8)) (rc : Int) (w : World) (hs : s.size ≤ 600) (hS : Hid (s.data.toList = S)) (hbad : Hid (bad0 S = false)) (hfin : Hid ((spG 0 [] S = none ∧ L = [] ∧ rc = 6) ∨ (spG 0 [] S = some L ∧ rc = 0))) :
    Calls Tryz.prog 43 #[.string s] w fun e w' => ∃ v, e = .returned (.tuple #[v, .int .i64 rc]) ∧ TxtV w' v L ∧ Below w.heap.size w w' := by
  have hl : S.length = s.size := by rw [← hS.out]; simp
  have HL := Lib.hid hl
  clear hl
  have hD0 := Lib.contains_iff_indexByte S 0
  have hD1 := Lib.contains_iff_indexByte S 10
  have hb := hbad.out
  unfold bad0 at hb
  rw [Bool.or_eq_false_iff] at hb
  rw [hb.1] at hD0
  rw [hb.2] at hD1
  have c0 := Lib.hid (fun W => iby_to s S 0 W hS)
  have c1 := Lib.hid (fun W => iby_to s S 10 W hS)
  obtain ⟨i0, hi0⟩ : ∃ i0, Lib.indexByte S 0 = i0 := ⟨_, rfl⟩
  obtain ⟨i1, hi1⟩ : ∃ i1, Lib.indexByte S 10 = i1 := ⟨_, rfl⟩
  rw [hi0] at hD0 c0
  rw [hi1] at hD1 c1
  have n0 : ¬ (0 : Int) ≤ i0 := of_decide_eq_false hD0.symm
  have n1 : ¬ (0 : Int) ≤ i1 := of_decide_eq_false hD1.symm
  clear hD0 hD1 hb hi0 hi1
  go_enter Tryz.func43, Tryz.ntmps43
  go_wp2_with fail
  refine (c0.out _).mono ?_
  rintro e w1 ⟨rfl, rfl⟩
  go_wp2_with fail
  refine (c1.out _).mono ?_
  rintro e w1 ⟨rfl, rfl⟩
  go_wp2
  go_loopw [4, 5] (fun lv av wr => ∃ (k : Nat) (M : List (List UInt8)), k ≤ s.size ∧ av = .int .i64 k ∧ M.length ≤ k ∧ Hid (spG 0 [] S = (spG 0 [] (S.drop k)).map (fun r => M ++ r)) ∧ RowS w.heap.size wr lv M ∧ Below w.heap.size w wr) (fun _ av _ => s.size - (intOf av).toNat)
  case atStart => exact ⟨0, [], Nat.zero_le _, rfl, Nat.le_refl _, Lib.hid (by simp), RowS.nil _ _, Below.refl _ _⟩
  case round =>
    obtain ⟨k, M, hk, rfl, hMk, hsp, hM, hb⟩ := hrel
    have hend : spG 0 [] (S.drop k) = some [] → TxtV wr _ L ∧ rc = 0 := fun h => by
      have h1 := hsp.out
      rw [h, Option.map_some, List.append_nil] at h1
      rcases hfin.out with ⟨g, _⟩ | ⟨g, g2⟩
      · rw [g] at h1; cases h1
      · rw [g] at h1
        injection h1 with h1
        subst h1
        exact ⟨hM.txt, g2⟩
    by_cases hlt : k < s.size
    · obtain ⟨hkS, hx⟩ := SAny.get_list hS.out k hlt
      obtain ⟨c, hc⟩ : ∃ c, s[k] = c := ⟨_, rfl⟩
      rw [hc] at hx
      have cb := c.toNat_lt
      have hd : S.drop k = c :: S.drop (k + 1) := by rw [List.drop_eq_getElem_cons hkS, hx]
      by_cases h35 : c = 35
      · subst h35
        obtain ⟨hT, rfl⟩ := hend (by rw [hd]; exact sp_hash _)
        clear hend hsp hM hx hd
        go_wp2
        go_ret2
        exact ⟨_, rfl, hT, hb⟩
      · have n35 : ((c.toNat : Int) != 35) = true := by have := Esc.u8_ne (n := 35) (by decide) h35; simpa [bne] using this
        cases hbl : isBl c with
        | true =>
          have HN : Hid (spG 0 [] S = (spG 0 [] (S.drop (k + 1))).map (fun r => M ++ r)) := Lib.hid (by rw [hsp.out, hd, sp_blank _ hbl])
          have HBL := Lib.hid hbl
          clear hend hsp hx hd hbl
          go_wp2_with fail
          refine (bl_to c true _ HBL).mono ?_
          rintro e w2 ⟨rfl, rfl⟩
          go_wp2
          go_roundw
          case rel => exact ⟨k + 1, M, by omega, by go_num, by omega, HN, hM, hb⟩
          case measure => simp [intOf]; omega
        | false =>
          have HBL := Lib.hid hbl
          have HB0 : Hid (isBl (S.getD k 0) = false ∧ S.getD k 0 ≠ 35) := Lib.hid (by
            rw [List.getD_eq_getElem?_getD, List.getElem?_eq_getElem hkS]
            rw [hx] at hbl h35
            exact ⟨hbl, h35⟩)
          clear hend hx hd hbl
          go_wp2_with fail
          refine (bl_to c false _ HBL).mono ?_
          rintro e w2 ⟨rfl, rfl⟩
          go_wp2_with fail
          refine (rd_to s S k _ (by omega) hS hlt HB0).mono ?_
          rintro e w3 ⟨F, ev, ok, rfl, hrd, b3⟩
          have hM3 := hM.below b3
          have hb3 := hb.trans (b3.mono hb.size)
          rcases hrd with ⟨rfl, k2, rfl, hk2, hk3, hF, hsp2⟩ | ⟨rfl, rfl, rfl, hsp2⟩
          · have HN : Hid (spG 0 [] S = (spG 0 [] (S.drop k2)).map (fun r => (M ++ [F]) ++ r)) := Lib.hid (by
              rw [hsp.out, hsp2, Option.map_map]
              congr 1
              funext r
              simp)
            rw [HL.out] at hk3
            have HPL : Hid ((M ++ [F]).length ≤ k2) := Lib.hid (by rw [List.length_append]; simp; omega)
            clear hsp hsp2 hM b3 hb
            go_wp2_with (at_builtin; refine Rws.appS rfl _ _ rfl w.heap.size _ M rfl hM3 _ _ rfl rfl (by omega) hb3.size ?_)
            intro w5 gg gcap r5 g5
            have hb5 := g5.below _ _ (Nat.le_refl _) hb3 hb3.size
            clear g5 hM3 hb3
            go_wp2
            go_roundw
            case rel => exact ⟨k2, M ++ [F], by omega, rfl, HPL.out, HN, r5, hb5⟩
            case measure => simp [intOf]; omega
          · have hres : L = [] ∧ rc = 6 := by
              have h1 := hsp.out
              rw [hsp2, Option.map_none] at h1
              rcases hfin.out with ⟨_, g1, g2⟩ | ⟨g, _⟩
              · exact ⟨g1, g2⟩
              · rw [g] at h1; cases h1
            obtain ⟨rfl, rfl⟩ := hres
            clear hsp hsp2 hM b3 hb hM3
            go_wp2
            go_ret2
            exact ⟨_, rfl, TxtV.none _, hb3⟩
    · obtain ⟨hT, rfl⟩ := hend (by rw [List.drop_eq_nil_of_le (by rw [HL.out]; omega)]; exact sp0_nil)
      clear hend hsp hM
      go_wp2
      go_ret2
      exact ⟨_, rfl, hT, hb⟩
set_option maxHeartbeats 1600000 in
set_option maxRecDepth 100000 in
theorem spl_to (s : ByteArray) (S : List UInt8) (L : List (List UInt8)) (rc : Int) (w : World) (hs : s.size ≤ 1000000) (hS : Hid (s.data.toList = S)) (h : Hid (splitR S = (L, rc))) :
    Calls Tryz.prog 43 #[.string s] w fun e w' => ∃ v, e = .returned (.tuple #[v, .int .i64 rc]) ∧ TxtV w' v L ∧ Below w.heap.size w w' := by
  have hl : S.length = s.size := by rw [← hS.out]; simp
  rcases split_cases S L rc h.out with ⟨h1, rfl, rfl⟩ | ⟨h1, h2, rfl, rfl⟩ | ⟨h1, h2, h3⟩
  · have hz : 600 < s.size := by omega
    clear h hl h1
    go_enter Tryz.func43, Tryz.ntmps43
    go_wp2
    go_ret2
    exact ⟨_, rfl, TxtV.none _, Below.refl _ _⟩
  · have hz : s.size ≤ 600 := by omega
    have hD0 := Lib.contains_iff_indexByte S 0
    have hD1 := Lib.contains_iff_indexByte S 10
    unfold bad0 at h2
    have c0 := Lib.hid (fun W => iby_to s S 0 W hS)
    have c1 := Lib.hid (fun W => iby_to s S 10 W hS)
    obtain ⟨i0, hi0⟩ : ∃ i0, Lib.indexByte S 0 = i0 := ⟨_, rfl⟩
    obtain ⟨i1, hi1⟩ : ∃ i1, Lib.indexByte S 10 = i1 := ⟨_, rfl⟩
    rw [hi0] at hD0 c0
    rw [hi1] at hD1 c1
    clear h hl h1 hi0 hi1
    cases hc0 : S.contains 0 with
    | true =>
      rw [hc0] at hD0
      have n0 : (0 : Int) ≤ i0 := of_decide_eq_true hD0.symm
      clear hD0 hD1 h2 hc0
      go_enter Tryz.func43, Tryz.ntmps43
      go_wp2_with fail
      refine (c0.out _).mono ?_
      rintro e w1 ⟨rfl, rfl⟩
      go_wp2
      go_ret2
      exact ⟨_, rfl, TxtV.none _, Below.refl _ _⟩
    | false =>
      rw [hc0] at hD0 h2
      have hc1 : S.contains 10 = true := by simpa using h2
      rw [hc1] at hD1
      have n0 : ¬ (0 : Int) ≤ i0 := of_decide_eq_false hD0.symm
      have n1 : (0 : Int) ≤ i1 := of_decide_eq_true hD1.symm
      clear hD0 hD1 h2 hc0 hc1
      go_enter Tryz.func43, Tryz.ntmps43
      go_wp2_with fail
      refine (c0.out _).mono ?_
      rintro e w1 ⟨rfl, rfl⟩
      go_wp2_with fail
      refine (c1.out _).mono ?_
      rintro e w1 ⟨rfl, rfl⟩
      go_wp2
      go_ret2
      exact ⟨_, rfl, TxtV.none _, Below.refl _ _⟩
  · exact spl_loop s S L rc w (by omega) hS (Lib.hid h2) (Lib.hid h3)
end Fds
end Go.Proofs.YthefgagmjamdkaaGreatDoor
