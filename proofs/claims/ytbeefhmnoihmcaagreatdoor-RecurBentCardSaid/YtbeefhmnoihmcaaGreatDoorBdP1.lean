/-
  Several texts in one (RcpA, RcpB, RcpC, RcpD, RcpE, RcpF, RcpG, RcpH).
-/
import Derived.Test.YtbeefhmnoihmcaaGreatDoorWrdZ
import Derived.Test.YtbeefhmnoihmcaaGreatDoorCelR
import Derived.Lib.LaidTab
import Derived.Lib.AppendIntMem
import Derived.Deep.DeepCutAuto
import Derived.ChangeKeysEq
import Derived.Test.YtbeefhmnoihmcaaGreatDoorBdC
import Derived.Test.YtbeefhmnoihmcaaGreatDoorVal3
import Derived.Test.YtbeefhmnoihmcaaGreatDoorSpc
import Derived.Test.YtbeefhmnoihmcaaGreatDoorAppX
import Derived.Test.YtbeefhmnoihmcaaGreatDoorRcvA
import Derived.Test.YtbeefhmnoihmcaaGreatDoorVal2
/-
  Tables of texts: what a row's condition gives of them; recur.readFreq, recur.readWeekday.
-/
namespace Go.Proofs.YtbeefhmnoihmcaaGreatDoor
open Go.RowKit
namespace Rcp
open Wrd (smL)
open Cel
/-- The variable NAME holds just these texts. -/
def StrIs (P : Program) (w : World) (name : String) (L : List (List UInt8)) : Prop := w.var? P name = some (L.map fun z => Value.string ⟨z.toArray⟩).toArray
def strData {H : Type} (L : List (List UInt8)) : DataW H := .agg (L.map fun z => .lit (.string z))
theorem cells_of_strs {H : Type} {enc : TypeId × Value → H} {P : Program} {w : World} {base : Nat} {sp : Nat → Bool} {held : Bool} {fuel : Nat} {t e : TypeId} {n : Nat} {cs : List Value} {L : List (List UInt8)} {p : List MemPlace}
    (ht : P.underlying t = some (.array n e)) (he : P.underlying e = some .string) (hce : P.cellsOf e = 1) (hct : P.cellsOf t = n)
    (h : DataW.trod enc P w base sp held fuel t cs = some (strData L, p)) : cs = L.map fun z => Value.string ⟨z.toArray⟩ := by
  cases fuel with
  | zero => simp [DataW.trod] at h
  | succ fuel =>
    simp only [DataW.trod, ht, hce, hct, Nat.mul_one] at h
    split at h
    · rename_i hl
      obtain ⟨xs, hm, hx⟩ := Option.map_eq_some_iff.1 h
      have hxs : xs.map (·.1) = L.map fun z => (DataW.lit (.string z) : DataW H) := by
        have := congrArg Prod.fst hx
        simpa [strData] using this
      have hxl : xs.length = n := by simpa using Lib.mapM_length hm
      have hzl : L.length = n := by
        have := congrArg List.length hxs
        simp at this
        omega
      apply List.ext_getElem?
      intro i
      by_cases hi : i < n
      · obtain ⟨b, hb, hf⟩ := Lib.mapM_at hm i i (by simp [hi])
        obtain ⟨s, hc, rfl, _⟩ := DataW.trod_string he hf
        have h1 : cs[i]? = some (.string s) := by
          have := congrArg (·[0]?) hc
          simpa [List.getElem?_take, List.getElem?_drop] using this
        have h2 : (xs.map (·.1))[i]? = some (DataW.lit (.string s.data.toList) : DataW H) := by simp [hb]
        rw [hxs] at h2
        simp only [List.getElem?_map, Option.map_eq_some_iff, DataW.lit.injEq, Lit.string.injEq] at h2
        obtain ⟨z', hz', e⟩ := h2
        simp [h1, hz', e]
      · rw [List.getElem?_eq_none (by omega), List.getElem?_eq_none (by simp; omega)]
    · cases h
theorem strIs_of_head {P : Program} {W : World} {name : String} {L : List (List UInt8)} {rest : List (String × DataW Unit)} {g : Nat} {t e : TypeId} {n : Nat}
    (hg : P.globalNamed name = some g) (hty : (P.globals[g]?).map (·.type) = some t) (ht : P.underlying t = some (.array n e)) (he : P.underlying e = some .string) (hce : P.cellsOf e = 1) (hct : P.cellsOf t = n)
    (h : laidMet P ((name, strData L) :: rest) W) : StrIs P W name L := by
  obtain ⟨ps, ⟨g', t', cs, fuel, p, q, hg', ht', hvar, hd, _, _⟩, _⟩ := h
  obtain rfl := Option.some.inj (hg.symm.trans hg')
  obtain rfl := Option.some.inj (hty.symm.trans ht')
  unfold StrIs
  rw [hvar, ← cells_of_strs ht he hce hct hd]
/-- The texts in block g, in this world and behind every call. -/
def StrT (g : Nat) (L : List (List UInt8)) (w : World) : Prop := g < w.heap.size ∧ w.rangeAt g 0 (L.map fun z => Value.string ⟨z.toArray⟩)
theorem StrT.below {g : Nat} {L : List (List UInt8)} {w w' : World} (h : StrT g L w) (hb : Below w.heap.size w w') : StrT g L w' :=
  ⟨Nat.lt_of_lt_of_le h.1 hb.size, fun j v hj => (hb.cell (p := ⟨g, 0 + j, none⟩) h.1).trans (h.2 j v hj)⟩
theorem StrT.of {P : Program} {W : World} {name : String} {L : List (List UInt8)} {g : Nat} (h : StrIs P W name L) (hg : P.globalNamed name = some g) (h0 : 0 < L.length) : StrT g L W := by
  have key : W.rangeAt g 0 (L.map fun z => Value.string ⟨z.toArray⟩) := fun j v hj => by
    have := World.var?_cell hg h j
    rw [Nat.zero_add]
    simpa [hj] using this
  exact ⟨World.block_lt_of_cell? W _ (key 0 _ (List.getElem?_eq_getElem (by simpa using h0))), key⟩
theorem run_index_str {P : Program} (xt e : TypeId) (n : Nat) (cs : Array Value) (k : Nat) (v : Value) (w : World) (hu : P.underlying xt = some (.array n e)) (hi : (P.info? e).map (·.size) = some 1) (he : P.plainKey e = true) (hk : k < n) (hc : cs[k]? = some v) :
    (Instr.index xt (.agg cs) (.int .i64 (k : Int))).run P w = .ok v w := by
  cases hq : P.info? e with
  | none => simp [hq] at hi
  | some i =>
    have hs : i.size = 1 := by simpa [hq] using hi
    have h1 : (0 : Int) ≤ (k : Int) ∧ (k : Int) < (n : Int) := by omega
    simp only [Instr.index, asIntOf, Sem.run_bind, Sem.run_pure, Result.andThen_ok, run_underlying hu w, if_pos h1, sizeOf, typeInfo]
    simp [hq, hs, run_part_plain w he hc]
theorem wpList_index_str {P : Program} {ops : Array Oper} {rest : List Oper} {op : Oper} {a : Act} {w : World} {Q : Exit → Act → World → Prop} (hgd : op.guard = none) (xt : TypeId) (x y : Operand) (ho : op.op = .index xt x y)
    (e : TypeId) (n : Nat) (cs : Array Value) (k : Nat) (v : Value) (hx : a.eval x = .agg cs) (hy : a.eval y = .int .i64 (k : Int)) (hu : P.underlying xt = some (.array n e)) (hi : (P.info? e).map (·.size) = some 1) (he : P.plainKey e = true) (hk : k < n) (hc : cs[k]? = some v)
    (h : wpList P ops Q rest (a.put op.dst v) w) : wpList P ops Q (op :: rest) a w :=
  wpList_plain hgd fun _ hK => by
    unfold Oper.wp execOp
    simp only [ho, hx, hy]
    simp [run_index_str xt e n cs k v w hu hi he hk hc]
    exact hK _ _ h
def freqL : List (List UInt8) := [[83, 69, 67, 79, 78, 68, 76, 89], [77, 73, 78, 85, 84, 69, 76, 89], [72, 79, 85, 82, 76, 89], [68, 65, 73, 76, 89], [87, 69, 69, 75, 76, 89], [77, 79, 78, 84, 72, 76, 89], [89, 69, 65, 82, 76, 89]]
def dayL : List (List UInt8) := [[83, 85], [77, 79], [84, 85], [87, 69], [84, 72], [70, 82], [83, 65]]
def FreqT (w : World) : Prop := StrT 0 freqL w
def DayT (w : World) : Prop := StrT 1 dayL w
/-- The same in letters of whatever size. -/
def smE (A B : List UInt8) : Bool := decide (A.length = B.length ∧ smL A = smL B)
/-- The first of these words that a text is, from place k on. -/
def ixW (S : List UInt8) : Nat → List (List UInt8) → Option Nat
  | _, [] => none
  | k, w :: r => if smE S w = true then some k else ixW S (k + 1) r
def rfP (S : List UInt8) : Int × Bool := match ixW S 0 freqL with | some i => (1 + (i : Int), true) | none => (0, false)
def rwP (S : List UInt8) : Int × Bool := match ixW S 0 dayL with | some i => ((i : Int), true) | none => (0, false)
theorem sm_to (s : ByteArray) (S W : List UInt8) (r : Bool) (w : World) (hs : s.size ≤ 1000000) (hw : W.length ≤ 1000000) (hS : Hid (s.data.toList = S)) (h : Hid (smE S W = r)) :
    Calls Tryz.prog 72 #[.string s, .string ⟨W.toArray⟩] w fun e w' => e = .returned (.bool r) ∧ Below w.heap.size w w' :=
  Wrd.same_z s ⟨W.toArray⟩ S W _ _ r w hs (by show W.toArray.size ≤ _; simpa using hw) hS (Lib.hid rfl) (Lib.hid rfl) (Lib.hid rfl) h
theorem ix_hit {S : List UInt8} {L : List (List UInt8)} {k : Nat} (hk : k < L.length) (h : smE S (L.getD k []) = true) : ixW S k (L.drop k) = some k := by
  rw [List.getD_eq_getElem?_getD, List.getElem?_eq_getElem hk, Option.getD_some] at h
  rw [List.drop_eq_getElem_cons hk, ixW, if_pos h]
theorem ix_miss {S : List UInt8} {L : List (List UInt8)} {k : Nat} (hk : k < L.length) (h : smE S (L.getD k []) = false) : ixW S k (L.drop k) = ixW S (k + 1) (L.drop (k + 1)) := by
  rw [List.getD_eq_getElem?_getD, List.getElem?_eq_getElem hk, Option.getD_some] at h
  rw [List.drop_eq_getElem_cons hk, ixW, if_neg (by rw [h]; decide)]
theorem ix_end {S : List UInt8} {L : List (List UInt8)} {k : Nat} (hk : L.length ≤ k) : ixW S k (L.drop k) = none := by
  rw [List.drop_eq_nil_of_le hk, ixW]
theorem freq_len (k : Nat) : (freqL.getD k []).length ≤ 1000000 := by
  by_cases h : k < 7
  · have : k = 0 ∨ k = 1 ∨ k = 2 ∨ k = 3 ∨ k = 4 ∨ k = 5 ∨ k = 6 := by omega
    rcases this with rfl | rfl | rfl | rfl | rfl | rfl | rfl <;> decide
  · rw [List.getD_eq_getElem?_getD, List.getElem?_eq_none (by simp [freqL]; omega)]; simp
theorem day_len (k : Nat) : (dayL.getD k []).length ≤ 1000000 := by
  by_cases h : k < 7
  · have : k = 0 ∨ k = 1 ∨ k = 2 ∨ k = 3 ∨ k = 4 ∨ k = 5 ∨ k = 6 := by omega
    rcases this with rfl | rfl | rfl | rfl | rfl | rfl | rfl <;> decide
  · rw [List.getD_eq_getElem?_getD, List.getElem?_eq_none (by simp [dayL]; omega)]; simp
set_option maxHeartbeats 6400000 in
set_option maxRecDepth 100000 in
theorem rf_to (s : ByteArray) (S : List UInt8) (n : Int) (b : Bool) (w : World) (hT : FreqT w) (hs : s.size ≤ 1000000) (hS : Hid (s.data.toList = S)) (h : Hid (rfP S = (n, b))) :
    Calls Tryz.prog 49 #[.string s] w fun e w' => e = .returned (.tuple #[.int .i64 n, .bool b]) ∧ Below w.heap.size w w' := by
  have l0 := (hT.2 0 _ rfl)
  have l1 := (hT.2 1 _ rfl)
  have l2 := (hT.2 2 _ rfl)
  have l3 := (hT.2 3 _ rfl)
  have l4 := (hT.2 4 _ rfl)
  have l5 := (hT.2 5 _ rfl)
  have l6 := (hT.2 6 _ rfl)
  simp only [Nat.zero_add] at l0 l1 l2 l3 l4 l5 l6
  clear hT
  go_enter Tryz.func49, Tryz.ntmps49
  go_wp2_with fail
  clear l0 l1 l2 l3 l4 l5 l6
  go_loopw [7] (fun iv wr => ∃ k : Nat, k ≤ 7 ∧ iv = .int .i64 k ∧ Hid (ixW S 0 freqL = ixW S k (freqL.drop k)) ∧ Hid (Below w.heap.size w wr)) (fun iv _ => 7 - (intOf iv).toNat)
  case atStart => exact ⟨0, by omega, rfl, Lib.hid rfl, Lib.hid (Below.refl _ _)⟩
  case round =>
    obtain ⟨k, hk, rfl, HX, B⟩ := hrel
    obtain ⟨wo, rfl⟩ : ∃ wo : World, wo = wr := ⟨_, rfl⟩
    by_cases hlt : k < 7
    · go_upto_region 3 with fail
      go_cut [4, 5] from 8 to 16 (fun p q wz => p = .int .i64 k ∧ q = .string ⟨(freqL.getD k []).toArray⟩ ∧ wo = wz)
      case first =>
        have hc : ((freqL.map fun z => Value.string ⟨z.toArray⟩).toArray)[k]? = some (.string ⟨(freqL.getD k []).toArray⟩) := by
          rw [List.getElem?_toArray, List.getElem?_map, List.getElem?_eq_getElem (show k < freqL.length from hlt), List.getD_eq_getElem?_getD, List.getElem?_eq_getElem (show k < freqL.length from hlt)]
          rfl
        refine wp_region_lit ?_
        refine wpList_plain rfl (fun K hK => ?_)
        go_simp
        refine hK _ _ ?_
        clear hK K
        refine wpList_index_str rfl _ (.tmp 6) (.tmp 7) rfl 9 7 _ k _ rfl rfl Tryz.underlying48 (by kernel_rfl) (by kernel_rfl) hlt hc ?_
        go_wp2
        go_meet
        exact ⟨rfl, rfl, rfl⟩
      case rest =>
      obtain ⟨rfl, rfl, hwo⟩ := hcut
      subst hwo
      have hWl := freq_len k
      obtain ⟨W, hW⟩ : ∃ W, freqL.getD k [] = W := ⟨_, rfl⟩
      have HW := Lib.hid hW
      rw [hW] at hWl ⊢
      clear hW
      obtain ⟨r, hr⟩ : ∃ r, smE S W = r := ⟨_, rfl⟩
      have HR := Lib.hid hr
      clear hr
      go_wp2_with fail
      refine (sm_to s S W r _ hs hWl hS HR).mono ?_
      rintro e w2 ⟨rfl, k2⟩
      have B2 := Lib.hid (bstep B.out k2)
      clear k2 hWl
      cases r with
      | true =>
        have hv : (1 + (k : Int)) = n ∧ true = b := by
          have q := h.out
          rw [rfP, HX.out, ix_hit (by show k < 7; exact hlt) (by rw [HW.out]; exact HR.out)] at q
          exact Prod.mk.inj q
        obtain ⟨rfl, rfl⟩ := hv
        clear h HX HW HR
        have s1 : IntKind.i64.wrap (1 + (k : Int)) = 1 + (k : Int) := IntWalk.i64_in _ (by omega)
        go_wp2
        go_ret2
        exact ⟨rfl, B2.out⟩
      | false =>
        have HX2 : Hid (ixW S 0 freqL = ixW S (k + 1) (freqL.drop (k + 1))) := Lib.hid (HX.out.trans (ix_miss (by show k < 7; exact hlt) (by rw [HW.out]; exact HR.out)))
        clear h HX HW HR
        go_wp2
        go_roundw
        case rel => exact ⟨k + 1, by omega, by go_num, HX2, B2⟩
        case measure => simp [intOf]; omega
    · have hkn : k = 7 := by omega
      subst hkn
      have hv : 0 = n ∧ false = b := by
        have q := h.out
        rw [rfP, HX.out, ix_end (by show 7 ≤ 7; omega)] at q
        exact Prod.mk.inj q
      obtain ⟨rfl, rfl⟩ := hv
      go_wp2
      go_ret2
      exact ⟨rfl, B.out⟩
set_option maxHeartbeats 6400000 in
set_option maxRecDepth 100000 in
theorem rw_to (s : ByteArray) (S : List UInt8) (n : Int) (b : Bool) (w : World) (hT : DayT w) (hs : s.size ≤ 1000000) (hS : Hid (s.data.toList = S)) (h : Hid (rwP S = (n, b))) :
    Calls Tryz.prog 56 #[.string s] w fun e w' => e = .returned (.tuple #[.int .i64 n, .bool b]) ∧ Below w.heap.size w w' := by
  have l0 := (hT.2 0 _ rfl)
  have l1 := (hT.2 1 _ rfl)
  have l2 := (hT.2 2 _ rfl)
  have l3 := (hT.2 3 _ rfl)
  have l4 := (hT.2 4 _ rfl)
  have l5 := (hT.2 5 _ rfl)
  have l6 := (hT.2 6 _ rfl)
  simp only [Nat.zero_add] at l0 l1 l2 l3 l4 l5 l6
  clear hT
  go_enter Tryz.func56, Tryz.ntmps56
  go_wp2_with fail
  clear l0 l1 l2 l3 l4 l5 l6
  go_loopw [7] (fun iv wr => ∃ k : Nat, k ≤ 7 ∧ iv = .int .i64 k ∧ Hid (ixW S 0 dayL = ixW S k (dayL.drop k)) ∧ Hid (Below w.heap.size w wr)) (fun iv _ => 7 - (intOf iv).toNat)
  case atStart => exact ⟨0, by omega, rfl, Lib.hid rfl, Lib.hid (Below.refl _ _)⟩
  case round =>
    obtain ⟨k, hk, rfl, HX, B⟩ := hrel
    obtain ⟨wo, rfl⟩ : ∃ wo : World, wo = wr := ⟨_, rfl⟩
    by_cases hlt : k < 7
    · go_upto_region 3 with fail
      go_cut [4, 5] from 8 to 15 (fun p q wz => p = .int .i64 k ∧ q = .string ⟨(dayL.getD k []).toArray⟩ ∧ wo = wz)
      case first =>
        have hc : ((dayL.map fun z => Value.string ⟨z.toArray⟩).toArray)[k]? = some (.string ⟨(dayL.getD k []).toArray⟩) := by
          rw [List.getElem?_toArray, List.getElem?_map, List.getElem?_eq_getElem (show k < dayL.length from hlt), List.getD_eq_getElem?_getD, List.getElem?_eq_getElem (show k < dayL.length from hlt)]
          rfl
        refine wp_region_lit ?_
        refine wpList_plain rfl (fun K hK => ?_)
        go_simp
        refine hK _ _ ?_
        clear hK K
        refine wpList_index_str rfl _ (.tmp 6) (.tmp 7) rfl 9 7 _ k _ rfl rfl Tryz.underlying48 (by kernel_rfl) (by kernel_rfl) hlt hc ?_
        go_wp2
        go_meet
        exact ⟨rfl, rfl, rfl⟩
      case rest =>
      obtain ⟨rfl, rfl, hwo⟩ := hcut
      subst hwo
      have hWl := day_len k
      obtain ⟨W, hW⟩ : ∃ W, dayL.getD k [] = W := ⟨_, rfl⟩
      have HW := Lib.hid hW
      rw [hW] at hWl ⊢
      clear hW
      obtain ⟨r, hr⟩ : ∃ r, smE S W = r := ⟨_, rfl⟩
      have HR := Lib.hid hr
      clear hr
      go_wp2_with fail
      refine (sm_to s S W r _ hs hWl hS HR).mono ?_
      rintro e w2 ⟨rfl, k2⟩
      have B2 := Lib.hid (bstep B.out k2)
      clear k2 hWl
      cases r with
      | true =>
        have hv : ((k : Int)) = n ∧ true = b := by
          have q := h.out
          rw [rwP, HX.out, ix_hit (by show k < 7; exact hlt) (by rw [HW.out]; exact HR.out)] at q
          exact Prod.mk.inj q
        obtain ⟨rfl, rfl⟩ := hv
        clear h HX HW HR
        go_wp2
        go_ret2
        exact ⟨rfl, B2.out⟩
      | false =>
        have HX2 : Hid (ixW S 0 dayL = ixW S (k + 1) (dayL.drop (k + 1))) := Lib.hid (HX.out.trans (ix_miss (by show k < 7; exact hlt) (by rw [HW.out]; exact HR.out)))
        clear h HX HW HR
        go_wp2
        go_roundw
        case rel => exact ⟨k + 1, by omega, by go_num, HX2, B2⟩
        case measure => simp [intOf]; omega
    · have hkn : k = 7 := by omega
      subst hkn
      have hv : 0 = n ∧ false = b := by
        have q := h.out
        rw [rwP, HX.out, ix_end (by show 7 ≤ 7; omega)] at q
        exact Prod.mk.inj q
      obtain ⟨rfl, rfl⟩ := hv
      go_wp2
      go_ret2
      exact ⟨rfl, B.out⟩
end Rcp
end Go.Proofs.YtbeefhmnoihmcaaGreatDoor
/-
  recur.readNumber, recur.readSigned, recur.readDay.
-/
namespace Go.Proofs.YtbeefhmnoihmcaaGreatDoor
open Go.RowKit
namespace Rcp
open Cel
def rnP (S : List UInt8) : Int × Bool := if S.length ≤ 6 then (Sol.parseV S, Sol.parseB S) else (0, false)
def rsX (S : List UInt8) : List UInt8 := if Lib.hasPrefix S [45] = true then Lib.trimPrefix S [45] else Lib.trimPrefix S [43]
def rsP (S : List UInt8) : Int × Bool := (if Lib.hasPrefix S [45] = true then -(rnP (rsX S)).1 else (rnP (rsX S)).1, (rnP (rsX S)).2)
def rdP (S : List UInt8) : (Int × Int) × Bool :=
  if S.length < 2 then ((0, 0), false)
  else if (rwP (S.drop (S.length - 2))).2 = false ∨ S.length = 2 then ((0, (rwP (S.drop (S.length - 2))).1), (rwP (S.drop (S.length - 2))).2)
  else (((rsP (S.take (S.length - 2))).1, (rwP (S.drop (S.length - 2))).1), (rsP (S.take (S.length - 2))).2 && decide ((rsP (S.take (S.length - 2))).1 ≠ 0))
theorem rn_bd (S : List UInt8) : 0 ≤ (rnP S).1 ∧ (rnP S).1 ≤ 999999 := by
  rw [rnP]
  split
  · rename_i h
    by_cases hp : Sol.parseB S = true
    · rw [Sol.parseV_yes hp]
      have hd : S.all Sol.isDig = true := by
        have := hp
        rw [Sol.parseB, Bool.and_eq_true] at this
        exact this.2
      have b := Sol.digVal_bd S hd
      refine ⟨b.1, ?_⟩
      show Sol.digVal S ≤ 999999
      have hv : S.length = 0 ∨ S.length = 1 ∨ S.length = 2 ∨ S.length = 3 ∨ S.length = 4 ∨ S.length = 5 ∨ S.length = 6 := by omega
      rcases hv with e | e | e | e | e | e | e
      all_goals
        rw [e] at b
        simp only [Int.reducePow] at b
        omega
    · rw [Sol.parseV_no (by simpa using hp)]
      exact ⟨by show (0 : Int) ≤ 0; decide, by show (0 : Int) ≤ 999999; decide⟩
  · exact ⟨by decide, by decide⟩
set_option maxHeartbeats 3200000 in
set_option maxRecDepth 100000 in
theorem rn_to (s : ByteArray) (S : List UInt8) (n : Int) (b : Bool) (w : World) (hs : s.size ≤ 1000000) (hS : Hid (s.data.toList = S)) (h : Hid (rnP S = (n, b))) :
    Calls Tryz.prog 50 #[.string s] w fun e w' => e = .returned (.tuple #[.int .i64 n, .bool b]) ∧ w = w' := by
  have hl : s.size = S.length := by rw [← hS.out]; simp
  have HP : Hid (s.size ≤ 6 → Sol.parseV s.data.toList = n ∧ Sol.parseB s.data.toList = b) := Lib.hid (fun q => by
    have e := h.out
    rw [rnP, if_pos (by omega)] at e
    rw [hS.out]; exact Prod.mk.inj e)
  have HN : Hid (6 < s.size → 0 = n ∧ false = b) := Lib.hid (fun q => by
    have e := h.out
    rw [rnP, if_neg (by omega)] at e
    exact Prod.mk.inj e)
  clear hl h hS
  by_cases c : 6 < s.size
  · obtain ⟨rfl, rfl⟩ := HN.out c
    go_enter Tryz.func50, Tryz.ntmps50
    go_wp2
    go_ret2
    exact ⟨rfl, rfl⟩
  · obtain ⟨h1, h2⟩ := HP.out (by omega)
    go_enter Tryz.func50, Tryz.ntmps50
    go_wp2_with fail
    refine (parse_any s _ (by unfold maxLen; omega)).mono ?_
    rintro e w1 ⟨rfl, rfl⟩
    rw [h1, h2]
    go_wp2
    go_ret2
    exact ⟨rfl, rfl⟩
set_option maxHeartbeats 3200000 in
set_option maxRecDepth 100000 in
theorem rs_to (s : ByteArray) (S : List UInt8) (n : Int) (b : Bool) (w : World) (hs : s.size ≤ 1000000) (hS : Hid (s.data.toList = S)) (h : Hid (rsP S = (n, b))) :
    Calls Tryz.prog 53 #[.string s] w fun e w' => e = .returned (.tuple #[.int .i64 n, .bool b]) ∧ w = w' := by
  have hl : s.size = S.length := by rw [← hS.out]; simp
  obtain ⟨m, c, hm⟩ : ∃ m c, rnP (rsX S) = (m, c) := ⟨_, _, rfl⟩
  have hb := rn_bd (rsX S)
  rw [hm] at hb
  have s1 : IntKind.i64.wrap (-m) = -m := IntWalk.i64_in _ (by simp at hb; omega)
  have HM := Lib.hid hm
  obtain ⟨X, hX⟩ : ∃ X, Lib.trimPrefix S [45] = X := ⟨_, rfl⟩
  obtain ⟨Y, hY⟩ : ∃ Y, Lib.trimPrefix S [43] = Y := ⟨_, rfl⟩
  obtain ⟨q, hq⟩ : ∃ q, Lib.hasPrefix S [45] = q := ⟨_, rfl⟩
  obtain ⟨q2, hq2⟩ : ∃ q, Lib.hasPrefix S [43] = q := ⟨_, rfl⟩
  have HX := Lib.hid (And.intro hX hq)
  have HY := Lib.hid (And.intro hY hq2)
  have HR : Hid ((if q = true then -m else m, c) = (n, b)) := Lib.hid (by have e := h.out; rw [rsP, hm, hq] at e; exact e)
  have HZ : Hid (rnP (if q = true then X else Y) = (m, c)) := Lib.hid (by rw [← hX, ← hY, ← hq]; exact hm)
  have hXl : X.length ≤ S.length := by rw [← hX]; unfold Lib.trimPrefix; split <;> simp
  have hYl : Y.length ≤ S.length := by rw [← hY]; unfold Lib.trimPrefix; split <;> simp
  have SX : Hid ((⟨X.toArray⟩ : ByteArray).size ≤ 1000000) := Lib.hid (by show X.toArray.size ≤ _; simp; omega)
  have SY : Hid ((⟨Y.toArray⟩ : ByteArray).size ≤ 1000000) := Lib.hid (by show Y.toArray.size ≤ _; simp; omega)
  clear hl h hm hb hX hY hq hq2 hXl hYl
  go_enter Tryz.func53, Tryz.ntmps53
  go_wp2_with fail
  refine (Val.cutpre_to s _ S [45] X q _ hS (Lib.hid rfl) HX).mono ?_
  rintro e w1 ⟨rfl, rfl⟩
  cases q with
  | true =>
    have hz : rnP X = (m, c) := by have e := HZ.out; rw [if_pos rfl] at e; exact e
    have HZ2 := Lib.hid hz
    have hr := HR.out
    rw [if_pos rfl] at hr
    obtain ⟨rfl, rfl⟩ := Prod.mk.inj hr
    clear hz hr HR HM
    go_wp2_with fail
    refine (rn_to _ X m c _ SX.out (Lib.hid rfl) HZ2).mono ?_
    rintro e w1 ⟨rfl, rfl⟩
    go_wp2
    go_ret2
    exact ⟨rfl, rfl⟩
  | false =>
    have hz : rnP Y = (m, c) := by have e := HZ.out; rw [if_neg (by decide)] at e; exact e
    have HZ2 := Lib.hid hz
    have hr := HR.out
    rw [if_neg (by decide)] at hr
    obtain ⟨rfl, rfl⟩ := Prod.mk.inj hr
    clear hz hr HR HM
    go_wp2_with fail
    refine (Val.cutpre_to s _ S [43] Y q2 _ hS (Lib.hid rfl) HY).mono ?_
    rintro e w1 ⟨rfl, rfl⟩
    go_wp2_with fail
    refine (rn_to _ Y m c _ SY.out (Lib.hid rfl) HZ2).mono ?_
    rintro e w1 ⟨rfl, rfl⟩
    go_wp2
    go_ret2
    exact ⟨rfl, rfl⟩
theorem res2 {P : Program} {fn : Func} {tmps : Array Value} {g : Nat} {W : World} {vs : List Value} {v : Value} (h : Cs g W vs) (k : ∀ W', Cs g W' vs → (results fn tmps).run P W' = .ok v W') : (results fn tmps).run P W = .ok v W := k W h
theorem two {g : Nat} {w : World} {v0 v1 : Value} (h : Cs g w [v0, v1]) (u0 u1 : Value) : Cs g ((w.setCell ⟨g, 0, none⟩ u0).setCell ⟨g, 1, none⟩ u1) [u0, u1] := (h.set 0 (by simp) u0).set 1 (by simp) u1
set_option maxHeartbeats 3200000 in
set_option maxRecDepth 100000 in
theorem rd_to (s : ByteArray) (S : List UInt8) (n k : Int) (b : Bool) (w : World) (hT : DayT w) (hs : s.size ≤ 1000000) (hS : Hid (s.data.toList = S)) (h : Hid (rdP S = ((n, k), b))) :
    Calls Tryz.prog 55 #[.string s] w fun e w' => e = .returned (.tuple #[.agg #[.int .i64 n, .int .i64 k], .bool b]) ∧ Below w.heap.size w w' := by
  have HT := Lib.hid hT
  have hl : s.size = S.length := by rw [← hS.out]; simp
  have hh := h.out
  rw [rdP] at hh
  clear h hT
  by_cases c : s.size < 2
  · rw [if_pos (by omega)] at hh
    obtain ⟨h1, rfl⟩ := Prod.mk.inj hh
    obtain ⟨rfl, rfl⟩ := Prod.mk.inj h1
    clear hh h1 hl
    go_enter Tryz.func55, Tryz.ntmps55
    go_wp2
    refine bodyPost_ret (v := .tuple #[.agg #[.int .i64 0, .int .i64 0], .bool false]) (by simp [results, Tryz.results55, go_sem]) rfl ⟨rfl, (Below.refl _ _).alloc (Nat.le_refl _) _⟩
  · rw [if_neg (by omega)] at hh
    obtain ⟨m, hm⟩ : ∃ m, s.size = m + 2 := ⟨s.size - 2, by omega⟩
    have s2 : IntKind.i64.wrap ((s.size : Int) - 2) = (m : Int) := by rw [IntWalk.i64_in _ (by omega)]; omega
    have s3 : (m : Int) ≤ (s.size : Int) := by omega
    have hm2 : S.length - 2 = m := by omega
    rw [hm2] at hh
    obtain ⟨k2, b2, hW⟩ : ∃ k2 b2, rwP (S.drop m) = (k2, b2) := ⟨_, _, rfl⟩
    obtain ⟨n2, c2, hR⟩ : ∃ n2 c2, rsP (S.take m) = (n2, c2) := ⟨_, _, rfl⟩
    rw [hW, hR] at hh
    have HW := Lib.hid hW
    have HR := Lib.hid hR
    have HH : Hid ((b2 = false ∨ m = 0 → (0 = n ∧ k2 = k) ∧ b2 = b) ∧ (¬ (b2 = false ∨ m = 0) → (n2 = n ∧ k2 = k) ∧ (c2 && decide (n2 ≠ 0)) = b)) := Lib.hid (by
      refine ⟨fun q => ?_, fun q => ?_⟩
      · rw [if_pos (q.imp id (fun z => by omega))] at hh
        have e := Prod.mk.inj hh
        exact ⟨Prod.mk.inj e.1, e.2⟩
      · rw [if_neg (fun z => q (z.imp id (fun z => by omega)))] at hh
        have e := Prod.mk.inj hh
        exact ⟨Prod.mk.inj e.1, e.2⟩)
    have E1 : Hid ((s.extract m s.size).data.toList = S.drop m ∧ (s.extract m s.size).size ≤ 1000000) := Lib.hid ⟨by rw [Lib.extract_data, List.take_of_length_le (by rw [List.length_drop]; simp), hS.out], by rw [ByteArray.size_extract]; omega⟩
    have E2 : Hid ((s.extract 0 m).data.toList = S.take m ∧ (s.extract 0 m).size ≤ 1000000) := Lib.hid ⟨by rw [Lib.extract_data, hS.out]; simp, by rw [ByteArray.size_extract]; omega⟩
    have HM := Lib.hid hm
    have p2 : ((s.size : Int) == 2) = decide (m = 0) := by
      by_cases z : m = 0
      · rw [decide_eq_true z, hm, z]; rfl
      · rw [decide_eq_false z]; exact beq_eq_false_iff_ne.2 (by omega)
    clear hW hR hh hl hm2 hm
    go_enter Tryz.func55, Tryz.ntmps55
    go_wp2_with fail
    refine (rw_to _ (S.drop m) k2 b2 _ (StrT.below HT.out ((Below.refl _ _).alloc (Nat.le_refl _) _)) E1.out.2 (Lib.hid E1.out.1) HW).mono ?_
    rintro e w2 ⟨rfl, q2⟩
    have D := Lib.hid ((Cs.new w [.int .i64 0, .int .i64 0] 30).below q2)
    have B := Lib.hid (bstep ((Below.refl w.heap.size w).alloc (Nat.le_refl _) (Obj.cells #[.int .i64 0, .int .i64 0] 30)) q2)
    clear q2
    have d0 := (D.out.2 0 _ rfl).1
    have d1 := (D.out.2 1 _ rfl).1
    have f0 := (D.out.2 0 _ rfl).2
    have f1 := (D.out.2 1 _ rfl).2
    cases b2 with
    | false =>
      obtain ⟨⟨rfl, rfl⟩, rfl⟩ := HH.out.1 (Or.inl rfl)
      clear HH
      go_wp2
      exact bodyPost_ret (v := .tuple #[.agg #[.int .i64 0, .int .i64 k2], .bool false]) (res2 (two D.out _ _) (fun W h => by have t0 := (h.2 0 _ rfl).1; have t1 := (h.2 1 _ rfl).1; simp [results, Tryz.results55, go_sem, t0, t1])) rfl ⟨rfl, (B.out.setCell (Nat.le_refl _) _).setCell (Nat.le_refl _) _⟩
    | true =>
      by_cases z : m = 0
      · obtain ⟨⟨rfl, rfl⟩, rfl⟩ := HH.out.1 (Or.inr z)
        rw [decide_eq_true z] at p2
        clear HH z
        go_wp2
        exact bodyPost_ret (v := .tuple #[.agg #[.int .i64 0, .int .i64 k2], .bool true]) (res2 (two D.out _ _) (fun W h => by have t0 := (h.2 0 _ rfl).1; have t1 := (h.2 1 _ rfl).1; simp [results, Tryz.results55, go_sem, t0, t1])) rfl ⟨rfl, (B.out.setCell (Nat.le_refl _) _).setCell (Nat.le_refl _) _⟩
      · obtain ⟨⟨rfl, rfl⟩, hb⟩ := HH.out.2 (by rintro (q | q); cases q; exact z q)
        have HB := Lib.hid hb
        rw [decide_eq_false z] at p2
        clear HH z hb
        go_wp2_with fail
        refine (rs_to _ (S.take m) n2 c2 _ E2.out.2 (Lib.hid E2.out.1) HR).mono ?_
        rintro e w3 ⟨rfl, rfl⟩
        cases c2 with
        | false =>
          have e : b = false := by rw [← HB.out]; rfl
          subst e
          clear HB
          go_wp2
          exact bodyPost_ret (v := .tuple #[.agg #[.int .i64 n2, .int .i64 k2], .bool false]) (res2 (two D.out _ _) (fun W h => by have t0 := (h.2 0 _ rfl).1; have t1 := (h.2 1 _ rfl).1; simp [results, Tryz.results55, go_sem, t0, t1])) rfl ⟨rfl, (B.out.setCell (Nat.le_refl _) _).setCell (Nat.le_refl _) _⟩
        | true =>
          have e : b = (n2 != 0) := by rw [← HB.out]; by_cases z : n2 = 0 <;> simp [z]
          subst e
          clear HB
          go_wp2
          exact bodyPost_ret (v := .tuple #[.agg #[.int .i64 n2, .int .i64 k2], .bool (n2 != 0)]) (res2 (two D.out _ _) (fun W h => by have t0 := (h.2 0 _ rfl).1; have t1 := (h.2 1 _ rfl).1; simp [results, Tryz.results55, go_sem, t0, t1])) rfl ⟨rfl, (B.out.setCell (Nat.le_refl _) _).setCell (Nat.le_refl _) _⟩
end Rcp
end Go.Proofs.YtbeefhmnoihmcaaGreatDoor
/-
  strings.Split at one sign; recur.readList of numbers. (Written by gen/gen_rcpc.py.)
-/
namespace Go.Proofs.YtbeefhmnoihmcaaGreatDoor
open Go.RowKit
namespace Rcp
open Cel
open Spc
open Wrd (MaxL)
open Ap (RowI Grew)
theorem mx_below {w w' : World} (h : MaxL w) (hb : Below w.heap.size w w') : MaxL w' := by
  obtain ⟨m, h1, h2⟩ := h
  exact ⟨m, Nat.lt_of_lt_of_le h1 hb.size, (hb.cell (p := ⟨_, 0, none⟩) h1).trans h2⟩
/-- The row of texts at g. -/
def SpR (g : Nat) (w : World) (Q : List (List UInt8)) : Prop := g < w.heap.size ∧ ∀ (j : Nat) (hj : j < Q.length), w.cell? ⟨g, j, none⟩ = some (.string ⟨Q[j].toArray⟩)
theorem SpR.below {g : Nat} {w w' : World} {Q : List (List UInt8)} (h : SpR g w Q) (hb : Below w.heap.size w w') : SpR g w' Q :=
  ⟨Nat.lt_of_lt_of_le h.1 hb.size, fun j hj => (hb.cell (p := ⟨g, j, none⟩) h.1).trans (h.2 j hj)⟩
theorem split_to (c : UInt8) (s : ByteArray) (S : List UInt8) (Q : List (List UInt8)) (w : World) (hM : MaxL w) (hs : s.size ≤ 1000000) (hS : Hid (s.data.toList = S)) (h : Hid (spG c [] S = Q)) :
    Calls Tryz.prog 26 #[.string s, .string ⟨#[c]⟩] w fun e w' => e = .returned (.slice (some ⟨w.heap.size, 0, none⟩) Q.length Q.length) ∧ SpR w.heap.size w' Q ∧ Below w.heap.size w w' := by
  refine (Tryz.strings_Split s ⟨#[c]⟩ hM.choose _ (by omega) hM.choose_spec.2 (by show 1 ≤ 1; omega)).mono ?_
  rintro e w1 ⟨rfl, rfl⟩
  have hP := sp_split (d := c) s
  rw [hS.out, h.out] at hP
  have hl := Lib.splitB_all ⟨#[c]⟩ (by show 1 ≤ 1; omega) 0 _ s rfl
  obtain ⟨P, hPe⟩ : ∃ P, Lib.splitB ⟨#[c]⟩ 0 (Lib.countB s ⟨#[c]⟩) s = P := ⟨_, rfl⟩
  rw [hPe] at hP hl ⊢
  have hQl : Q.length = Lib.countB s ⟨#[c]⟩ + 1 := by rw [← hP, List.length_map, hl]
  refine ⟨by rw [hQl], ⟨by simp, fun j hj => ?_⟩, (Below.refl _ _).alloc (Nat.le_refl _) _⟩
  subst hP
  rw [World.cell?_alloc_new]
  have hj2 : j < P.length := by simpa using hj
  simp [hj2]
/-- What each of these texts reads as, if all of them do. -/
def rlG {α : Type} (f : List UInt8 → α × Bool) : List (List UInt8) → Option (List α)
  | [] => some []
  | q :: r => if (f q).2 = true then (rlG f r).map (fun x => (f q).1 :: x) else none
def rlP {α : Type} (f : List UInt8 → α × Bool) (S : List UInt8) : List α × Bool := match rlG f (spG 44 [] S) with | some L => (L, true) | none => ([], false)
theorem rl_no {α : Type} {f : List UInt8 → α × Bool} {Q : List (List UInt8)} {M : List α} {k : Nat} (hk : k < Q.length) (h : rlG f Q = (rlG f (Q.drop k)).map (fun x => M ++ x)) (hf : (f Q[k]).2 = false) : rlG f Q = none := by
  rw [h, List.drop_eq_getElem_cons hk, rlG, if_neg (by rw [hf]; decide)]; rfl
theorem rl_yes {α : Type} {f : List UInt8 → α × Bool} {Q : List (List UInt8)} {M : List α} {k : Nat} {x : α} (hk : k < Q.length) (h : rlG f Q = (rlG f (Q.drop k)).map (fun x => M ++ x)) (hf : f Q[k] = (x, true)) : rlG f Q = (rlG f (Q.drop (k + 1))).map (fun y => (M ++ [x]) ++ y) := by
  rw [h, List.drop_eq_getElem_cons hk, rlG, hf, if_pos rfl, Option.map_map]
  congr 1
  funext y
  simp
theorem rl_all {α : Type} {f : List UInt8 → α × Bool} {Q : List (List UInt8)} {M : List α} {k : Nat} (hk : Q.length ≤ k) (h : rlG f Q = (rlG f (Q.drop k)).map (fun x => M ++ x)) : rlG f Q = some M := by
  rw [h, List.drop_eq_nil_of_le hk, rlG]; simp
theorem rl_start {α : Type} {f : List UInt8 → α × Bool} (Q : List (List UInt8)) : rlG f Q = (rlG f (Q.drop 0)).map (fun x => ([] : List α) ++ x) := by
  rw [List.drop_zero]; cases rlG f Q <;> rfl
set_option maxHeartbeats 6400000 in
set_option maxRecDepth 100000 in
theorem rln_to (s : ByteArray) (S : List UInt8) (L : List Int) (b : Bool) (w : World) (hM : MaxL w) (hs : s.size ≤ 100000) (hS : Hid (s.data.toList = S)) (h : Hid (rlP rnP S = (L, b))) :
    Calls Tryz.prog 52 #[.string s, .func (.func 50) #[] #[]] w fun e w' => ∃ v B, e = .returned (.tuple #[v, .bool b]) ∧ Hid (RowI B w' v L) ∧ w.heap.size ≤ B ∧ Below w.heap.size w w' := by
  obtain ⟨Q, hQ⟩ : ∃ Q, spG 44 [] S = Q := ⟨_, rfl⟩
  have hl : S.length = s.size := by rw [← hS.out]; simp
  have hlen := sp_len (d := 44) S []
  have hsz := sp_sz (d := 44) S []
  rw [hQ] at hlen hsz
  have HQ := Lib.hid hQ
  have HZ : Hid (∀ (j : Nat) (hj : j < Q.length), Q[j].length ≤ 1000000) := Lib.hid (fun j hj => by
    have := hsz _ (List.getElem_mem hj)
    simp at this; omega)
  have HH : Hid ((rlG rnP Q = none → [] = L ∧ false = b) ∧ (∀ M, rlG rnP Q = some M → M = L ∧ true = b)) := Lib.hid (by
    have e := h.out
    rw [rlP, hQ] at e
    exact ⟨fun q => by rw [q] at e; exact Prod.mk.inj e, fun M q => by rw [q] at e; exact Prod.mk.inj e⟩)
  obtain ⟨n, hn⟩ : ∃ n, Q.length = n := ⟨_, rfl⟩
  have HN := Lib.hid hn
  have hn1 : n ≤ 100001 := by omega
  clear hQ hlen hsz h hl hn
  go_enter Tryz.func52, Tryz.ntmps52
  go_wp2_with fail
  refine (split_to 44 s S Q _ hM (by omega) hS HQ).mono ?_
  rintro e w1 ⟨rfl, hR, hB⟩
  have R := Lib.hid hR
  have B1 := Lib.hid hB
  have hz1 : w.heap.size ≤ w1.heap.size := hB.size
  rw [HN.out]
  clear hR hB
  go_wp2_with fail
  go_loopw [6, 14] (fun lv iv wr => ∃ (k : Nat) (M : List Int), k ≤ n ∧ M.length = k ∧ iv = .int .i64 k ∧ Hid (rlG rnP Q = (rlG rnP (Q.drop k)).map (fun x => M ++ x)) ∧ Hid (RowI w1.heap.size wr lv M) ∧ Hid (Below w1.heap.size w1 wr)) (fun _ iv _ => n - (intOf iv).toNat)
  case atStart => exact ⟨0, [], Nat.zero_le _, rfl, rfl, Lib.hid (rl_start Q), Lib.hid (RowI.nil _ _), Lib.hid (Below.refl _ _)⟩
  case round =>
    obtain ⟨k, M, hk, hM2, rfl, HT, HR, B2⟩ := hrel
    obtain ⟨wo, rfl⟩ : ∃ wo : World, wo = wr := ⟨_, rfl⟩
    by_cases hlt : k < n
    · have h1L : k < Q.length := by rw [HN.out]; exact hlt
      have c1 := (R.out.below B2.out |>.2) k h1L
      have hzk := HZ.out k h1L
      obtain ⟨q, hq⟩ : ∃ q, Q[k] = q := ⟨_, rfl⟩
      have Hq := Lib.hid hq
      rw [hq] at c1 hzk
      clear hq
      obtain ⟨x, c, hx⟩ : ∃ x c, rnP q = (x, c) := ⟨_, _, rfl⟩
      have HX := Lib.hid hx
      clear hx
      go_wp2_with fail
      refine (rn_to ⟨q.toArray⟩ q x c _ (by show q.toArray.size ≤ _; simpa using hzk) (Lib.hid rfl) HX).mono ?_
      rintro e w2 ⟨rfl, rfl⟩
      cases c with
      | false =>
        obtain ⟨rfl, rfl⟩ := HH.out.1 (rl_no h1L HT.out (by rw [Hq.out, HX.out]))
        clear HH HT HZ
        go_wp2
        go_ret2
        exact ⟨_, w1.heap.size, rfl, Lib.hid (RowI.nil _ _), hz1, bstep B1.out B2.out⟩
      | true =>
        have HT2 := Lib.hid (rl_yes h1L HT.out (by rw [Hq.out, HX.out]))
        have hl8 : M.length ≤ 100000000 := by omega
        have hsz := B2.out.size
        clear HT HX Hq h1L
        go_wp2_with (at_builtin; refine Ap.appI rfl _ _ rfl w1.heap.size _ M rfl HR.out x rfl hl8 hsz ?_)
        intro w5 gg gcap r5 g5
        have B5 := Lib.hid (g5.below w1.heap.size w1 (Nat.le_refl _) B2.out B2.out.size)
        have R5 := Lib.hid r5
        clear r5 g5 HR
        go_wp2
        go_roundw
        case rel => exact ⟨k + 1, M ++ [x], by omega, by rw [List.length_append]; simp; omega, by go_num, HT2, R5, B5⟩
        case measure => simp [intOf]; omega
    · have hkn : k = n := by omega
      obtain ⟨rfl, rfl⟩ := HH.out.2 M (rl_all (by rw [HN.out]; omega) HT.out)
      clear HH HT
      go_wp2
      go_ret2
      exact ⟨_, w1.heap.size, rfl, HR, hz1, bstep B1.out B2.out⟩
set_option maxHeartbeats 6400000 in
set_option maxRecDepth 100000 in
theorem rls_to (s : ByteArray) (S : List UInt8) (L : List Int) (b : Bool) (w : World) (hM : MaxL w) (hs : s.size ≤ 100000) (hS : Hid (s.data.toList = S)) (h : Hid (rlP rsP S = (L, b))) :
    Calls Tryz.prog 52 #[.string s, .func (.func 53) #[] #[]] w fun e w' => ∃ v B, e = .returned (.tuple #[v, .bool b]) ∧ Hid (RowI B w' v L) ∧ w.heap.size ≤ B ∧ Below w.heap.size w w' := by
  obtain ⟨Q, hQ⟩ : ∃ Q, spG 44 [] S = Q := ⟨_, rfl⟩
  have hl : S.length = s.size := by rw [← hS.out]; simp
  have hlen := sp_len (d := 44) S []
  have hsz := sp_sz (d := 44) S []
  rw [hQ] at hlen hsz
  have HQ := Lib.hid hQ
  have HZ : Hid (∀ (j : Nat) (hj : j < Q.length), Q[j].length ≤ 1000000) := Lib.hid (fun j hj => by
    have := hsz _ (List.getElem_mem hj)
    simp at this; omega)
  have HH : Hid ((rlG rsP Q = none → [] = L ∧ false = b) ∧ (∀ M, rlG rsP Q = some M → M = L ∧ true = b)) := Lib.hid (by
    have e := h.out
    rw [rlP, hQ] at e
    exact ⟨fun q => by rw [q] at e; exact Prod.mk.inj e, fun M q => by rw [q] at e; exact Prod.mk.inj e⟩)
  obtain ⟨n, hn⟩ : ∃ n, Q.length = n := ⟨_, rfl⟩
  have HN := Lib.hid hn
  have hn1 : n ≤ 100001 := by omega
  clear hQ hlen hsz h hl hn
  go_enter Tryz.func52, Tryz.ntmps52
  go_wp2_with fail
  refine (split_to 44 s S Q _ hM (by omega) hS HQ).mono ?_
  rintro e w1 ⟨rfl, hR, hB⟩
  have R := Lib.hid hR
  have B1 := Lib.hid hB
  have hz1 : w.heap.size ≤ w1.heap.size := hB.size
  rw [HN.out]
  clear hR hB
  go_wp2_with fail
  go_loopw [6, 14] (fun lv iv wr => ∃ (k : Nat) (M : List Int), k ≤ n ∧ M.length = k ∧ iv = .int .i64 k ∧ Hid (rlG rsP Q = (rlG rsP (Q.drop k)).map (fun x => M ++ x)) ∧ Hid (RowI w1.heap.size wr lv M) ∧ Hid (Below w1.heap.size w1 wr)) (fun _ iv _ => n - (intOf iv).toNat)
  case atStart => exact ⟨0, [], Nat.zero_le _, rfl, rfl, Lib.hid (rl_start Q), Lib.hid (RowI.nil _ _), Lib.hid (Below.refl _ _)⟩
  case round =>
    obtain ⟨k, M, hk, hM2, rfl, HT, HR, B2⟩ := hrel
    obtain ⟨wo, rfl⟩ : ∃ wo : World, wo = wr := ⟨_, rfl⟩
    by_cases hlt : k < n
    · have h1L : k < Q.length := by rw [HN.out]; exact hlt
      have c1 := (R.out.below B2.out |>.2) k h1L
      have hzk := HZ.out k h1L
      obtain ⟨q, hq⟩ : ∃ q, Q[k] = q := ⟨_, rfl⟩
      have Hq := Lib.hid hq
      rw [hq] at c1 hzk
      clear hq
      obtain ⟨x, c, hx⟩ : ∃ x c, rsP q = (x, c) := ⟨_, _, rfl⟩
      have HX := Lib.hid hx
      clear hx
      go_wp2_with fail
      refine (rs_to ⟨q.toArray⟩ q x c _ (by show q.toArray.size ≤ _; simpa using hzk) (Lib.hid rfl) HX).mono ?_
      rintro e w2 ⟨rfl, rfl⟩
      cases c with
      | false =>
        obtain ⟨rfl, rfl⟩ := HH.out.1 (rl_no h1L HT.out (by rw [Hq.out, HX.out]))
        clear HH HT HZ
        go_wp2
        go_ret2
        exact ⟨_, w1.heap.size, rfl, Lib.hid (RowI.nil _ _), hz1, bstep B1.out B2.out⟩
      | true =>
        have HT2 := Lib.hid (rl_yes h1L HT.out (by rw [Hq.out, HX.out]))
        have hl8 : M.length ≤ 100000000 := by omega
        have hsz := B2.out.size
        clear HT HX Hq h1L
        go_wp2_with (at_builtin; refine Ap.appI rfl _ _ rfl w1.heap.size _ M rfl HR.out x rfl hl8 hsz ?_)
        intro w5 gg gcap r5 g5
        have B5 := Lib.hid (g5.below w1.heap.size w1 (Nat.le_refl _) B2.out B2.out.size)
        have R5 := Lib.hid r5
        clear r5 g5 HR
        go_wp2
        go_roundw
        case rel => exact ⟨k + 1, M ++ [x], by omega, by rw [List.length_append]; simp; omega, by go_num, HT2, R5, B5⟩
        case measure => simp [intOf]; omega
    · have hkn : k = n := by omega
      obtain ⟨rfl, rfl⟩ := HH.out.2 M (rl_all (by rw [HN.out]; omega) HT.out)
      clear HH HT
      go_wp2
      go_ret2
      exact ⟨_, w1.heap.size, rfl, HR, hz1, bstep B1.out B2.out⟩
end Rcp
end Go.Proofs.YtbeefhmnoihmcaaGreatDoor
/-
  Rows of weekdays that a call owns; recur.readList of weekdays. (Written by gen/gen_rcpd.py.)
-/
namespace Go.Proofs.YtbeefhmnoihmcaaGreatDoor
open Go.RowKit
namespace Rcp
open Cel
open Spc
open Wrd (MaxL)
open Ap (RowI Grew)
theorem infoD : (Tryz.prog.info? 30).map (fun i => (i.zero, i.size, i.bytes)) = some (some (.agg #[.int .i64 0, .int .i64 0]), 2, 16) := by kernel_rfl
def dvL (L : List (Int × Int)) : List Value := L.flatMap fun d => [.int .i64 d.1, .int .i64 d.2]
theorem dv_len (L : List (Int × Int)) : (dvL L).length = L.length * 2 := by
  induction L with
  | nil => rfl
  | cons d r ih => simp only [dvL, List.flatMap_cons, List.length_append, List.length_cons, List.length_nil] at ih ⊢; omega
theorem dv_at : ∀ (L : List (Int × Int)) (j : Nat) (hj : j < L.length), (dvL L)[j * 2]? = some (.int .i64 L[j].1) ∧ (dvL L)[j * 2 + 1]? = some (.int .i64 L[j].2)
  | [], j, hj => by simp at hj
  | d :: r, 0, _ => by simp [dvL]
  | d :: r, j + 1, hj => by
    have ih := dv_at r j (by simpa using hj)
    have e : dvL (d :: r) = .int .i64 d.1 :: .int .i64 d.2 :: dvL r := rfl
    rw [e, show (j + 1) * 2 = j * 2 + 1 + 1 by omega]
    simpa using ih
/-- A row of weekdays that the call owns. -/
def RowD (B : Nat) (w : World) (v : Value) (L : List (Int × Int)) : Prop := w.ownsRow B 30 2 v L.length (dvL L)
theorem RowD.nil (B : Nat) (w : World) : RowD B w (.slice none 0 0) [] := World.ownsRow_nil _ _ _ _
theorem RowD.below {B : Nat} {w w' : World} {v : Value} {L : List (Int × Int)} (h : RowD B w v L) (hb : Below w.heap.size w w') : RowD B w' v L := Ap.own_below h hb
theorem RowD.days {B : Nat} {w : World} {v : Value} {L : List (Int × Int)} (h : RowD B w v L) : Rcv.DayV w v L := by
  by_cases h0 : L.length = 0
  · rcases h.2 with ⟨h1, h2⟩ | ⟨g, cap, cur, h1, _⟩
    · exact ⟨none, 0, 0, h1, h2.symm, fun j hj => by omega⟩
    · exact ⟨_, _, _, h1, rfl, fun j hj => by omega⟩
  · obtain ⟨g, c, rfl, hb, hl⟩ := World.ownsRow.form h (by omega)
    refine ⟨_, _, _, rfl, rfl, fun j hj => ⟨g, 0, rfl, hl, ?_, ?_⟩⟩
    · rw [Nat.zero_add, World.ownsRow.cellAt h (j * 2) (by omega), (dv_at L j hj).1]
    · rw [Nat.zero_add, World.ownsRow.cellAt h (j * 2 + 1) (by omega), (dv_at L j hj).2]
theorem appD {w : World} {ops : Array Oper} {rest : List Oper} {o : Oper} {a : Act} {Q : Exit → Act → World → Prop} (hgd : o.guard = none) (s x : Operand)
    (ho : o.op = .call { callee := .builtin .append, args := #[s, x], argTypes := #[23, 23] })
    (B : Nat) (v : Value) (L : List (Int × Int)) (hs : a.eval s = v) (hown : RowD B w v L) (y z : Int)
    (hx : a.eval x = .slice (some ⟨w.heap.size, 0, none⟩) 1 1) (hn : L.length ≤ 100000000) (hB : B ≤ w.heap.size)
    (h : ∀ w' g cap, RowD B w' (.slice (some ⟨g, 0, none⟩) (L.length + 1) cap) (L ++ [(y, z)]) → Grew B v w w' → wpList Tryz.prog ops Q rest (a.put o.dst (.slice (some ⟨g, 0, none⟩) (L.length + 1) cap)) w') :
    wpList Tryz.prog ops Q (o :: rest) a (w.alloc (.cells #[.int .i64 y, .int .i64 z] 30)) := by
  obtain ⟨i0, hi0, hz0, hz1, hz2⟩ := info_parts infoD
  refine Ap.appX hgd s x 23 ho B 30 i0 (.agg #[.int .i64 0, .int .i64 0]) 2 16 (by kernel_rfl) hi0 hz0 hz1 hz2 rfl (by decide) v L.length _ hs hown #[.int .i64 y, .int .i64 z] 30 rfl (by intro u hu; simp at hu; rcases hu with rfl | rfl <;> rfl) hx hn (by decide) hB ?_
  intro w' g cap r g' _
  refine h w' g cap ?_ g'
  have e : dvL (L ++ [(y, z)]) = dvL L ++ [.int .i64 y, .int .i64 z] := by simp [dvL]
  unfold RowD
  rw [e, List.length_append]
  exact r
set_option maxHeartbeats 6400000 in
set_option maxRecDepth 100000 in
theorem rld_to (s : ByteArray) (S : List UInt8) (L : List (Int × Int)) (b : Bool) (w : World) (hM : MaxL w) (hT : DayT w) (hs : s.size ≤ 100000) (hS : Hid (s.data.toList = S)) (h : Hid (rlP rdP S = (L, b))) :
    Calls Tryz.prog 54 #[.string s, .func (.func 55) #[] #[]] w fun e w' => ∃ v B, e = .returned (.tuple #[v, .bool b]) ∧ Hid (RowD B w' v L) ∧ w.heap.size ≤ B ∧ Below w.heap.size w w' := by
  obtain ⟨Q, hQ⟩ : ∃ Q, spG 44 [] S = Q := ⟨_, rfl⟩
  have hl : S.length = s.size := by rw [← hS.out]; simp
  have hlen := sp_len (d := 44) S []
  have hsz := sp_sz (d := 44) S []
  rw [hQ] at hlen hsz
  have HQ := Lib.hid hQ
  have HZ : Hid (∀ (j : Nat) (hj : j < Q.length), Q[j].length ≤ 1000000) := Lib.hid (fun j hj => by
    have := hsz _ (List.getElem_mem hj)
    simp at this; omega)
  have HH : Hid ((rlG rdP Q = none → [] = L ∧ false = b) ∧ (∀ M, rlG rdP Q = some M → M = L ∧ true = b)) := Lib.hid (by
    have e := h.out
    rw [rlP, hQ] at e
    exact ⟨fun q => by rw [q] at e; exact Prod.mk.inj e, fun M q => by rw [q] at e; exact Prod.mk.inj e⟩)
  obtain ⟨n, hn⟩ : ∃ n, Q.length = n := ⟨_, rfl⟩
  have HN := Lib.hid hn
  have hn1 : n ≤ 100001 := by omega
  clear hQ hlen hsz h hl hn
  have HT0 := Lib.hid hT
  clear hT
  go_enter Tryz.func54, Tryz.ntmps54
  go_wp2_with fail
  refine (split_to 44 s S Q _ hM (by omega) hS HQ).mono ?_
  rintro e w1 ⟨rfl, hR, hB⟩
  have R := Lib.hid hR
  have B1 := Lib.hid hB
  have hz1 : w.heap.size ≤ w1.heap.size := hB.size
  rw [HN.out]
  clear hR hB
  go_wp2_with fail
  go_loopw [6, 14] (fun lv iv wr => ∃ (k : Nat) (M : List (Int × Int)), k ≤ n ∧ M.length = k ∧ iv = .int .i64 k ∧ Hid (rlG rdP Q = (rlG rdP (Q.drop k)).map (fun x => M ++ x)) ∧ Hid (RowD w1.heap.size wr lv M) ∧ Hid (Below w1.heap.size w1 wr)) (fun _ iv _ => n - (intOf iv).toNat)
  case atStart => exact ⟨0, [], Nat.zero_le _, rfl, rfl, Lib.hid (rl_start Q), Lib.hid (RowD.nil _ _), Lib.hid (Below.refl _ _)⟩
  case round =>
    obtain ⟨k, M, hk, hM2, rfl, HT, HR, B2⟩ := hrel
    obtain ⟨wo, rfl⟩ : ∃ wo : World, wo = wr := ⟨_, rfl⟩
    by_cases hlt : k < n
    · have h1L : k < Q.length := by rw [HN.out]; exact hlt
      have c1 := (R.out.below B2.out |>.2) k h1L
      have hzk := HZ.out k h1L
      obtain ⟨q, hq⟩ : ∃ q, Q[k] = q := ⟨_, rfl⟩
      have Hq := Lib.hid hq
      rw [hq] at c1 hzk
      clear hq
      obtain ⟨x, y, c, hx⟩ : ∃ x y c, rdP q = ((x, y), c) := ⟨_, _, _, rfl⟩
      have HX := Lib.hid hx
      clear hx
      go_wp2_with fail
      refine (rd_to ⟨q.toArray⟩ q x y c _ ((HT0.out.below B1.out).below B2.out) (by show q.toArray.size ≤ _; simpa using hzk) (Lib.hid rfl) HX).mono ?_
      rintro e w2 ⟨rfl, k2⟩
      have HR := Lib.hid (HR.out.below k2)
      have B2 := Lib.hid (bstep B2.out k2)
      clear k2
      cases c with
      | false =>
        obtain ⟨rfl, rfl⟩ := HH.out.1 (rl_no h1L HT.out (by rw [Hq.out, HX.out]))
        clear HH HT HZ
        go_wp2
        go_ret2
        exact ⟨_, w1.heap.size, rfl, Lib.hid (RowD.nil _ _), hz1, (bstep B1.out B2.out).alloc (bstep B1.out B2.out).size _⟩
      | true =>
        have HT2 := Lib.hid (rl_yes h1L HT.out (by rw [Hq.out, HX.out]))
        have hl8 : M.length ≤ 100000000 := by omega
        clear HT HX Hq h1L
        go_upto_region 8 with fail
        have hsz := B2.out.size
        have HR8 := Lib.hid (HR.out.below ((Below.refl _ _).alloc (Nat.le_refl _) (Obj.cells #[.int .i64 x, .int .i64 y] 30)))
        have B8 := Lib.hid (B2.out.alloc B2.out.size (Obj.cells #[.int .i64 x, .int .i64 y] 30))
        have hs8 : w1.heap.size ≤ (w2.alloc (Obj.cells #[.int .i64 x, .int .i64 y] 30)).heap.size := B8.out.size
        have HZ8 : Hid (w2.heap.size + 1 = (w2.alloc (Obj.cells #[.int .i64 x, .int .i64 y] 30)).heap.size) := Lib.hid (by simp)
        go_wp2_with (at_builtin; refine appD rfl _ _ rfl w1.heap.size _ M rfl HR8.out x y (by exact congrArg (fun z => Value.slice (some ⟨z, 0, none⟩) 1 1) HZ8.out) hl8 hs8 ?_)
        intro w5 gg gcap r5 g5
        have B5 := Lib.hid (g5.below w1.heap.size w1 (Nat.le_refl _) B8.out B8.out.size)
        have R5 := Lib.hid r5
        clear r5 g5 HR HR8
        go_wp2
        go_roundw
        case rel => exact ⟨k + 1, M ++ [(x, y)], by omega, by rw [List.length_append]; simp; omega, by go_num, HT2, R5, B5⟩
        case measure => simp [intOf]; omega
    · have hkn : k = n := by omega
      obtain ⟨rfl, rfl⟩ := HH.out.2 M (rl_all (by rw [HN.out]; omega) HT.out)
      clear HH HT
      go_wp2
      go_ret2
      exact ⟨_, w1.heap.size, rfl, HR, hz1, bstep B1.out B2.out⟩
end Rcp
end Go.Proofs.YtbeefhmnoihmcaaGreatDoor
/-
  recur.readPart, name by name. (Written by gen/gen_rcpe.py.)
-/
namespace Go.Proofs.YtbeefhmnoihmcaaGreatDoor
open Go.RowKit
namespace Rcp
open Cel
open Spc
open Wrd (MaxL)
open Ap (RowI Grew)
open Civ (Ahead)
theorem rn_b (s : ByteArray) (S : List UInt8) (n : Int) (b : Bool) (w : World) (hs : s.size ≤ 1000000) (hS : Hid (s.data.toList = S)) (h : Hid (rnP S = (n, b))) :
    Calls Tryz.prog 50 #[.string s] w fun e w' => e = .returned (.tuple #[.int .i64 n, .bool b]) ∧ Below w.heap.size w w' :=
  (rn_to s S n b w hs hS h).mono fun _ _ ⟨h1, h2⟩ => ⟨h1, by rw [← h2]; exact Below.refl _ _⟩
set_option maxHeartbeats 6400000 in
set_option maxRecDepth 100000 in
theorem rp0 (nm s : ByteArray) (S : List UInt8) (g : Nat) (v0 v1 v2 v3 v4 v5 v6 v7 v8 v9 v10 v11 v12 v13 v14 v15 : Value) (w : World) (C : Hid (Cs g w [v0, v1, v2, v3, v4, v5, v6, v7, v8, v9, v10, v11, v12, v13, v14, v15])) (hs : s.size ≤ 10000) (hS : Hid (s.data.toList = S)) (n : Int) (b : Bool) (hT : FreqT w) (h : Hid (rfP S = (n, b))) (e0 : (nm.toList == [102, 114, 101, 113]) = true) :
    Calls Tryz.prog 30 #[.pointer (some ⟨g, 0, none⟩), .string nm, .string s] w fun e w' => ∃ w1, e = .returned (.bool b) ∧ Below w.heap.size w w1 ∧ w' = w1.setCell ⟨g, 0, none⟩ (.int .i64 n) := by
  go_enter Tryz.func30, Tryz.ntmps30
  go_wp2_with fail
  refine (rf_to s S n b _ hT (by omega) hS h).mono ?_
  rintro e w1 ⟨rfl, k1⟩
  have C1 := Lib.hid (C.out.below k1)
  have c0 := (C1.out.2 0 _ rfl).1
  have f0 := (C1.out.2 0 _ rfl).2
  go_wp2
  go_ret
  exact ⟨w1, rfl, k1, rfl⟩
set_option maxHeartbeats 6400000 in
set_option maxRecDepth 100000 in
theorem rp1 (nm s : ByteArray) (S : List UInt8) (g : Nat) (v0 v1 v2 v3 v4 v5 v6 v7 v8 v9 v10 v11 v12 v13 v14 v15 : Value) (w : World) (C : Hid (Cs g w [v0, v1, v2, v3, v4, v5, v6, v7, v8, v9, v10, v11, v12, v13, v14, v15])) (hs : s.size ≤ 10000) (hS : Hid (s.data.toList = S)) (n : Int) (b : Bool) (h : Hid (rnP S = (n, b))) (e0 : (nm.toList == [102, 114, 101, 113]) = false) (e1 : (nm.toList == [105, 110, 116, 101, 114, 118, 97, 108]) = true) :
    Calls Tryz.prog 30 #[.pointer (some ⟨g, 0, none⟩), .string nm, .string s] w fun e w' => ∃ w1, e = .returned (.bool b) ∧ Below w.heap.size w w1 ∧ w' = w1.setCell ⟨g, 1, none⟩ (.int .i64 n) := by
  go_enter Tryz.func30, Tryz.ntmps30
  go_wp2_with fail
  refine (rn_b s S n b _ (by omega) hS h).mono ?_
  rintro e w1 ⟨rfl, k1⟩
  have C1 := Lib.hid (C.out.below k1)
  have c1 := (C1.out.2 1 _ rfl).1
  have f1 := (C1.out.2 1 _ rfl).2
  go_wp2
  go_ret
  exact ⟨w1, rfl, k1, rfl⟩
set_option maxHeartbeats 6400000 in
set_option maxRecDepth 100000 in
theorem rp2 (nm s : ByteArray) (S : List UInt8) (g : Nat) (v0 v1 v2 v3 v4 v5 v6 v7 v8 v9 v10 v11 v12 v13 v14 v15 : Value) (w : World) (C : Hid (Cs g w [v0, v1, v2, v3, v4, v5, v6, v7, v8, v9, v10, v11, v12, v13, v14, v15])) (hs : s.size ≤ 10000) (hS : Hid (s.data.toList = S)) (n : Int) (c b : Bool) (h : Hid (rnP S = (n, c))) (hb : Hid ((c && decide (0 < n)) = b)) (e0 : (nm.toList == [102, 114, 101, 113]) = false) (e1 : (nm.toList == [105, 110, 116, 101, 114, 118, 97, 108]) = false) (e2 : (nm.toList == [99, 111, 117, 110, 116]) = true) :
    Calls Tryz.prog 30 #[.pointer (some ⟨g, 0, none⟩), .string nm, .string s] w fun e w' => ∃ w1, e = .returned (.bool b) ∧ Below w.heap.size w w1 ∧ w' = w1.setCell ⟨g, 2, none⟩ (.int .i64 n) := by
  go_enter Tryz.func30, Tryz.ntmps30
  go_wp2_with fail
  refine (rn_b s S n c _ (by omega) hS h).mono ?_
  rintro e w1 ⟨rfl, k1⟩
  have C1 := Lib.hid (C.out.below k1)
  have c2 := (C1.out.2 2 _ rfl).1
  have f2 := (C1.out.2 2 _ rfl).2
  cases c with
  | false =>
    have e : b = false := by rw [← hb.out]; rfl
    subst e
    go_wp2
    go_ret
    exact ⟨w1, rfl, k1, rfl⟩
  | true =>
    by_cases z : 0 < n
    · have e : b = true := by rw [← hb.out, decide_eq_true z]; rfl
      subst e
      go_wp2
      go_ret
      exact ⟨w1, rfl, k1, rfl⟩
    · have e : b = false := by rw [← hb.out, decide_eq_false z]; rfl
      have p : decide (0 < n) = false := decide_eq_false z
      subst e
      go_wp2
      go_ret
      exact ⟨w1, rfl, k1, rfl⟩
set_option maxHeartbeats 6400000 in
set_option maxRecDepth 100000 in
theorem rp3 (nm s : ByteArray) (S : List UInt8) (g : Nat) (v0 v1 v2 v3 v4 v5 v6 v7 v8 v9 v10 v11 v12 v13 v14 v15 : Value) (w : World) (C : Hid (Cs g w [v0, v1, v2, v3, v4, v5, v6, v7, v8, v9, v10, v11, v12, v13, v14, v15])) (hs : s.size ≤ 10000) (hS : Hid (s.data.toList = S)) (t c : Int) (u b : Bool) (hA : Ahead w) (h : Hid (Val.ptP S = (t, u, c))) (hb : Hid (decide (c = 0) = b)) (e0 : (nm.toList == [102, 114, 101, 113]) = false) (e1 : (nm.toList == [105, 110, 116, 101, 114, 118, 97, 108]) = false) (e2 : (nm.toList == [99, 111, 117, 110, 116]) = false) (e3 : (nm.toList == [117, 110, 116, 105, 108]) = true) :
    Calls Tryz.prog 30 #[.pointer (some ⟨g, 0, none⟩), .string nm, .string s] w fun e w' => ∃ w1, e = .returned (.bool b) ∧ Below w.heap.size w w1 ∧ w' = ((w1.setCell ⟨g, 4, none⟩ (.int .i64 t)).setCell ⟨g, 5, none⟩ (.bool u)).setCell ⟨g, 3, none⟩ (.bool true) := by
  go_enter Tryz.func30, Tryz.ntmps30
  go_wp2_with fail
  refine (Val.ptime_b s S t c u _ hA (by omega) hS h).mono ?_
  rintro e w1 ⟨rfl, k1⟩
  have C1 := Lib.hid (C.out.below k1)
  have c4 := (C1.out.2 4 _ rfl).1
  have f4 := (C1.out.2 4 _ rfl).2
  have c5 := (C1.out.2 5 _ rfl).1
  have f5 := (C1.out.2 5 _ rfl).2
  have c3 := (C1.out.2 3 _ rfl).1
  have f3 := (C1.out.2 3 _ rfl).2
  by_cases z : c = 0
  · have e : b = true := by rw [← hb.out, decide_eq_true z]
    subst e z
    go_wp2
    go_ret
    exact ⟨w1, rfl, k1, rfl⟩
  · have e : b = false := by rw [← hb.out, decide_eq_false z]
    have p : (c == 0) = false := beq_eq_false_iff_ne.2 z
    subst e
    go_wp2
    go_ret
    exact ⟨w1, rfl, k1, rfl⟩
set_option maxHeartbeats 6400000 in
set_option maxRecDepth 100000 in
theorem rp13 (nm s : ByteArray) (S : List UInt8) (g : Nat) (v0 v1 v2 v3 v4 v5 v6 v7 v8 v9 v10 v11 v12 v13 v14 v15 : Value) (w : World) (C : Hid (Cs g w [v0, v1, v2, v3, v4, v5, v6, v7, v8, v9, v10, v11, v12, v13, v14, v15])) (hs : s.size ≤ 10000) (hS : Hid (s.data.toList = S)) (n : Int) (b : Bool) (hT : DayT w) (h : Hid (rwP S = (n, b))) (e0 : (nm.toList == [102, 114, 101, 113]) = false) (e1 : (nm.toList == [105, 110, 116, 101, 114, 118, 97, 108]) = false) (e2 : (nm.toList == [99, 111, 117, 110, 116]) = false) (e3 : (nm.toList == [117, 110, 116, 105, 108]) = false) (e4 : (nm.toList == [98, 121, 109, 111, 110, 116, 104]) = false) (e5 : (nm.toList == [98, 121, 119, 101, 101, 107, 110, 111]) = false) (e6 : (nm.toList == [98, 121, 121, 101, 97, 114, 100, 97, 121]) = false) (e7 : (nm.toList == [98, 121, 109, 111, 110, 116, 104, 100, 97, 121]) = false) (e8 : (nm.toList == [98, 121, 100, 97, 121]) = false) (e9 : (nm.toList == [98, 121, 104, 111, 117, 114]) = false) (e10 : (nm.toList == [98, 121, 109, 105, 110, 117, 116, 101]) = false) (e11 : (nm.toList == [98, 121, 115, 101, 99, 111, 110, 100]) = false) (e12 : (nm.toList == [98, 121, 115, 101, 116, 112, 111, 115]) = false) (e13 : (nm.toList == [119, 107, 115, 116]) = true) :
    Calls Tryz.prog 30 #[.pointer (some ⟨g, 0, none⟩), .string nm, .string s] w fun e w' => ∃ w1, e = .returned (.bool b) ∧ Below w.heap.size w w1 ∧ w' = w1.setCell ⟨g, 15, none⟩ (.int .i64 n) := by
  go_enter Tryz.func30, Tryz.ntmps30
  go_wp2_with fail
  refine (rw_to s S n b _ hT (by omega) hS h).mono ?_
  rintro e w1 ⟨rfl, k1⟩
  have C1 := Lib.hid (C.out.below k1)
  have c15 := (C1.out.2 15 _ rfl).1
  have f15 := (C1.out.2 15 _ rfl).2
  go_wp2
  go_ret
  exact ⟨w1, rfl, k1, rfl⟩
set_option maxHeartbeats 6400000 in
set_option maxRecDepth 100000 in
theorem rp14 (nm s : ByteArray) (g : Nat) (w : World)  (e0 : (nm.toList == [102, 114, 101, 113]) = false) (e1 : (nm.toList == [105, 110, 116, 101, 114, 118, 97, 108]) = false) (e2 : (nm.toList == [99, 111, 117, 110, 116]) = false) (e3 : (nm.toList == [117, 110, 116, 105, 108]) = false) (e4 : (nm.toList == [98, 121, 109, 111, 110, 116, 104]) = false) (e5 : (nm.toList == [98, 121, 119, 101, 101, 107, 110, 111]) = false) (e6 : (nm.toList == [98, 121, 121, 101, 97, 114, 100, 97, 121]) = false) (e7 : (nm.toList == [98, 121, 109, 111, 110, 116, 104, 100, 97, 121]) = false) (e8 : (nm.toList == [98, 121, 100, 97, 121]) = false) (e9 : (nm.toList == [98, 121, 104, 111, 117, 114]) = false) (e10 : (nm.toList == [98, 121, 109, 105, 110, 117, 116, 101]) = false) (e11 : (nm.toList == [98, 121, 115, 101, 99, 111, 110, 100]) = false) (e12 : (nm.toList == [98, 121, 115, 101, 116, 112, 111, 115]) = false) (e13 : (nm.toList == [119, 107, 115, 116]) = false) :
    Calls Tryz.prog 30 #[.pointer (some ⟨g, 0, none⟩), .string nm, .string s] w fun e w' => e = .returned (.bool false) ∧ w = w' := by
  go_enter Tryz.func30, Tryz.ntmps30
  go_wp2
  go_ret
  exact ⟨rfl, rfl⟩
end Rcp
end Go.Proofs.YtbeefhmnoihmcaaGreatDoor
/-
  recur.readPart, name by name. (Written by gen/gen_rcpe.py.)
-/
namespace Go.Proofs.YtbeefhmnoihmcaaGreatDoor
open Go.RowKit
namespace Rcp
open Cel
open Spc
open Wrd (MaxL)
open Ap (RowI Grew)
open Civ (Ahead)
set_option maxHeartbeats 6400000 in
set_option maxRecDepth 100000 in
theorem rp4 (nm s : ByteArray) (S : List UInt8) (g : Nat) (v0 v1 v2 v3 v4 v5 v6 v7 v8 v9 v10 v11 v12 v13 v14 v15 : Value) (w : World) (C : Hid (Cs g w [v0, v1, v2, v3, v4, v5, v6, v7, v8, v9, v10, v11, v12, v13, v14, v15])) (hs : s.size ≤ 10000) (hS : Hid (s.data.toList = S)) (L : List Int) (b : Bool) (hM : MaxL w) (h : Hid (rlP rnP S = (L, b))) (e0 : (nm.toList == [102, 114, 101, 113]) = false) (e1 : (nm.toList == [105, 110, 116, 101, 114, 118, 97, 108]) = false) (e2 : (nm.toList == [99, 111, 117, 110, 116]) = false) (e3 : (nm.toList == [117, 110, 116, 105, 108]) = false) (e4 : (nm.toList == [98, 121, 109, 111, 110, 116, 104]) = true) :
    Calls Tryz.prog 30 #[.pointer (some ⟨g, 0, none⟩), .string nm, .string s] w fun e w' => ∃ w1 v B, e = .returned (.bool b) ∧ Hid (RowI B w1 v L) ∧ w.heap.size ≤ B ∧ Below w.heap.size w w1 ∧ w' = w1.setCell ⟨g, 13, none⟩ v := by
  go_enter Tryz.func30, Tryz.ntmps30
  go_wp2_with fail
  refine (rln_to s S L b _ hM (by omega) hS h).mono ?_
  rintro e w1 ⟨v, B, rfl, hv, hB, k1⟩
  have C1 := Lib.hid (C.out.below k1)
  have c13 := (C1.out.2 13 _ rfl).1
  have f13 := (C1.out.2 13 _ rfl).2
  obtain ⟨a, n, c, hve⟩ : ∃ a n c, v = .slice a n c := by
    rcases hv.out.2 with ⟨q, _⟩ | ⟨_, _, _, q, _⟩
    · exact ⟨_, _, _, q⟩
    · exact ⟨_, _, _, q⟩
  subst hve
  go_wp2
  go_ret
  exact ⟨w1, _, B, rfl, hv, hB, k1, rfl⟩
set_option maxHeartbeats 6400000 in
set_option maxRecDepth 100000 in
theorem rp5 (nm s : ByteArray) (S : List UInt8) (g : Nat) (v0 v1 v2 v3 v4 v5 v6 v7 v8 v9 v10 v11 v12 v13 v14 v15 : Value) (w : World) (C : Hid (Cs g w [v0, v1, v2, v3, v4, v5, v6, v7, v8, v9, v10, v11, v12, v13, v14, v15])) (hs : s.size ≤ 10000) (hS : Hid (s.data.toList = S)) (L : List Int) (b : Bool) (hM : MaxL w) (h : Hid (rlP rsP S = (L, b))) (e0 : (nm.toList == [102, 114, 101, 113]) = false) (e1 : (nm.toList == [105, 110, 116, 101, 114, 118, 97, 108]) = false) (e2 : (nm.toList == [99, 111, 117, 110, 116]) = false) (e3 : (nm.toList == [117, 110, 116, 105, 108]) = false) (e4 : (nm.toList == [98, 121, 109, 111, 110, 116, 104]) = false) (e5 : (nm.toList == [98, 121, 119, 101, 101, 107, 110, 111]) = true) :
    Calls Tryz.prog 30 #[.pointer (some ⟨g, 0, none⟩), .string nm, .string s] w fun e w' => ∃ w1 v B, e = .returned (.bool b) ∧ Hid (RowI B w1 v L) ∧ w.heap.size ≤ B ∧ Below w.heap.size w w1 ∧ w' = w1.setCell ⟨g, 12, none⟩ v := by
  go_enter Tryz.func30, Tryz.ntmps30
  go_wp2_with fail
  refine (rls_to s S L b _ hM (by omega) hS h).mono ?_
  rintro e w1 ⟨v, B, rfl, hv, hB, k1⟩
  have C1 := Lib.hid (C.out.below k1)
  have c12 := (C1.out.2 12 _ rfl).1
  have f12 := (C1.out.2 12 _ rfl).2
  obtain ⟨a, n, c, hve⟩ : ∃ a n c, v = .slice a n c := by
    rcases hv.out.2 with ⟨q, _⟩ | ⟨_, _, _, q, _⟩
    · exact ⟨_, _, _, q⟩
    · exact ⟨_, _, _, q⟩
  subst hve
  go_wp2
  go_ret
  exact ⟨w1, _, B, rfl, hv, hB, k1, rfl⟩
set_option maxHeartbeats 6400000 in
set_option maxRecDepth 100000 in
theorem rp6 (nm s : ByteArray) (S : List UInt8) (g : Nat) (v0 v1 v2 v3 v4 v5 v6 v7 v8 v9 v10 v11 v12 v13 v14 v15 : Value) (w : World) (C : Hid (Cs g w [v0, v1, v2, v3, v4, v5, v6, v7, v8, v9, v10, v11, v12, v13, v14, v15])) (hs : s.size ≤ 10000) (hS : Hid (s.data.toList = S)) (L : List Int) (b : Bool) (hM : MaxL w) (h : Hid (rlP rsP S = (L, b))) (e0 : (nm.toList == [102, 114, 101, 113]) = false) (e1 : (nm.toList == [105, 110, 116, 101, 114, 118, 97, 108]) = false) (e2 : (nm.toList == [99, 111, 117, 110, 116]) = false) (e3 : (nm.toList == [117, 110, 116, 105, 108]) = false) (e4 : (nm.toList == [98, 121, 109, 111, 110, 116, 104]) = false) (e5 : (nm.toList == [98, 121, 119, 101, 101, 107, 110, 111]) = false) (e6 : (nm.toList == [98, 121, 121, 101, 97, 114, 100, 97, 121]) = true) :
    Calls Tryz.prog 30 #[.pointer (some ⟨g, 0, none⟩), .string nm, .string s] w fun e w' => ∃ w1 v B, e = .returned (.bool b) ∧ Hid (RowI B w1 v L) ∧ w.heap.size ≤ B ∧ Below w.heap.size w w1 ∧ w' = w1.setCell ⟨g, 11, none⟩ v := by
  go_enter Tryz.func30, Tryz.ntmps30
  go_wp2_with fail
  refine (rls_to s S L b _ hM (by omega) hS h).mono ?_
  rintro e w1 ⟨v, B, rfl, hv, hB, k1⟩
  have C1 := Lib.hid (C.out.below k1)
  have c11 := (C1.out.2 11 _ rfl).1
  have f11 := (C1.out.2 11 _ rfl).2
  obtain ⟨a, n, c, hve⟩ : ∃ a n c, v = .slice a n c := by
    rcases hv.out.2 with ⟨q, _⟩ | ⟨_, _, _, q, _⟩
    · exact ⟨_, _, _, q⟩
    · exact ⟨_, _, _, q⟩
  subst hve
  go_wp2
  go_ret
  exact ⟨w1, _, B, rfl, hv, hB, k1, rfl⟩
set_option maxHeartbeats 6400000 in
set_option maxRecDepth 100000 in
theorem rp7 (nm s : ByteArray) (S : List UInt8) (g : Nat) (v0 v1 v2 v3 v4 v5 v6 v7 v8 v9 v10 v11 v12 v13 v14 v15 : Value) (w : World) (C : Hid (Cs g w [v0, v1, v2, v3, v4, v5, v6, v7, v8, v9, v10, v11, v12, v13, v14, v15])) (hs : s.size ≤ 10000) (hS : Hid (s.data.toList = S)) (L : List Int) (b : Bool) (hM : MaxL w) (h : Hid (rlP rsP S = (L, b))) (e0 : (nm.toList == [102, 114, 101, 113]) = false) (e1 : (nm.toList == [105, 110, 116, 101, 114, 118, 97, 108]) = false) (e2 : (nm.toList == [99, 111, 117, 110, 116]) = false) (e3 : (nm.toList == [117, 110, 116, 105, 108]) = false) (e4 : (nm.toList == [98, 121, 109, 111, 110, 116, 104]) = false) (e5 : (nm.toList == [98, 121, 119, 101, 101, 107, 110, 111]) = false) (e6 : (nm.toList == [98, 121, 121, 101, 97, 114, 100, 97, 121]) = false) (e7 : (nm.toList == [98, 121, 109, 111, 110, 116, 104, 100, 97, 121]) = true) :
    Calls Tryz.prog 30 #[.pointer (some ⟨g, 0, none⟩), .string nm, .string s] w fun e w' => ∃ w1 v B, e = .returned (.bool b) ∧ Hid (RowI B w1 v L) ∧ w.heap.size ≤ B ∧ Below w.heap.size w w1 ∧ w' = w1.setCell ⟨g, 10, none⟩ v := by
  go_enter Tryz.func30, Tryz.ntmps30
  go_wp2_with fail
  refine (rls_to s S L b _ hM (by omega) hS h).mono ?_
  rintro e w1 ⟨v, B, rfl, hv, hB, k1⟩
  have C1 := Lib.hid (C.out.below k1)
  have c10 := (C1.out.2 10 _ rfl).1
  have f10 := (C1.out.2 10 _ rfl).2
  obtain ⟨a, n, c, hve⟩ : ∃ a n c, v = .slice a n c := by
    rcases hv.out.2 with ⟨q, _⟩ | ⟨_, _, _, q, _⟩
    · exact ⟨_, _, _, q⟩
    · exact ⟨_, _, _, q⟩
  subst hve
  go_wp2
  go_ret
  exact ⟨w1, _, B, rfl, hv, hB, k1, rfl⟩
set_option maxHeartbeats 6400000 in
set_option maxRecDepth 100000 in
theorem rp8 (nm s : ByteArray) (S : List UInt8) (g : Nat) (v0 v1 v2 v3 v4 v5 v6 v7 v8 v9 v10 v11 v12 v13 v14 v15 : Value) (w : World) (C : Hid (Cs g w [v0, v1, v2, v3, v4, v5, v6, v7, v8, v9, v10, v11, v12, v13, v14, v15])) (hs : s.size ≤ 10000) (hS : Hid (s.data.toList = S)) (L : List (Int × Int)) (b : Bool) (hM : MaxL w) (hT : DayT w) (h : Hid (rlP rdP S = (L, b))) (e0 : (nm.toList == [102, 114, 101, 113]) = false) (e1 : (nm.toList == [105, 110, 116, 101, 114, 118, 97, 108]) = false) (e2 : (nm.toList == [99, 111, 117, 110, 116]) = false) (e3 : (nm.toList == [117, 110, 116, 105, 108]) = false) (e4 : (nm.toList == [98, 121, 109, 111, 110, 116, 104]) = false) (e5 : (nm.toList == [98, 121, 119, 101, 101, 107, 110, 111]) = false) (e6 : (nm.toList == [98, 121, 121, 101, 97, 114, 100, 97, 121]) = false) (e7 : (nm.toList == [98, 121, 109, 111, 110, 116, 104, 100, 97, 121]) = false) (e8 : (nm.toList == [98, 121, 100, 97, 121]) = true) :
    Calls Tryz.prog 30 #[.pointer (some ⟨g, 0, none⟩), .string nm, .string s] w fun e w' => ∃ w1 v B, e = .returned (.bool b) ∧ Hid (RowD B w1 v L) ∧ w.heap.size ≤ B ∧ Below w.heap.size w w1 ∧ w' = w1.setCell ⟨g, 9, none⟩ v := by
  go_enter Tryz.func30, Tryz.ntmps30
  go_wp2_with fail
  refine (rld_to s S L b _ hM hT (by omega) hS h).mono ?_
  rintro e w1 ⟨v, B, rfl, hv, hB, k1⟩
  have C1 := Lib.hid (C.out.below k1)
  have c9 := (C1.out.2 9 _ rfl).1
  have f9 := (C1.out.2 9 _ rfl).2
  obtain ⟨a, n, c, hve⟩ : ∃ a n c, v = .slice a n c := by
    rcases hv.out.2 with ⟨q, _⟩ | ⟨_, _, _, q, _⟩
    · exact ⟨_, _, _, q⟩
    · exact ⟨_, _, _, q⟩
  subst hve
  go_wp2
  go_ret
  exact ⟨w1, _, B, rfl, hv, hB, k1, rfl⟩
set_option maxHeartbeats 6400000 in
set_option maxRecDepth 100000 in
theorem rp9 (nm s : ByteArray) (S : List UInt8) (g : Nat) (v0 v1 v2 v3 v4 v5 v6 v7 v8 v9 v10 v11 v12 v13 v14 v15 : Value) (w : World) (C : Hid (Cs g w [v0, v1, v2, v3, v4, v5, v6, v7, v8, v9, v10, v11, v12, v13, v14, v15])) (hs : s.size ≤ 10000) (hS : Hid (s.data.toList = S)) (L : List Int) (b : Bool) (hM : MaxL w) (h : Hid (rlP rnP S = (L, b))) (e0 : (nm.toList == [102, 114, 101, 113]) = false) (e1 : (nm.toList == [105, 110, 116, 101, 114, 118, 97, 108]) = false) (e2 : (nm.toList == [99, 111, 117, 110, 116]) = false) (e3 : (nm.toList == [117, 110, 116, 105, 108]) = false) (e4 : (nm.toList == [98, 121, 109, 111, 110, 116, 104]) = false) (e5 : (nm.toList == [98, 121, 119, 101, 101, 107, 110, 111]) = false) (e6 : (nm.toList == [98, 121, 121, 101, 97, 114, 100, 97, 121]) = false) (e7 : (nm.toList == [98, 121, 109, 111, 110, 116, 104, 100, 97, 121]) = false) (e8 : (nm.toList == [98, 121, 100, 97, 121]) = false) (e9 : (nm.toList == [98, 121, 104, 111, 117, 114]) = true) :
    Calls Tryz.prog 30 #[.pointer (some ⟨g, 0, none⟩), .string nm, .string s] w fun e w' => ∃ w1 v B, e = .returned (.bool b) ∧ Hid (RowI B w1 v L) ∧ w.heap.size ≤ B ∧ Below w.heap.size w w1 ∧ w' = w1.setCell ⟨g, 8, none⟩ v := by
  go_enter Tryz.func30, Tryz.ntmps30
  go_wp2_with fail
  refine (rln_to s S L b _ hM (by omega) hS h).mono ?_
  rintro e w1 ⟨v, B, rfl, hv, hB, k1⟩
  have C1 := Lib.hid (C.out.below k1)
  have c8 := (C1.out.2 8 _ rfl).1
  have f8 := (C1.out.2 8 _ rfl).2
  obtain ⟨a, n, c, hve⟩ : ∃ a n c, v = .slice a n c := by
    rcases hv.out.2 with ⟨q, _⟩ | ⟨_, _, _, q, _⟩
    · exact ⟨_, _, _, q⟩
    · exact ⟨_, _, _, q⟩
  subst hve
  go_wp2
  go_ret
  exact ⟨w1, _, B, rfl, hv, hB, k1, rfl⟩
set_option maxHeartbeats 6400000 in
set_option maxRecDepth 100000 in
theorem rp10 (nm s : ByteArray) (S : List UInt8) (g : Nat) (v0 v1 v2 v3 v4 v5 v6 v7 v8 v9 v10 v11 v12 v13 v14 v15 : Value) (w : World) (C : Hid (Cs g w [v0, v1, v2, v3, v4, v5, v6, v7, v8, v9, v10, v11, v12, v13, v14, v15])) (hs : s.size ≤ 10000) (hS : Hid (s.data.toList = S)) (L : List Int) (b : Bool) (hM : MaxL w) (h : Hid (rlP rnP S = (L, b))) (e0 : (nm.toList == [102, 114, 101, 113]) = false) (e1 : (nm.toList == [105, 110, 116, 101, 114, 118, 97, 108]) = false) (e2 : (nm.toList == [99, 111, 117, 110, 116]) = false) (e3 : (nm.toList == [117, 110, 116, 105, 108]) = false) (e4 : (nm.toList == [98, 121, 109, 111, 110, 116, 104]) = false) (e5 : (nm.toList == [98, 121, 119, 101, 101, 107, 110, 111]) = false) (e6 : (nm.toList == [98, 121, 121, 101, 97, 114, 100, 97, 121]) = false) (e7 : (nm.toList == [98, 121, 109, 111, 110, 116, 104, 100, 97, 121]) = false) (e8 : (nm.toList == [98, 121, 100, 97, 121]) = false) (e9 : (nm.toList == [98, 121, 104, 111, 117, 114]) = false) (e10 : (nm.toList == [98, 121, 109, 105, 110, 117, 116, 101]) = true) :
    Calls Tryz.prog 30 #[.pointer (some ⟨g, 0, none⟩), .string nm, .string s] w fun e w' => ∃ w1 v B, e = .returned (.bool b) ∧ Hid (RowI B w1 v L) ∧ w.heap.size ≤ B ∧ Below w.heap.size w w1 ∧ w' = w1.setCell ⟨g, 7, none⟩ v := by
  go_enter Tryz.func30, Tryz.ntmps30
  go_wp2_with fail
  refine (rln_to s S L b _ hM (by omega) hS h).mono ?_
  rintro e w1 ⟨v, B, rfl, hv, hB, k1⟩
  have C1 := Lib.hid (C.out.below k1)
  have c7 := (C1.out.2 7 _ rfl).1
  have f7 := (C1.out.2 7 _ rfl).2
  obtain ⟨a, n, c, hve⟩ : ∃ a n c, v = .slice a n c := by
    rcases hv.out.2 with ⟨q, _⟩ | ⟨_, _, _, q, _⟩
    · exact ⟨_, _, _, q⟩
    · exact ⟨_, _, _, q⟩
  subst hve
  go_wp2
  go_ret
  exact ⟨w1, _, B, rfl, hv, hB, k1, rfl⟩
set_option maxHeartbeats 6400000 in
set_option maxRecDepth 100000 in
theorem rp11 (nm s : ByteArray) (S : List UInt8) (g : Nat) (v0 v1 v2 v3 v4 v5 v6 v7 v8 v9 v10 v11 v12 v13 v14 v15 : Value) (w : World) (C : Hid (Cs g w [v0, v1, v2, v3, v4, v5, v6, v7, v8, v9, v10, v11, v12, v13, v14, v15])) (hs : s.size ≤ 10000) (hS : Hid (s.data.toList = S)) (L : List Int) (b : Bool) (hM : MaxL w) (h : Hid (rlP rnP S = (L, b))) (e0 : (nm.toList == [102, 114, 101, 113]) = false) (e1 : (nm.toList == [105, 110, 116, 101, 114, 118, 97, 108]) = false) (e2 : (nm.toList == [99, 111, 117, 110, 116]) = false) (e3 : (nm.toList == [117, 110, 116, 105, 108]) = false) (e4 : (nm.toList == [98, 121, 109, 111, 110, 116, 104]) = false) (e5 : (nm.toList == [98, 121, 119, 101, 101, 107, 110, 111]) = false) (e6 : (nm.toList == [98, 121, 121, 101, 97, 114, 100, 97, 121]) = false) (e7 : (nm.toList == [98, 121, 109, 111, 110, 116, 104, 100, 97, 121]) = false) (e8 : (nm.toList == [98, 121, 100, 97, 121]) = false) (e9 : (nm.toList == [98, 121, 104, 111, 117, 114]) = false) (e10 : (nm.toList == [98, 121, 109, 105, 110, 117, 116, 101]) = false) (e11 : (nm.toList == [98, 121, 115, 101, 99, 111, 110, 100]) = true) :
    Calls Tryz.prog 30 #[.pointer (some ⟨g, 0, none⟩), .string nm, .string s] w fun e w' => ∃ w1 v B, e = .returned (.bool b) ∧ Hid (RowI B w1 v L) ∧ w.heap.size ≤ B ∧ Below w.heap.size w w1 ∧ w' = w1.setCell ⟨g, 6, none⟩ v := by
  go_enter Tryz.func30, Tryz.ntmps30
  go_wp2_with fail
  refine (rln_to s S L b _ hM (by omega) hS h).mono ?_
  rintro e w1 ⟨v, B, rfl, hv, hB, k1⟩
  have C1 := Lib.hid (C.out.below k1)
  have c6 := (C1.out.2 6 _ rfl).1
  have f6 := (C1.out.2 6 _ rfl).2
  obtain ⟨a, n, c, hve⟩ : ∃ a n c, v = .slice a n c := by
    rcases hv.out.2 with ⟨q, _⟩ | ⟨_, _, _, q, _⟩
    · exact ⟨_, _, _, q⟩
    · exact ⟨_, _, _, q⟩
  subst hve
  go_wp2
  go_ret
  exact ⟨w1, _, B, rfl, hv, hB, k1, rfl⟩
set_option maxHeartbeats 6400000 in
set_option maxRecDepth 100000 in
theorem rp12 (nm s : ByteArray) (S : List UInt8) (g : Nat) (v0 v1 v2 v3 v4 v5 v6 v7 v8 v9 v10 v11 v12 v13 v14 v15 : Value) (w : World) (C : Hid (Cs g w [v0, v1, v2, v3, v4, v5, v6, v7, v8, v9, v10, v11, v12, v13, v14, v15])) (hs : s.size ≤ 10000) (hS : Hid (s.data.toList = S)) (L : List Int) (b : Bool) (hM : MaxL w) (h : Hid (rlP rsP S = (L, b))) (e0 : (nm.toList == [102, 114, 101, 113]) = false) (e1 : (nm.toList == [105, 110, 116, 101, 114, 118, 97, 108]) = false) (e2 : (nm.toList == [99, 111, 117, 110, 116]) = false) (e3 : (nm.toList == [117, 110, 116, 105, 108]) = false) (e4 : (nm.toList == [98, 121, 109, 111, 110, 116, 104]) = false) (e5 : (nm.toList == [98, 121, 119, 101, 101, 107, 110, 111]) = false) (e6 : (nm.toList == [98, 121, 121, 101, 97, 114, 100, 97, 121]) = false) (e7 : (nm.toList == [98, 121, 109, 111, 110, 116, 104, 100, 97, 121]) = false) (e8 : (nm.toList == [98, 121, 100, 97, 121]) = false) (e9 : (nm.toList == [98, 121, 104, 111, 117, 114]) = false) (e10 : (nm.toList == [98, 121, 109, 105, 110, 117, 116, 101]) = false) (e11 : (nm.toList == [98, 121, 115, 101, 99, 111, 110, 100]) = false) (e12 : (nm.toList == [98, 121, 115, 101, 116, 112, 111, 115]) = true) :
    Calls Tryz.prog 30 #[.pointer (some ⟨g, 0, none⟩), .string nm, .string s] w fun e w' => ∃ w1 v B, e = .returned (.bool b) ∧ Hid (RowI B w1 v L) ∧ w.heap.size ≤ B ∧ Below w.heap.size w w1 ∧ w' = w1.setCell ⟨g, 14, none⟩ v := by
  go_enter Tryz.func30, Tryz.ntmps30
  go_wp2_with fail
  refine (rls_to s S L b _ hM (by omega) hS h).mono ?_
  rintro e w1 ⟨v, B, rfl, hv, hB, k1⟩
  have C1 := Lib.hid (C.out.below k1)
  have c14 := (C1.out.2 14 _ rfl).1
  have f14 := (C1.out.2 14 _ rfl).2
  obtain ⟨a, n, c, hve⟩ : ∃ a n c, v = .slice a n c := by
    rcases hv.out.2 with ⟨q, _⟩ | ⟨_, _, _, q, _⟩
    · exact ⟨_, _, _, q⟩
    · exact ⟨_, _, _, q⟩
  subst hve
  go_wp2
  go_ret
  exact ⟨w1, _, B, rfl, hv, hB, k1, rfl⟩
end Rcp
end Go.Proofs.YtbeefhmnoihmcaaGreatDoor
/-
  recur.readPart, whole: a rule that is being read, in a block of its own. (Written by gen/gen_rcpg.py.)
-/
namespace Go.Proofs.YtbeefhmnoihmcaaGreatDoor
open Go.RowKit
namespace Rcp
open Cel
open Spc
open Wrd (MaxL)
open Ap (RowI Grew)
open Civ (Ahead)
open Rcv (CV)
/-- What a rule's part says of it. -/
def rpP (N S : List UInt8) (x : CV) : CV × Bool :=
  if N = [102, 114, 101, 113] then ({ x with fq := (rfP S).1 }, (rfP S).2)
  else if N = [105, 110, 116, 101, 114, 118, 97, 108] then ({ x with iv := (rnP S).1 }, (rnP S).2)
  else if N = [99, 111, 117, 110, 116] then ({ x with ct := (rnP S).1 }, (rnP S).2 && decide (0 < (rnP S).1))
  else if N = [117, 110, 116, 105, 108] then ({ x with ua := (Val.ptP S).1, ut := (Val.ptP S).2.1, un := true }, decide ((Val.ptP S).2.2 = 0))
  else if N = [98, 121, 109, 111, 110, 116, 104] then ({ x with mo := (rlP rnP S).1 }, (rlP rnP S).2)
  else if N = [98, 121, 119, 101, 101, 107, 110, 111] then ({ x with wn := (rlP rsP S).1 }, (rlP rsP S).2)
  else if N = [98, 121, 121, 101, 97, 114, 100, 97, 121] then ({ x with yd := (rlP rsP S).1 }, (rlP rsP S).2)
  else if N = [98, 121, 109, 111, 110, 116, 104, 100, 97, 121] then ({ x with md := (rlP rsP S).1 }, (rlP rsP S).2)
  else if N = [98, 121, 100, 97, 121] then ({ x with dy := (rlP rdP S).1 }, (rlP rdP S).2)
  else if N = [98, 121, 104, 111, 117, 114] then ({ x with hr := (rlP rnP S).1 }, (rlP rnP S).2)
  else if N = [98, 121, 109, 105, 110, 117, 116, 101] then ({ x with mi := (rlP rnP S).1 }, (rlP rnP S).2)
  else if N = [98, 121, 115, 101, 99, 111, 110, 100] then ({ x with sc := (rlP rnP S).1 }, (rlP rnP S).2)
  else if N = [98, 121, 115, 101, 116, 112, 111, 115] then ({ x with sp := (rlP rsP S).1 }, (rlP rsP S).2)
  else if N = [119, 107, 115, 116] then ({ x with wk := (rwP S).1 }, (rwP S).2)
  else (x, false)
theorem own_cell {w : World} {B : Nat} {e : TypeId} {size : Nat} {v : Value} {n : Nat} {xs : List Value} (h : w.ownsRow B e size v n xs) {g i : Nat} (hg : g < B) (x : Value) : (w.setCell ⟨g, i, none⟩ x).ownsRow B e size v n xs := by
  refine ⟨h.1, ?_⟩
  rcases h.2 with h1 | ⟨g', cap, cur, hv, hg', hh, r⟩
  · exact Or.inl h1
  · exact Or.inr ⟨g', cap, cur, hv, hg', (Below.heap_setCell _ _ _ _ (by show g' ≠ g; omega)).trans hh, r⟩
theorem own_less {w : World} {B B' : Nat} {e : TypeId} {size : Nat} {v : Value} {n : Nat} {xs : List Value} (h : w.ownsRow B e size v n xs) (hb : B' ≤ B) : w.ownsRow B' e size v n xs := by
  refine ⟨h.1, ?_⟩
  rcases h.2 with h1 | ⟨g', cap, cur, hv, hg', r⟩
  · exact Or.inl h1
  · exact Or.inr ⟨g', cap, cur, hv, Nat.le_trans hb hg', r⟩
/-- The lists of a rule that is being read, behind its block. -/
structure Lsts (B : Nat) (w : World) (x : CV) (s6 s7 s8 s9 s10 s11 s12 s13 s14 : Value) : Prop where
  h6 : RowI B w s6 x.sc
  h7 : RowI B w s7 x.mi
  h8 : RowI B w s8 x.hr
  h9 : RowD B w s9 x.dy
  h10 : RowI B w s10 x.md
  h11 : RowI B w s11 x.yd
  h12 : RowI B w s12 x.wn
  h13 : RowI B w s13 x.mo
  h14 : RowI B w s14 x.sp
theorem Lsts.below {B : Nat} {w w' : World} {x : CV} {s6 s7 s8 s9 s10 s11 s12 s13 s14 : Value} (h : Lsts B w x s6 s7 s8 s9 s10 s11 s12 s13 s14) (hb : Below w.heap.size w w') : Lsts B w' x s6 s7 s8 s9 s10 s11 s12 s13 s14 :=
  ⟨h.h6.below hb, h.h7.below hb, h.h8.below hb, h.h9.below hb, h.h10.below hb, h.h11.below hb, h.h12.below hb, h.h13.below hb, h.h14.below hb⟩
theorem Lsts.cell {B g i : Nat} {w : World} {x : CV} {s6 s7 s8 s9 s10 s11 s12 s13 s14 : Value} (h : Lsts B w x s6 s7 s8 s9 s10 s11 s12 s13 s14) (hg : g < B) (v : Value) : Lsts B (w.setCell ⟨g, i, none⟩ v) x s6 s7 s8 s9 s10 s11 s12 s13 s14 :=
  ⟨own_cell h.h6 hg v, own_cell h.h7 hg v, own_cell h.h8 hg v, own_cell h.h9 hg v, own_cell h.h10 hg v, own_cell h.h11 hg v, own_cell h.h12 hg v, own_cell h.h13 hg v, own_cell h.h14 hg v⟩
theorem Lsts.lis {B : Nat} {w : World} {x : CV} {s6 s7 s8 s9 s10 s11 s12 s13 s14 : Value} (h : Lsts B w x s6 s7 s8 s9 s10 s11 s12 s13 s14) : Rcv.LisV w x s6 s7 s8 s9 s10 s11 s12 s13 s14 :=
  ⟨Rcv.IntV.of_row h.h6, Rcv.IntV.of_row h.h7, Rcv.IntV.of_row h.h8, h.h9.days, Rcv.IntV.of_row h.h10, Rcv.IntV.of_row h.h11, Rcv.IntV.of_row h.h12, Rcv.IntV.of_row h.h13, Rcv.IntV.of_row h.h14⟩
/-- A rule that is being read. -/
def RulB (g : Nat) (w : World) (x : CV) : Prop := ∃ s6 s7 s8 s9 s10 s11 s12 s13 s14 : Value, Cs g w [.int .i64 x.fq, .int .i64 x.iv, .int .i64 x.ct, .bool x.un, .int .i64 x.ua, .bool x.ut, s6, s7, s8, s9, s10, s11, s12, s13, s14, .int .i64 x.wk] ∧ Lsts (g + 1) w x s6 s7 s8 s9 s10 s11 s12 s13 s14
theorem RulB.below {g : Nat} {w w' : World} {x : CV} (h : RulB g w x) (hb : Below w.heap.size w w') : RulB g w' x := by
  obtain ⟨s6, s7, s8, s9, s10, s11, s12, s13, s14, h1, h2⟩ := h
  exact ⟨s6, s7, s8, s9, s10, s11, s12, s13, s14, h1.below hb, h2.below hb⟩
/-- Nothing but block g of what stood there is another. -/
structure Upd (g : Nat) (w w' : World) : Prop where
  size : w.heap.size ≤ w'.heap.size
  block : ∀ k, k < w.heap.size → k ≠ g → w'.heap[k]? = w.heap[k]?
  below : ∀ n w0, n ≤ g → Below n w0 w → Below n w0 w'
theorem Upd.call {g : Nat} {w w' : World} (hg : g < w.heap.size) (hb : Below w.heap.size w w') : Upd g w w' :=
  ⟨hb.size, fun k hk _ => hb.block k hk, fun n w0 hn h => h.trans (hb.mono (by omega))⟩
theorem Upd.set {g i : Nat} {w w' : World} (h : Upd g w w') (v : Value) : Upd g w (w'.setCell ⟨g, i, none⟩ v) :=
  ⟨by have := h.size; simpa [World.setCell] using this, fun k hk hne => (Below.heap_setCell _ _ _ _ (by show k ≠ g; exact hne)).trans (h.block k hk hne), fun n w0 hn hb => (h.below n w0 hn hb).setCell hn v⟩
set_option maxHeartbeats 3200000 in
set_option maxRecDepth 100000 in
theorem rp_to (nm s : ByteArray) (N S : List UInt8) (g : Nat) (x x' : CV) (b : Bool) (w : World) (hM : MaxL w) (hF : FreqT w) (hD : DayT w) (hA : Ahead w) (hx : RulB g w x) (hs : s.size ≤ 10000) (hN : Hid (nm.toList = N)) (hS : Hid (s.data.toList = S)) (h : Hid (rpP N S x = (x', b))) :
    Calls Tryz.prog 30 #[.pointer (some ⟨g, 0, none⟩), .string nm, .string s] w fun e w' => e = .returned (.bool b) ∧ RulB g w' x' ∧ Upd g w w' := by
  obtain ⟨s6, s7, s8, s9, s10, s11, s12, s13, s14, C, R⟩ := hx
  have hg := C.1
  have q := h.out
  unfold rpP at q
  by_cases n0 : N = [102, 114, 101, 113]
  · have e0 : (nm.toList == [102, 114, 101, 113]) = true := by rw [hN.out, n0]; rfl
    rw [if_pos n0] at q
    obtain ⟨rfl, hb⟩ := Prod.mk.inj q
    refine (rp0 nm s S g _ _ _ _ _ _ _ _ _ _ _ _ _ _ _ _ w (Lib.hid C) hs hS (rfP S).1 b hF (Lib.hid (by rw [← hb])) e0).mono ?_
    rintro e w' ⟨w1, rfl, k1, rfl⟩
    refine ⟨rfl, ⟨s6, s7, s8, s9, s10, s11, s12, s13, s14, ?_, ?_⟩, (Upd.call hg k1).set _⟩
    · have D := (C.below k1).set 0 (by simp) (.int .i64 (rfP S).1)
      simp only [List.set_cons_zero] at D
      exact D
    · have L := ((R.below k1).cell (i := 0) (Nat.lt_succ_self g) (.int .i64 (rfP S).1))
      exact ⟨L.h6, L.h7, L.h8, L.h9, L.h10, L.h11, L.h12, L.h13, L.h14⟩
  have e0 : (nm.toList == [102, 114, 101, 113]) = false := by rw [hN.out]; exact beq_eq_false_iff_ne.2 n0
  rw [if_neg n0] at q
  by_cases n1 : N = [105, 110, 116, 101, 114, 118, 97, 108]
  · have e1 : (nm.toList == [105, 110, 116, 101, 114, 118, 97, 108]) = true := by rw [hN.out, n1]; rfl
    rw [if_pos n1] at q
    obtain ⟨rfl, hb⟩ := Prod.mk.inj q
    refine (rp1 nm s S g _ _ _ _ _ _ _ _ _ _ _ _ _ _ _ _ w (Lib.hid C) hs hS (rnP S).1 b (Lib.hid (by rw [← hb])) e0 e1).mono ?_
    rintro e w' ⟨w1, rfl, k1, rfl⟩
    refine ⟨rfl, ⟨s6, s7, s8, s9, s10, s11, s12, s13, s14, ?_, ?_⟩, (Upd.call hg k1).set _⟩
    · have D := (C.below k1).set 1 (by simp) (.int .i64 (rnP S).1)
      simp only [List.set_cons_succ, List.set_cons_zero] at D
      exact D
    · have L := ((R.below k1).cell (i := 1) (Nat.lt_succ_self g) (.int .i64 (rnP S).1))
      exact ⟨L.h6, L.h7, L.h8, L.h9, L.h10, L.h11, L.h12, L.h13, L.h14⟩
  have e1 : (nm.toList == [105, 110, 116, 101, 114, 118, 97, 108]) = false := by rw [hN.out]; exact beq_eq_false_iff_ne.2 n1
  rw [if_neg n1] at q
  by_cases n2 : N = [99, 111, 117, 110, 116]
  · have e2 : (nm.toList == [99, 111, 117, 110, 116]) = true := by rw [hN.out, n2]; rfl
    rw [if_pos n2] at q
    obtain ⟨rfl, hb⟩ := Prod.mk.inj q
    refine (rp2 nm s S g _ _ _ _ _ _ _ _ _ _ _ _ _ _ _ _ w (Lib.hid C) hs hS (rnP S).1 (rnP S).2 b (Lib.hid rfl) (Lib.hid hb) e0 e1 e2).mono ?_
    rintro e w' ⟨w1, rfl, k1, rfl⟩
    refine ⟨rfl, ⟨s6, s7, s8, s9, s10, s11, s12, s13, s14, ?_, ?_⟩, (Upd.call hg k1).set _⟩
    · have D := (C.below k1).set 2 (by simp) (.int .i64 (rnP S).1)
      simp only [List.set_cons_succ, List.set_cons_zero] at D
      exact D
    · have L := ((R.below k1).cell (i := 2) (Nat.lt_succ_self g) (.int .i64 (rnP S).1))
      exact ⟨L.h6, L.h7, L.h8, L.h9, L.h10, L.h11, L.h12, L.h13, L.h14⟩
  have e2 : (nm.toList == [99, 111, 117, 110, 116]) = false := by rw [hN.out]; exact beq_eq_false_iff_ne.2 n2
  rw [if_neg n2] at q
  by_cases n3 : N = [117, 110, 116, 105, 108]
  · have e3 : (nm.toList == [117, 110, 116, 105, 108]) = true := by rw [hN.out, n3]; rfl
    rw [if_pos n3] at q
    obtain ⟨rfl, hb⟩ := Prod.mk.inj q
    refine (rp3 nm s S g _ _ _ _ _ _ _ _ _ _ _ _ _ _ _ _ w (Lib.hid C) hs hS (Val.ptP S).1 (Val.ptP S).2.2 (Val.ptP S).2.1 b hA (Lib.hid rfl) (Lib.hid hb) e0 e1 e2 e3).mono ?_
    rintro e w' ⟨w1, rfl, k1, rfl⟩
    refine ⟨rfl, ⟨s6, s7, s8, s9, s10, s11, s12, s13, s14, ?_, ?_⟩, (((Upd.call hg k1).set _).set _).set _⟩
    · have D := (((C.below k1).set 4 (by simp) (.int .i64 (Val.ptP S).1)).set 5 (by simp) (.bool (Val.ptP S).2.1)).set 3 (by simp) (.bool true)
      simp only [List.set_cons_succ, List.set_cons_zero] at D
      exact D
    · have L := ((((R.below k1).cell (i := 4) (Nat.lt_succ_self g) (.int .i64 (Val.ptP S).1)).cell (i := 5) (Nat.lt_succ_self g) (.bool (Val.ptP S).2.1)).cell (i := 3) (Nat.lt_succ_self g) (.bool true))
      exact ⟨L.h6, L.h7, L.h8, L.h9, L.h10, L.h11, L.h12, L.h13, L.h14⟩
  have e3 : (nm.toList == [117, 110, 116, 105, 108]) = false := by rw [hN.out]; exact beq_eq_false_iff_ne.2 n3
  rw [if_neg n3] at q
  by_cases n4 : N = [98, 121, 109, 111, 110, 116, 104]
  · have e4 : (nm.toList == [98, 121, 109, 111, 110, 116, 104]) = true := by rw [hN.out, n4]; rfl
    rw [if_pos n4] at q
    obtain ⟨rfl, hb⟩ := Prod.mk.inj q
    refine (rp4 nm s S g _ _ _ _ _ _ _ _ _ _ _ _ _ _ _ _ w (Lib.hid C) hs hS (rlP rnP S).1 b hM (Lib.hid (by rw [← hb])) e0 e1 e2 e3 e4).mono ?_
    rintro e w' ⟨w1, v, B, rfl, hv, hB, k1, rfl⟩
    refine ⟨rfl, ⟨s6, s7, s8, s9, s10, s11, s12, v, s14, ?_, ?_⟩, (Upd.call hg k1).set _⟩
    · have D := (C.below k1).set 13 (by simp) v
      simp only [List.set_cons_succ, List.set_cons_zero] at D
      exact D
    · have L := ((R.below k1).cell (i := 13) (Nat.lt_succ_self g) v)
      have V := own_cell (own_less hv.out (show g + 1 ≤ B by omega)) (i := 13) (Nat.lt_succ_self g) v
      exact ⟨L.h6, L.h7, L.h8, L.h9, L.h10, L.h11, L.h12, V, L.h14⟩
  have e4 : (nm.toList == [98, 121, 109, 111, 110, 116, 104]) = false := by rw [hN.out]; exact beq_eq_false_iff_ne.2 n4
  rw [if_neg n4] at q
  by_cases n5 : N = [98, 121, 119, 101, 101, 107, 110, 111]
  · have e5 : (nm.toList == [98, 121, 119, 101, 101, 107, 110, 111]) = true := by rw [hN.out, n5]; rfl
    rw [if_pos n5] at q
    obtain ⟨rfl, hb⟩ := Prod.mk.inj q
    refine (rp5 nm s S g _ _ _ _ _ _ _ _ _ _ _ _ _ _ _ _ w (Lib.hid C) hs hS (rlP rsP S).1 b hM (Lib.hid (by rw [← hb])) e0 e1 e2 e3 e4 e5).mono ?_
    rintro e w' ⟨w1, v, B, rfl, hv, hB, k1, rfl⟩
    refine ⟨rfl, ⟨s6, s7, s8, s9, s10, s11, v, s13, s14, ?_, ?_⟩, (Upd.call hg k1).set _⟩
    · have D := (C.below k1).set 12 (by simp) v
      simp only [List.set_cons_succ, List.set_cons_zero] at D
      exact D
    · have L := ((R.below k1).cell (i := 12) (Nat.lt_succ_self g) v)
      have V := own_cell (own_less hv.out (show g + 1 ≤ B by omega)) (i := 12) (Nat.lt_succ_self g) v
      exact ⟨L.h6, L.h7, L.h8, L.h9, L.h10, L.h11, V, L.h13, L.h14⟩
  have e5 : (nm.toList == [98, 121, 119, 101, 101, 107, 110, 111]) = false := by rw [hN.out]; exact beq_eq_false_iff_ne.2 n5
  rw [if_neg n5] at q
  by_cases n6 : N = [98, 121, 121, 101, 97, 114, 100, 97, 121]
  · have e6 : (nm.toList == [98, 121, 121, 101, 97, 114, 100, 97, 121]) = true := by rw [hN.out, n6]; rfl
    rw [if_pos n6] at q
    obtain ⟨rfl, hb⟩ := Prod.mk.inj q
    refine (rp6 nm s S g _ _ _ _ _ _ _ _ _ _ _ _ _ _ _ _ w (Lib.hid C) hs hS (rlP rsP S).1 b hM (Lib.hid (by rw [← hb])) e0 e1 e2 e3 e4 e5 e6).mono ?_
    rintro e w' ⟨w1, v, B, rfl, hv, hB, k1, rfl⟩
    refine ⟨rfl, ⟨s6, s7, s8, s9, s10, v, s12, s13, s14, ?_, ?_⟩, (Upd.call hg k1).set _⟩
    · have D := (C.below k1).set 11 (by simp) v
      simp only [List.set_cons_succ, List.set_cons_zero] at D
      exact D
    · have L := ((R.below k1).cell (i := 11) (Nat.lt_succ_self g) v)
      have V := own_cell (own_less hv.out (show g + 1 ≤ B by omega)) (i := 11) (Nat.lt_succ_self g) v
      exact ⟨L.h6, L.h7, L.h8, L.h9, L.h10, V, L.h12, L.h13, L.h14⟩
  have e6 : (nm.toList == [98, 121, 121, 101, 97, 114, 100, 97, 121]) = false := by rw [hN.out]; exact beq_eq_false_iff_ne.2 n6
  rw [if_neg n6] at q
  by_cases n7 : N = [98, 121, 109, 111, 110, 116, 104, 100, 97, 121]
  · have e7 : (nm.toList == [98, 121, 109, 111, 110, 116, 104, 100, 97, 121]) = true := by rw [hN.out, n7]; rfl
    rw [if_pos n7] at q
    obtain ⟨rfl, hb⟩ := Prod.mk.inj q
    refine (rp7 nm s S g _ _ _ _ _ _ _ _ _ _ _ _ _ _ _ _ w (Lib.hid C) hs hS (rlP rsP S).1 b hM (Lib.hid (by rw [← hb])) e0 e1 e2 e3 e4 e5 e6 e7).mono ?_
    rintro e w' ⟨w1, v, B, rfl, hv, hB, k1, rfl⟩
    refine ⟨rfl, ⟨s6, s7, s8, s9, v, s11, s12, s13, s14, ?_, ?_⟩, (Upd.call hg k1).set _⟩
    · have D := (C.below k1).set 10 (by simp) v
      simp only [List.set_cons_succ, List.set_cons_zero] at D
      exact D
    · have L := ((R.below k1).cell (i := 10) (Nat.lt_succ_self g) v)
      have V := own_cell (own_less hv.out (show g + 1 ≤ B by omega)) (i := 10) (Nat.lt_succ_self g) v
      exact ⟨L.h6, L.h7, L.h8, L.h9, V, L.h11, L.h12, L.h13, L.h14⟩
  have e7 : (nm.toList == [98, 121, 109, 111, 110, 116, 104, 100, 97, 121]) = false := by rw [hN.out]; exact beq_eq_false_iff_ne.2 n7
  rw [if_neg n7] at q
  by_cases n8 : N = [98, 121, 100, 97, 121]
  · have e8 : (nm.toList == [98, 121, 100, 97, 121]) = true := by rw [hN.out, n8]; rfl
    rw [if_pos n8] at q
    obtain ⟨rfl, hb⟩ := Prod.mk.inj q
    refine (rp8 nm s S g _ _ _ _ _ _ _ _ _ _ _ _ _ _ _ _ w (Lib.hid C) hs hS (rlP rdP S).1 b hM hD (Lib.hid (by rw [← hb])) e0 e1 e2 e3 e4 e5 e6 e7 e8).mono ?_
    rintro e w' ⟨w1, v, B, rfl, hv, hB, k1, rfl⟩
    refine ⟨rfl, ⟨s6, s7, s8, v, s10, s11, s12, s13, s14, ?_, ?_⟩, (Upd.call hg k1).set _⟩
    · have D := (C.below k1).set 9 (by simp) v
      simp only [List.set_cons_succ, List.set_cons_zero] at D
      exact D
    · have L := ((R.below k1).cell (i := 9) (Nat.lt_succ_self g) v)
      have V := own_cell (own_less hv.out (show g + 1 ≤ B by omega)) (i := 9) (Nat.lt_succ_self g) v
      exact ⟨L.h6, L.h7, L.h8, V, L.h10, L.h11, L.h12, L.h13, L.h14⟩
  have e8 : (nm.toList == [98, 121, 100, 97, 121]) = false := by rw [hN.out]; exact beq_eq_false_iff_ne.2 n8
  rw [if_neg n8] at q
  by_cases n9 : N = [98, 121, 104, 111, 117, 114]
  · have e9 : (nm.toList == [98, 121, 104, 111, 117, 114]) = true := by rw [hN.out, n9]; rfl
    rw [if_pos n9] at q
    obtain ⟨rfl, hb⟩ := Prod.mk.inj q
    refine (rp9 nm s S g _ _ _ _ _ _ _ _ _ _ _ _ _ _ _ _ w (Lib.hid C) hs hS (rlP rnP S).1 b hM (Lib.hid (by rw [← hb])) e0 e1 e2 e3 e4 e5 e6 e7 e8 e9).mono ?_
    rintro e w' ⟨w1, v, B, rfl, hv, hB, k1, rfl⟩
    refine ⟨rfl, ⟨s6, s7, v, s9, s10, s11, s12, s13, s14, ?_, ?_⟩, (Upd.call hg k1).set _⟩
    · have D := (C.below k1).set 8 (by simp) v
      simp only [List.set_cons_succ, List.set_cons_zero] at D
      exact D
    · have L := ((R.below k1).cell (i := 8) (Nat.lt_succ_self g) v)
      have V := own_cell (own_less hv.out (show g + 1 ≤ B by omega)) (i := 8) (Nat.lt_succ_self g) v
      exact ⟨L.h6, L.h7, V, L.h9, L.h10, L.h11, L.h12, L.h13, L.h14⟩
  have e9 : (nm.toList == [98, 121, 104, 111, 117, 114]) = false := by rw [hN.out]; exact beq_eq_false_iff_ne.2 n9
  rw [if_neg n9] at q
  by_cases n10 : N = [98, 121, 109, 105, 110, 117, 116, 101]
  · have e10 : (nm.toList == [98, 121, 109, 105, 110, 117, 116, 101]) = true := by rw [hN.out, n10]; rfl
    rw [if_pos n10] at q
    obtain ⟨rfl, hb⟩ := Prod.mk.inj q
    refine (rp10 nm s S g _ _ _ _ _ _ _ _ _ _ _ _ _ _ _ _ w (Lib.hid C) hs hS (rlP rnP S).1 b hM (Lib.hid (by rw [← hb])) e0 e1 e2 e3 e4 e5 e6 e7 e8 e9 e10).mono ?_
    rintro e w' ⟨w1, v, B, rfl, hv, hB, k1, rfl⟩
    refine ⟨rfl, ⟨s6, v, s8, s9, s10, s11, s12, s13, s14, ?_, ?_⟩, (Upd.call hg k1).set _⟩
    · have D := (C.below k1).set 7 (by simp) v
      simp only [List.set_cons_succ, List.set_cons_zero] at D
      exact D
    · have L := ((R.below k1).cell (i := 7) (Nat.lt_succ_self g) v)
      have V := own_cell (own_less hv.out (show g + 1 ≤ B by omega)) (i := 7) (Nat.lt_succ_self g) v
      exact ⟨L.h6, V, L.h8, L.h9, L.h10, L.h11, L.h12, L.h13, L.h14⟩
  have e10 : (nm.toList == [98, 121, 109, 105, 110, 117, 116, 101]) = false := by rw [hN.out]; exact beq_eq_false_iff_ne.2 n10
  rw [if_neg n10] at q
  by_cases n11 : N = [98, 121, 115, 101, 99, 111, 110, 100]
  · have e11 : (nm.toList == [98, 121, 115, 101, 99, 111, 110, 100]) = true := by rw [hN.out, n11]; rfl
    rw [if_pos n11] at q
    obtain ⟨rfl, hb⟩ := Prod.mk.inj q
    refine (rp11 nm s S g _ _ _ _ _ _ _ _ _ _ _ _ _ _ _ _ w (Lib.hid C) hs hS (rlP rnP S).1 b hM (Lib.hid (by rw [← hb])) e0 e1 e2 e3 e4 e5 e6 e7 e8 e9 e10 e11).mono ?_
    rintro e w' ⟨w1, v, B, rfl, hv, hB, k1, rfl⟩
    refine ⟨rfl, ⟨v, s7, s8, s9, s10, s11, s12, s13, s14, ?_, ?_⟩, (Upd.call hg k1).set _⟩
    · have D := (C.below k1).set 6 (by simp) v
      simp only [List.set_cons_succ, List.set_cons_zero] at D
      exact D
    · have L := ((R.below k1).cell (i := 6) (Nat.lt_succ_self g) v)
      have V := own_cell (own_less hv.out (show g + 1 ≤ B by omega)) (i := 6) (Nat.lt_succ_self g) v
      exact ⟨V, L.h7, L.h8, L.h9, L.h10, L.h11, L.h12, L.h13, L.h14⟩
  have e11 : (nm.toList == [98, 121, 115, 101, 99, 111, 110, 100]) = false := by rw [hN.out]; exact beq_eq_false_iff_ne.2 n11
  rw [if_neg n11] at q
  by_cases n12 : N = [98, 121, 115, 101, 116, 112, 111, 115]
  · have e12 : (nm.toList == [98, 121, 115, 101, 116, 112, 111, 115]) = true := by rw [hN.out, n12]; rfl
    rw [if_pos n12] at q
    obtain ⟨rfl, hb⟩ := Prod.mk.inj q
    refine (rp12 nm s S g _ _ _ _ _ _ _ _ _ _ _ _ _ _ _ _ w (Lib.hid C) hs hS (rlP rsP S).1 b hM (Lib.hid (by rw [← hb])) e0 e1 e2 e3 e4 e5 e6 e7 e8 e9 e10 e11 e12).mono ?_
    rintro e w' ⟨w1, v, B, rfl, hv, hB, k1, rfl⟩
    refine ⟨rfl, ⟨s6, s7, s8, s9, s10, s11, s12, s13, v, ?_, ?_⟩, (Upd.call hg k1).set _⟩
    · have D := (C.below k1).set 14 (by simp) v
      simp only [List.set_cons_succ, List.set_cons_zero] at D
      exact D
    · have L := ((R.below k1).cell (i := 14) (Nat.lt_succ_self g) v)
      have V := own_cell (own_less hv.out (show g + 1 ≤ B by omega)) (i := 14) (Nat.lt_succ_self g) v
      exact ⟨L.h6, L.h7, L.h8, L.h9, L.h10, L.h11, L.h12, L.h13, V⟩
  have e12 : (nm.toList == [98, 121, 115, 101, 116, 112, 111, 115]) = false := by rw [hN.out]; exact beq_eq_false_iff_ne.2 n12
  rw [if_neg n12] at q
  by_cases n13 : N = [119, 107, 115, 116]
  · have e13 : (nm.toList == [119, 107, 115, 116]) = true := by rw [hN.out, n13]; rfl
    rw [if_pos n13] at q
    obtain ⟨rfl, hb⟩ := Prod.mk.inj q
    refine (rp13 nm s S g _ _ _ _ _ _ _ _ _ _ _ _ _ _ _ _ w (Lib.hid C) hs hS (rwP S).1 b hD (Lib.hid (by rw [← hb])) e0 e1 e2 e3 e4 e5 e6 e7 e8 e9 e10 e11 e12 e13).mono ?_
    rintro e w' ⟨w1, rfl, k1, rfl⟩
    refine ⟨rfl, ⟨s6, s7, s8, s9, s10, s11, s12, s13, s14, ?_, ?_⟩, (Upd.call hg k1).set _⟩
    · have D := (C.below k1).set 15 (by simp) (.int .i64 (rwP S).1)
      simp only [List.set_cons_succ, List.set_cons_zero] at D
      exact D
    · have L := ((R.below k1).cell (i := 15) (Nat.lt_succ_self g) (.int .i64 (rwP S).1))
      exact ⟨L.h6, L.h7, L.h8, L.h9, L.h10, L.h11, L.h12, L.h13, L.h14⟩
  have e13 : (nm.toList == [119, 107, 115, 116]) = false := by rw [hN.out]; exact beq_eq_false_iff_ne.2 n13
  rw [if_neg n13] at q
  obtain ⟨rfl, rfl⟩ := Prod.mk.inj q
  refine (rp14 nm s g w e0 e1 e2 e3 e4 e5 e6 e7 e8 e9 e10 e11 e12 e13).mono ?_
  rintro e w' ⟨rfl, rfl⟩
  exact ⟨rfl, ⟨s6, s7, s8, s9, s10, s11, s12, s13, s14, C, R⟩, ⟨Nat.le_refl _, fun _ _ _ => rfl, fun _ _ _ h => h⟩⟩
end Rcp
end Go.Proofs.YtbeefhmnoihmcaaGreatDoor
/-
  Rows of texts that a call owns; slices.Contains over such a row.
-/
namespace Go.Proofs.YtbeefhmnoihmcaaGreatDoor
open Go.RowKit
namespace Rcp
open Cel
open Ap (Grew)
theorem infoT : (Tryz.prog.info? 9).map (fun i => (i.zero, i.size, i.bytes)) = some (some (.string ⟨#[]⟩), 1, 16) := by kernel_rfl
def tv (t : List UInt8) : Value := .string ⟨t.toArray⟩
/-- A row of texts that the call owns. -/
def RowT (B : Nat) (w : World) (v : Value) (L : List (List UInt8)) : Prop := w.ownsRow B 9 1 v L.length (L.map tv)
theorem RowT.nil (B : Nat) (w : World) : RowT B w (.slice none 0 0) [] := World.ownsRow_nil _ _ _ _
theorem RowT.below {B : Nat} {w w' : World} {v : Value} {L : List (List UInt8)} (h : RowT B w v L) (hb : Below w.heap.size w w') : RowT B w' v L := Ap.own_below h hb
theorem RowT.form {B : Nat} {w : World} {v : Value} {L : List (List UInt8)} (h : RowT B w v L) (h0 : 0 < L.length) : ∃ g c, v = .slice (some ⟨g, 0, none⟩) L.length c ∧ B ≤ g ∧ g < w.heap.size ∧ ∀ (j : Nat) (hj : j < L.length), w.cell? ⟨g, j, none⟩ = some (.string ⟨L[j].toArray⟩) := by
  obtain ⟨g, c, rfl, hb, hl⟩ := World.ownsRow.form h h0
  refine ⟨g, c, rfl, hb, hl, fun j hj => ?_⟩
  rw [World.ownsRow.cellAt h j (by omega), List.getElem?_map, List.getElem?_eq_getElem hj]
  rfl
theorem RowT.zero {B : Nat} {w : World} {v : Value} (h : RowT B w v []) : ∃ a c, v = .slice a 0 c := by
  rcases h.2 with ⟨h1, h2⟩ | ⟨g, cap, cur, h1, _⟩
  · exact ⟨none, 0, h1⟩
  · exact ⟨_, _, h1⟩
theorem appT {w : World} {ops : Array Oper} {rest : List Oper} {o : Oper} {a : Act} {Q : Exit → Act → World → Prop} (hgd : o.guard = none) (s x : Operand)
    (ho : o.op = .call { callee := .builtin .append, args := #[s, x], argTypes := #[49, 49] })
    (B : Nat) (v : Value) (L : List (List UInt8)) (hs : a.eval s = v) (hown : RowT B w v L) (t : List UInt8) (y : ByteArray) (hy : y = ⟨t.toArray⟩)
    (hx : a.eval x = .slice (some ⟨w.heap.size, 0, none⟩) 1 1) (hn : L.length ≤ 100000000) (hB : B ≤ w.heap.size)
    (h : ∀ w' g cap, RowT B w' (.slice (some ⟨g, 0, none⟩) (L.length + 1) cap) (L ++ [t]) → Grew B v w w' → wpList Tryz.prog ops Q rest (a.put o.dst (.slice (some ⟨g, 0, none⟩) (L.length + 1) cap)) w') :
    wpList Tryz.prog ops Q (o :: rest) a (w.alloc (.cells #[.string y] 9)) := by
  obtain ⟨i0, hi0, hz0, hz1, hz2⟩ := info_parts infoT
  refine Ap.appX hgd s x 49 ho B 9 i0 (.string ⟨#[]⟩) 1 16 (by kernel_rfl) hi0 hz0 hz1 hz2 rfl (by decide) v L.length _ hs hown #[.string y] 9 rfl (by intro u hu; simp at hu; subst hu; rfl) hx hn (by decide) hB ?_
  intro w' g cap r g' _
  refine h w' g cap ?_ g'
  unfold RowT
  rw [List.map_append, List.length_append]
  have e : [t].map tv = (#[Value.string y] : Array Value).toList := by rw [hy]; rfl
  rw [e]
  exact r
set_option maxHeartbeats 3200000 in
set_option maxRecDepth 100000 in
theorem sidx_to (v : Value) (L : List (List UInt8)) (nm : ByteArray) (N : List UInt8) (B : Nat) (w : World) (hv : RowT B w v L) (hL : L.length ≤ 1000000) (hN : Hid (nm.toList = N)) :
    Calls Tryz.prog 48 #[v, .string nm] w fun e w' => ∃ r, e = .returned (.int .i64 r) ∧ Hid (decide (0 ≤ r) = decide (N ∈ L)) ∧ w = w' := by
  by_cases h0 : L.length = 0
  · have e1 : L = [] := List.length_eq_zero_iff.1 h0
    subst e1
    obtain ⟨q, c, rfl⟩ := hv.zero
    clear hv h0 hL
    go_enter Tryz.func48, Tryz.ntmps48
    go_wp2_with fail
    go_loopw [8] (fun iv wr => iv = .int .i64 0 ∧ wr = w) (fun _ _ => 0)
    case atStart => exact ⟨rfl, rfl⟩
    case round =>
      obtain ⟨rfl, rfl⟩ := hrel
      go_wp2
      go_ret
      exact ⟨-1, rfl, Lib.hid (by simp), rfl⟩
  · obtain ⟨g, c1, rfl, _, hb1, k1⟩ := hv.form (by omega)
    obtain ⟨n, hn⟩ : ∃ n, L.length = n := ⟨_, rfl⟩
    have K1 : Hid (∀ (j : Nat) (hj : j < L.length), w.cell? ⟨g, j, Option.none⟩ = some (.string ⟨L[j].toArray⟩)) := Lib.hid k1
    have HN := Lib.hid hn
    rw [hn] at hL h0 ⊢
    clear k1 hv hn hb1
    go_enter Tryz.func48, Tryz.ntmps48
    go_wp2_with fail
    go_loopw [8] (fun iv wr => ∃ k : Nat, k ≤ n ∧ iv = .int .i64 k ∧ Hid (N ∉ L.take k) ∧ wr = w) (fun iv _ => n - (intOf iv).toNat)
    case atStart => exact ⟨0, Nat.zero_le _, rfl, Lib.hid (by simp), rfl⟩
    case round =>
      obtain ⟨k, hk, rfl, HT, rfl⟩ := hrel
      by_cases hlt : k < n
      · have h1L : k < L.length := by rw [HN.out]; exact hlt
        have g1 := K1.out k h1L
        obtain ⟨y, hy⟩ : ∃ y : ByteArray, (⟨L[k].toArray⟩ : ByteArray) = y := ⟨_, rfl⟩
        have HY : Hid (y.toList = L[k]) := Lib.hid (by rw [← hy, Lib.toList_data])
        rw [hy] at g1
        clear hy
        by_cases c1 : N = L[k]
        · have e2 : (nm.toList == y.toList) = true := by rw [hN.out, HY.out]; exact beq_iff_eq.2 c1
          have HM : Hid (decide (0 ≤ (k : Int)) = decide (N ∈ L)) := Lib.hid (by rw [decide_eq_true (show (0 : Int) ≤ (k : Int) by omega), decide_eq_true (by rw [c1]; exact List.getElem_mem h1L)])
          clear HY h1L c1
          go_wp2
          go_ret
          exact ⟨k, rfl, HM, rfl⟩
        · have e2 : (nm.toList == y.toList) = false := by rw [hN.out, HY.out]; exact beq_eq_false_iff_ne.2 c1
          have HT2 : Hid (N ∉ L.take (k + 1)) := Lib.hid (by
            rw [List.take_succ_eq_append_getElem h1L, List.mem_append, List.mem_singleton]
            rintro (q | q)
            · exact HT.out q
            · exact c1 q)
          clear HY h1L c1
          go_wp2
          go_roundw
          case rel => exact ⟨k + 1, by omega, by go_num, HT2, by trivial⟩
          case measure => simp [intOf]; omega
      · have hkn : k = n := by omega
        have HM : Hid (decide ((0 : Int) ≤ -1) = decide (N ∈ L)) := Lib.hid (by
          have q := HT.out
          rw [List.take_of_length_le (by rw [HN.out]; omega)] at q
          rw [decide_eq_false q]; rfl)
        subst hkn
        go_wp2
        go_ret
        exact ⟨-1, rfl, HM, rfl⟩
theorem has_to (v : Value) (L : List (List UInt8)) (nm : ByteArray) (N : List UInt8) (r : Bool) (B : Nat) (w : World) (hv : RowT B w v L) (hL : L.length ≤ 1000000) (hN : Hid (nm.toList = N)) (h : Hid (decide (N ∈ L) = r)) :
    Calls Tryz.prog 29 #[v, .string nm] w fun e w' => e = .returned (.bool r) ∧ w = w' := by
  go_enter Tryz.func29, Tryz.ntmps29
  go_wp2_with fail
  refine (sidx_to v L nm N B _ hv hL hN).mono ?_
  rintro e w1 ⟨i, rfl, hi, rfl⟩
  have e1 : r = decide (0 ≤ i) := by rw [hi.out, h.out]
  subst e1
  go_wp2
  go_ret
  exact ⟨rfl, rfl⟩
end Rcp
end Go.Proofs.YtbeefhmnoihmcaaGreatDoor
