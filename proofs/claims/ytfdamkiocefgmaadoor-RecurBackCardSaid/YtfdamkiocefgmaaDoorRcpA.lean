/-
  Tables of texts: what a row's condition gives of them; recur.readFreq, recur.readWeekday.
-/
import Derived.Test.YtfdamkiocefgmaaDoorWrdZ
import Derived.Test.YtfdamkiocefgmaaDoorCelR
import Derived.Lib.LaidTab
import Derived.Lib.AppendIntMem
import Derived.Deep.DeepCutAuto
import Derived.ChangeKeysEq
namespace Go.Proofs.YtfdamkiocefgmaaDoor
open Go.RowKit
namespace Rcp
open Wrd (smL)
open Cel
/-- The variable NAME holds just these texts. -/
def StrIs (P : Program) (w : World) (name : String) (L : List (List UInt8)) : Prop := w.var? P name = some (L.map fun z => Value.string ⟨z.toArray⟩).toArray
def strData {H : Type} (L : List (List UInt8)) : DataW H := .agg (L.map fun z => .lit (.string z))
theorem cells_of_strs {H : Type} {enc : TypeId × Value → H} {P : Program} {w : World} {base : Nat} {sp : Nat → Bool} {held : Bool} {fuel : Nat} {t e : TypeId} {n : Nat} {cs : List Value} {L : List (List UInt8)} {p : List MemPlace}
    (ht : P.underlying t = some (.array n e)) (he : P.underlying e = some .string) (hce : P.cellsOf e = 1) (hct : P.cellsOf t = n)
    (h : DataW.trod enc P w base sp held fuel t cs = some (strData L, p)) : cs = L.map fun z => Value.string ⟨z.toArray⟩ := by
  cases fuel with
  | zero => simp [DataW.trod] at h
  | succ fuel =>
    simp only [DataW.trod, ht, hce, hct, Nat.mul_one] at h
    split at h
    · rename_i hl
      obtain ⟨xs, hm, hx⟩ := Option.map_eq_some_iff.1 h
      have hxs : xs.map (·.1) = L.map fun z => (DataW.lit (.string z) : DataW H) := by
        have := congrArg Prod.fst hx
        simpa [strData] using this
      have hxl : xs.length = n := by simpa using Lib.mapM_length hm
      have hzl : L.length = n := by
        have := congrArg List.length hxs
        simp at this
        omega
      apply List.ext_getElem?
      intro i
      by_cases hi : i < n
      · obtain ⟨b, hb, hf⟩ := Lib.mapM_at hm i i (by simp [hi])
        obtain ⟨s, hc, rfl, _⟩ := DataW.trod_string he hf
        have h1 : cs[i]? = some (.string s) := by
          have := congrArg (·[0]?) hc
          simpa [List.getElem?_take, List.getElem?_drop] using this
        have h2 : (xs.map (·.1))[i]? = some (DataW.lit (.string s.data.toList) : DataW H) := by simp [hb]
        rw [hxs] at h2
        simp only [List.getElem?_map, Option.map_eq_some_iff, DataW.lit.injEq, Lit.string.injEq] at h2
        obtain ⟨z', hz', e⟩ := h2
        simp [h1, hz', e]
      · rw [List.getElem?_eq_none (by omega), List.getElem?_eq_none (by simp; omega)]
    · cases h
theorem strIs_of_head {P : Program} {W : World} {name : String} {L : List (List UInt8)} {rest : List (String × DataW Unit)} {g : Nat} {t e : TypeId} {n : Nat}
    (hg : P.globalNamed name = some g) (hty : (P.globals[g]?).map (·.type) = some t) (ht : P.underlying t = some (.array n e)) (he : P.underlying e = some .string) (hce : P.cellsOf e = 1) (hct : P.cellsOf t = n)
    (h : laidMet P ((name, strData L) :: rest) W) : StrIs P W name L := by
  obtain ⟨ps, ⟨g', t', cs, fuel, p, q, hg', ht', hvar, hd, _, _⟩, _⟩ := h
  obtain rfl := Option.some.inj (hg.symm.trans hg')
  obtain rfl := Option.some.inj (hty.symm.trans ht')
  unfold StrIs
  rw [hvar, ← cells_of_strs ht he hce hct hd]
/-- The texts in block g, in this world and behind every call. -/
def StrT (g : Nat) (L : List (List UInt8)) (w : World) : Prop := g < w.heap.size ∧ w.rangeAt g 0 (L.map fun z => Value.string ⟨z.toArray⟩)
theorem StrT.below {g : Nat} {L : List (List UInt8)} {w w' : World} (h : StrT g L w) (hb : Below w.heap.size w w') : StrT g L w' :=
  ⟨Nat.lt_of_lt_of_le h.1 hb.size, fun j v hj => (hb.cell (p := ⟨g, 0 + j, none⟩) h.1).trans (h.2 j v hj)⟩
theorem StrT.of {P : Program} {W : World} {name : String} {L : List (List UInt8)} {g : Nat} (h : StrIs P W name L) (hg : P.globalNamed name = some g) (h0 : 0 < L.length) : StrT g L W := by
  have key : W.rangeAt g 0 (L.map fun z => Value.string ⟨z.toArray⟩) := fun j v hj => by
    have := World.var?_cell hg h j
    rw [Nat.zero_add]
    simpa [hj] using this
  exact ⟨World.block_lt_of_cell? W _ (key 0 _ (List.getElem?_eq_getElem (by simpa using h0))), key⟩
theorem run_index_str {P : Program} (xt e : TypeId) (n : Nat) (cs : Array Value) (k : Nat) (v : Value) (w : World) (hu : P.underlying xt = some (.array n e)) (hi : (P.info? e).map (·.size) = some 1) (he : P.plainKey e = true) (hk : k < n) (hc : cs[k]? = some v) :
    (Instr.index xt (.agg cs) (.int .i64 (k : Int))).run P w = .ok v w := by
  cases hq : P.info? e with
  | none => simp [hq] at hi
  | some i =>
    have hs : i.size = 1 := by simpa [hq] using hi
    have h1 : (0 : Int) ≤ (k : Int) ∧ (k : Int) < (n : Int) := by omega
    simp only [Instr.index, asIntOf, Sem.run_bind, Sem.run_pure, Result.andThen_ok, run_underlying hu w, if_pos h1, sizeOf, typeInfo]
    simp [hq, hs, run_part_plain w he hc]
theorem wpList_index_str {P : Program} {ops : Array Oper} {rest : List Oper} {op : Oper} {a : Act} {w : World} {Q : Exit → Act → World → Prop} (hgd : op.guard = none) (xt : TypeId) (x y : Operand) (ho : op.op = .index xt x y)
    (e : TypeId) (n : Nat) (cs : Array Value) (k : Nat) (v : Value) (hx : a.eval x = .agg cs) (hy : a.eval y = .int .i64 (k : Int)) (hu : P.underlying xt = some (.array n e)) (hi : (P.info? e).map (·.size) = some 1) (he : P.plainKey e = true) (hk : k < n) (hc : cs[k]? = some v)
    (h : wpList P ops Q rest (a.put op.dst v) w) : wpList P ops Q (op :: rest) a w :=
  wpList_plain hgd fun _ hK => by
    unfold Oper.wp execOp
    simp only [ho, hx, hy]
    simp [run_index_str xt e n cs k v w hu hi he hk hc]
    exact hK _ _ h
def freqL : List (List UInt8) := [[83, 69, 67, 79, 78, 68, 76, 89], [77, 73, 78, 85, 84, 69, 76, 89], [72, 79, 85, 82, 76, 89], [68, 65, 73, 76, 89], [87, 69, 69, 75, 76, 89], [77, 79, 78, 84, 72, 76, 89], [89, 69, 65, 82, 76, 89]]
def dayL : List (List UInt8) := [[83, 85], [77, 79], [84, 85], [87, 69], [84, 72], [70, 82], [83, 65]]
def FreqT (w : World) : Prop := StrT 0 freqL w
def DayT (w : World) : Prop := StrT 1 dayL w
/-- The same in letters of whatever size. -/
def smE (A B : List UInt8) : Bool := decide (A.length = B.length ∧ smL A = smL B)
/-- The first of these words that a text is, from place k on. -/
def ixW (S : List UInt8) : Nat → List (List UInt8) → Option Nat
  | _, [] => none
  | k, w :: r => if smE S w = true then some k else ixW S (k + 1) r
def rfP (S : List UInt8) : Int × Bool := match ixW S 0 freqL with | some i => (1 + (i : Int), true) | none => (0, false)
def rwP (S : List UInt8) : Int × Bool := match ixW S 0 dayL with | some i => ((i : Int), true) | none => (0, false)
theorem sm_to (s : ByteArray) (S W : List UInt8) (r : Bool) (w : World) (hs : s.size ≤ 1000000) (hw : W.length ≤ 1000000) (hS : Hid (s.data.toList = S)) (h : Hid (smE S W = r)) :
    Calls Tryd.prog 60 #[.string s, .string ⟨W.toArray⟩] w fun e w' => e = .returned (.bool r) ∧ Below w.heap.size w w' :=
  Wrd.same_z s ⟨W.toArray⟩ S W _ _ r w hs (by show W.toArray.size ≤ _; simpa using hw) hS (Lib.hid rfl) (Lib.hid rfl) (Lib.hid rfl) h
theorem ix_hit {S : List UInt8} {L : List (List UInt8)} {k : Nat} (hk : k < L.length) (h : smE S (L.getD k []) = true) : ixW S k (L.drop k) = some k := by
  rw [List.getD_eq_getElem?_getD, List.getElem?_eq_getElem hk, Option.getD_some] at h
  rw [List.drop_eq_getElem_cons hk, ixW, if_pos h]
theorem ix_miss {S : List UInt8} {L : List (List UInt8)} {k : Nat} (hk : k < L.length) (h : smE S (L.getD k []) = false) : ixW S k (L.drop k) = ixW S (k + 1) (L.drop (k + 1)) := by
  rw [List.getD_eq_getElem?_getD, List.getElem?_eq_getElem hk, Option.getD_some] at h
  rw [List.drop_eq_getElem_cons hk, ixW, if_neg (by rw [h]; decide)]
theorem ix_end {S : List UInt8} {L : List (List UInt8)} {k : Nat} (hk : L.length ≤ k) : ixW S k (L.drop k) = none := by
  rw [List.drop_eq_nil_of_le hk, ixW]
theorem freq_len (k : Nat) : (freqL.getD k []).length ≤ 1000000 := by
  by_cases h : k < 7
  · have : k = 0 ∨ k = 1 ∨ k = 2 ∨ k = 3 ∨ k = 4 ∨ k = 5 ∨ k = 6 := by omega
    rcases this with rfl | rfl | rfl | rfl | rfl | rfl | rfl <;> decide
  · rw [List.getD_eq_getElem?_getD, List.getElem?_eq_none (by simp [freqL]; omega)]; simp
theorem day_len (k : Nat) : (dayL.getD k []).length ≤ 1000000 := by
  by_cases h : k < 7
  · have : k = 0 ∨ k = 1 ∨ k = 2 ∨ k = 3 ∨ k = 4 ∨ k = 5 ∨ k = 6 := by omega
    rcases this with rfl | rfl | rfl | rfl | rfl | rfl | rfl <;> decide
  · rw [List.getD_eq_getElem?_getD, List.getElem?_eq_none (by simp [dayL]; omega)]; simp
set_option maxHeartbeats 6400000 in
set_option maxRecDepth 100000 in
theorem rf_to (s : ByteArray) (S : List UInt8) (n : Int) (b : Bool) (w : World) (hT : FreqT w) (hs : s.size ≤ 1000000) (hS : Hid (s.data.toList = S)) (h : Hid (rfP S = (n, b))) :
    Calls Tryd.prog 37 #[.string s] w fun e w' => e = .returned (.tuple #[.int .i64 n, .bool b]) ∧ Below w.heap.size w w' := by
  have l0 := (hT.2 0 _ rfl)
  have l1 := (hT.2 1 _ rfl)
  have l2 := (hT.2 2 _ rfl)
  have l3 := (hT.2 3 _ rfl)
  have l4 := (hT.2 4 _ rfl)
  have l5 := (hT.2 5 _ rfl)
  have l6 := (hT.2 6 _ rfl)
  simp only [Nat.zero_add] at l0 l1 l2 l3 l4 l5 l6
  clear hT
  go_enter Tryd.func37, Tryd.ntmps37
  go_wp2_with fail
  clear l0 l1 l2 l3 l4 l5 l6
  go_loopw [7] (fun iv wr => ∃ k : Nat, k ≤ 7 ∧ iv = .int .i64 k ∧ Hid (ixW S 0 freqL = ixW S k (freqL.drop k)) ∧ Hid (Below w.heap.size w wr)) (fun iv _ => 7 - (intOf iv).toNat)
  case atStart => exact ⟨0, by omega, rfl, Lib.hid rfl, Lib.hid (Below.refl _ _)⟩
  case round =>
    obtain ⟨k, hk, rfl, HX, B⟩ := hrel
    obtain ⟨wo, rfl⟩ : ∃ wo : World, wo = wr := ⟨_, rfl⟩
    by_cases hlt : k < 7
    · go_upto_region 3 with fail
      go_cut [4, 5] from 8 to 16 (fun p q wz => p = .int .i64 k ∧ q = .string ⟨(freqL.getD k []).toArray⟩ ∧ wo = wz)
      case first =>
        have hc : ((freqL.map fun z => Value.string ⟨z.toArray⟩).toArray)[k]? = some (.string ⟨(freqL.getD k []).toArray⟩) := by
          rw [List.getElem?_toArray, List.getElem?_map, List.getElem?_eq_getElem (show k < freqL.length from hlt), List.getD_eq_getElem?_getD, List.getElem?_eq_getElem (show k < freqL.length from hlt)]
          rfl
        refine wp_region_lit ?_
        refine wpList_plain rfl (fun K hK => ?_)
        go_simp
        refine hK _ _ ?_
        clear hK K
        refine wpList_index_str rfl _ (.tmp 6) (.tmp 7) rfl 9 7 _ k _ rfl rfl Tryd.underlying42 (by kernel_rfl) (by kernel_rfl) hlt hc ?_
        go_wp2
        go_meet
        exact ⟨rfl, rfl, rfl⟩
      case rest =>
      obtain ⟨rfl, rfl, hwo⟩ := hcut
      subst hwo
      have hWl := freq_len k
      obtain ⟨W, hW⟩ : ∃ W, freqL.getD k [] = W := ⟨_, rfl⟩
      have HW := Lib.hid hW
      rw [hW] at hWl ⊢
      clear hW
      obtain ⟨r, hr⟩ : ∃ r, smE S W = r := ⟨_, rfl⟩
      have HR := Lib.hid hr
      clear hr
      go_wp2_with fail
      refine (sm_to s S W r _ hs hWl hS HR).mono ?_
      rintro e w2 ⟨rfl, k2⟩
      have B2 := Lib.hid (bstep B.out k2)
      clear k2 hWl
      cases r with
      | true =>
        have hv : (1 + (k : Int)) = n ∧ true = b := by
          have q := h.out
          rw [rfP, HX.out, ix_hit (by show k < 7; exact hlt) (by rw [HW.out]; exact HR.out)] at q
          exact Prod.mk.inj q
        obtain ⟨rfl, rfl⟩ := hv
        clear h HX HW HR
        have s1 : IntKind.i64.wrap (1 + (k : Int)) = 1 + (k : Int) := IntWalk.i64_in _ (by omega)
        go_wp2
        go_ret2
        exact ⟨rfl, B2.out⟩
      | false =>
        have HX2 : Hid (ixW S 0 freqL = ixW S (k + 1) (freqL.drop (k + 1))) := Lib.hid (HX.out.trans (ix_miss (by show k < 7; exact hlt) (by rw [HW.out]; exact HR.out)))
        clear h HX HW HR
        go_wp2
        go_roundw
        case rel => exact ⟨k + 1, by omega, by go_num, HX2, B2⟩
        case measure => simp [intOf]; omega
    · have hkn : k = 7 := by omega
      subst hkn
      have hv : 0 = n ∧ false = b := by
        have q := h.out
        rw [rfP, HX.out, ix_end (by show 7 ≤ 7; omega)] at q
        exact Prod.mk.inj q
      obtain ⟨rfl, rfl⟩ := hv
      go_wp2
      go_ret2
      exact ⟨rfl, B.out⟩
set_option maxHeartbeats 6400000 in
set_option maxRecDepth 100000 in
theorem rw_to (s : ByteArray) (S : List UInt8) (n : Int) (b : Bool) (w : World) (hT : DayT w) (hs : s.size ≤ 1000000) (hS : Hid (s.data.toList = S)) (h : Hid (rwP S = (n, b))) :
    Calls Tryd.prog 44 #[.string s] w fun e w' => e = .returned (.tuple #[.int .i64 n, .bool b]) ∧ Below w.heap.size w w' := by
  have l0 := (hT.2 0 _ rfl)
  have l1 := (hT.2 1 _ rfl)
  have l2 := (hT.2 2 _ rfl)
  have l3 := (hT.2 3 _ rfl)
  have l4 := (hT.2 4 _ rfl)
  have l5 := (hT.2 5 _ rfl)
  have l6 := (hT.2 6 _ rfl)
  simp only [Nat.zero_add] at l0 l1 l2 l3 l4 l5 l6
  clear hT
  go_enter Tryd.func44, Tryd.ntmps44
  go_wp2_with fail
  clear l0 l1 l2 l3 l4 l5 l6
  go_loopw [7] (fun iv wr => ∃ k : Nat, k ≤ 7 ∧ iv = .int .i64 k ∧ Hid (ixW S 0 dayL = ixW S k (dayL.drop k)) ∧ Hid (Below w.heap.size w wr)) (fun iv _ => 7 - (intOf iv).toNat)
  case atStart => exact ⟨0, by omega, rfl, Lib.hid rfl, Lib.hid (Below.refl _ _)⟩
  case round =>
    obtain ⟨k, hk, rfl, HX, B⟩ := hrel
    obtain ⟨wo, rfl⟩ : ∃ wo : World, wo = wr := ⟨_, rfl⟩
    by_cases hlt : k < 7
    · go_upto_region 3 with fail
      go_cut [4, 5] from 8 to 15 (fun p q wz => p = .int .i64 k ∧ q = .string ⟨(dayL.getD k []).toArray⟩ ∧ wo = wz)
      case first =>
        have hc : ((dayL.map fun z => Value.string ⟨z.toArray⟩).toArray)[k]? = some (.string ⟨(dayL.getD k []).toArray⟩) := by
          rw [List.getElem?_toArray, List.getElem?_map, List.getElem?_eq_getElem (show k < dayL.length from hlt), List.getD_eq_getElem?_getD, List.getElem?_eq_getElem (show k < dayL.length from hlt)]
          rfl
        refine wp_region_lit ?_
        refine wpList_plain rfl (fun K hK => ?_)
        go_simp
        refine hK _ _ ?_
        clear hK K
        refine wpList_index_str rfl _ (.tmp 6) (.tmp 7) rfl 9 7 _ k _ rfl rfl Tryd.underlying42 (by kernel_rfl) (by kernel_rfl) hlt hc ?_
        go_wp2
        go_meet
        exact ⟨rfl, rfl, rfl⟩
      case rest =>
      obtain ⟨rfl, rfl, hwo⟩ := hcut
      subst hwo
      have hWl := day_len k
      obtain ⟨W, hW⟩ : ∃ W, dayL.getD k [] = W := ⟨_, rfl⟩
      have HW := Lib.hid hW
      rw [hW] at hWl ⊢
      clear hW
      obtain ⟨r, hr⟩ : ∃ r, smE S W = r := ⟨_, rfl⟩
      have HR := Lib.hid hr
      clear hr
      go_wp2_with fail
      refine (sm_to s S W r _ hs hWl hS HR).mono ?_
      rintro e w2 ⟨rfl, k2⟩
      have B2 := Lib.hid (bstep B.out k2)
      clear k2 hWl
      cases r with
      | true =>
        have hv : ((k : Int)) = n ∧ true = b := by
          have q := h.out
          rw [rwP, HX.out, ix_hit (by show k < 7; exact hlt) (by rw [HW.out]; exact HR.out)] at q
          exact Prod.mk.inj q
        obtain ⟨rfl, rfl⟩ := hv
        clear h HX HW HR
        go_wp2
        go_ret2
        exact ⟨rfl, B2.out⟩
      | false =>
        have HX2 : Hid (ixW S 0 dayL = ixW S (k + 1) (dayL.drop (k + 1))) := Lib.hid (HX.out.trans (ix_miss (by show k < 7; exact hlt) (by rw [HW.out]; exact HR.out)))
        clear h HX HW HR
        go_wp2
        go_roundw
        case rel => exact ⟨k + 1, by omega, by go_num, HX2, B2⟩
        case measure => simp [intOf]; omega
    · have hkn : k = 7 := by omega
      subst hkn
      have hv : 0 = n ∧ false = b := by
        have q := h.out
        rw [rwP, HX.out, ix_end (by show 7 ≤ 7; omega)] at q
        exact Prod.mk.inj q
      obtain ⟨rfl, rfl⟩ := hv
      go_wp2
      go_ret2
      exact ⟨rfl, B.out⟩
end Rcp
end Go.Proofs.YtfdamkiocefgmaaDoor
