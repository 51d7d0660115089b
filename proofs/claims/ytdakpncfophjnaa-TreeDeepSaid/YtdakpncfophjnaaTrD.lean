/-
  TreeDeep: the law's walk. (Written by gen/gen_trd.py.)
-/
import Derived.Test.YtdakpncfophjnaaTrZ
namespace Go.Proofs.Ytdakpncfophjnaa
open Go.RowKit
namespace Tre
open Lin CutB Cel Ap
open Opn (TxtV)
/-- .. and all its lines lie below s. -/
def CmpS (B s : Nat) (w0 w : World) (v : Value) (C : List CV) : Prop := ∃ us, us.length = C.length ∧ w.ownsRow B 63 3 v C.length (cc C us) ∧ (∀ (j : Nat) (hj : j < C.length) (u : Value), us[j]? = some u → LinR B w0 w u (C[j]).ls) ∧ (∀ (i j : Nat) (u v : Value), i ≠ j → us[i]? = some u → us[j]? = some v → u.ownBlock = none ∨ u.ownBlock ≠ v.ownBlock) ∧ ∀ (j : Nat) (u : Value) (q : Nat), us[j]? = some u → u.ownBlock = some q → q < s
theorem CmpR.low {B : Nat} {w0 w : World} {v : Value} {C : List CV} (h : CmpR B w0 w v C) : CmpS B w.heap.size w0 w v C := by
  obtain ⟨us, h1, h2, h3, h4⟩ := h
  refine ⟨us, h1, h2, h3, h4, fun j u q hu hq => ?_⟩
  have hj : j < C.length := by
    rcases Nat.lt_or_ge j us.length with z | z
    · omega
    · rw [List.getElem?_eq_none z] at hu; cases hu
  obtain ⟨_, _, t2, _⟩ := h3 j hj u hu
  exact (t2.lt q hq).2
theorem CmpS.below {B s : Nat} {w0 w w' : World} {v : Value} {C : List CV} (h : CmpS B s w0 w v C) (hb : Below w.heap.size w w') : CmpS B s w0 w' v C := by
  obtain ⟨us, h1, h2, h3, h4, h5⟩ := h
  exact ⟨us, h1, own_below h2 hb, fun j hj u hu => (h3 j hj u hu).below hb, h4, h5⟩
theorem appG {w : World} {ops : Array Oper} {rest : List Oper} {o : Oper} {a : Act} {Q : Exit → Act → World → Prop} (hgd : o.guard = none) (s x : Operand)
    (ho : o.op = .call { callee := .builtin .append, args := #[s, x], argTypes := #[49, 49] })
    (B q0 : Nat) (w0 : World) (v : Value) (C : List CV) (hs : a.eval s = v) (hown : CmpS B q0 w0 w v C) (c : CV) (y u z : Value) (hy : y = .string ⟨c.nm.toArray⟩) (hz : z = .int .i64 c.own) (hu : LinR B w0 w u c.ls) (hf : u.ownBlock = none ∨ ∃ q, u.ownBlock = some q ∧ q0 ≤ q)
    (hx : a.eval x = .slice (some ⟨w.heap.size, 0, none⟩) 1 1) (hn : C.length ≤ 100000000) (hB : B ≤ w.heap.size)
    (h : ∀ w' g cap, CmpR B w0 w' (.slice (some ⟨g, 0, none⟩) (C.length + 1) cap) (C ++ [c]) → Grew B v w w' → wpList Try.prog ops Q rest (a.put o.dst (.slice (some ⟨g, 0, none⟩) (C.length + 1) cap)) w') :
    wpList Try.prog ops Q (o :: rest) a (w.alloc (.cells #[y, u, z] 63)) := by
  obtain ⟨i0, hi0, hz0, hz1, hz2⟩ := info_parts infoC
  obtain ⟨us, h1, h2, h3, h4, h5⟩ := hown
  have huf : u.oneCell' = true := by
    obtain ⟨_, _, rfl⟩ := hu.forms
    rfl
  subst hy hz
  have hall : ∀ p ∈ (#[.string ⟨c.nm.toArray⟩, u, .int .i64 c.own] : Array Value).toList, p.oneCell' = true := fun p hp => by
    simp only [List.mem_cons, List.mem_nil_iff, or_false] at hp
    rcases hp with rfl | rfl | rfl
    · rfl
    · exact huf
    · rfl
  refine appX hgd s x 49 ho B 63 i0 (.agg #[.string ⟨#[]⟩, .slice none 0 0, .int .i64 0]) 3 48 (by kernel_rfl) hi0 hz0 hz1 hz2 rfl (by decide) v C.length _ hs h2 #[.string ⟨c.nm.toArray⟩, u, .int .i64 c.own] 63 rfl hall hx hn (by decide) hB ?_
  intro w' g cap r3 g3 _
  have hl : (C ++ [c]).length = C.length + 1 := by simp
  have new : ∀ (j : Nat) (p : Value), ¬ j < us.length → (us ++ [u])[j]? = some p → p = u := fun j p hj hp => by
    rw [List.getElem?_append_right (by omega)] at hp
    have : j - us.length = 0 := by
      rcases Nat.eq_zero_or_pos (j - us.length) with q | q
      · exact q
      · rw [List.getElem?_eq_none (by simp; omega)] at hp; cases hp
    rw [this] at hp
    simp only [List.getElem?_cons_zero, Option.some.injEq] at hp
    exact hp.symm
  refine h w' g cap ⟨us ++ [u], by simp [h1], ?_, ?_, ?_⟩ g3
  · rw [hl, cc_app C us _ _ h1]
    exact r3
  · intro j hj p hp
    by_cases hjc : j < C.length
    · have e : (C ++ [c])[j] = C[j] := List.getElem_append_left hjc
      rw [List.getElem?_append_left (by omega)] at hp
      rw [e]
      obtain ⟨us', q1, q2, q3⟩ := h3 j hjc p hp
      exact ⟨us', q1, g3.other _ _ _ _ _ _ (Rws.apart q2 h2 (by decide)) q2, q3⟩
    · obtain rfl : j = C.length := by rw [hl] at hj; omega
      have e : (C ++ [c])[C.length] = c := by simp
      obtain rfl := new _ _ (by omega) hp
      rw [e]
      obtain ⟨us', q1, q2, q3⟩ := hu
      exact ⟨us', q1, g3.other _ _ _ _ _ _ (Rws.apart q2 h2 (by decide)) q2, q3⟩
  · intro i j p q hij hp hq
    by_cases hi : i < us.length
    · rw [List.getElem?_append_left hi] at hp
      by_cases hj : j < us.length
      · rw [List.getElem?_append_left hj] at hq
        exact h4 i j p q hij hp hq
      · obtain rfl := new _ _ hj hq
        cases hpo : p.ownBlock with
        | none => exact Or.inl rfl
        | some z =>
          refine Or.inr (fun e => ?_)
          rcases hf with e2 | ⟨z2, e2, hz2⟩
          · rw [e2] at e; cases e
          · rw [e2] at e
            injection e with e
            have := h5 i p z hp hpo
            omega
    · obtain rfl := new _ _ hi hp
      have hj : j < us.length := by
        rcases Nat.lt_or_ge j us.length with z | z
        · exact z
        · have := List.getElem?_eq_some_iff.1 hq
          obtain ⟨hjl, _⟩ := this
          have := List.getElem?_eq_some_iff.1 hp
          obtain ⟨hil, _⟩ := this
          simp at hjl hil
          omega
      rw [List.getElem?_append_left hj] at hq
      rcases hf with e2 | ⟨z2, e2, hz2⟩
      · exact Or.inl e2
      · refine Or.inr (fun e => ?_)
        rw [e2] at e
        have := h5 j q z2 hq e.symm
        omega
def bA : List UInt8 := [66, 69, 71, 73, 78, 58, 65, 13, 10]
def eA : List UInt8 := [69, 78, 68, 58, 65, 13, 10]
def bB : List UInt8 := [66, 69, 71, 73, 78, 58, 66, 10, 88, 58, 49, 10, 69, 78, 68, 58, 66, 10]
def rep (k : Nat) (l : List UInt8) : List UInt8 := (List.replicate k l).flatten
theorem rep_succ (k : Nat) (l : List UInt8) : rep (k + 1) l = rep k l ++ l := by
  rw [rep, rep, List.replicate_succ', List.flatten_append]; simp
theorem rep_len (k : Nat) (l : List UInt8) : (rep k l).length = k * l.length := by
  induction k with
  | zero => simp [rep]
  | succ k ih => rw [rep_succ, List.length_append, ih]; rw [Nat.succ_mul]
def lD (N k : Nat) : List CV := (List.range k).map (fun (i : Nat) => (⟨[65], [], (N : Int) - 1 - Int.ofNat i⟩ : CV))
theorem lD_succ (N k : Nat) : lD N (k + 1) = lD N k ++ [⟨[65], [], (N : Int) - 1 - (k : Int)⟩] := by rw [lD, lD, List.range_succ, List.map_append]; rfl
theorem lD_len (N k : Nat) : (lD N k).length = k := by simp [lD]
def cB : CV := ⟨[66], [⟨[88], [], [49]⟩], 0⟩
def mD (W k : Nat) : List CV := ⟨[82], [], (W : Int)⟩ :: List.replicate k cB
theorem mD_succ (W k : Nat) : mD W (k + 1) = mD W k ++ [cB] := by rw [mD, mD, List.replicate_succ']; rfl
theorem mD_len (W k : Nat) : (mD W k).length = k + 1 := by simp [mD]
theorem td_1 : ∀ a < 12, pTr (rep (a + 1) bA ++ rep (a + 1) eA) = if 8 < a + 1 then ([], 20) else (lD (a + 1) (a + 1), 0) := by decide +kernel
theorem td_2 : ∀ a < 12, chkB (lD (a + 1) (a + 1)) = decide (a + 1 ≤ 8) := by decide +kernel
theorem td_3 : ∀ b < 20, pTr ([66, 69, 71, 73, 78, 58, 82, 10] ++ rep b bB ++ [69, 78, 68, 58, 82]) = (mD b b, 0) := by decide +kernel
theorem td_4 : ∀ b < 20, (kids (mD b b) 0).length = b := by decide +kernel
theorem lD_own (N k : Nat) (hN : N ≤ 1000) (hk : k ≤ 1000) : ∀ c ∈ lD N k, i64B c.own := by
  intro c hc
  obtain ⟨i, hi, rfl⟩ := List.mem_map.1 hc
  have := List.mem_range.1 hi
  exact ⟨by show -9223372036854775808 ≤ (N : Int) - 1 - i; omega, by show (N : Int) - 1 - i ≤ _; omega⟩
theorem lD_sml (N k : Nat) : ∀ c ∈ lD N k, smlC c := by
  intro c hc
  obtain ⟨i, _, rfl⟩ := List.mem_map.1 hc
  exact ⟨by show [65].length ≤ _; decide, by show ([] : List LV).length ≤ _; decide, fun l hl => by cases hl⟩
theorem cB_sml : smlC cB := ⟨by decide, by decide, fun l hl => by
  rw [show cB.ls = [⟨[88], [], [49]⟩] from rfl, List.mem_singleton] at hl
  subst hl
  exact ⟨by decide, by decide, by decide, by simp⟩⟩
theorem mD_own (W k : Nat) (hW : W ≤ 1000) : ∀ c ∈ mD W k, i64B c.own := by
  intro c hc
  rcases List.mem_cons.1 hc with rfl | hc
  · exact ⟨by show -9223372036854775808 ≤ (W : Int); omega, by show (W : Int) ≤ _; omega⟩
  · rw [(List.mem_replicate.1 hc).2]; exact ⟨by decide, by decide⟩
theorem mD_sml (W k : Nat) : ∀ c ∈ mD W k, smlC c := by
  intro c hc
  rcases List.mem_cons.1 hc with rfl | hc
  · exact ⟨by show [82].length ≤ _; decide, by show ([] : List LV).length ≤ _; decide, fun l hl => by cases hl⟩
  · rw [(List.mem_replicate.1 hc).2]; exact cB_sml
/-- A row of one component, as it is laid. -/
theorem one_cmp (w0 w : World) (B : Nat) (hB : B ≤ w.heap.size) (W : Int) : CmpR B w0 (w.alloc (.cells #[.string ⟨#[82]⟩, .slice none 0 0, .int .i64 W] 63)) (.slice (some ⟨w.heap.size, 0, none⟩) 1 1) [⟨[82], [], W⟩] :=
  ⟨[.slice none 0 0], rfl, World.ownsRow_lit (size := 3) w #[.string ⟨#[82]⟩, .slice none 0 0, .int .i64 W] 1 hB (by decide) rfl, fun j hj u hu => by
    obtain rfl : j = 0 := by simp at hj; exact hj
    injection hu with hu
    subst hu
    exact LinR.nil _ _ _, fun i j u v hij hu hv => by
    obtain ⟨hi, _⟩ := List.getElem?_eq_some_iff.1 hu
    obtain ⟨hj, _⟩ := List.getElem?_eq_some_iff.1 hv
    simp at hi hj
    omega⟩
theorem one_lin (w0 w : World) (B : Nat) (hB : B ≤ w.heap.size) : LinR B w0 (w.alloc (.cells #[.string ⟨#[88]⟩, .slice none 0 0, .string ⟨#[49]⟩] 24)) (.slice (some ⟨w.heap.size, 0, none⟩) 1 1) cB.ls :=
  ⟨[.slice none 0 0], rfl, World.ownsRow_lit (size := 3) w #[.string ⟨#[88]⟩, .slice none 0 0, .string ⟨#[49]⟩] 1 hB (by decide) rfl, fun j hj u hu => by
    obtain rfl : j = 0 := by
      rw [show cB.ls.length = 1 from rfl] at hj; omega
    injection hu with hu
    subst hu
    exact ParsV.none _⟩
theorem cat_d (x : ByteArray) (l : List UInt8) : (x ++ ⟨l.toArray⟩).data.toList = x.data.toList ++ l := by rw [Rws.cat_data]
theorem cat_s (x : ByteArray) (l : List UInt8) : (x ++ ⟨l.toArray⟩).size = x.size + l.length := by rw [Lib.size_eq, cat_d, List.length_append, Lib.size_eq]
set_option maxHeartbeats 51200000 in
set_option maxRecDepth 100000 in
theorem td_any (n wide : Int) (a b : Nat) (w : World) (ha : a < 12) (hb : b < 20) (ea : (IntKind.u64.wrap n).tmod 12 = (a : Int)) (eb : (IntKind.u64.wrap wide).tmod 20 = (b : Int)) :
    Calls Try.prog 11 #[.int .i64 n, .int .i64 wide] w fun e w' => e = .returned (.bool true) ∧ Below w.heap.size w w' := by
  have T1 := Lib.hid (td_1 a ha)
  have T2 := Lib.hid (td_2 a ha)
  have T3 := Lib.hid (td_3 b hb)
  have T4 := Lib.hid (td_4 b hb)
  go_enter Try.func11, Try.ntmps11
  go_wp2_with fail
  go_loopw [5, 6, 7] (fun tv lv iv wr => ∃ (k : Nat) (X : ByteArray) (A : Option Addr) (cp : Nat), tv = .string X ∧ lv = .slice A k cp ∧ iv = .int .i64 k ∧ k ≤ a + 1 ∧ X.size = k * 9 ∧ Hid (X.data.toList = rep k bA) ∧ Hid (CmpR w.heap.size w wr (.slice A k cp) (lD (a + 1) k)) ∧ Below w.heap.size w wr) (fun _ _ iv _ => a + 1 - (intOf iv).toNat)
  case atStart => exact ⟨0, ⟨#[]⟩, none, 0, rfl, rfl, rfl, by omega, by rfl, Lib.hid rfl, Lib.hid (CmpR.nil _ _ _), Below.refl _ _⟩
  case round =>
    obtain ⟨k, X, A, cp, rfl, rfl, rfl, hk, hXs, hX, hC, hB⟩ := hrel
    by_cases hlt : k < a + 1
    · have hX2 : Hid ((X ++ ⟨#[66, 69, 71, 73, 78, 58, 65, 13, 10]⟩).data.toList = rep (k + 1) bA) := Lib.hid (by rw [cat_d X [66, 69, 71, 73, 78, 58, 65, 13, 10], hX.out, rep_succ k bA]; rfl)
      have hs2 : (X ++ ⟨#[66, 69, 71, 73, 78, 58, 65, 13, 10]⟩).size = (k + 1) * 9 := by rw [cat_s X [66, 69, 71, 73, 78, 58, 65, 13, 10], hXs]; show k * 9 + 9 = _; omega
      have HS2 := Lib.hid hs2
      have xa : (k : Int) < 1 + (a : Int) := by omega
      have sB := hB.size
      clear hs2
      go_wp2_with (at_builtin; refine appG rfl _ _ rfl w.heap.size wr.heap.size w _ (lD (a + 1) k) rfl hC.out.low ⟨[65], [], ((a + 1 : Nat) : Int) - 1 - (k : Int)⟩ _ _ _ rfl (show Value.int .i64 (1 + (a : Int) - 1 - (k : Int)) = Value.int .i64 (((a + 1 : Nat) : Int) - 1 - (k : Int)) by congr 1; omega) (LinR.nil _ _ _) (Or.inl rfl) rfl (by rw [lD_len]; omega) sB ?_)
      intro w5 g5 c5 r5 gr5
      have B5 := Lib.hid (gr5.below _ _ (Nat.le_refl _) hB sB)
      have R5 : Hid (CmpR w.heap.size w w5 (.slice (some ⟨g5, 0, none⟩) (k + 1) c5) (lD (a + 1) (k + 1))) := Lib.hid (by
        have h := r5
        rw [lD_len] at h
        have e : ((a + 1 : Nat) : Int) - 1 - (k : Int) = (a : Int) - (k : Int) := by omega
        rw [lD_succ, e]
        exact h)
      rw [lD_len]
      clear r5 gr5
      go_wp2
      go_roundw
      case rel => exact ⟨k + 1, _, some ⟨g5, 0, none⟩, c5, rfl, by first | rfl | go_num, by go_num, by omega, HS2.out, hX2, R5, B5.out⟩
      case measure => simp [intOf]; omega
    · obtain rfl : k = a + 1 := by omega
      obtain ⟨w1, hw1⟩ : ∃ w1, w1 = wr := ⟨_, rfl⟩
      have xa : ¬ ((a : Int) + 1 < 1 + (a : Int)) := by omega
      have xd : decide ((a : Int) + 1 < 1 + (a : Int)) = false := decide_eq_false xa
      subst hw1
      go_wp2_with fail
      go_loopw [5, 8] (fun tv iv wr => ∃ (k : Nat) (Y : ByteArray), tv = .string Y ∧ iv = .int .i64 k ∧ k ≤ a + 1 ∧ Y.size = (a + 1) * 9 + k * 7 ∧ Hid (Y.data.toList = rep (a + 1) bA ++ rep k eA) ∧ w1 = wr) (fun _ iv _ => a + 1 - (intOf iv).toNat)
      case atStart => exact ⟨0, X, rfl, rfl, by omega, by omega, Lib.hid (by rw [hX.out]; show _ = _ ++ []; rw [List.append_nil]), rfl⟩
      case round =>
        obtain ⟨k, Y, rfl, rfl, hk2, hYs, hY, rfl⟩ := hrel
        by_cases hlt2 : k < a + 1
        · have hY2 : Hid ((Y ++ ⟨#[69, 78, 68, 58, 65, 13, 10]⟩).data.toList = rep (a + 1) bA ++ rep (k + 1) eA) := Lib.hid (by rw [cat_d Y [69, 78, 68, 58, 65, 13, 10], hY.out, rep_succ k eA, List.append_assoc]; rfl)
          have hs2 : (Y ++ ⟨#[69, 78, 68, 58, 65, 13, 10]⟩).size = (a + 1) * 9 + (k + 1) * 7 := by rw [cat_s Y [69, 78, 68, 58, 65, 13, 10], hYs]; show _ + 7 = _; omega
          have HS2 := Lib.hid hs2
          have xa : (k : Int) < 1 + (a : Int) := by omega
          clear hs2
          go_wp2
          go_roundw
          case rel => exact ⟨k + 1, _, rfl, by go_num, by omega, HS2.out, hY2, trivial⟩
          case measure => simp [intOf]; omega
        · obtain rfl : k = a + 1 := by omega
          have hYd : Hid (pTr Y.data.toList = if 8 < a + 1 then ([], 20) else (lD (a + 1) (a + 1), 0)) := Lib.hid (by rw [hY.out]; exact T1.out)
          have LL := Lib.hid (hC.out.cmps hB)
          have HB1 := Lib.hid hB
          clear hB hC
          go_wp2_with fail
          refine (pa_to Y _ _ _ (by omega) rfl hYd).mono ?_
          rintro e w3 ⟨A3, n3, c3, rfl, hq3, k3⟩
          have L3 := Lib.hid (LL.out.below k3)
          have B3 := Lib.hid (bstep HB1.out k3)
          obtain ⟨r3, hr3⟩ : ∃ x, (if 8 < a + 1 then (([] : List CV), (20 : Int)) else (lD (a + 1) (a + 1), 0)) = x := ⟨_, rfl⟩
          rw [hr3] at hq3 ⊢
          have HR3 := Lib.hid hr3
          have HQ3 := hq3
          clear k3 hr3 hq3 LL HB1
          have sB3 := B3.out.size
          have M0 := Lib.hid (one_cmp w w3 w3.heap.size (Nat.le_refl _) (b : Int))
          have HK4 := Lib.hid ((Below.refl w3.heap.size w3).alloc (Nat.le_refl _) (.cells #[.string ⟨#[82]⟩, .slice none 0 0, .int .i64 (b : Int)] 63))
          go_wp2_with fail
          go_loopw [11, 12, 13] (fun tv lv iv wr => ∃ (k : Nat) (Z : ByteArray) (A : Option Addr) (cp : Nat), tv = .string Z ∧ lv = .slice A (k + 1) cp ∧ iv = .int .i64 k ∧ k ≤ b ∧ Z.size = 8 + k * 18 ∧ Hid (Z.data.toList = [66, 69, 71, 73, 78, 58, 82, 10] ++ rep k bB) ∧ Hid (CmpR w3.heap.size w wr (.slice A (k + 1) cp) (mD b k)) ∧ Hid (Below w3.heap.size w3 wr)) (fun _ _ iv _ => b - (intOf iv).toNat)
          case atStart => exact ⟨0, ⟨#[66, 69, 71, 73, 78, 58, 82, 10]⟩, some ⟨w3.heap.size, 0, none⟩, 1, rfl, by first | rfl | go_num, rfl, by omega, by rfl, Lib.hid rfl, M0, HK4⟩
          case round =>
            obtain ⟨k, Z, A4, c4, rfl, rfl, rfl, hk4, hZs, hZ, hM, hW3⟩ := hrel
            by_cases hlt3 : k < b
            · have e1 : Z ++ ⟨#[66, 69, 71, 73, 78, 58, 66, 10, 88, 58]⟩ ++ ⟨#[49]⟩ ++ ⟨#[10, 69, 78, 68, 58, 66, 10]⟩ = Z ++ ⟨#[66, 69, 71, 73, 78, 58, 66, 10, 88, 58, 49, 10, 69, 78, 68, 58, 66, 10]⟩ := by
                refine ByteArray.ext (Array.toList_inj.1 ?_)
                rw [cat_d _ [10, 69, 78, 68, 58, 66, 10], cat_d _ [49], cat_d _ [66, 69, 71, 73, 78, 58, 66, 10, 88, 58], cat_d _ [66, 69, 71, 73, 78, 58, 66, 10, 88, 58, 49, 10, 69, 78, 68, 58, 66, 10]]
                simp only [List.append_assoc]
                rfl
              have hZ2 : Hid ((Z ++ ⟨#[66, 69, 71, 73, 78, 58, 66, 10, 88, 58]⟩ ++ ⟨#[49]⟩ ++ ⟨#[10, 69, 78, 68, 58, 66, 10]⟩).data.toList = [66, 69, 71, 73, 78, 58, 82, 10] ++ rep (k + 1) bB) := Lib.hid (by rw [e1, cat_d Z [66, 69, 71, 73, 78, 58, 66, 10, 88, 58, 49, 10, 69, 78, 68, 58, 66, 10], hZ.out, rep_succ k bB, List.append_assoc]; rfl)
              have hs2 : (Z ++ ⟨#[66, 69, 71, 73, 78, 58, 66, 10, 88, 58]⟩ ++ ⟨#[49]⟩ ++ ⟨#[10, 69, 78, 68, 58, 66, 10]⟩).size = 8 + (k + 1) * 18 := by rw [e1, cat_s Z [66, 69, 71, 73, 78, 58, 66, 10, 88, 58, 49, 10, 69, 78, 68, 58, 66, 10], hZs]; show _ + 18 = _; omega
              have hs3 : (Z ++ ⟨#[66, 69, 71, 73, 78, 58, 66, 10, 88, 58]⟩).size = 8 + k * 18 + 10 := by rw [cat_s Z [66, 69, 71, 73, 78, 58, 66, 10, 88, 58], hZs]; rfl
              have hs4 : (Z ++ ⟨#[66, 69, 71, 73, 78, 58, 66, 10, 88, 58]⟩ ++ ⟨#[49]⟩).size = 8 + k * 18 + 11 := by rw [cat_s _ [49], hs3]; rfl
              have HS2 := Lib.hid hs2
              have s6 : w3.heap.size ≤ wr.heap.size := hW3.out.size
              have k5 := (Below.refl wr.heap.size wr).alloc (Nat.le_refl _) (.cells #[.string ⟨#[88]⟩, .slice none 0 0, .string ⟨#[49]⟩] 24)
              have CS := Lib.hid (hM.out.low.below k5)
              have LN := Lib.hid (one_lin w wr w3.heap.size s6)
              have HK5 := Lib.hid k5
              have s5 : w3.heap.size ≤ (wr.alloc (.cells #[.string ⟨#[88]⟩, .slice none 0 0, .string ⟨#[49]⟩] 24)).heap.size := Nat.le_trans s6 k5.size
              clear k5 e1 hs2
              go_wp2_with (at_builtin; refine appG rfl _ _ rfl w3.heap.size wr.heap.size w _ (mD b k) rfl CS.out cB _ _ _ rfl rfl LN.out (Or.inr ⟨wr.heap.size, rfl, Nat.le_refl _⟩) (by simp; rfl) (by rw [mD_len]; omega) s5 ?_)
              intro w5 g5 c5 r5 gr5
              have W5 := Lib.hid (gr5.below w3.heap.size w3 (Nat.le_refl _) (bstep hW3.out HK5.out) s5)
              have R5 : Hid (CmpR w3.heap.size w w5 (.slice (some ⟨g5, 0, none⟩) (k + 1 + 1) c5) (mD b (k + 1))) := Lib.hid (by
                have h := r5
                rw [mD_len] at h
                rw [mD_succ]
                exact h)
              rw [mD_len]
              clear r5 gr5 hs3 hs4
              go_wp2
              go_roundw
              case rel => exact ⟨k + 1, _, some ⟨g5, 0, none⟩, c5, rfl, by first | rfl | go_num, by go_num, by omega, HS2.out, hZ2, R5, W5⟩
              case measure => simp [intOf]; omega
            · obtain rfl : k = b := by omega
              have B4 := Lib.hid (bstep B3.out hW3.out)
              have hZd : Hid (pTr (Z ++ ⟨#[69, 78, 68, 58, 82]⟩).data.toList = (mD k k, 0)) := Lib.hid (by rw [cat_d Z [69, 78, 68, 58, 82], hZ.out]; exact T3.out)
              have hzs : (Z ++ ⟨#[69, 78, 68, 58, 82]⟩).size = 8 + k * 18 + 5 := by rw [cat_s Z [69, 78, 68, 58, 82], hZs]; rfl
              have MM := Lib.hid (hM.out.cmps B4.out)
              have L4 := Lib.hid (L3.out.below hW3.out)
              have Q4 := Lib.hid (HQ3.out.below hW3.out)
              clear hM hW3 HK4 M0
              go_wp2_with fail
              refine (pa_to _ _ _ _ (by rw [hzs]; omega) rfl hZd).mono ?_
              rintro e w4 ⟨A5, n5, c5, rfl, hq5, k5⟩
              have M5 := Lib.hid (MM.out.below k5)
              have L5 := Lib.hid (L4.out.below k5)
              have Q5 := Lib.hid (Q4.out.below k5)
              have B5 := Lib.hid (bstep B4.out k5)
              clear k5 MM L4 Q4 B4 hzs
              go_wp2_with fail
              refine (kcm_t _ _ (mD k k) _ hq5.out M5.out (by rw [mD_len]; omega) (mD_sml _ _)).mono ?_
              rintro e w6 ⟨rfl, k5⟩
              have M6 := Lib.hid (M5.out.below k5)
              have L6 := Lib.hid (L5.out.below k5)
              have Q6 := Lib.hid (Q5.out.below k5)
              have B6 := Lib.hid (bstep B5.out k5)
              clear k5 M5 L5 Q5 B5 hq5
              go_wp2_with fail
              refine (kd_to _ (mD k k) 0 _ _ M6.out (by rw [mD_len]; omega) ⟨by decide, by decide⟩ (mD_own _ _ (by omega)) (Lib.hid rfl)).mono ?_
              rintro e w7 ⟨kv, rfl, hk7, k5⟩
              obtain ⟨Ak, ck, hkv⟩ := hk7.forms
              subst hkv
              rw [T4.out]
              have L7 := Lib.hid (L6.out.below k5)
              have Q7 := Lib.hid (Q6.out.below k5)
              have B7 := Lib.hid (bstep B6.out k5)
              have ll : (lD (a + 1) (a + 1)).length ≤ 1000000 := by rw [lD_len]; omega
              have LLN := Lib.hid ll
              have T2' := T2.out
              have HR := HR3.out
              clear k5 M6 L6 Q6 B6 hk7 ll
              by_cases h8 : 8 < a + 1
              · rw [if_pos h8] at HR
                rw [decide_eq_false (by omega)] at T2'
                subst HR
                have x8 : (8 : Int) < 1 + (a : Int) := by omega
                have hn3 : n3 = 0 := by obtain ⟨_, _, e⟩ := Q7.out.slice; injection e with _ e _
                subst hn3
                have CK := Lib.hid (ck_to _ _ false _ L7.out LLN.out (lD_own _ _ (by omega) (by omega)) (lD_sml _ _) (Lib.hid T2'))
                clear T2'
                go_wp2_with fail
                refine CK.out.mono ?_
                rintro e w8 ⟨rfl, k8⟩
                have B8 := Lib.hid (bstep B7.out k8)
                clear k8
                go_wp2_with fail
                refine (wakes19_any _).mono ?_
                rintro e w9 ⟨rfl, k9⟩
                go_wp2
                go_ret
                exact ⟨rfl, bstep B8.out k9⟩
              · rw [if_neg h8] at HR
                rw [decide_eq_true (by omega)] at T2'
                subst HR
                have x8 : ¬ (8 : Int) < 1 + (a : Int) := by omega
                have T2'' := Lib.hid T2'
                clear T2'
                go_wp2_with fail
                refine (kcm_t _ _ _ _ Q7.out L7.out LLN.out (lD_sml _ _)).mono ?_
                rintro e w8 ⟨rfl, k8⟩
                have L8 := Lib.hid (L7.out.below k8)
                have B8 := Lib.hid (bstep B7.out k8)
                clear k8
                have CK := Lib.hid (ck_to _ _ true _ L8.out LLN.out (lD_own _ _ (by omega) (by omega)) (lD_sml _ _) T2'')
                go_wp2_with fail
                refine CK.out.mono ?_
                rintro e w9 ⟨rfl, k9⟩
                have B9 := Lib.hid (bstep B8.out k9)
                clear k9
                go_wp2_with fail
                refine (wakes19_any _).mono ?_
                rintro e w10 ⟨rfl, k9⟩
                go_wp2
                go_ret
                exact ⟨rfl, bstep B9.out k9⟩
theorem tdeep_1 (n wide : Int) (w : World) :
    Calls Try.prog 11 #[.int .i64 n, .int .i64 wide] w fun e w' => e = .returned (.bool true) ∧ Below w.heap.size w w' := by
  have h0 : 0 ≤ IntKind.u64.wrap n := by rw [IntKind.wrap_u64]; omega
  have h1 : 0 ≤ IntKind.u64.wrap wide := by rw [IntKind.wrap_u64]; omega
  obtain ⟨a, ha⟩ : ∃ a : Nat, (IntKind.u64.wrap n).tmod 12 = (a : Int) := ⟨((IntKind.u64.wrap n).tmod 12).toNat, by rw [Int.tmod_eq_emod_of_nonneg h0]; omega⟩
  obtain ⟨b, hb⟩ : ∃ b : Nat, (IntKind.u64.wrap wide).tmod 20 = (b : Int) := ⟨((IntKind.u64.wrap wide).tmod 20).toNat, by rw [Int.tmod_eq_emod_of_nonneg h1]; omega⟩
  exact td_any n wide a b w (by rw [Int.tmod_eq_emod_of_nonneg h0] at ha; omega) (by rw [Int.tmod_eq_emod_of_nonneg h1] at hb; omega) ha hb
end Tre
end Go.Proofs.Ytdakpncfophjnaa
