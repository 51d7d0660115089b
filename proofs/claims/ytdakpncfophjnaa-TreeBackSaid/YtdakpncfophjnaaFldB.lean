/-
  Package fold: isTail, cut, Line; the reference's goesOn, Fold. Both say the same.
-/
import Derived.Test.YtdakpncfophjnaaFldA
import Derived.Test.YtdakpncfophjnaaMrgF
namespace Go.Proofs.Ytdakpncfophjnaa
open Go.RowKit
namespace Fld
/-- A byte that goes on. -/
def isT (c : UInt8) : Bool := decide (128 ≤ c.toNat ∧ c.toNat ≤ 191)
def tailAt (S : List UInt8) (k : Nat) : Bool := isT (S.getD k 0)
/-- Where a piece ends that has so much room. -/
def cutN (S : List UInt8) (r : Nat) : Nat := if tailAt S r = false then r else if tailAt S (r - 1) = false then r - 1 else if tailAt S (r - 2) = false then r - 2 else if tailAt S (r - 3) = false then r - 3 else r
theorem cutN_bd (S : List UInt8) (r : Nat) (h : 3 ≤ r) : r - 3 ≤ cutN S r ∧ cutN S r ≤ r := by
  unfold cutN
  repeat' split
  all_goals omega
def foldG : Nat → List UInt8 → Nat → List UInt8
  | 0, S, _ => S ++ [13, 10]
  | f + 1, S, room => if S.length ≤ room then S ++ [13, 10] else S.take (cutN S room) ++ [13, 10, 32] ++ foldG f (S.drop (cutN S room)) 74
theorem foldG_fuel : ∀ (f g : Nat) (S : List UInt8) (room : Nat), 4 ≤ room → S.length ≤ f → S.length ≤ g → foldG f S room = foldG g S room
  | 0, 0, _, _, _, _, _ => rfl
  | 0, g + 1, S, room, _, h, _ => by rw [foldG, foldG, if_pos (by omega)]
  | f + 1, 0, S, room, _, _, h => by rw [foldG, foldG, if_pos (by omega)]
  | f + 1, g + 1, S, room, hr, h1, h2 => by
    rw [foldG, foldG]
    by_cases h : S.length ≤ room
    · rw [if_pos h, if_pos h]
    · have hc := cutN_bd S room (by omega)
      rw [if_neg h, if_neg h, foldG_fuel f g _ 74 (by omega) (by rw [List.length_drop]; omega) (by rw [List.length_drop]; omega)]
def foldR (S : List UInt8) (room : Nat) : List UInt8 := foldG S.length S room
def foldL (S : List UInt8) : List UInt8 := foldR S 75
theorem foldR_last {S : List UInt8} {room : Nat} (h : S.length ≤ room) : foldR S room = S ++ [13, 10] := by
  unfold foldR
  cases S with
  | nil => rfl
  | cons c S => rw [List.length_cons, foldG, if_pos (by simpa using h)]
theorem foldR_more {S : List UInt8} {room : Nat} (hr : 4 ≤ room) (h : room < S.length) : foldR S room = S.take (cutN S room) ++ [13, 10, 32] ++ foldR (S.drop (cutN S room)) 74 := by
  have hc := cutN_bd S room (by omega)
  unfold foldR
  obtain ⟨n, hn⟩ : ∃ n, S.length = n + 1 := ⟨S.length - 1, by omega⟩
  rw [hn, foldG, if_neg (by omega)]
  rw [foldG_fuel n (S.drop (cutN S room)).length _ 74 (by omega) (by rw [List.length_drop]; omega) (Nat.le_refl _)]
theorem isT_to (c : UInt8) (b : Bool) (w : World) (h : Hid (isT c = b)) : Calls Try.prog 87 #[.int .u8 (c.toNat : Int)] w fun e w' => e = .returned (.bool b) ∧ w = w' := by
  have HH := h.out
  unfold isT at HH
  have hb := c.toNat_lt
  clear h
  by_cases h1 : c.toNat < 128
  · rw [decide_eq_false (by omega)] at HH
    subst HH
    have h2 : ¬ (128 : Int) ≤ (c.toNat : Int) := by omega
    go_enter Try.func87, Try.ntmps87
    go_wp2
    go_ret
    exact ⟨ret_b (by simp [*]), rfl⟩
  · by_cases h2 : c.toNat ≤ 191
    · rw [decide_eq_true (by omega)] at HH
      subst HH
      have h3 : (128 : Int) ≤ (c.toNat : Int) := by omega
      have h4 : (c.toNat : Int) ≤ 191 := by omega
      go_enter Try.func87, Try.ntmps87
      go_wp2
      go_ret
      exact ⟨ret_b (by simp [*]), rfl⟩
    · rw [decide_eq_false (by omega)] at HH
      subst HH
      have h3 : (128 : Int) ≤ (c.toNat : Int) := by omega
      have h4 : ¬ (c.toNat : Int) ≤ 191 := by omega
      go_enter Try.func87, Try.ntmps87
      go_wp2
      go_ret
      exact ⟨ret_b (by simp [*]), rfl⟩
theorem goe_to (c : UInt8) (b : Bool) (w : World) (h : Hid (isT c = b)) : Calls Try.prog 76 #[.int .u8 (c.toNat : Int)] w fun e w' => e = .returned (.bool b) ∧ w = w' := by
  have HH := h.out
  unfold isT at HH
  have hb := c.toNat_lt
  clear h
  by_cases h1 : c.toNat < 128
  · rw [decide_eq_false (by omega)] at HH
    subst HH
    have h2 : ¬ (128 : Int) ≤ (c.toNat : Int) := by omega
    go_enter Try.func76, Try.ntmps76
    go_wp2
    go_ret
    exact ⟨ret_b (by simp [*]), rfl⟩
  · by_cases h2 : c.toNat ≤ 191
    · rw [decide_eq_true (by omega)] at HH
      subst HH
      have h3 : (128 : Int) ≤ (c.toNat : Int) := by omega
      have h4 : (c.toNat : Int) < 192 := by omega
      go_enter Try.func76, Try.ntmps76
      go_wp2
      go_ret
      exact ⟨ret_b (by simp [*]), rfl⟩
    · rw [decide_eq_false (by omega)] at HH
      subst HH
      have h3 : (128 : Int) ≤ (c.toNat : Int) := by omega
      have h4 : ¬ (c.toNat : Int) < 192 := by omega
      go_enter Try.func76, Try.ntmps76
      go_wp2
      go_ret
      exact ⟨ret_b (by simp [*]), rfl⟩
theorem at_get {s : ByteArray} {S : List UInt8} (hS : s.data.toList = S) (k : Nat) (h : k < s.size) : s[k] = S.getD k 0 := by
  have h2 : k < S.length := by rw [← hS]; simpa using h
  have : s[k] = s.data.toList[k]'(by simpa using h) := by simp [ByteArray.getElem_eq_getElem_data]
  rw [this, List.getD_eq_getElem?_getD, List.getElem?_eq_getElem h2]
  exact List.getElem_of_eq hS _
/-- How far back the first byte stands that does not go on. -/
theorem cutN_at {S : List UInt8} {r k : Nat} (hk : k ≤ 3) (h : ∀ j, j < k → tailAt S (r - j) = true) (h2 : tailAt S (r - k) = false) : cutN S r = r - k := by
  unfold cutN
  match k, hk with
  | 0, _ => rw [Nat.sub_zero] at h2; rw [if_pos h2]; rfl
  | 1, _ =>
    have h0 := h 0 (by omega)
    rw [Nat.sub_zero] at h0
    rw [if_neg (by rw [h0]; decide), if_pos h2]
  | 2, _ =>
    have h0 := h 0 (by omega)
    have h1 := h 1 (by omega)
    rw [Nat.sub_zero] at h0
    rw [if_neg (by rw [h0]; decide), if_neg (by rw [h1]; decide), if_pos h2]
  | 3, _ =>
    have h0 := h 0 (by omega)
    have h1 := h 1 (by omega)
    have h3 := h 2 (by omega)
    rw [Nat.sub_zero] at h0
    rw [if_neg (by rw [h0]; decide), if_neg (by rw [h1]; decide), if_neg (by rw [h3]; decide), if_pos h2]
theorem cutN_none {S : List UInt8} {r : Nat} (h : ∀ j, j < 4 → tailAt S (r - j) = true) : cutN S r = r := by
  unfold cutN
  have h0 := h 0 (by omega)
  have h1 := h 1 (by omega)
  have h2 := h 2 (by omega)
  have h3 := h 3 (by omega)
  rw [Nat.sub_zero] at h0
  rw [if_neg (by rw [h0]; decide), if_neg (by rw [h1]; decide), if_neg (by rw [h2]; decide), if_neg (by rw [h3]; decide)]
set_option maxHeartbeats 1600000 in
set_option maxRecDepth 100000 in
theorem cut_to (s : ByteArray) (S : List UInt8) (r : Nat) (w : World) (hr : 3 ≤ r) (hrs : r < s.size) (hrm : r ≤ 1000) (hS : Hid (s.data.toList = S)) :
    Calls Try.prog 85 #[.string s, .int .i64 (r : Int)] w fun e w' => e = .returned (.int .i64 (cutN S r : Int)) ∧ w = w' := by
  go_enter Try.func85, Try.ntmps85
  go_wp2
  go_loopw [5] (fun tv wx => ∃ k : Nat, k ≤ 4 ∧ tv = .int .i64 k ∧ Hid (∀ j, j < k → tailAt S (r - j) = true) ∧ w = wx) (fun tv _ => 4 - (intOf tv).toNat)
  case atStart => exact ⟨0, Nat.zero_le _, rfl, Lib.hid (fun j hj => by omega), rfl⟩
  case round =>
    obtain ⟨k, hk, rfl, hall, rfl⟩ := hrel
    by_cases hk4 : k ≤ 3
    · have hsub : (r : Int) - (k : Int) = ((r - k : Nat) : Int) := by omega
      obtain ⟨n, hn⟩ : ∃ n, r - k = n := ⟨_, rfl⟩
      have hns : n < s.size := by omega
      rw [hn] at hsub
      have hx := at_get hS.out n hns
      obtain ⟨c, hc⟩ : ∃ c, s[n] = c := ⟨_, rfl⟩
      rw [hc] at hx
      cases hb : isT c with
      | true =>
        have HB := Lib.hid hb
        have HN : Hid (∀ j, j < k + 1 → tailAt S (r - j) = true) := Lib.hid (fun j hj => by
          by_cases e : j = k
          · rw [e, hn, tailAt, ← hx]; exact hb
          · exact hall.out j (by omega))
        clear hb hx hall hn
        go_wp2_with fail
        refine (isT_to c true _ HB).mono ?_
        rintro e w2 ⟨rfl, rfl⟩
        go_wp2
        go_roundw
        case rel => exact ⟨k + 1, by omega, by go_num, HN, trivial⟩
        case measure => simp [intOf]; omega
      | false =>
        have HB := Lib.hid hb
        have HN : Hid (cutN S r = n) := Lib.hid (by rw [← hn]; exact cutN_at hk4 hall.out (by rw [hn, tailAt, ← hx]; exact hb))
        clear hb hx hall hn
        go_wp2_with fail
        refine (isT_to c false _ HB).mono ?_
        rintro e w2 ⟨rfl, rfl⟩
        go_wp2
        go_ret
        exact ⟨ret_i (by rw [HN.out]), rfl⟩
    · obtain rfl : k = 4 := by omega
      have HN : Hid (cutN S r = r) := Lib.hid (cutN_none hall.out)
      clear hall
      go_wp2
      go_ret
      exact ⟨ret_i (by rw [HN.out]), rfl⟩
def szOf : Value → Nat
  | .string s => s.size
  | _ => 0
theorem dt (s : ByteArray) (a b : Nat) : (s.extract a b).data.toList = (s.data.toList.drop a).take (b - a) := Lib.extract_data s a b
theorem dt0 (s : ByteArray) (b : Nat) : (s.extract 0 b).data.toList = s.data.toList.take b := by rw [dt]; simp
theorem dtE (s : ByteArray) (a : Nat) : (s.extract a s.size).data.toList = s.data.toList.drop a := by
  rw [dt, List.take_of_length_le]
  rw [List.length_drop]
  simp
theorem dtS (s : ByteArray) (a : Nat) : (s.extract a s.size).size = s.size - a := by
  rw [Lib.size_eq, dtE, List.length_drop]
  simp
set_option maxHeartbeats 6400000 in
set_option maxRecDepth 100000 in
theorem line_to (s : ByteArray) (S : List UInt8) (w : World) (hs : s.size ≤ 60000) (hS : Hid (s.data.toList = S)) (h : Hid (hit S = false)) :
    Calls Try.prog 74 #[.string s] w fun e w' => e = .returned (.tuple #[.string ⟨(foldL S).toArray⟩, .int .i64 0]) ∧ Below w.heap.size w w' := by
  have hl : S.length = s.size := by rw [← hS.out]; simp
  have HL := Lib.hid hl
  clear hl
  go_enter Try.func74, Try.ntmps74
  go_wp2_with fail
  refine (ca_to s S false _ (by omega) hS h).mono ?_
  rintro e w1 ⟨rfl, b1⟩
  have hf := Bld.fresh w1
  have hb1 : Below w.heap.size w (w1.alloc (.cells #[.pointer none, .slice none 0 0] 69)) := b1.alloc b1.size _
  have hsz : w1.heap.size < (w1.alloc (.cells #[.pointer none, .slice none 0 0] 69)).heap.size := by simp
  have hwB : w.heap.size ≤ w1.heap.size := b1.size
  go_wp2_with fail
  obtain ⟨B, hB⟩ : ∃ B, w1.heap.size = B := ⟨_, rfl⟩
  rw [hB] at hf hsz hwB ⊢
  obtain ⟨w2, hw2⟩ : ∃ x, w1.alloc (.cells #[.pointer none, .slice none 0 0] 69) = x := ⟨_, rfl⟩
  rw [hw2] at hf hb1 hsz ⊢
  clear hw2 b1 hB
  go_loopw [0, 5] (fun sv rv wr => ∃ (t : ByteArray) (room : Nat) (D : List UInt8), sv = .string t ∧ rv = .int .i64 room ∧ (74 ≤ room ∧ room ≤ 75) ∧ D.length + 4 * t.size ≤ 4 * s.size ∧ Hid (foldL S = D ++ foldR t.data.toList room) ∧ Lib.IsBuilder 69 5 B B (Lib.byteCells D) wr ∧ B < wr.heap.size ∧ Below w.heap.size w wr) (fun sv _ _ => szOf sv)
  case atStart => exact ⟨s, 75, [], rfl, rfl, ⟨by omega, by omega⟩, by simp, Lib.hid (by rw [hS.out]; rfl), hf, hsz, hb1⟩
  case round =>
    obtain ⟨t, room, D, rfl, rfl, ⟨hr1, hr2⟩, hD, hP, hbl, hsz, hb⟩ := hrel
    have htl : t.data.toList.length = t.size := by simp
    by_cases hlt : room < t.size
    · have hc := cutN_bd t.data.toList room (by omega)
      have HM : Hid (foldL S = D ++ t.data.toList.take (cutN t.data.toList room) ++ [13, 10, 32] ++ foldR (t.data.toList.drop (cutN t.data.toList room)) 74) := Lib.hid (by rw [hP.out, foldR_more (by omega) (by omega)]; simp)
      have hct := cut_to t t.data.toList room wr (by omega) hlt (by omega) (Lib.hid rfl)
      obtain ⟨n, hn⟩ : ∃ n, cutN t.data.toList room = n := ⟨_, rfl⟩
      rw [hn] at hc HM hct
      have HCT := Lib.hid hct
      have hx1 : Hid ((t.extract 0 n ++ ⟨#[13, 10]⟩ ++ ⟨#[32]⟩).data.toList = t.data.toList.take n ++ [13, 10, 32]) := Lib.hid (by rw [Rws.cat_data, Rws.cat_data, dt0, List.append_assoc]; rfl)
      have hx2 : (t.extract 0 n ++ ⟨#[13, 10]⟩ ++ ⟨#[32]⟩).size = n + 3 := by rw [Lib.size_eq, hx1.out, List.length_append, List.length_take, htl]; simp; omega
      have HX2 := Lib.hid hx2
      have HTS := Lib.hid (dtS t n)
      have HTE := Lib.hid (dtE t n)
      clear hct hn hP htl hx2
      go_wp2_with fail
      refine HCT.out.mono ?_
      rintro e w3 ⟨rfl, rfl⟩
      go_wp2_with fail
      refine (Bld.ws_to B B D _ _ hbl (by rw [HX2.out]; omega) (by omega)).mono ?_
      rintro e w4 ⟨rfl, hbl4, hb4⟩
      have hb5 := hb.trans (hb4.mono hwB)
      have hsz4 : B < w4.heap.size := Nat.lt_of_lt_of_le hsz hb4.size
      rw [hx1.out] at hbl4
      clear hbl hb4 hsz hb
      go_wp2
      go_roundw
      case rel => exact ⟨t.extract n t.size, 74, D ++ (t.data.toList.take n ++ [13, 10, 32]), rfl, rfl, ⟨by omega, by omega⟩, by rw [HTS.out, List.length_append, List.length_append, List.length_take]; simp; omega, Lib.hid (by rw [HTE.out, HM.out]; simp), hbl4, hsz4, hb5⟩
      case measure => simp only [szOf]; rw [HTS.out]; omega
    · have HM : Hid (foldL S = D ++ (t.data.toList ++ [13, 10])) := Lib.hid (by rw [hP.out, foldR_last (by omega)])
      have hx1 : Hid ((t ++ ⟨#[13, 10]⟩).data.toList = t.data.toList ++ [13, 10]) := Lib.hid (by rw [Rws.cat_data])
      have hx2 : (t ++ ⟨#[13, 10]⟩).size = t.size + 2 := by rw [Lib.size_eq, hx1.out, List.length_append, htl]; rfl
      have HX2 := Lib.hid hx2
      clear hx2 hP htl
      go_wp2_with fail
      refine (Bld.ws_to B B D _ _ hbl (by rw [HX2.out]; omega) (by omega)).mono ?_
      rintro e w4 ⟨rfl, hbl4, hb4⟩
      have hb5 := hb.trans (hb4.mono hwB)
      have hsz4 : B < w4.heap.size := Nat.lt_of_lt_of_le hsz hb4.size
      rw [hx1.out, ← HM.out] at hbl4
      clear hbl hb4 hsz hb
      go_wp2_with fail
      refine (Bld.str_to B B _ _ hbl4 (by omega)).mono ?_
      rintro e w6 ⟨rfl, hb6⟩
      go_wp2
      go_ret2
      exact ⟨rfl, hb5.trans (hb6.mono hwB)⟩
set_option maxRecDepth 100000 in
theorem line_no (s : ByteArray) (S : List UInt8) (w : World) (hs : s.size ≤ 60000) (hS : Hid (s.data.toList = S)) (h : Hid (hit S = true)) :
    Calls Try.prog 74 #[.string s] w fun e w' => e = .returned (.tuple #[.string ⟨#[]⟩, .int .i64 18]) ∧ Below w.heap.size w w' := by
  go_enter Try.func74, Try.ntmps74
  go_wp2_with fail
  refine (ca_to s S true _ (by omega) hS h).mono ?_
  rintro e w1 ⟨rfl, b1⟩
  go_wp2
  go_ret2
  exact ⟨rfl, b1⟩
end Fld
end Go.Proofs.Ytdakpncfophjnaa
