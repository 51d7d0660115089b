/-
  Slices of texts, wherever they came from: what they read as; the laws' Texts over any two; TwinTexts.
-/
import Derived.Test.YtdehpljpionpfaaStrs
import Derived.Test.YtdehpljpionpfaaEscA
import Derived.Test.YtdehpljpionpfaaEscC
namespace Go.Proofs.Ytdehpljpionpfaa
open Go.RowKit
namespace Opn
def sv (t : List UInt8) : Value := .string ⟨t.toArray⟩
/-- The value reads as the texts L. -/
def TxtV (w : World) (v : Value) (L : List (List UInt8)) : Prop := ∃ a n c, v = .slice a n c ∧ n = L.length ∧ ∀ (j : Nat) (hj : j < L.length), ∃ b off, a = some ⟨b, off, none⟩ ∧ b < w.heap.size ∧ w.cell? ⟨b, off + j, none⟩ = some (.string ⟨(L[j]).toArray⟩)
theorem TxtV.below {w w' : World} {v : Value} {L : List (List UInt8)} (h : TxtV w v L) (hb : Below w.heap.size w w') : TxtV w' v L := by
  obtain ⟨a, n, c, hv, hn, hc⟩ := h
  refine ⟨a, n, c, hv, hn, fun j hj => ?_⟩
  obtain ⟨b, off, ha, hl, hcell⟩ := hc j hj
  exact ⟨b, off, ha, Nat.lt_of_lt_of_le hl hb.size, (hb.cell (p := ⟨b, off + j, none⟩) hl).trans hcell⟩
theorem TxtV.form {w : World} {v : Value} {L : List (List UInt8)} (h : TxtV w v L) (h0 : 0 < L.length) : ∃ b off c, v = .slice (some ⟨b, off, none⟩) L.length c ∧ b < w.heap.size ∧ ∀ (j : Nat) (hj : j < L.length), w.cell? ⟨b, off + j, none⟩ = some (.string ⟨(L[j]).toArray⟩) := by
  obtain ⟨a, n, c, hv, rfl, hc⟩ := h
  obtain ⟨b, off, rfl, hl, _⟩ := hc 0 h0
  refine ⟨b, off, c, hv, hl, fun j hj => ?_⟩
  obtain ⟨b', off', e, _, h2⟩ := hc j hj
  injection e with e
  injection e with e1 e2
  subst e1 e2
  exact h2
theorem TxtV.nil {w : World} {v : Value} (h : TxtV w v []) : ∃ a c, v = .slice a 0 c := by
  obtain ⟨a, n, c, hv, hn, _⟩ := h
  exact ⟨a, c, by rw [hv, hn]; rfl⟩
theorem TxtV.slice {w : World} {v : Value} {L : List (List UInt8)} (h : TxtV w v L) : ∃ a c, v = .slice a L.length c := by
  obtain ⟨a, n, c, hv, rfl, _⟩ := h
  exact ⟨a, c, hv⟩
theorem TxtV.none (w : World) : TxtV w (.slice none 0 0) [] := ⟨_, _, _, rfl, rfl, fun j hj => by simp at hj⟩
theorem TxtV.of_owns {w : World} {B : Nat} {e : TypeId} {v : Value} {n : Nat} {L : List (List UInt8)} (h : w.ownsRow B e 1 v n (L.map sv)) : TxtV w v L := by
  have hl := h.1
  rw [List.length_map, Nat.mul_one] at hl
  subst hl
  by_cases h0 : L.length = 0
  · have hL : L = [] := List.length_eq_zero_iff.1 h0
    subst hL
    rcases h.2 with ⟨hv, _⟩ | ⟨g, cap, cur, hv, _⟩
    · exact ⟨_, _, _, hv, rfl, fun j hj => by simp at hj⟩
    · exact ⟨_, _, _, hv, rfl, fun j hj => by simp at hj⟩
  · obtain ⟨g, cap, hv, _, hg⟩ := h.form (by omega)
    subst hv
    refine ⟨_, _, _, rfl, rfl, fun j hj => ⟨g, 0, rfl, hg, ?_⟩⟩
    rw [Nat.zero_add, h.cellAt j (by omega), List.getElem?_map, List.getElem?_eq_getElem hj]
    rfl
/-- The texts of a slice that came in. -/
def lst (ls : Nat → ByteArray) (n : Nat) : List (List UInt8) := (List.range n).map (fun j => (ls j).data.toList)
theorem lst_len (ls : Nat → ByteArray) (n : Nat) : (lst ls n).length = n := by simp [lst]
theorem lst_at (ls : Nat → ByteArray) (n j : Nat) (hj : j < (lst ls n).length) : (lst ls n)[j] = (ls j).data.toList := by simp [lst]
theorem back_str (s : ByteArray) : (⟨s.data.toList.toArray⟩ : ByteArray) = s := ByteArray.ext (by simp)
theorem TxtV.of_strs {w : World} {A : Option Addr} {n c : Nat} {ls : Nat → ByteArray} (h : Strs A n ls w) : TxtV w (.slice A n c) (lst ls n) := by
  refine ⟨A, n, c, rfl, (lst_len ls n).symm, fun j hj => ?_⟩
  obtain ⟨b, off, hA, hb, h1, _⟩ := h j (by rw [lst_len] at hj; exact hj)
  exact ⟨b, off, hA, hb, by rw [h1, lst_at, back_str]⟩
theorem TxtV.drew {w : World} {v : Value} {L : List (List UInt8)} (h : TxtV w v L) (m : Nat) : TxtV (w.drewN m) v L := h
theorem sb_ne {A B : List UInt8} (h : A ≠ B) : (⟨A.toArray⟩ : ByteArray) ≠ ⟨B.toArray⟩ := fun e => h (by injection e with e; injection e)
set_option maxHeartbeats 3200000 in
set_option maxRecDepth 100000 in
theorem texts_any (v u : Value) (L M : List (List UInt8)) (w : World) (hv : TxtV w v L) (hu : TxtV w u M) (hL : L.length ≤ 1000000) (hM : M.length ≤ 1000000) :
    Calls Try.prog 9 #[v, u] w fun e w' => ∃ b, e = .returned (.bool b) ∧ Hid (b = decide (L = M)) ∧ ∃ m, w' = w.drewN m := by
  by_cases hlen : L.length = M.length
  · by_cases h0 : L.length = 0
    · have e1 : L = [] := List.length_eq_zero_iff.1 h0
      have e2 : M = [] := List.length_eq_zero_iff.1 (by omega)
      subst e1 e2
      obtain ⟨a, c, rfl⟩ := hv.nil
      obtain ⟨a2, c2, rfl⟩ := hu.nil
      clear hv hu hlen h0 hL hM
      go_enter Try.func9, Try.ntmps9
      go_wp2_with fail
      go_loopw [5] (fun iv wr => iv = .int .i64 0 ∧ wr = w) (fun _ _ => 0)
      case atStart => exact ⟨rfl, rfl⟩
      case round =>
        obtain ⟨rfl, rfl⟩ := hrel
        go_wp2
        go_ret
        exact ⟨true, rfl, Lib.hid (by simp), 0, rfl⟩
    · obtain ⟨b1, o1, c1, rfl, _, k1⟩ := hv.form (by omega)
      obtain ⟨b2, o2, c2, rfl, _, k2⟩ := hu.form (by omega)
      obtain ⟨n, hn⟩ : ∃ n, L.length = n := ⟨_, rfl⟩
      have K1 : Hid (∀ (j : Nat) (hj : j < L.length), w.cell? ⟨b1, o1 + j, Option.none⟩ = some (.string ⟨(L[j]).toArray⟩)) := Lib.hid k1
      have K2 : Hid (∀ (j : Nat) (hj : j < M.length), w.cell? ⟨b2, o2 + j, Option.none⟩ = some (.string ⟨(M[j]).toArray⟩)) := Lib.hid k2
      have HN := Lib.hid hn
      have HM : Hid (M.length = n) := Lib.hid (hlen ▸ hn)
      rw [← hlen, hn]
      rw [hn] at hL
      clear k1 k2 hv hu h0 hM hlen hn
      go_enter Try.func9, Try.ntmps9
      go_wp2_with fail
      go_loopw [5] (fun iv wr => ∃ k : Nat, k ≤ n ∧ iv = .int .i64 k ∧ Hid (L.take k = M.take k) ∧ ∃ m, wr = w.drewN m) (fun iv _ => n - (intOf iv).toNat)
      case atStart => exact ⟨0, Nat.zero_le _, rfl, Lib.hid rfl, 0, rfl⟩
      case round =>
        obtain ⟨k, hk, rfl, hT, m, rfl⟩ := hrel
        by_cases hlt : k < n
        · have h1L : k < L.length := by rw [HN.out]; exact hlt
          have h1M : k < M.length := by rw [HM.out]; exact hlt
          have g1 := K1.out k h1L
          have g2 := K2.out k h1M
          by_cases he : L[k] = M[k]
          · have HT : Hid (L.take (k + 1) = M.take (k + 1)) := Lib.hid (by rw [List.take_succ_eq_append_getElem h1L, List.take_succ_eq_append_getElem h1M, hT.out, he])
            rw [← he] at g2
            obtain ⟨X, hX⟩ : ∃ X : ByteArray, ⟨(L[k]).toArray⟩ = X := ⟨_, rfl⟩
            rw [hX] at g1 g2
            clear he h1L h1M hX
            go_wp2_with fail
            go_quiet (fail)
            go_wp2
            go_roundw
            case rel => exact ⟨k + 1, by omega, by go_num, HT, m + nq, by first | rfl | rw [World.drewN_drewN]⟩
            case measure => simp [intOf]; omega
          · have HF : Hid (decide (L = M) = false) := Lib.hid (decide_eq_false (fun e => he (by subst e; rfl)))
            have hne := sb_ne he
            obtain ⟨X, hX⟩ : ∃ X : ByteArray, ⟨(L[k]).toArray⟩ = X := ⟨_, rfl⟩
            obtain ⟨Y, hY⟩ : ∃ Y : ByteArray, ⟨(M[k]).toArray⟩ = Y := ⟨_, rfl⟩
            rw [hX] at g1 hne
            rw [hY] at g2 hne
            have hb1 : (X.toList == Y.toList) = false := beq_eq_false_iff_ne.2 (fun e => hne (ByteArray.ext (Array.toList_inj.1 (by rw [← Lib.toList_data, ← Lib.toList_data, e]))))
            clear he h1L h1M hX hY hne
            go_wp2_with fail
            go_quiet (fail)
            go_wp2
            go_ret
            exact ⟨false, rfl, Lib.hid HF.out.symm, m + nq, by first | rfl | rw [World.drewN_drewN]⟩
        · have hkn : k = n := by omega
          subst hkn
          have HF : Hid (decide (L = M) = true) := Lib.hid (decide_eq_true (by have := hT.out; rwa [List.take_of_length_le (by rw [HN.out]; exact Nat.le_refl _), List.take_of_length_le (by rw [HM.out]; exact Nat.le_refl _)] at this))
          go_wp2
          go_ret
          exact ⟨true, rfl, Lib.hid HF.out.symm, _, rfl⟩
  · obtain ⟨a, c, rfl⟩ := hv.slice
    obtain ⟨a2, c2, rfl⟩ := hu.slice
    have HF : Hid (decide (L = M) = false) := Lib.hid (decide_eq_false (fun e => hlen (by rw [e])))
    obtain ⟨n, hn⟩ : ∃ n, L.length = n := ⟨_, rfl⟩
    obtain ⟨n2, hn2⟩ : ∃ n2, M.length = n2 := ⟨_, rfl⟩
    rw [hn] at hL hlen ⊢
    rw [hn2] at hM hlen ⊢
    have hne : ((n : Int) == (n2 : Int)) = false := beq_eq_false_iff_ne.2 (by omega)
    have hne2 : ((n : Int) != (n2 : Int)) = true := by rw [bne, hne]; rfl
    clear hv hu hn hn2
    go_enter Try.func9, Try.ntmps9
    go_wp2
    go_ret
    exact ⟨false, rfl, Lib.hid HF.out.symm, 0, rfl⟩
end Opn
end Go.Proofs.Ytdehpljpionpfaa
