/-
  FoldAnywhere: the walk. (Written by gen/gen_fldw.py.)
-/
import Derived.Test.YthnlphnhdhmcpaaFldK
namespace Go.Proofs.Ythnlphnhdhmcpaa
open Go.RowKit
namespace Fld
open Opn (sv TxtV Ints)
/-- D is S with folds in it. -/
def Wv (S D : List UInt8) : Prop := (∀ P R, unfG P (D ++ R) = unfG (P ++ S) R) ∧ ∀ R, okCR (D ++ R) = okCR R
theorem Wv.zero : Wv [] [] := ⟨fun P R => by simp, fun R => rfl⟩
theorem Wv.snoc {S D : List UInt8} {c : UInt8} (h : Wv S D) (h1 : c ≠ 13) (h2 : c ≠ 10) : Wv (S ++ [c]) (D ++ [c]) :=
  ⟨fun P R => by rw [List.append_assoc, h.1, List.singleton_append, unf_any _ _ h1 h2, List.append_assoc], fun R => by
    rw [List.append_assoc, h.2, List.singleton_append, ok_cons]
    have : (c != 13) = true := by simpa [bne] using h1
    rw [this]; rfl⟩
theorem Wv.crlf {S D : List UInt8} {b : UInt8} (h : Wv S D) (hb : b = 32 ∨ b = 9) : Wv S (D ++ [13, 10, b]) :=
  ⟨fun P R => by
    rw [List.append_assoc, h.1]
    show unfG (P ++ S) (13 :: 10 :: b :: R) = _
    rw [unf_cr, unf_fold _ _ hb], fun R => by
    rw [List.append_assoc, h.2]
    show okCR (13 :: 10 :: b :: R) = _
    rw [ok_crlf, ok_cons]
    rcases hb with rfl | rfl <;> rfl⟩
theorem Wv.lf {S D : List UInt8} {b : UInt8} (h : Wv S D) (hb : b = 32 ∨ b = 9) : Wv S (D ++ [10, b]) :=
  ⟨fun P R => by
    rw [List.append_assoc, h.1]
    show unfG (P ++ S) (10 :: b :: R) = _
    rw [unf_fold _ _ hb], fun R => by
    rw [List.append_assoc, h.2]
    show okCR (10 :: b :: R) = _
    rcases hb with rfl | rfl <;> rfl⟩
theorem Wv.ends {S D : List UInt8} (h : Wv S D) (_ : 0 < S.length) : unfR (D ++ [13, 10]) = ([S], 0) ∧ unfR (D ++ [10]) = ([S], 0) := by
  constructor
  · rw [unfR, h.2, if_pos (show okCR [13, 10] = true from rfl), unfS, h.1, unf_cr, unf_lf _ _ rfl]; rfl
  · rw [unfR, h.2, if_pos (show okCR [10] = true from rfl), unfS, h.1, unf_lf _ _ rfl]; rfl
theorem hit_ne {S : List UInt8} (h : hit S = false) {k : Nat} (hk : k < S.length) : S[k] ≠ 13 ∧ S[k] ≠ 10 := by
  have := List.any_eq_false.1 h S[k] (List.getElem_mem hk)
  constructor
  · intro e; rw [e] at this; exact this rfl
  · intro e; rw [e] at this; exact this rfl
set_option maxHeartbeats 25600000 in
set_option maxRecDepth 100000 in
theorem fany16_nil (s : ByteArray) (A : Option Addr) (c : Nat) (tab alone : Bool) (w : World) (hs : 0 < s.size) (hs2 : s.size ≤ 300) :
    Calls Try.prog 6 #[.string s, (.slice A 0 c), .bool tab, .bool alone] w fun e w' => e = .returned (.bool true) ∧ Below w.heap.size w w' := by
  obtain ⟨S, hS⟩ : ∃ x, s.data.toList = x := ⟨_, rfl⟩
  have HS := Lib.hid hS
  have hl : S.length = s.size := by rw [← hS]; simp
  have HL := Lib.hid hl
  clear hS hl
  have hz0 : ((s.size : Int) == 0) = false := beq_eq_false_iff_ne.2 (by omega)
  go_enter Try.func6, Try.ntmps6
  go_wp2
  go_loopw [9] (fun iv wr => ∃ k : Nat, k ≤ s.size ∧ iv = .int .i64 k ∧ Hid (hit (S.take k) = false) ∧ w = wr) (fun iv _ => s.size - (intOf iv).toNat)
  case atStart => exact ⟨0, Nat.zero_le _, rfl, Lib.hid rfl, rfl⟩
  case round =>
    obtain ⟨k, hk, rfl, hno, rfl⟩ := hrel
    by_cases hlt : k < s.size
    · obtain ⟨hkS, hx⟩ := at_list HS.out k hlt
      obtain ⟨c0, hc⟩ : ∃ c0, s[k] = c0 := ⟨_, rfl⟩
      rw [hc] at hx
      have cb := c0.toNat_lt
      rcases le_cases c0 with ⟨h1, h2⟩ | ⟨h1, h2⟩ | ⟨h1, h2, h3⟩
      · subst h1
        clear hx hno h2
        go_wp2
        go_ret
        exact ⟨rfl, Below.refl _ _⟩
      · subst h1
        clear hx hno h2
        go_wp2
        go_ret
        exact ⟨rfl, Below.refl _ _⟩
      · have HN : Hid (hit (S.take (k + 1)) = false) := Lib.hid (by rw [hit_snoc hkS, hno.out, ← hx, h3]; rfl)
        clear hx hno h3
        go_wp2
        go_roundw
        case rel => exact ⟨k + 1, by omega, by go_num, HN, trivial⟩
        case measure => simp [intOf]; omega
    · have HH : Hid (hit S = false) := Lib.hid (by have h1 := hno.out; rwa [List.take_of_length_le (by rw [HL.out]; omega)] at h1)
      clear hno
      cases alone
      all_goals
        cases tab
        all_goals
          go_wp2
          go_loopw [12, 13] (fun tv iv wr => ∃ (k : Nat) (D : List UInt8), k ≤ s.size ∧ iv = .int .i64 k ∧ tv = .string ⟨D.toArray⟩ ∧ D.length ≤ 61 * k ∧ Wv (S.take k) D ∧ w = wr) (fun _ iv _ => s.size - (intOf iv).toNat)
          case atStart => exact ⟨0, [], Nat.zero_le _, rfl, rfl, Nat.le_refl _, Wv.zero, rfl⟩
          case round =>
            obtain ⟨k, D, hk, rfl, rfl, hD, hwv, rfl⟩ := hrel
            by_cases hlt : k < s.size
            · obtain ⟨hkS, hx⟩ := at_list HS.out k hlt
              obtain ⟨c0, hc⟩ : ∃ c0, S[k] = c0 := ⟨_, rfl⟩
              have hne := hit_ne HH.out hkS
              rw [hc] at hne
              have HTK : Hid (S.take (k + 1) = S.take k ++ [c0]) := Lib.hid (by rw [List.take_succ_eq_append_getElem hkS, hc])
              have HEX : Hid ((s.extract k (k + 1)).data.toList = [c0]) := Lib.hid (by rw [Lib.extract_data, HS.out, show k + 1 - k = 1 from by omega, List.drop_eq_getElem_cons hkS, hc]; rfl)
              have hexz : (s.extract k (k + 1)).size = 1 := by rw [Lib.size_eq, HEX.out]; rfl
              have HEXZ := Lib.hid hexz
              have HNE := Lib.hid hne
              clear hx hc hkS hne hexz
              obtain ⟨wo, hwo⟩ : ∃ wo : World, wo = w := ⟨_, rfl⟩
              go_wp2
              go_loopw [12, 14] (fun tv jv wx => ∃ (j : Nat) (G : List UInt8), j ≤ 0 ∧ jv = .int .i64 j ∧ tv = .string ⟨G.toArray⟩ ∧ G.length ≤ 61 * k + 3 * j ∧ Wv (S.take k) G ∧ w = wx) (fun _ jv _ => 0 - (intOf jv).toNat)
              case atStart => exact ⟨0, D, Nat.zero_le _, rfl, rfl, by omega, hwv, rfl⟩
              case round =>
                obtain ⟨j, G, hj, rfl, rfl, hG, hwg, rfl⟩ := hrel
                have hsG : (⟨G.toArray⟩ : ByteArray).size = G.length := rfl
                by_cases hjn : j < 0
                · omega
                · have HB : Hid (∃ X : ByteArray, s.extract k (k + 1) = X ∧ (⟨G.toArray⟩ : ByteArray) ++ X = ⟨(G ++ [c0]).toArray⟩) := Lib.hid ⟨_, rfl, by
                    apply Rws.ba_eq
                    rw [Rws.cat_data, HEX.out]⟩
                  obtain ⟨X, hX, hGX⟩ := HB.out
                  have HX := Lib.hid hX
                  have HGX := Lib.hid hGX
                  have hz := HEXZ.out
                  have HWN : Wv (S.take (k + 1)) (G ++ [c0]) := by rw [HTK.out]; exact hwg.snoc HNE.out.1 HNE.out.2
                  have HGL : Hid ((G ++ [c0]).length ≤ 61 * (k + 1)) := Lib.hid (by rw [List.length_append]; simp; omega)
                  clear HB hX hGX
                  go_wp2
                  go_roundw
                  case rel => exact ⟨k + 1, G ++ [c0], by omega, by go_num, by rw [HX.out, HGX.out], HGL.out, HWN, trivial⟩
                  case measure => simp [intOf]; omega
            · obtain rfl : k = s.size := by omega
              have hTK : S.take s.size = S := List.take_of_length_le (by rw [HL.out]; exact Nat.le_refl _)
              rw [hTK] at hwv
              have hz0 : 0 < s.size := hs
              obtain ⟨hS0, hx⟩ := at_list HS.out 0 hz0
              obtain ⟨c0, hc0⟩ : ∃ c0, s[0] = c0 := ⟨_, rfl⟩
              have cb := c0.toNat_lt
              have hsD : (⟨D.toArray⟩ : ByteArray).size = D.length := rfl
              have hcs : c0 = 32 ∨ c0 = 9 ∨ (((c0.toNat : Int) == 32) = false ∧ ((c0.toNat : Int) == 9) = false) := by
                by_cases a : c0 = 32
                · exact Or.inl a
                · by_cases b : c0 = 9
                  · exact Or.inr (Or.inl b)
                  · exact Or.inr (Or.inr ⟨Esc.u8_ne (n := 32) (by decide) a, Esc.u8_ne (n := 9) (by decide) b⟩)
              have HU := Lib.hid (hwv.ends (by rw [HL.out]; omega))
              clear hTK hx
              rcases hcs with rfl | rfl | ⟨n1, n2⟩
              · go_wp2_with fail
                refine (wakes16_any _).mono ?_
                rintro e w5 ⟨rfl, b5⟩
                go_wp2
                go_ret
                exact ⟨rfl, b5⟩
              · go_wp2_with fail
                refine (wakes16_any _).mono ?_
                rintro e w5 ⟨rfl, b5⟩
                go_wp2
                go_ret
                exact ⟨rfl, b5⟩
              · have C1 := Lib.hid (fun W => unfold_any (⟨D.toArray⟩ ++ ⟨#[13, 10]⟩) (D ++ [13, 10]) [S] 0 W (by rw [Lib.size_eq, Rws.cat_data, List.length_append]; simp; omega) (Lib.hid (by rw [Rws.cat_data])) (Lib.hid HU.out.1))
                have C2 := Lib.hid (fun W => unfold_any (⟨D.toArray⟩ ++ ⟨#[10]⟩) (D ++ [10]) [S] 0 W (by rw [Lib.size_eq, Rws.cat_data, List.length_append]; simp; omega) (Lib.hid (by rw [Rws.cat_data])) (Lib.hid HU.out.2))
                go_wp2_with fail
                first
                  | (with_reducible refine (C1.out _).mono ?_)
                  | (with_reducible refine (C2.out _).mono ?_)
                rintro e w1 ⟨v, rfl, t1, b1⟩
                have T1 := Lib.hid t1
                have hsb : Hid (s = ⟨S.toArray⟩) := Lib.hid (Rws.ba_eq HS.out)
                clear t1
                go_wp2_with fail
                refine (Opn.texts_any v _ [S] [S] _ (T1.out.below ((Below.refl _ _).alloc (Nat.le_refl _) _)) (txt_lit1 w1 s S hsb.out) (by simp) (by simp)).mono ?_
                rintro e w2 ⟨bb, rfl, hbb, m, rfl⟩
                obtain rfl : bb = true := by rw [hbb.out]; exact decide_eq_true rfl
                have b2 := below_drewN (b1.alloc b1.size (Obj.cells #[Value.string s] 9)) m
                clear hbb T1 b1
                go_wp2_with fail
                refine (wakes16_any _).mono ?_
                rintro e w3 ⟨rfl, b3⟩
                go_wp2
                go_ret
                exact ⟨rfl, b2.trans (b3.mono b2.size)⟩
set_option maxHeartbeats 25600000 in
set_option maxRecDepth 100000 in
theorem fany16_some (s : ByteArray) (bk off n c : Nat) (ls : Nat → Int) (tab alone : Bool) (w : World) (hs : 0 < s.size) (hs2 : s.size ≤ 300) (h20 : n ≤ 20) (hcell : ∀ j, j < n → w.cell? ⟨bk, off + j, none⟩ = some (.int .i64 (ls j)) ∧ -9223372036854775808 ≤ ls j ∧ ls j ≤ 9223372036854775807) :
    Calls Try.prog 6 #[.string s, (.slice (some ⟨bk, off, none⟩) n c), .bool tab, .bool alone] w fun e w' => e = .returned (.bool true) ∧ Below w.heap.size w w' := by
  obtain ⟨S, hS⟩ : ∃ x, s.data.toList = x := ⟨_, rfl⟩
  have HS := Lib.hid hS
  have hl : S.length = s.size := by rw [← hS]; simp
  have HL := Lib.hid hl
  clear hS hl
  have HC := Lib.hid hcell
  clear hcell
  have hz0 : ((s.size : Int) == 0) = false := beq_eq_false_iff_ne.2 (by omega)
  go_enter Try.func6, Try.ntmps6
  go_wp2
  go_loopw [9] (fun iv wr => ∃ k : Nat, k ≤ s.size ∧ iv = .int .i64 k ∧ Hid (hit (S.take k) = false) ∧ w = wr) (fun iv _ => s.size - (intOf iv).toNat)
  case atStart => exact ⟨0, Nat.zero_le _, rfl, Lib.hid rfl, rfl⟩
  case round =>
    obtain ⟨k, hk, rfl, hno, rfl⟩ := hrel
    by_cases hlt : k < s.size
    · obtain ⟨hkS, hx⟩ := at_list HS.out k hlt
      obtain ⟨c0, hc⟩ : ∃ c0, s[k] = c0 := ⟨_, rfl⟩
      rw [hc] at hx
      have cb := c0.toNat_lt
      rcases le_cases c0 with ⟨h1, h2⟩ | ⟨h1, h2⟩ | ⟨h1, h2, h3⟩
      · subst h1
        clear hx hno h2
        go_wp2
        go_ret
        exact ⟨rfl, Below.refl _ _⟩
      · subst h1
        clear hx hno h2
        go_wp2
        go_ret
        exact ⟨rfl, Below.refl _ _⟩
      · have HN : Hid (hit (S.take (k + 1)) = false) := Lib.hid (by rw [hit_snoc hkS, hno.out, ← hx, h3]; rfl)
        clear hx hno h3
        go_wp2
        go_roundw
        case rel => exact ⟨k + 1, by omega, by go_num, HN, trivial⟩
        case measure => simp [intOf]; omega
    · have HH : Hid (hit S = false) := Lib.hid (by have h1 := hno.out; rwa [List.take_of_length_le (by rw [HL.out]; omega)] at h1)
      clear hno
      cases alone
      all_goals
        cases tab
        all_goals
          go_wp2
          go_loopw [12, 13] (fun tv iv wr => ∃ (k : Nat) (D : List UInt8), k ≤ s.size ∧ iv = .int .i64 k ∧ tv = .string ⟨D.toArray⟩ ∧ D.length ≤ 61 * k ∧ Wv (S.take k) D ∧ w = wr) (fun _ iv _ => s.size - (intOf iv).toNat)
          case atStart => exact ⟨0, [], Nat.zero_le _, rfl, rfl, Nat.le_refl _, Wv.zero, rfl⟩
          case round =>
            obtain ⟨k, D, hk, rfl, rfl, hD, hwv, rfl⟩ := hrel
            by_cases hlt : k < s.size
            · obtain ⟨hkS, hx⟩ := at_list HS.out k hlt
              obtain ⟨c0, hc⟩ : ∃ c0, S[k] = c0 := ⟨_, rfl⟩
              have hne := hit_ne HH.out hkS
              rw [hc] at hne
              have HTK : Hid (S.take (k + 1) = S.take k ++ [c0]) := Lib.hid (by rw [List.take_succ_eq_append_getElem hkS, hc])
              have HEX : Hid ((s.extract k (k + 1)).data.toList = [c0]) := Lib.hid (by rw [Lib.extract_data, HS.out, show k + 1 - k = 1 from by omega, List.drop_eq_getElem_cons hkS, hc]; rfl)
              have hexz : (s.extract k (k + 1)).size = 1 := by rw [Lib.size_eq, HEX.out]; rfl
              have HEXZ := Lib.hid hexz
              have HNE := Lib.hid hne
              clear hx hc hkS hne hexz
              obtain ⟨wo, hwo⟩ : ∃ wo : World, wo = w := ⟨_, rfl⟩
              go_wp2
              go_loopw [12, 14] (fun tv jv wx => ∃ (j : Nat) (G : List UInt8), j ≤ n ∧ jv = .int .i64 j ∧ tv = .string ⟨G.toArray⟩ ∧ G.length ≤ 61 * k + 3 * j ∧ Wv (S.take k) G ∧ w = wx) (fun _ jv _ => n - (intOf jv).toNat)
              case atStart => exact ⟨0, D, Nat.zero_le _, rfl, rfl, by omega, hwv, rfl⟩
              case round =>
                obtain ⟨j, G, hj, rfl, rfl, hG, hwg, rfl⟩ := hrel
                have hsG : (⟨G.toArray⟩ : ByteArray).size = G.length := rfl
                by_cases hjn : j < n
                · obtain ⟨hc2, i1, i2⟩ := HC.out j hjn
                  have HB1 : Hid ((⟨G.toArray⟩ : ByteArray) ++ ⟨#[13, 10]⟩ ++ ⟨#[32]⟩ = ⟨(G ++ [13, 10, 32]).toArray⟩) := Lib.hid (by rw [Rws.ba_eq (s := ⟨G.toArray⟩ ++ ⟨#[13, 10]⟩ ++ ⟨#[32]⟩) (S := G ++ [13, 10, 32]) (by rw [Rws.cat_data, Rws.cat_data]; simp)])
                  have HB2 : Hid ((⟨G.toArray⟩ : ByteArray) ++ ⟨#[13, 10]⟩ ++ ⟨#[9]⟩ = ⟨(G ++ [13, 10, 9]).toArray⟩) := Lib.hid (by rw [Rws.ba_eq (s := ⟨G.toArray⟩ ++ ⟨#[13, 10]⟩ ++ ⟨#[9]⟩) (S := G ++ [13, 10, 9]) (by rw [Rws.cat_data, Rws.cat_data]; simp)])
                  have HB3 : Hid ((⟨G.toArray⟩ : ByteArray) ++ ⟨#[10]⟩ ++ ⟨#[32]⟩ = ⟨(G ++ [10, 32]).toArray⟩) := Lib.hid (by rw [Rws.ba_eq (s := ⟨G.toArray⟩ ++ ⟨#[10]⟩ ++ ⟨#[32]⟩) (S := G ++ [10, 32]) (by rw [Rws.cat_data, Rws.cat_data]; simp)])
                  have HB4 : Hid ((⟨G.toArray⟩ : ByteArray) ++ ⟨#[10]⟩ ++ ⟨#[9]⟩ = ⟨(G ++ [10, 9]).toArray⟩) := Lib.hid (by rw [Rws.ba_eq (s := ⟨G.toArray⟩ ++ ⟨#[10]⟩ ++ ⟨#[9]⟩) (S := G ++ [10, 9]) (by rw [Rws.cat_data, Rws.cat_data]; simp)])
                  have W1 := hwg.crlf (b := 32) (Or.inl rfl)
                  have W2 := hwg.crlf (b := 9) (Or.inr rfl)
                  have W3 := hwg.lf (b := 32) (Or.inl rfl)
                  have W4 := hwg.lf (b := 9) (Or.inr rfl)
                  have HL1 : ∀ X : List UInt8, X.length ≤ 3 → Hid ((G ++ X).length ≤ 61 * k + 3 * (j + 1)) := fun X hX => Lib.hid (by rw [List.length_append]; omega)
                  have HL2 := Lib.hid HL1
                  clear HL1
                  go_wp2
                  all_goals
                    go_roundw
                    case rel =>
                      first
                        | exact ⟨j + 1, G ++ [13, 10, 32], by omega, by go_num, by rw [HB1.out], (HL2.out _ (by simp)).out, W1, trivial⟩
                        | exact ⟨j + 1, G ++ [13, 10, 9], by omega, by go_num, by rw [HB2.out], (HL2.out _ (by simp)).out, W2, trivial⟩
                        | exact ⟨j + 1, G ++ [10, 32], by omega, by go_num, by rw [HB3.out], (HL2.out _ (by simp)).out, W3, trivial⟩
                        | exact ⟨j + 1, G ++ [10, 9], by omega, by go_num, by rw [HB4.out], (HL2.out _ (by simp)).out, W4, trivial⟩
                        | exact ⟨j + 1, G, by omega, by go_num, rfl, by omega, hwg, trivial⟩
                    case measure => simp [intOf]; omega
                · have HB : Hid (∃ X : ByteArray, s.extract k (k + 1) = X ∧ (⟨G.toArray⟩ : ByteArray) ++ X = ⟨(G ++ [c0]).toArray⟩) := Lib.hid ⟨_, rfl, by
                    apply Rws.ba_eq
                    rw [Rws.cat_data, HEX.out]⟩
                  obtain ⟨X, hX, hGX⟩ := HB.out
                  have HX := Lib.hid hX
                  have HGX := Lib.hid hGX
                  have hz := HEXZ.out
                  have HWN : Wv (S.take (k + 1)) (G ++ [c0]) := by rw [HTK.out]; exact hwg.snoc HNE.out.1 HNE.out.2
                  have HGL : Hid ((G ++ [c0]).length ≤ 61 * (k + 1)) := Lib.hid (by rw [List.length_append]; simp; omega)
                  clear HB hX hGX
                  go_wp2
                  go_roundw
                  case rel => exact ⟨k + 1, G ++ [c0], by omega, by go_num, by rw [HX.out, HGX.out], HGL.out, HWN, trivial⟩
                  case measure => simp [intOf]; omega
            · obtain rfl : k = s.size := by omega
              have hTK : S.take s.size = S := List.take_of_length_le (by rw [HL.out]; exact Nat.le_refl _)
              rw [hTK] at hwv
              have hz0 : 0 < s.size := hs
              obtain ⟨hS0, hx⟩ := at_list HS.out 0 hz0
              obtain ⟨c0, hc0⟩ : ∃ c0, s[0] = c0 := ⟨_, rfl⟩
              have cb := c0.toNat_lt
              have hsD : (⟨D.toArray⟩ : ByteArray).size = D.length := rfl
              have hcs : c0 = 32 ∨ c0 = 9 ∨ (((c0.toNat : Int) == 32) = false ∧ ((c0.toNat : Int) == 9) = false) := by
                by_cases a : c0 = 32
                · exact Or.inl a
                · by_cases b : c0 = 9
                  · exact Or.inr (Or.inl b)
                  · exact Or.inr (Or.inr ⟨Esc.u8_ne (n := 32) (by decide) a, Esc.u8_ne (n := 9) (by decide) b⟩)
              have HU := Lib.hid (hwv.ends (by rw [HL.out]; omega))
              clear hTK hx
              rcases hcs with rfl | rfl | ⟨n1, n2⟩
              · go_wp2_with fail
                refine (wakes16_any _).mono ?_
                rintro e w5 ⟨rfl, b5⟩
                go_wp2
                go_ret
                exact ⟨rfl, b5⟩
              · go_wp2_with fail
                refine (wakes16_any _).mono ?_
                rintro e w5 ⟨rfl, b5⟩
                go_wp2
                go_ret
                exact ⟨rfl, b5⟩
              · have C1 := Lib.hid (fun W => unfold_any (⟨D.toArray⟩ ++ ⟨#[13, 10]⟩) (D ++ [13, 10]) [S] 0 W (by rw [Lib.size_eq, Rws.cat_data, List.length_append]; simp; omega) (Lib.hid (by rw [Rws.cat_data])) (Lib.hid HU.out.1))
                have C2 := Lib.hid (fun W => unfold_any (⟨D.toArray⟩ ++ ⟨#[10]⟩) (D ++ [10]) [S] 0 W (by rw [Lib.size_eq, Rws.cat_data, List.length_append]; simp; omega) (Lib.hid (by rw [Rws.cat_data])) (Lib.hid HU.out.2))
                go_wp2_with fail
                first
                  | (with_reducible refine (C1.out _).mono ?_)
                  | (with_reducible refine (C2.out _).mono ?_)
                rintro e w1 ⟨v, rfl, t1, b1⟩
                have T1 := Lib.hid t1
                have hsb : Hid (s = ⟨S.toArray⟩) := Lib.hid (Rws.ba_eq HS.out)
                clear t1
                go_wp2_with fail
                refine (Opn.texts_any v _ [S] [S] _ (T1.out.below ((Below.refl _ _).alloc (Nat.le_refl _) _)) (txt_lit1 w1 s S hsb.out) (by simp) (by simp)).mono ?_
                rintro e w2 ⟨bb, rfl, hbb, m, rfl⟩
                obtain rfl : bb = true := by rw [hbb.out]; exact decide_eq_true rfl
                have b2 := below_drewN (b1.alloc b1.size (Obj.cells #[Value.string s] 9)) m
                clear hbb T1 b1
                go_wp2_with fail
                refine (wakes16_any _).mono ?_
                rintro e w3 ⟨rfl, b3⟩
                go_wp2
                go_ret
                exact ⟨rfl, b2.trans (b3.mono b2.size)⟩
set_option maxRecDepth 100000 in
theorem fany16_out (s : ByteArray) (A : Option Addr) (n c : Nat) (tab alone : Bool) (w : World) (hn : n ≤ maxLen) (h : 300 < s.size ∨ s.size = 0 ∨ 20 < n) (hz : s.size ≤ maxLen) :
    Calls Try.prog 6 #[.string s, .slice A n c, .bool tab, .bool alone] w fun e w' => e = .returned (.bool true) ∧ Below w.heap.size w w' := by
  unfold maxLen at hn hz
  by_cases h1 : 300 < s.size
  · go_enter Try.func6, Try.ntmps6
    go_wp2
    go_ret
    exact ⟨rfl, Below.refl _ _⟩
  have h1' : s.size ≤ 300 := by omega
  by_cases h2 : s.size = 0
  · clear h h1
    go_enter Try.func6, Try.ntmps6
    go_wp2
    go_ret
    exact ⟨rfl, Below.refl _ _⟩
  have h3 : 20 < n := by omega
  have hz0 : ((s.size : Int) == 0) = false := beq_eq_false_iff_ne.2 (by omega)
  clear h h1 h2
  go_enter Try.func6, Try.ntmps6
  go_wp2
  go_ret
  exact ⟨rfl, Below.refl _ _⟩
theorem fany16_any (s : ByteArray) (A : Option Addr) (n c : Nat) (ls : Nat → Int) (tab alone : Bool) (w : World) (hn : n ≤ maxLen) (hl : Ints A n ls w) (hz : s.size ≤ maxLen) :
    Calls Try.prog 6 #[.string s, .slice A n c, .bool tab, .bool alone] w fun e w' => e = .returned (.bool true) ∧ Below w.heap.size w w' := by
  by_cases h : 300 < s.size ∨ s.size = 0 ∨ 20 < n
  · exact fany16_out s A n c tab alone w hn h hz
  · by_cases h0 : n = 0
    · subst h0; exact fany16_nil s A c tab alone w (by omega) (by omega)
    · obtain ⟨bk, off, hA, _, _, _⟩ := hl 0 (by omega)
      subst hA
      refine fany16_some s bk off n c ls tab alone w (by omega) (by omega) (by omega) (fun j hj => ?_)
      obtain ⟨b', o', hA, _, h1, h2⟩ := hl j hj
      injection hA with hA
      injection hA with e1 e2
      subst e1 e2
      have h3 := bounds_i64 h2
      exact ⟨h1, h3.1, h3.2⟩
end Fld
end Go.Proofs.Ythnlphnhdhmcpaa
