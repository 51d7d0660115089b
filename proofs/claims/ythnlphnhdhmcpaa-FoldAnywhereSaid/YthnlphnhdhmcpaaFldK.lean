/-
  FoldBack: the walk.
-/
import Derived.Test.YthnlphnhdhmcpaaFldL
namespace Go.Proofs.Ythnlphnhdhmcpaa
open Go.RowKit
namespace Fld
open Opn (sv TxtV Strs lst)
theorem unf_plain : ∀ (A P R : List UInt8), hit A = false → unfG P (A ++ R) = unfG (P ++ A) R
  | [], P, R, _ => by simp
  | c :: A, P, R, h => by
    unfold hit at h
    rw [List.any_cons, Bool.or_eq_false_iff] at h
    have h13 : c ≠ 13 := fun e => by rw [e] at h; exact absurd h.1 (by decide)
    have h10 : c ≠ 10 := fun e => by rw [e] at h; exact absurd h.1 (by decide)
    rw [List.cons_append, unf_any _ _ h13 h10, unf_plain A (P ++ [c]) R h.2]
    simp
theorem ok_plain : ∀ (A R : List UInt8), hit A = false → okCR (A ++ R) = okCR R
  | [], R, _ => rfl
  | c :: A, R, h => by
    unfold hit at h
    rw [List.any_cons, Bool.or_eq_false_iff] at h
    have h13 : (c != 13) = true := by
      have : c ≠ 13 := fun e => by rw [e] at h; exact absurd h.1 (by decide)
      simpa [bne] using this
    rw [List.cons_append, ok_cons, h13, ok_plain A R h.2]
    rfl
theorem ok_crlf (R : List UInt8) : okCR (13 :: 10 :: R) = okCR R := rfl
theorem ok_sp (R : List UInt8) : okCR (32 :: R) = okCR R := rfl
theorem hit_take {S : List UInt8} (h : hit S = false) (n : Nat) : hit (S.take n) = false := by
  unfold hit at h ⊢
  rw [List.any_eq_false] at h ⊢
  exact fun x hx => h x (List.mem_of_mem_take hx)
theorem hit_drop {S : List UInt8} (h : hit S = false) (n : Nat) : hit (S.drop n) = false := by
  unfold hit at h ⊢
  rw [List.any_eq_false] at h ⊢
  exact fun x hx => h x (List.mem_of_mem_drop hx)
theorem unf_piece : ∀ (f : Nat) (S P R : List UInt8) (room : Nat), 4 ≤ room → S.length ≤ f → hit S = false → blank R.head? = false → unfG P (foldG f S room ++ R) = (P ++ S) :: unfG [] R ∧ okCR (foldG f S room ++ R) = okCR R
  | 0, S, P, R, room, _, hl, hh, hb => by
    have : S = [] := List.length_eq_zero_iff.1 (by omega)
    subst this
    rw [foldG]
    exact ⟨by show unfG P (13 :: 10 :: R) = _; rw [unf_cr, unf_lf _ _ hb, List.append_nil], rfl⟩
  | f + 1, S, P, R, room, hr, hl, hh, hb => by
    rw [foldG]
    by_cases h : S.length ≤ room
    · rw [if_pos h]
      constructor
      · rw [List.append_assoc, unf_plain _ _ _ hh]
        show unfG (P ++ S) (13 :: 10 :: R) = _
        rw [unf_cr, unf_lf _ _ hb]
      · rw [List.append_assoc, ok_plain _ _ hh]
        exact ok_crlf R
    · have hc := cutN_bd S room (by omega)
      rw [if_neg h]
      obtain ⟨h1, h2⟩ := unf_piece f (S.drop (cutN S room)) (P ++ S.take (cutN S room)) R 74 (by omega) (by rw [List.length_drop]; omega) (hit_drop hh _) hb
      constructor
      · rw [List.append_assoc, List.append_assoc, unf_plain _ _ _ (hit_take hh _)]
        show unfG _ (13 :: 10 :: 32 :: (foldG f (S.drop (cutN S room)) 74 ++ R)) = _
        rw [unf_cr, unf_fold _ _ (Or.inl rfl), h1, List.append_assoc, List.take_append_drop]
      · rw [List.append_assoc, List.append_assoc, ok_plain _ _ (hit_take hh _)]
        show okCR (13 :: 10 :: 32 :: (foldG f (S.drop (cutN S room)) 74 ++ R)) = _
        rw [ok_crlf, ok_sp, h2]
def cat (Ls : List (List UInt8)) : List UInt8 := Ls.flatMap foldL
theorem cat_snoc (Ls : List (List UInt8)) (S : List UInt8) : cat (Ls ++ [S]) = cat Ls ++ foldL S := by simp [cat]
theorem foldL_head {S : List UInt8} (h : 0 < S.length) : (foldL S).head? = S.head? := by
  rw [List.head?_eq_getElem?, List.head?_eq_getElem?]
  unfold foldL
  by_cases hl : S.length ≤ 75
  · rw [foldR_last hl, List.getElem?_append_left h]
  · have hc := cutN_bd S 75 (by omega)
    rw [foldR_more (by omega) (by omega), List.append_assoc, List.getElem?_append_left (by rw [List.length_take]; omega), List.getElem?_take_of_lt (by omega)]
theorem unf_cat : ∀ Ls : List (List UInt8), (∀ S ∈ Ls, hit S = false ∧ 0 < S.length ∧ blank S.head? = false) → unfS (cat Ls) = Ls ∧ okCR (cat Ls) = true
  | [], _ => ⟨rfl, rfl⟩
  | S :: Ls, h => by
    obtain ⟨h1, h2⟩ := unf_cat Ls (fun T hT => h T (List.mem_cons_of_mem _ hT))
    obtain ⟨a1, a2, a3⟩ := h S List.mem_cons_self
    have hb : blank (cat Ls).head? = false := by
      cases Ls with
      | nil => rfl
      | cons T Ls =>
        obtain ⟨b1, b2, b3⟩ := h T (by simp)
        have : (cat (T :: Ls)).head? = T.head? := by
          rw [← foldL_head b2]
          show (foldL T ++ _).head? = _
          cases hf : foldL T with
          | nil =>
            have := foldL_head b2
            rw [hf] at this
            cases T with
            | nil => simp at b2
            | cons c T => cases this
          | cons c R => rfl
        rw [this]; exact b3
    obtain ⟨c1, c2⟩ := unf_piece S.length S [] (cat Ls) 75 (by omega) (Nat.le_refl _) a1 hb
    refine ⟨?_, ?_⟩
    · show unfG [] (foldL S ++ cat Ls) = _
      unfold foldL foldR
      rw [c1]
      show S :: unfS (cat Ls) = _
      rw [h1]
    · show okCR (foldL S ++ cat Ls) = true
      unfold foldL foldR
      rw [c2, h2]
theorem foldL_len (S : List UInt8) : (foldL S).length ≤ 4 * S.length + 2 := by
  have key : ∀ (n : Nat) (S : List UInt8) (room : Nat), 74 ≤ room → S.length ≤ n → (foldG n S room).length ≤ 4 * S.length + 2 := by
    intro n
    induction n with
    | zero => intro S room _ h; rw [foldG, List.length_append]; simp; omega
    | succ n ih =>
      intro S room hr h
      rw [foldG]
      by_cases hl : S.length ≤ room
      · rw [if_pos hl, List.length_append]; simp; omega
      · have hc := cutN_bd S room (by omega)
        have := ih (S.drop (cutN S room)) 74 (by omega) (by rw [List.length_drop]; omega)
        rw [if_neg hl]
        simp only [List.length_append, List.length_take, List.length_drop, List.length_cons, List.length_nil] at this ⊢
        omega
  exact key S.length S 75 (by omega) (Nat.le_refl _)
/-- The first k lines: each may be folded. -/
def OkL (ls : Nat → ByteArray) (k : Nat) : Prop := ∀ j, j < k → hit (ls j).data.toList = false ∧ 0 < (ls j).size
/-- None of the first k begins with a blank. -/
def NoB (ls : Nat → ByteArray) (k : Nat) : Prop := ∀ j, j < k → blank (ls j).data.toList.head? = false
theorem lst_succ (ls : Nat → ByteArray) (k : Nat) : lst ls (k + 1) = lst ls k ++ [(ls k).data.toList] := by
  unfold Opn.lst
  rw [List.range_succ, List.map_append]; rfl
set_option maxRecDepth 100000 in
theorem fback16_big (A : Option Addr) (n c : Nat) (w : World) (hn : n ≤ maxLen) (h : 20 < n) :
    Calls Try.prog 4 #[.slice A n c] w fun e w' => e = .returned (.bool true) ∧ Below w.heap.size w w' := by
  unfold maxLen at hn
  go_enter Try.func4, Try.ntmps4
  go_wp2
  go_ret
  exact ⟨rfl, Below.refl _ _⟩
set_option maxHeartbeats 6400000 in
set_option maxRecDepth 100000 in
theorem fback16_nil (A : Option Addr) (c : Nat) (w : World) :
    Calls Try.prog 4 #[.slice A 0 c] w fun e w' => e = .returned (.bool true) ∧ Below w.heap.size w w' := by
  have HU : Hid (unfR [] = ([], 0)) := Lib.hid rfl
  go_enter Try.func4, Try.ntmps4
  go_wp2_with fail
  refine wp_loop_rounds 1 ?_
  rw [rounds_succ]
  go_wp2_with fail
  refine wp_loop_rounds 1 ?_
  rw [rounds_succ]
  go_wp2_with fail
  refine (unfold_any ⟨#[]⟩ [] [] 0 _ (by decide) (Lib.hid rfl) HU).mono ?_
  rintro e w1 ⟨v, rfl, t1, b1⟩
  go_wp2_with fail
  refine (Opn.texts_any v _ [] [] _ t1 ⟨_, _, _, rfl, rfl, fun j hj => by simp at hj⟩ (by decide) (by decide)).mono ?_
  rintro e w2 ⟨bb, rfl, hbb, m, rfl⟩
  obtain rfl : bb = true := by rw [hbb.out]; exact decide_eq_true rfl
  have b2 := below_drewN b1 m
  clear hbb t1
  go_wp2_with fail
  refine (wakes16_any _).mono ?_
  rintro e w3 ⟨rfl, b3⟩
  go_wp2
  go_ret
  exact ⟨rfl, b2.trans (b3.mono b2.size)⟩
set_option maxHeartbeats 12800000 in
set_option maxRecDepth 100000 in
theorem fback16_some (bk off n c : Nat) (ls : Nat → ByteArray) (w : World) (h0 : 0 < n) (h20 : n ≤ 20) (hbk : bk < w.heap.size) (hcell : ∀ j, j < n → w.cell? ⟨bk, off + j, none⟩ = some (.string (ls j)) ∧ (ls j).size ≤ maxLen) :
    Calls Try.prog 4 #[.slice (some ⟨bk, off, none⟩) n c] w fun e w' => e = .returned (.bool true) ∧ Below w.heap.size w w' := by
  have HC := Lib.hid hcell
  have hstr : Strs (some ⟨bk, off, none⟩) n ls w := fun j hj => ⟨bk, off, rfl, hbk, (hcell j hj).1, (hcell j hj).2⟩
  have HST := Lib.hid hstr
  clear hcell hstr
  go_enter Try.func4, Try.ntmps4
  go_wp2
  go_loopw [3, 4] (fun tv iv wr => ∃ (k : Nat) (D : List UInt8), k ≤ n ∧ iv = .int .i64 k ∧ tv = .string ⟨D.toArray⟩ ∧ D.length ≤ 2100 * k ∧ Hid (D = cat (lst ls k)) ∧ OkL ls k ∧ Below w.heap.size w wr) (fun _ iv _ => n - (intOf iv).toNat)
  case atStart => exact ⟨0, [], Nat.zero_le _, rfl, rfl, Nat.le_refl _, Lib.hid rfl, fun j hj => by omega, Below.refl _ _⟩
  case round =>
    obtain ⟨k, D, hk, rfl, rfl, hD, hcat, hok, hb⟩ := hrel
    by_cases hlt : k < n
    · obtain ⟨hc0, hz⟩ := HC.out k hlt
      have hc2 := (hb.cell (p := ⟨bk, off + k, none⟩) hbk).trans hc0
      unfold maxLen at hz
      clear hc0
      by_cases h5 : 500 < (ls k).size
      · go_wp2
        go_ret
        exact ⟨rfl, hb⟩
      have h5' : (ls k).size ≤ 500 := by omega
      clear h5
      by_cases hz0 : (ls k).size = 0
      · go_wp2
        go_ret
        exact ⟨rfl, hb⟩
      have hzz : (((ls k).size : Int) == 0) = false := beq_eq_false_iff_ne.2 (by omega)
      have hlen : (ls k).data.toList.length = (ls k).size := by simp
      cases hh : hit (ls k).data.toList with
      | true =>
        have HR : Hid (lineR (ls k).data.toList = ([], 18)) := Lib.hid (by rw [lineR, if_pos hh])
        clear hh hlen
        go_wp2_with fail
        refine (line_any (ls k) _ [] 18 _ (by omega) (Lib.hid rfl) HR).mono ?_
        rintro e w1 ⟨rfl, b1⟩
        have hb1 := hb.trans (b1.mono hb.size)
        clear b1 hc2
        go_wp2_with fail
        refine (wakes16_any _).mono ?_
        rintro e w5 ⟨rfl, b5⟩
        go_wp2
        go_ret
        exact ⟨rfl, hb1.trans (b5.mono hb1.size)⟩
      | false =>
        have hfl := foldL_len (ls k).data.toList
        have HR : Hid (lineR (ls k).data.toList = (foldL (ls k).data.toList, 0)) := Lib.hid (by rw [lineR, if_neg (by rw [hh]; decide)])
        have HCT : Hid (D ++ foldL (ls k).data.toList = cat (lst ls (k + 1))) := Lib.hid (by rw [lst_succ, cat_snoc, hcat.out])
        have HOK : OkL ls (k + 1) := fun j hj => by
          by_cases e : j = k
          · subst e; exact ⟨hh, by omega⟩
          · exact hok j (by omega)
        rw [hlen] at hfl
        obtain ⟨F, hF⟩ : ∃ F, foldL (ls k).data.toList = F := ⟨_, rfl⟩
        rw [hF] at hfl HR HCT
        have HB : Hid ((⟨D.toArray⟩ : ByteArray) ++ ⟨F.toArray⟩ = ⟨(D ++ F).toArray⟩) := Lib.hid (Rws.bapp D F)
        have HDF : Hid ((D ++ F).length ≤ 2100 * (k + 1)) := Lib.hid (by rw [List.length_append]; omega)
        have hsD : (⟨D.toArray⟩ : ByteArray).size = D.length := rfl
        have hsF : (⟨F.toArray⟩ : ByteArray).size = F.length := rfl
        clear hh hlen hF hcat hok
        go_wp2_with fail
        refine (line_any (ls k) _ F 0 _ (by omega) (Lib.hid rfl) HR).mono ?_
        rintro e w1 ⟨rfl, b1⟩
        have hb1 := hb.trans (b1.mono hb.size)
        clear b1 hb
        have hc3 := (hb1.cell (p := ⟨bk, off + k, none⟩) hbk).trans (HC.out k hlt).1
        clear hc2
        go_wp2
        go_roundw
        case rel => exact ⟨k + 1, D ++ F, by omega, by go_num, by rw [HB.out], HDF.out, HCT, HOK, hb1⟩
        case measure => simp [intOf]; omega
    · obtain rfl : k = n := by omega
      have HOK := Lib.hid hok
      obtain ⟨wo, hwo⟩ : ∃ wo : World, wo = wr := ⟨_, rfl⟩
      rw [← hwo] at hb ⊢
      clear hwo hok
      go_wp2
      go_loopw [7] (fun iv wx => ∃ j : Nat, j ≤ k ∧ iv = .int .i64 j ∧ NoB ls j ∧ Below w.heap.size w wx) (fun iv _ => k - (intOf iv).toNat)
      case atStart => exact ⟨0, Nat.zero_le _, rfl, fun j hj => by omega, hb⟩
      case round =>
        obtain ⟨j, hj, rfl, hno, hbx⟩ := hrel
        by_cases hjn : j < k
        · have hc2 := (hbx.cell (p := ⟨bk, off + j, none⟩) hbk).trans (HC.out j hjn).1
          have hz0 : 0 < (ls j).size := (HOK.out j hjn).2
          obtain ⟨hS0, hx⟩ := at_list (S := (ls j).data.toList) rfl 0 hz0
          obtain ⟨c0, hc0⟩ : ∃ c0, (ls j)[0] = c0 := ⟨_, rfl⟩
          rw [hc0] at hx
          have hhd : (ls j).data.toList.head? = some c0 := by rw [List.head?_eq_getElem?, List.getElem?_eq_getElem hS0, hx]
          have cb := c0.toNat_lt
          have hcs : c0 = 32 ∨ c0 = 9 ∨ (((c0.toNat : Int) == 32) = false ∧ ((c0.toNat : Int) == 9) = false ∧ blank (some c0) = false) := by
            by_cases a : c0 = 32
            · exact Or.inl a
            · by_cases b : c0 = 9
              · exact Or.inr (Or.inl b)
              · refine Or.inr (Or.inr ⟨Esc.u8_ne (n := 32) (by decide) a, Esc.u8_ne (n := 9) (by decide) b, ?_⟩)
                unfold blank
                have e1 : (some c0 == some (32 : UInt8)) = false := by simpa using a
                have e2 : (some c0 == some (9 : UInt8)) = false := by simpa using b
                rw [e1, e2]; rfl
          rcases hcs with rfl | rfl | ⟨n1, n2, n3⟩
          · clear hx hhd
            go_wp2_with fail
            refine (wakes16_any _).mono ?_
            rintro e w5 ⟨rfl, b5⟩
            go_wp2
            go_ret
            exact ⟨rfl, hbx.trans (b5.mono hbx.size)⟩
          · clear hx hhd
            go_wp2_with fail
            refine (wakes16_any _).mono ?_
            rintro e w5 ⟨rfl, b5⟩
            go_wp2
            go_ret
            exact ⟨rfl, hbx.trans (b5.mono hbx.size)⟩
          · have HN : NoB ls (j + 1) := fun i hi => by
              by_cases e : i = j
              · subst e; rw [hhd]; exact n3
              · exact hno i (by omega)
            clear hx hhd n3 hno
            go_wp2
            go_roundw
            case rel => exact ⟨j + 1, by omega, by go_num, HN, hbx⟩
            case measure => simp [intOf]; omega
        · obtain rfl : j = k := by omega
          have hres := unf_cat (lst ls j) (fun S hS => by
            obtain ⟨i, hi, rfl⟩ := List.mem_map.1 hS
            have hi2 := List.mem_range.1 hi
            have h1 := HOK.out i hi2
            exact ⟨h1.1, by have : (ls i).data.toList.length = (ls i).size := by simp
                            omega, hno i hi2⟩)
          have HU : Hid (unfR D = (lst ls j, 0)) := Lib.hid (by rw [unfR, hcat.out, if_pos hres.2, hres.1])
          have HL2 : Hid ((lst ls j).length ≤ 1000000) := Lib.hid (by rw [Opn.lst_len]; omega)
          have hsD : (⟨D.toArray⟩ : ByteArray).size = D.length := rfl
          have LA := Lib.hid (HST.out.below hbx)
          clear hres hcat hno
          go_wp2_with fail
          refine (unfold_any ⟨D.toArray⟩ D _ 0 _ (by omega) (Lib.hid rfl) HU).mono ?_
          rintro e w1 ⟨v, rfl, t1, b1⟩
          have hb1 := hbx.trans (b1.mono hbx.size)
          have L1 := Lib.hid (LA.out.below b1)
          have T1 := Lib.hid t1
          clear b1 t1 LA
          go_wp2_with fail
          refine (Opn.texts_any v _ (lst ls j) (lst ls j) _ T1.out (TxtV.of_strs L1.out) HL2.out HL2.out).mono ?_
          rintro e w2 ⟨bb, rfl, hbb, m, rfl⟩
          obtain rfl : bb = true := by rw [hbb.out]; exact decide_eq_true rfl
          have b2 := below_drewN hb1 m
          clear hbb T1 L1
          go_wp2_with fail
          refine (wakes16_any _).mono ?_
          rintro e w3 ⟨rfl, b3⟩
          go_wp2
          go_ret
          exact ⟨rfl, b2.trans (b3.mono b2.size)⟩
theorem fback16_any (A : Option Addr) (n c : Nat) (ls : Nat → ByteArray) (w : World) (hn : n ≤ maxLen) (hl : Strs A n ls w) :
    Calls Try.prog 4 #[.slice A n c] w fun e w' => e = .returned (.bool true) ∧ Below w.heap.size w w' := by
  by_cases h20 : 20 < n
  · exact fback16_big A n c w hn h20
  by_cases h0 : n = 0
  · subst h0; exact fback16_nil A c w
  · obtain ⟨bk, off, rfl, hbk, hcell⟩ := hl.form (by omega)
    exact fback16_some bk off n c ls w (by omega) (by omega) hbk hcell
end Fld
end Go.Proofs.Ythnlphnhdhmcpaa
