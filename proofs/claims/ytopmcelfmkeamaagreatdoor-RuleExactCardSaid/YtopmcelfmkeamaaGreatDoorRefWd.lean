/-
  Contracts of the reference's calls on words: small, Begins, Words, Word; and that they say what package words says.
-/
import Derived.Test.YtopmcelfmkeamaaGreatDoorBdC
import Derived.Deep.DeepCutAuto
namespace Go.Proofs.YtopmcelfmkeamaaGreatDoor
open Go.RowKit
namespace Wrd
theorem quietL {P : Program} {f : FuncId} {args : Array Value} {w : World} {n : Nat} {v : Value}
    (h : Calls P f args (w.drewN n) fun e w' => e = .returned v ∧ w.drewN n = w') : Calls P f args (w.drewN n) fun e w'' => e = .returned v ∧ ∃ m, w'' = w.drewN m :=
  h.mono fun _ _ ⟨he, hm⟩ => ⟨he, n, hm.symm⟩
theorem ret_u8 {a b : Int} (h : a = b) : Ending.returned (.int .u8 a) = .returned (.int .u8 b) := by rw [h]
theorem small_to (c : UInt8) (w : World) :
    Calls Tryz.prog 89 #[.int .u8 (c.toNat : Int)] w fun e w' => e = .returned (.int .u8 ((smB c).toNat : Int)) ∧ w = w' := by
  have c0 : (0 : Int) ≤ (c.toNat : Int) := by omega
  have c1 : (c.toNat : Int) ≤ 255 := by have := c.toNat_lt; omega
  have HLo := Lib.hid (fun h => smB_lo (c := c) h)
  have HHi := Lib.hid (fun h => smB_hi (c := c) h)
  have HIn := Lib.hid (fun h h2 => smB_in (c := c) h h2)
  obtain ⟨y, hy⟩ : ∃ y, smB c = y := ⟨_, rfl⟩
  rw [hy] at HLo HHi HIn ⊢
  have HC : Hid (c = y → (c.toNat : Int) = (y.toNat : Int)) := Lib.hid (fun h => by rw [h])
  obtain ⟨x, hx⟩ : ∃ x : Int, (c.toNat : Int) = x := ⟨_, rfl⟩
  rw [hx] at c0 c1 HLo HHi HIn HC ⊢
  clear hx hy
  by_cases h65 : ¬ 65 ≤ x
  · have HE := Lib.hid (HC.out (HLo.out (by omega)).symm)
    go_enter Tryz.func89, Tryz.ntmps89
    go_wp2
    go_ret
    exact ⟨ret_u8 HE.out, rfl⟩
  · have h65' : 65 ≤ x := by omega
    clear h65
    by_cases h90 : x ≤ 90
    · have HE := Lib.hid (show x + 32 = (y.toNat : Int) by have := HIn.out h65' h90; omega)
      go_enter Tryz.func89, Tryz.ntmps89
      go_wp2
      go_ret
      exact ⟨ret_u8 HE.out, rfl⟩
    · have HE := Lib.hid (HC.out (HHi.out (by omega)).symm)
      have h90' : 90 < x := by omega
      clear h90
      go_enter Tryz.func89, Tryz.ntmps89
      go_wp2
      go_ret
      exact ⟨ret_u8 HE.out, rfl⟩
/-! Whether a text begins another, large or small. -/
def bgB (S W : List UInt8) : Bool := (smL S).isPrefixOf (smL W)
theorem bg_len {S W : List UInt8} (h : W.length < S.length) : bgB S W = false := by
  cases hb : bgB S W with
  | false => rfl
  | true =>
    have := (List.isPrefixOf_iff_prefix.1 hb).length_le
    simp [smL] at this
    omega
theorem bg_no {S W : List UInt8} {k : Nat} (h1 : k < S.length) (h2 : k < W.length) (h : smB S[k] ≠ smB W[k]) : bgB S W = false := by
  cases hb : bgB S W with
  | false => rfl
  | true =>
    obtain ⟨t, ht⟩ := List.isPrefixOf_iff_prefix.1 hb
    exfalso; apply h
    have e : (smL S ++ t)[k]? = (smL W)[k]? := by rw [ht]
    rw [List.getElem?_append_left (by simp [smL]; omega)] at e
    simpa [smL, h1, h2] using e
theorem bg_yes {S W : List UInt8} (h : S.length ≤ W.length) (he : ∀ j, (h1 : j < S.length) → (h2 : j < W.length) → smB S[j] = smB W[j]) : bgB S W = true := by
  refine List.isPrefixOf_iff_prefix.2 (List.prefix_iff_eq_take.2 ?_)
  apply List.ext_getElem?
  intro j
  by_cases hj : j < S.length
  · rw [List.getElem?_take_of_lt (by simp [smL]; omega)]
    simp [smL, hj, show j < W.length by omega, he j hj (by omega)]
  · rw [List.getElem?_eq_none (by simp [smL]; omega), List.getElem?_eq_none (by simp [smL]; omega)]
set_option maxHeartbeats 1600000 in
theorem begins_to (s t : ByteArray) (S W : List UInt8) (b : Bool) (w : World) (ht : t.size ≤ 1000000) (hS : Hid (s.data.toList = S)) (hW : Hid (t.data.toList = W)) (h : Hid (bgB S W = b)) :
    Calls Tryz.prog 88 #[.string s, .string t] w fun e w' => e = .returned (.bool b) ∧ ∃ n, w' = w.drewN n := by
  have hsl : s.size = S.length := by rw [← hS.out]; simp
  have htl : t.size = W.length := by rw [← hW.out]; simp
  by_cases hl : t.size < s.size
  · have E : b = false := by rw [← h.out]; exact bg_len (by omega)
    subst E
    clear h hsl htl
    go_enter Tryz.func88, Tryz.ntmps88
    go_wp2
    go_ret
    exact ⟨rfl, 0, rfl⟩
  · have hl' : s.size ≤ t.size := by omega
    have HSL := Lib.hid hsl
    have HTL := Lib.hid htl
    clear hl hsl htl
    go_enter Tryz.func88, Tryz.ntmps88
    go_wp2
    go_loopw [5] (fun i wr => ∃ (k q : Nat), k ≤ s.size ∧ i = .int .i64 k ∧ Hid (wr = w.drewN q) ∧ Hid (∀ j, j < k → (h1 : j < S.length) → (h2 : j < W.length) → smB S[j] = smB W[j])) (fun i _ => s.size - (intOf i).toNat)
    case atStart => exact ⟨0, 0, Nat.zero_le _, rfl, Lib.hid rfl, Lib.hid (fun j hj => by omega)⟩
    case round =>
      obtain ⟨k, q, hk, rfl, HQ, HR⟩ := hrel
      by_cases hlt : k < s.size
      · have hk1 : k < S.length := by rw [← HSL.out]; exact hlt
        have hk2 : k < W.length := by rw [← HTL.out]; omega
        have hkt : k < t.size := by omega
        obtain ⟨a, ha⟩ : ∃ x, s[k] = x := ⟨_, rfl⟩
        obtain ⟨c, hc⟩ : ∃ x, t[k] = x := ⟨_, rfl⟩
        have HA : Hid (S[k] = a) := Lib.hid (by
          have e : S[k]? = some a := by rw [← hS.out, ← ha]; simp [hlt]; rfl
          rw [List.getElem?_eq_getElem hk1] at e; injection e)
        have HCc : Hid (W[k] = c) := Lib.hid (by
          have e : W[k]? = some c := by rw [← hW.out, ← hc]; simp [hkt]; rfl
          rw [List.getElem?_eq_getElem hk2] at e; injection e)
        have i0 : (0 : Int) ≤ (k : Int) := by omega
        have i1 : (k : Int) < (s.size : Int) := by omega
        have i2 : (k : Int) < (t.size : Int) := by omega
        by_cases hac : smB a = smB c
        · have HN : Hid (∀ j, j < k + 1 → (h1 : j < S.length) → (h2 : j < W.length) → smB S[j] = smB W[j]) := Lib.hid (fun j hj h1 h2 => by
            by_cases hjk : j < k
            · exact HR.out j hjk h1 h2
            · obtain rfl : j = k := by omega
              rw [HA.out, HCc.out, hac])
          go_wp2_with fail
          go_quiet ((go_at_call 89; exact quietL (small_to _ _)))
          go_wp2
          go_roundw
          case rel => exact ⟨k + 1, _, by omega, by go_num, Lib.hid (by rw [HQ.out, World.drewN_drewN]), HN⟩
          case measure => simp [intOf]; omega
        · have E : b = false := by rw [← h.out]; exact bg_no hk1 hk2 (by rw [HA.out, HCc.out]; exact hac)
          subst E
          have hne : (((smB a).toNat : Int) == ((smB c).toNat : Int)) = false := beq_eq_false_iff_ne.2 (fun e => hac (UInt8.toNat_inj.1 (by omega)))
          clear hac
          go_wp2_with fail
          go_quiet ((go_at_call 89; exact quietL (small_to _ _)))
          go_wp2
          go_ret
          exact ⟨rfl, _, by rw [HQ.out, World.drewN_drewN]⟩
      · obtain rfl : k = s.size := by omega
        have E : b = true := by rw [← h.out]; exact bg_yes (by rw [← HSL.out, ← HTL.out]; exact hl') (fun j h1 h2 => HR.out j (by rw [HSL.out]; exact h1) h1 h2)
        subst E
        go_wp2
        go_ret
        exact ⟨rfl, q, HQ.out⟩
set_option maxHeartbeats 800000 in
theorem rwords_to (k : Int) (n : Nat) (L : List (List UInt8)) (w : World) (h : Hid (WK k n L)) :
    Calls Tryz.prog 61 #[.int .i64 k] w (WofQ n L w) := by
  rcases h.out with ⟨rfl, rfl, rfl⟩ | ⟨rfl, rfl, rfl⟩ | ⟨rfl, rfl, rfl⟩ | ⟨rfl, rfl, rfl⟩ | ⟨k1, k2, k3, k4, rfl, rfl⟩
  · have H : Hid (RowA w.heap.size (some ⟨w.heap.size, 0, none⟩) wds1 (w.alloc (Obj.cells (rowV wds1) 9))) := Lib.hid (rowA_new _ _ _)
    clear h
    go_enter Tryz.func61, Tryz.ntmps61
    go_wp2
    go_ret
    exact ⟨_, rfl, (Below.refl _ _).alloc (Nat.le_refl _) _, H⟩
  · have H : Hid (RowA w.heap.size (some ⟨w.heap.size, 0, none⟩) wds2 (w.alloc (Obj.cells (rowV wds2) 9))) := Lib.hid (rowA_new _ _ _)
    clear h
    go_enter Tryz.func61, Tryz.ntmps61
    go_wp2
    go_ret
    exact ⟨_, rfl, (Below.refl _ _).alloc (Nat.le_refl _) _, H⟩
  · have H : Hid (RowA w.heap.size (some ⟨w.heap.size, 0, none⟩) wds3 (w.alloc (Obj.cells (rowV wds3) 9))) := Lib.hid (rowA_new _ _ _)
    clear h
    go_enter Tryz.func61, Tryz.ntmps61
    go_wp2
    go_ret
    exact ⟨_, rfl, (Below.refl _ _).alloc (Nat.le_refl _) _, H⟩
  · have H : Hid (RowA w.heap.size (some ⟨w.heap.size, 0, none⟩) wds4 (w.alloc (Obj.cells (rowV wds4) 9))) := Lib.hid (rowA_new _ _ _)
    clear h
    go_enter Tryz.func61, Tryz.ntmps61
    go_wp2
    go_ret
    exact ⟨_, rfl, (Below.refl _ _).alloc (Nat.le_refl _) _, H⟩
  · clear h
    go_enter Tryz.func61, Tryz.ntmps61
    go_wp2
    go_ret
    exact ⟨none, rfl, Below.refl _ _, Lib.hid (fun j hj => by simp at hj)⟩
/-- A row that has words: its place. -/
def WofG (n : Nat) (L : List (List UInt8)) (w : World) (e : Ending) (w' : World) : Prop := ∃ g, e = .returned (.slice (some ⟨g, 0, none⟩) n n) ∧ Below w.heap.size w w' ∧ w.heap.size ≤ g ∧ g < w'.heap.size ∧ Hid (∀ j (h : j < L.length), w'.cell? ⟨g, j, none⟩ = some (.string ⟨L[j].toArray⟩))
theorem rwordsg_to (k : Int) (n : Nat) (L : List (List UInt8)) (w : World) (h : Hid (WK k n L)) (hn : 0 < n) :
    Calls Tryz.prog 61 #[.int .i64 k] w (WofG n L w) :=
  (rwords_to k n L w h).mono fun _ _ ⟨A, he, hb, hr⟩ => by
    obtain ⟨g, hA, hg, hg2, _⟩ := hr.out 0 (by rw [h.out.len]; exact hn)
    subst hA
    refine ⟨g, he, hb, hg, hg2, Lib.hid (fun j hj => ?_)⟩
    obtain ⟨g', e1, _, _, e2⟩ := hr.out j hj
    injection e1 with e1
    injection e1 with e1
    subst e1
    exact e2
/-! Which word a text is, as the reference goes. -/
def rgo (m : Int) (S : List UInt8) : List (List UInt8) → Int → Int → Int
  | [], _, wh => if (S.length : Int) < m then -1 else wh
  | x :: xs, i, wh => if bgB S x = true then (if S.length = x.length then i else if 0 ≤ wh ∨ (S.length : Int) < m then -1 else rgo m S xs (i + 1) i) else rgo m S xs (i + 1) wh
theorem rgo_nil {m : Int} {S : List UInt8} {i wh v : Int} (h : rgo m S [] i wh = v) : v = if (S.length : Int) < m then -1 else wh := h.symm
theorem rgo_no {m : Int} {S x : List UInt8} {xs : List (List UInt8)} {i wh v : Int} (h : rgo m S (x :: xs) i wh = v) (b : bgB S x = false) : rgo m S xs (i + 1) wh = v := by
  rw [← h, rgo, b]; rfl
theorem rgo_eq {m : Int} {S x : List UInt8} {xs : List (List UInt8)} {i wh v : Int} (h : rgo m S (x :: xs) i wh = v) (b : bgB S x = true) (l : S.length = x.length) : v = i := by
  rw [← h, rgo, if_pos b, if_pos l]
theorem rgo_bad {m : Int} {S x : List UInt8} {xs : List (List UInt8)} {i wh v : Int} (h : rgo m S (x :: xs) i wh = v) (b : bgB S x = true) (l : ¬ S.length = x.length) (c : 0 ≤ wh ∨ (S.length : Int) < m) : v = -1 := by
  rw [← h, rgo, if_pos b, if_neg l, if_pos c]
theorem rgo_go {m : Int} {S x : List UInt8} {xs : List (List UInt8)} {i wh v : Int} (h : rgo m S (x :: xs) i wh = v) (b : bgB S x = true) (l : ¬ S.length = x.length) (c : ¬ (0 ≤ wh ∨ (S.length : Int) < m)) : rgo m S xs (i + 1) i = v := by
  rw [← h, rgo, if_pos b, if_neg l, if_neg c]
def rwP (k : Int) (S : List UInt8) : Int := rgo (lstV k) S (wds k) 0 (-1)
set_option maxHeartbeats 3200000 in
set_option maxRecDepth 100000 in
theorem rword_to (k : Int) (s : ByteArray) (S : List UInt8) (v : Int) (w : World) (hk : 1 ≤ k ∧ k ≤ 4) (hs : s.size ≤ 1000) (hS : Hid (s.data.toList = S)) (h : Hid (rwP k S = v)) :
    Calls Tryz.prog 40 #[.int .i64 k, .string s] w fun e w' => e = .returned (.int .i64 v) ∧ Below w.heap.size w w' := by
  have HW := Lib.hid (WK_of hk)
  obtain ⟨L, hL⟩ : ∃ L, wds k = L := ⟨_, rfl⟩
  have HR0 : Hid (rgo (lstV k) S L 0 (-1) = v) := Lib.hid (by rw [← hL]; exact h.out)
  rw [hL] at HW
  obtain ⟨n, hn⟩ : ∃ n, L.length = n := ⟨_, rfl⟩
  rw [hn] at HW
  have HWK := Lib.hid HW.out.1
  have hn0 : 0 < n := HW.out.2
  have hn12 := HWK.out.short.1
  have HL9 := Lib.hid HWK.out.short.2
  have HLn := Lib.hid hn
  have hsl : s.size = S.length := by rw [← hS.out]; simp
  have HSL := Lib.hid hsl
  have hc : (k = 1 ∧ lstV k = 1) ∨ (k = 2 ∧ lstV k = 3) ∨ (k = 3 ∧ lstV k = 3) ∨ (k = 4 ∧ lstV k = 1) := by
    have h4 : k = 1 ∨ k = 2 ∨ k = 3 ∨ k = 4 := by omega
    rcases h4 with rfl | rfl | rfl | rfl <;> decide
  clear h HW hn hsl hL
  obtain ⟨m, hm⟩ : ∃ m, lstV k = m := ⟨_, rfl⟩
  rw [hm] at HR0 hc
  clear hm
  rcases hc with ⟨rfl, rfl⟩ | ⟨rfl, rfl⟩ | ⟨rfl, rfl⟩ | ⟨rfl, rfl⟩
  · go_enter Tryz.func40, Tryz.ntmps40
    go_wp2_with fail
    refine (rwordsg_to _ n L w HWK hn0).mono ?_
    rintro e w1 ⟨g, rfl, hb1, hg1, hg2, hcell⟩
    go_wp2_with fail
    go_loopw [7, 8] (fun wh i wr => ∃ (j q : Nat) (wv : Int), j ≤ n ∧ i = .int .i64 j ∧ wh = .int .i64 wv ∧ -1 ≤ wv ∧ wv ≤ 12 ∧ Hid (wr = w1.drewN q) ∧ Hid (rgo _ S (L.drop j) j wv = v)) (fun _ i _ => n - (intOf i).toNat)
    case atStart => exact ⟨0, 0, -1, Nat.zero_le _, rfl, rfl, by omega, by omega, Lib.hid rfl, HR0⟩
    case round =>
      obtain ⟨j, q, wv, hj, rfl, rfl, hw1, hw2, HQ, HR⟩ := hrel
      have HB : Hid (Below w.heap.size w wr) := Lib.hid (by rw [HQ.out]; exact below_drewN hb1 q)
      by_cases hlt : j < n
      · have hjl : j < L.length := by rw [HLn.out]; exact hlt
        obtain ⟨X, hX⟩ : ∃ X, L[j] = X := ⟨_, rfl⟩
        have hX9 : X.length ≤ 9 := HL9.out X (by rw [← hX]; exact List.getElem_mem _)
        have HD : Hid (rgo _ S (X :: L.drop (j + 1)) j wv = v) := Lib.hid (by rw [← hX, ← List.drop_eq_getElem_cons hjl]; exact HR.out)
        have cw : wr.cell? ⟨g, j, none⟩ = some (.string ⟨X.toArray⟩) := by
          rw [HQ.out, ← hX]
          exact hcell.out j hjl
        have hxs : (⟨X.toArray⟩ : ByteArray).size = X.length := rfl
        have hx1 : (⟨X.toArray⟩ : ByteArray).size ≤ 1000000 := by rw [hxs]; omega
        have HX1 := Lib.hid hx1
        clear HR hX hx1
        have HXS := Lib.hid hxs
        clear hxs
        cases hb : bgB S X with
        | false =>
          have HBB := Lib.hid hb
          have HN := Lib.hid (rgo_no HD.out hb)
          clear hb
          go_wp2_with fail
          refine (begins_to s _ S X false wr HX1.out hS (Lib.hid rfl) HBB).mono ?_
          rintro e w3 ⟨rfl, q3, rfl⟩
          go_wp2
          go_roundw
          case rel => exact ⟨j + 1, q + q3, wv, by omega, by go_num, rfl, hw1, hw2, Lib.hid (by rw [HQ.out, World.drewN_drewN]), HN⟩
          case measure => simp [intOf]; omega
        | true =>
          have HBB := Lib.hid hb
          by_cases hl : s.size = X.length
          · have E : v = j := rgo_eq HD.out hb (by rw [← HSL.out, hl])
            have HE := Lib.hid E
            clear hb E
            go_wp2_with fail
            refine (begins_to s _ S X true wr HX1.out hS (Lib.hid rfl) HBB).mono ?_
            rintro e w3 ⟨rfl, q3, rfl⟩
            go_wp2
            go_ret
            exact ⟨ret_i HE.out.symm, below_drewN HB.out q3⟩
          · have hl1 : (s.size == X.length) = false := by simpa using hl
            have hl' : ((s.size : Int) == (X.length : Int)) = false := beq_eq_false_iff_ne.2 (by omega)
            have hl2 : ¬ S.length = X.length := by rw [← HSL.out]; exact hl
            by_cases hw : 0 ≤ wv
            · have E : v = -1 := rgo_bad HD.out hb hl2 (Or.inl hw)
              have HE := Lib.hid E
              clear hb hl E hl2
              go_wp2_with fail
              refine (begins_to s _ S X true wr HX1.out hS (Lib.hid rfl) HBB).mono ?_
              rintro e w3 ⟨rfl, q3, rfl⟩
              go_wp2
              go_ret
              exact ⟨ret_i HE.out.symm, below_drewN HB.out q3⟩
            · have hw' : wv < 0 := by omega
              by_cases hm : (s.size : Int) < 1
              · have E : v = -1 := rgo_bad HD.out hb hl2 (Or.inr (by rw [← HSL.out]; exact hm))
                have HE := Lib.hid E
                clear hb hl E hl2 hw
                go_wp2_with fail
                refine (begins_to s _ S X true wr HX1.out hS (Lib.hid rfl) HBB).mono ?_
                rintro e w3 ⟨rfl, q3, rfl⟩
                go_wp2
                go_ret
                exact ⟨ret_i HE.out.symm, below_drewN HB.out q3⟩
              · have HN := Lib.hid (rgo_go HD.out hb hl2 (by rw [← HSL.out]; omega))
                have hm' : 1 ≤ (s.size : Int) := by omega
                clear hb hl hl2 hw hm
                go_wp2_with fail
                refine (begins_to s _ S X true wr HX1.out hS (Lib.hid rfl) HBB).mono ?_
                rintro e w3 ⟨rfl, q3, rfl⟩
                go_wp2
                go_roundw
                case rel => exact ⟨j + 1, q + q3, j, by omega, by go_num, rfl, by omega, by omega, Lib.hid (by rw [HQ.out, World.drewN_drewN]), HN⟩
                case measure => simp [intOf]; omega
      · obtain rfl : j = n := by omega
        have hr0 : rgo 1 S [] (j : Int) wv = v := by have := HR.out; rwa [List.drop_of_length_le (Nat.le_of_eq HLn.out)] at this
        have HE := Lib.hid (rgo_nil hr0)
        clear hr0 HR
        by_cases hm : (s.size : Int) < 1
        · have E := Lib.hid (HE.out.trans (if_pos (by rw [← HSL.out]; exact hm)))
          go_wp2
          go_ret
          exact ⟨ret_i E.out.symm, HB.out⟩
        · have E := Lib.hid (HE.out.trans (if_neg (by rw [← HSL.out]; exact hm)))
          have hm' : 1 ≤ (s.size : Int) := by omega
          clear hm
          go_wp2
          go_ret
          exact ⟨ret_i E.out.symm, HB.out⟩
  · go_enter Tryz.func40, Tryz.ntmps40
    go_wp2_with fail
    refine (rwordsg_to _ n L w HWK hn0).mono ?_
    rintro e w1 ⟨g, rfl, hb1, hg1, hg2, hcell⟩
    go_wp2_with fail
    go_loopw [7, 8] (fun wh i wr => ∃ (j q : Nat) (wv : Int), j ≤ n ∧ i = .int .i64 j ∧ wh = .int .i64 wv ∧ -1 ≤ wv ∧ wv ≤ 12 ∧ Hid (wr = w1.drewN q) ∧ Hid (rgo _ S (L.drop j) j wv = v)) (fun _ i _ => n - (intOf i).toNat)
    case atStart => exact ⟨0, 0, -1, Nat.zero_le _, rfl, rfl, by omega, by omega, Lib.hid rfl, HR0⟩
    case round =>
      obtain ⟨j, q, wv, hj, rfl, rfl, hw1, hw2, HQ, HR⟩ := hrel
      have HB : Hid (Below w.heap.size w wr) := Lib.hid (by rw [HQ.out]; exact below_drewN hb1 q)
      by_cases hlt : j < n
      · have hjl : j < L.length := by rw [HLn.out]; exact hlt
        obtain ⟨X, hX⟩ : ∃ X, L[j] = X := ⟨_, rfl⟩
        have hX9 : X.length ≤ 9 := HL9.out X (by rw [← hX]; exact List.getElem_mem _)
        have HD : Hid (rgo _ S (X :: L.drop (j + 1)) j wv = v) := Lib.hid (by rw [← hX, ← List.drop_eq_getElem_cons hjl]; exact HR.out)
        have cw : wr.cell? ⟨g, j, none⟩ = some (.string ⟨X.toArray⟩) := by
          rw [HQ.out, ← hX]
          exact hcell.out j hjl
        have hxs : (⟨X.toArray⟩ : ByteArray).size = X.length := rfl
        have hx1 : (⟨X.toArray⟩ : ByteArray).size ≤ 1000000 := by rw [hxs]; omega
        have HX1 := Lib.hid hx1
        clear HR hX hx1
        have HXS := Lib.hid hxs
        clear hxs
        cases hb : bgB S X with
        | false =>
          have HBB := Lib.hid hb
          have HN := Lib.hid (rgo_no HD.out hb)
          clear hb
          go_wp2_with fail
          refine (begins_to s _ S X false wr HX1.out hS (Lib.hid rfl) HBB).mono ?_
          rintro e w3 ⟨rfl, q3, rfl⟩
          go_wp2
          go_roundw
          case rel => exact ⟨j + 1, q + q3, wv, by omega, by go_num, rfl, hw1, hw2, Lib.hid (by rw [HQ.out, World.drewN_drewN]), HN⟩
          case measure => simp [intOf]; omega
        | true =>
          have HBB := Lib.hid hb
          by_cases hl : s.size = X.length
          · have E : v = j := rgo_eq HD.out hb (by rw [← HSL.out, hl])
            have HE := Lib.hid E
            clear hb E
            go_wp2_with fail
            refine (begins_to s _ S X true wr HX1.out hS (Lib.hid rfl) HBB).mono ?_
            rintro e w3 ⟨rfl, q3, rfl⟩
            go_wp2
            go_ret
            exact ⟨ret_i HE.out.symm, below_drewN HB.out q3⟩
          · have hl1 : (s.size == X.length) = false := by simpa using hl
            have hl' : ((s.size : Int) == (X.length : Int)) = false := beq_eq_false_iff_ne.2 (by omega)
            have hl2 : ¬ S.length = X.length := by rw [← HSL.out]; exact hl
            by_cases hw : 0 ≤ wv
            · have E : v = -1 := rgo_bad HD.out hb hl2 (Or.inl hw)
              have HE := Lib.hid E
              clear hb hl E hl2
              go_wp2_with fail
              refine (begins_to s _ S X true wr HX1.out hS (Lib.hid rfl) HBB).mono ?_
              rintro e w3 ⟨rfl, q3, rfl⟩
              go_wp2
              go_ret
              exact ⟨ret_i HE.out.symm, below_drewN HB.out q3⟩
            · have hw' : wv < 0 := by omega
              by_cases hm : (s.size : Int) < 3
              · have E : v = -1 := rgo_bad HD.out hb hl2 (Or.inr (by rw [← HSL.out]; exact hm))
                have HE := Lib.hid E
                clear hb hl E hl2 hw
                go_wp2_with fail
                refine (begins_to s _ S X true wr HX1.out hS (Lib.hid rfl) HBB).mono ?_
                rintro e w3 ⟨rfl, q3, rfl⟩
                go_wp2
                go_ret
                exact ⟨ret_i HE.out.symm, below_drewN HB.out q3⟩
              · have HN := Lib.hid (rgo_go HD.out hb hl2 (by rw [← HSL.out]; omega))
                have hm' : 3 ≤ (s.size : Int) := by omega
                clear hb hl hl2 hw hm
                go_wp2_with fail
                refine (begins_to s _ S X true wr HX1.out hS (Lib.hid rfl) HBB).mono ?_
                rintro e w3 ⟨rfl, q3, rfl⟩
                go_wp2
                go_roundw
                case rel => exact ⟨j + 1, q + q3, j, by omega, by go_num, rfl, by omega, by omega, Lib.hid (by rw [HQ.out, World.drewN_drewN]), HN⟩
                case measure => simp [intOf]; omega
      · obtain rfl : j = n := by omega
        have hr0 : rgo 3 S [] (j : Int) wv = v := by have := HR.out; rwa [List.drop_of_length_le (Nat.le_of_eq HLn.out)] at this
        have HE := Lib.hid (rgo_nil hr0)
        clear hr0 HR
        by_cases hm : (s.size : Int) < 3
        · have E := Lib.hid (HE.out.trans (if_pos (by rw [← HSL.out]; exact hm)))
          go_wp2
          go_ret
          exact ⟨ret_i E.out.symm, HB.out⟩
        · have E := Lib.hid (HE.out.trans (if_neg (by rw [← HSL.out]; exact hm)))
          have hm' : 3 ≤ (s.size : Int) := by omega
          clear hm
          go_wp2
          go_ret
          exact ⟨ret_i E.out.symm, HB.out⟩
  · go_enter Tryz.func40, Tryz.ntmps40
    go_wp2_with fail
    refine (rwordsg_to _ n L w HWK hn0).mono ?_
    rintro e w1 ⟨g, rfl, hb1, hg1, hg2, hcell⟩
    go_wp2_with fail
    go_loopw [7, 8] (fun wh i wr => ∃ (j q : Nat) (wv : Int), j ≤ n ∧ i = .int .i64 j ∧ wh = .int .i64 wv ∧ -1 ≤ wv ∧ wv ≤ 12 ∧ Hid (wr = w1.drewN q) ∧ Hid (rgo _ S (L.drop j) j wv = v)) (fun _ i _ => n - (intOf i).toNat)
    case atStart => exact ⟨0, 0, -1, Nat.zero_le _, rfl, rfl, by omega, by omega, Lib.hid rfl, HR0⟩
    case round =>
      obtain ⟨j, q, wv, hj, rfl, rfl, hw1, hw2, HQ, HR⟩ := hrel
      have HB : Hid (Below w.heap.size w wr) := Lib.hid (by rw [HQ.out]; exact below_drewN hb1 q)
      by_cases hlt : j < n
      · have hjl : j < L.length := by rw [HLn.out]; exact hlt
        obtain ⟨X, hX⟩ : ∃ X, L[j] = X := ⟨_, rfl⟩
        have hX9 : X.length ≤ 9 := HL9.out X (by rw [← hX]; exact List.getElem_mem _)
        have HD : Hid (rgo _ S (X :: L.drop (j + 1)) j wv = v) := Lib.hid (by rw [← hX, ← List.drop_eq_getElem_cons hjl]; exact HR.out)
        have cw : wr.cell? ⟨g, j, none⟩ = some (.string ⟨X.toArray⟩) := by
          rw [HQ.out, ← hX]
          exact hcell.out j hjl
        have hxs : (⟨X.toArray⟩ : ByteArray).size = X.length := rfl
        have hx1 : (⟨X.toArray⟩ : ByteArray).size ≤ 1000000 := by rw [hxs]; omega
        have HX1 := Lib.hid hx1
        clear HR hX hx1
        have HXS := Lib.hid hxs
        clear hxs
        cases hb : bgB S X with
        | false =>
          have HBB := Lib.hid hb
          have HN := Lib.hid (rgo_no HD.out hb)
          clear hb
          go_wp2_with fail
          refine (begins_to s _ S X false wr HX1.out hS (Lib.hid rfl) HBB).mono ?_
          rintro e w3 ⟨rfl, q3, rfl⟩
          go_wp2
          go_roundw
          case rel => exact ⟨j + 1, q + q3, wv, by omega, by go_num, rfl, hw1, hw2, Lib.hid (by rw [HQ.out, World.drewN_drewN]), HN⟩
          case measure => simp [intOf]; omega
        | true =>
          have HBB := Lib.hid hb
          by_cases hl : s.size = X.length
          · have E : v = j := rgo_eq HD.out hb (by rw [← HSL.out, hl])
            have HE := Lib.hid E
            clear hb E
            go_wp2_with fail
            refine (begins_to s _ S X true wr HX1.out hS (Lib.hid rfl) HBB).mono ?_
            rintro e w3 ⟨rfl, q3, rfl⟩
            go_wp2
            go_ret
            exact ⟨ret_i HE.out.symm, below_drewN HB.out q3⟩
          · have hl1 : (s.size == X.length) = false := by simpa using hl
            have hl' : ((s.size : Int) == (X.length : Int)) = false := beq_eq_false_iff_ne.2 (by omega)
            have hl2 : ¬ S.length = X.length := by rw [← HSL.out]; exact hl
            by_cases hw : 0 ≤ wv
            · have E : v = -1 := rgo_bad HD.out hb hl2 (Or.inl hw)
              have HE := Lib.hid E
              clear hb hl E hl2
              go_wp2_with fail
              refine (begins_to s _ S X true wr HX1.out hS (Lib.hid rfl) HBB).mono ?_
              rintro e w3 ⟨rfl, q3, rfl⟩
              go_wp2
              go_ret
              exact ⟨ret_i HE.out.symm, below_drewN HB.out q3⟩
            · have hw' : wv < 0 := by omega
              by_cases hm : (s.size : Int) < 3
              · have E : v = -1 := rgo_bad HD.out hb hl2 (Or.inr (by rw [← HSL.out]; exact hm))
                have HE := Lib.hid E
                clear hb hl E hl2 hw
                go_wp2_with fail
                refine (begins_to s _ S X true wr HX1.out hS (Lib.hid rfl) HBB).mono ?_
                rintro e w3 ⟨rfl, q3, rfl⟩
                go_wp2
                go_ret
                exact ⟨ret_i HE.out.symm, below_drewN HB.out q3⟩
              · have HN := Lib.hid (rgo_go HD.out hb hl2 (by rw [← HSL.out]; omega))
                have hm' : 3 ≤ (s.size : Int) := by omega
                clear hb hl hl2 hw hm
                go_wp2_with fail
                refine (begins_to s _ S X true wr HX1.out hS (Lib.hid rfl) HBB).mono ?_
                rintro e w3 ⟨rfl, q3, rfl⟩
                go_wp2
                go_roundw
                case rel => exact ⟨j + 1, q + q3, j, by omega, by go_num, rfl, by omega, by omega, Lib.hid (by rw [HQ.out, World.drewN_drewN]), HN⟩
                case measure => simp [intOf]; omega
      · obtain rfl : j = n := by omega
        have hr0 : rgo 3 S [] (j : Int) wv = v := by have := HR.out; rwa [List.drop_of_length_le (Nat.le_of_eq HLn.out)] at this
        have HE := Lib.hid (rgo_nil hr0)
        clear hr0 HR
        by_cases hm : (s.size : Int) < 3
        · have E := Lib.hid (HE.out.trans (if_pos (by rw [← HSL.out]; exact hm)))
          go_wp2
          go_ret
          exact ⟨ret_i E.out.symm, HB.out⟩
        · have E := Lib.hid (HE.out.trans (if_neg (by rw [← HSL.out]; exact hm)))
          have hm' : 3 ≤ (s.size : Int) := by omega
          clear hm
          go_wp2
          go_ret
          exact ⟨ret_i E.out.symm, HB.out⟩
  · go_enter Tryz.func40, Tryz.ntmps40
    go_wp2_with fail
    refine (rwordsg_to _ n L w HWK hn0).mono ?_
    rintro e w1 ⟨g, rfl, hb1, hg1, hg2, hcell⟩
    go_wp2_with fail
    go_loopw [7, 8] (fun wh i wr => ∃ (j q : Nat) (wv : Int), j ≤ n ∧ i = .int .i64 j ∧ wh = .int .i64 wv ∧ -1 ≤ wv ∧ wv ≤ 12 ∧ Hid (wr = w1.drewN q) ∧ Hid (rgo _ S (L.drop j) j wv = v)) (fun _ i _ => n - (intOf i).toNat)
    case atStart => exact ⟨0, 0, -1, Nat.zero_le _, rfl, rfl, by omega, by omega, Lib.hid rfl, HR0⟩
    case round =>
      obtain ⟨j, q, wv, hj, rfl, rfl, hw1, hw2, HQ, HR⟩ := hrel
      have HB : Hid (Below w.heap.size w wr) := Lib.hid (by rw [HQ.out]; exact below_drewN hb1 q)
      by_cases hlt : j < n
      · have hjl : j < L.length := by rw [HLn.out]; exact hlt
        obtain ⟨X, hX⟩ : ∃ X, L[j] = X := ⟨_, rfl⟩
        have hX9 : X.length ≤ 9 := HL9.out X (by rw [← hX]; exact List.getElem_mem _)
        have HD : Hid (rgo _ S (X :: L.drop (j + 1)) j wv = v) := Lib.hid (by rw [← hX, ← List.drop_eq_getElem_cons hjl]; exact HR.out)
        have cw : wr.cell? ⟨g, j, none⟩ = some (.string ⟨X.toArray⟩) := by
          rw [HQ.out, ← hX]
          exact hcell.out j hjl
        have hxs : (⟨X.toArray⟩ : ByteArray).size = X.length := rfl
        have hx1 : (⟨X.toArray⟩ : ByteArray).size ≤ 1000000 := by rw [hxs]; omega
        have HX1 := Lib.hid hx1
        clear HR hX hx1
        have HXS := Lib.hid hxs
        clear hxs
        cases hb : bgB S X with
        | false =>
          have HBB := Lib.hid hb
          have HN := Lib.hid (rgo_no HD.out hb)
          clear hb
          go_wp2_with fail
          refine (begins_to s _ S X false wr HX1.out hS (Lib.hid rfl) HBB).mono ?_
          rintro e w3 ⟨rfl, q3, rfl⟩
          go_wp2
          go_roundw
          case rel => exact ⟨j + 1, q + q3, wv, by omega, by go_num, rfl, hw1, hw2, Lib.hid (by rw [HQ.out, World.drewN_drewN]), HN⟩
          case measure => simp [intOf]; omega
        | true =>
          have HBB := Lib.hid hb
          by_cases hl : s.size = X.length
          · have E : v = j := rgo_eq HD.out hb (by rw [← HSL.out, hl])
            have HE := Lib.hid E
            clear hb E
            go_wp2_with fail
            refine (begins_to s _ S X true wr HX1.out hS (Lib.hid rfl) HBB).mono ?_
            rintro e w3 ⟨rfl, q3, rfl⟩
            go_wp2
            go_ret
            exact ⟨ret_i HE.out.symm, below_drewN HB.out q3⟩
          · have hl1 : (s.size == X.length) = false := by simpa using hl
            have hl' : ((s.size : Int) == (X.length : Int)) = false := beq_eq_false_iff_ne.2 (by omega)
            have hl2 : ¬ S.length = X.length := by rw [← HSL.out]; exact hl
            by_cases hw : 0 ≤ wv
            · have E : v = -1 := rgo_bad HD.out hb hl2 (Or.inl hw)
              have HE := Lib.hid E
              clear hb hl E hl2
              go_wp2_with fail
              refine (begins_to s _ S X true wr HX1.out hS (Lib.hid rfl) HBB).mono ?_
              rintro e w3 ⟨rfl, q3, rfl⟩
              go_wp2
              go_ret
              exact ⟨ret_i HE.out.symm, below_drewN HB.out q3⟩
            · have hw' : wv < 0 := by omega
              by_cases hm : (s.size : Int) < 1
              · have E : v = -1 := rgo_bad HD.out hb hl2 (Or.inr (by rw [← HSL.out]; exact hm))
                have HE := Lib.hid E
                clear hb hl E hl2 hw
                go_wp2_with fail
                refine (begins_to s _ S X true wr HX1.out hS (Lib.hid rfl) HBB).mono ?_
                rintro e w3 ⟨rfl, q3, rfl⟩
                go_wp2
                go_ret
                exact ⟨ret_i HE.out.symm, below_drewN HB.out q3⟩
              · have HN := Lib.hid (rgo_go HD.out hb hl2 (by rw [← HSL.out]; omega))
                have hm' : 1 ≤ (s.size : Int) := by omega
                clear hb hl hl2 hw hm
                go_wp2_with fail
                refine (begins_to s _ S X true wr HX1.out hS (Lib.hid rfl) HBB).mono ?_
                rintro e w3 ⟨rfl, q3, rfl⟩
                go_wp2
                go_roundw
                case rel => exact ⟨j + 1, q + q3, j, by omega, by go_num, rfl, by omega, by omega, Lib.hid (by rw [HQ.out, World.drewN_drewN]), HN⟩
                case measure => simp [intOf]; omega
      · obtain rfl : j = n := by omega
        have hr0 : rgo 1 S [] (j : Int) wv = v := by have := HR.out; rwa [List.drop_of_length_le (Nat.le_of_eq HLn.out)] at this
        have HE := Lib.hid (rgo_nil hr0)
        clear hr0 HR
        by_cases hm : (s.size : Int) < 1
        · have E := Lib.hid (HE.out.trans (if_pos (by rw [← HSL.out]; exact hm)))
          go_wp2
          go_ret
          exact ⟨ret_i E.out.symm, HB.out⟩
        · have E := Lib.hid (HE.out.trans (if_neg (by rw [← HSL.out]; exact hm)))
          have hm' : 1 ≤ (s.size : Int) := by omega
          clear hm
          go_wp2
          go_ret
          exact ⟨ret_i E.out.symm, HB.out⟩
/-! The two ways say the same: no word of a kind begins one ahead of it. -/
theorem fgo_fail {f m : Int} {S : List UInt8} (xs : List (List UInt8)) : ∀ (i fv cv : Int), (∀ x ∈ xs, smL x ≠ S) → (2 ≤ cv ∨ (S.length : Int) < m) → 0 ≤ cv → fgo f m S xs i fv cv = (0, 7) := by
  induction xs with
  | nil =>
    intro i fv cv _ h _
    rw [fgo, if_neg (by omega)]
  | cons x xs ih =>
    intro i fv cv hx h hc
    rw [fgo, if_neg (hx x (by simp))]
    split
    · exact ih _ _ _ (fun y hy => hx y (by simp [hy])) (by omega) (by omega)
    · exact ih _ _ _ (fun y hy => hx y (by simp [hy])) h hc
def noPre (x y : List UInt8) : Prop := (smL y).isPrefixOf (smL x) = false
theorem smL_len (x : List UInt8) : (smL x).length = x.length := by simp [smL]
theorem smB_smB (c : UInt8) : smB (smB c) = smB c := by
  have h : ∀ n : Nat, n < 256 → smB (smB (UInt8.ofNat n)) = smB (UInt8.ofNat n) := by decide +kernel
  have := h c.toNat c.toNat_lt
  simpa using this
theorem smL_smL (x : List UInt8) : smL (smL x) = smL x := by
  simp [smL, smB_smB]
theorem rgo_fgo {f m : Int} (S : List UInt8) (xs : List (List UInt8)) (hp : xs.Pairwise noPre) : ∀ (i fv cv wh : Int), 0 ≤ i →
    ((cv = 0 ∧ wh = -1) ∨ (cv = 1 ∧ 0 ≤ wh ∧ fv = f + wh ∧ m ≤ (S.length : Int) ∧ ∀ x ∈ xs, smL x ≠ smL S)) →
    (rgo m S xs i wh = -1 ∧ fgo f m (smL S) xs i fv cv = (0, 7)) ∨ (0 ≤ rgo m S xs i wh ∧ fgo f m (smL S) xs i fv cv = (f + rgo m S xs i wh, 0)) := by
  induction xs with
  | nil =>
    intro i fv cv wh hi h
    rw [rgo, fgo, smL_len]
    rcases h with ⟨rfl, rfl⟩ | ⟨rfl, h1, rfl, h2, _⟩
    · left; exact ⟨by split <;> rfl, by rw [if_neg (by omega)]⟩
    · right; rw [if_neg (by omega), if_pos ⟨rfl, h2⟩]; exact ⟨h1, rfl⟩
  | cons x xs ih =>
    intro i fv cv wh hi h
    have hp2 := List.pairwise_cons.1 hp
    rw [rgo, fgo]
    by_cases hb : bgB S x = true
    · rw [if_pos hb]
      by_cases hl : S.length = x.length
      · have e : smL x = smL S := by
          obtain ⟨t, ht⟩ := List.isPrefixOf_iff_prefix.1 hb
          have hl2 : (smL S ++ t).length = (smL S).length := by rw [ht, smL_len, smL_len, hl]
          rw [List.length_append] at hl2
          obtain rfl : t = [] := List.eq_nil_of_length_eq_zero (by omega)
          rw [← ht, List.append_nil]
        rw [if_pos hl, if_pos e]
        exact Or.inr ⟨hi, rfl⟩
      · have e : ¬ smL x = smL S := fun e => hl (by rw [← smL_len S, ← e, smL_len])
        have hrest : ∀ y ∈ xs, smL y ≠ smL S := fun y hy e2 => by
          have := hp2.1 y hy
          rw [noPre, e2] at this
          rw [bgB, this] at hb
          cases hb
        have hb' : (smL S).isPrefixOf (smL x) = true := hb
        rw [if_neg hl, if_neg e, if_pos hb']
        by_cases hc : 0 ≤ wh ∨ (S.length : Int) < m
        · rw [if_pos hc]
          refine Or.inl ⟨rfl, fgo_fail xs _ _ _ hrest ?_ ?_⟩
          · rw [smL_len]
            rcases h with ⟨rfl, rfl⟩ | ⟨rfl, h1, _⟩ <;> omega
          · rcases h with ⟨rfl, rfl⟩ | ⟨rfl, h1, _⟩ <;> omega
        · rw [if_neg hc]
          exact ih hp2.2 _ _ _ _ (by omega) (Or.inr ⟨by rcases h with ⟨rfl, rfl⟩ | ⟨rfl, h1, _⟩ <;> omega, hi, rfl, by omega, hrest⟩)
    · have e : ¬ smL x = smL S := fun e => hb (by rw [bgB, e]; simp)
      have hb' : ¬ (smL S).isPrefixOf (smL x) = true := hb
      rw [if_neg hb, if_neg e, if_neg hb']
      refine ih hp2.2 _ _ _ _ (by omega) ?_
      rcases h with h | ⟨h1, h2, h3, h4, h5⟩
      · exact Or.inl h
      · exact Or.inr ⟨h1, h2, h3, h4, fun y hy => h5 y (by simp [hy])⟩
instance (x y : List UInt8) : Decidable (noPre x y) := by unfold noPre; infer_instance
theorem rw_wd {k : Int} (hk : 1 ≤ k ∧ k ≤ 4) (S : List UInt8) : (rwP k S = -1 ∧ wdP k S = (0, 7)) ∨ (0 ≤ rwP k S ∧ wdP k S = (fstV k + rwP k S, 0)) := by
  have hp : (wds k).Pairwise noPre := by
    have h4 : k = 1 ∨ k = 2 ∨ k = 3 ∨ k = 4 := by omega
    rcases h4 with rfl | rfl | rfl | rfl <;> decide +kernel
  exact rgo_fgo S (wds k) hp 0 0 0 (-1) (by omega) (Or.inl ⟨rfl, rfl⟩)
theorem rgo_bd {m : Int} {S : List UInt8} (xs : List (List UInt8)) : ∀ (i wh : Int), 0 ≤ i → wh < i → rgo m S xs i wh < i + xs.length := by
  induction xs with
  | nil =>
    intro i wh h0 h
    rw [rgo]
    split <;> simp <;> omega
  | cons x xs ih =>
    intro i wh h0 h
    rw [rgo]
    have e : ((x :: xs).length : Int) = xs.length + 1 := by simp
    rw [e]
    split
    · split
      · omega
      · split
        · omega
        · have := ih (i + 1) i (by omega) (by omega); omega
    · have := ih (i + 1) wh (by omega) (by omega); omega
theorem rwP3_bd (S : List UInt8) : rwP 3 S ≤ 6 := by
  have h1 := rgo_bd (m := lstV 3) (S := S) (wds 3) 0 (-1) (by omega) (by omega)
  have h2 : (wds 3).length = 7 := rfl
  unfold rwP
  omega
end Wrd
end Go.Proofs.YtopmcelfmkeamaaGreatDoor
