/-
  Contracts of package rule: textTo, Text.
-/
import Derived.Test.YtopmcelfmkeamaaGreatDoorBdJ
import Derived.Deep.DrawnRows
import Derived.Deep.RegionHeld3
namespace Go.Proofs.YtopmcelfmkeamaaGreatDoor
open Go.RowKit
namespace Rul
open Sol Clk Cel
attribute [local go_sem ↓] Go.wp_at_zero Go.wp_at_succ
set_option maxHeartbeats 6400000 in
set_option maxRecDepth 100000 in
theorem ttx_to (nm lt : List UInt8) (fr tu mo k v d n c sv : Int) (T : List UInt8) (w : World) (hp : Pow w) (h0 : 0 ≤ tu) (h1 : tu ≤ 9999) (h : Hid (toT fr tu = T)) :
    Calls Tryz.prog 39 #[.agg #[.string ⟨nm.toArray⟩, .int .i64 fr, .int .i64 tu, .int .i64 mo, .int .i64 k, .int .i64 v, .int .i64 d, .int .i64 n, .int .i64 c, .int .i64 sv, .string ⟨lt.toArray⟩]] w fun e w' => e = .returned (.string ⟨T.toArray⟩) ∧ Below w.heap.size w w' := by
  have HP := Lib.hid hp
  clear hp
  have hcs : (tu = fr ∧ T = [111, 110, 108, 121]) ∨ ((tu == fr) = false ∧ tu = 9999 ∧ T = [109, 97, 120]) ∨ ((tu == fr) = false ∧ (tu == 9999) = false ∧ Hid (textL tu 0 = T)) := by
    have HH := h.out
    unfold toT at HH
    by_cases e : tu = fr
    · rw [if_pos e] at HH; exact Or.inl ⟨e, HH.symm⟩
    · rw [if_neg e] at HH
      by_cases e2 : tu = 9999
      · rw [if_pos e2] at HH; exact Or.inr (Or.inl ⟨beq_eq_false_iff_ne.2 e, e2, HH.symm⟩)
      · rw [if_neg e2] at HH; exact Or.inr (Or.inr ⟨beq_eq_false_iff_ne.2 e, beq_eq_false_iff_ne.2 e2, Lib.hid HH⟩)
  clear h
  rcases hcs with ⟨rfl, rfl⟩ | ⟨e1, rfl, rfl⟩ | ⟨e1, e2, HT⟩
  · go_enter Tryz.func39, Tryz.ntmps39
    go_wp2
    go_ret
    exact ⟨rfl, by repeat (first | with_reducible exact Below.refl _ _ | refine Below.drew ?_ | refine Below.alloc ?_ (by simp) _)⟩
  · go_enter Tryz.func39, Tryz.ntmps39
    go_wp2
    go_ret
    exact ⟨rfl, by repeat (first | with_reducible exact Below.refl _ _ | refine Below.drew ?_ | refine Below.alloc ?_ (by simp) _)⟩
  · go_enter Tryz.func39, Tryz.ntmps39
    go_wp2_with fail
    refine (text_to tu 0 T _ (by omega) (by omega) (by omega) (by omega) (HP.out.stays (by repeat (first | with_reducible exact Below.refl _ _ | refine Below.drew ?_ | refine Below.alloc ?_ (by simp) _))) HT).mono ?_
    rintro e w1 ⟨rfl, hb⟩
    go_wp2
    go_ret
    exact ⟨rfl, bstep (by repeat (first | with_reducible exact Below.refl _ _ | refine Below.drew ?_ | refine Below.alloc ?_ (by simp) _)) hb⟩
theorem cs_drw {g : Nat} {w : World} {vs : List Value} (h : Cs g w vs) : Cs g w.drew vs := h.below ⟨rfl, rfl, rfl, Nat.le_refl _, fun _ _ => rfl⟩
theorem joinB (x0 x1 x2 x3 x4 x5 x6 x7 x8 x9 : ByteArray) (t : TypeId) (w : World) (hl : (spJ [x0.data.toList, x1.data.toList, x2.data.toList, x3.data.toList, x4.data.toList, x5.data.toList, x6.data.toList, x7.data.toList, x8.data.toList, x9.data.toList]).length ≤ 1000) :
    Calls Tryz.prog 37 #[.slice (some ⟨w.heap.size, 0, none⟩) 10 10, .string ⟨#[32]⟩] (w.alloc (Obj.cells #[.string x0, .string x1, .string x2, .string x3, .string x4, .string x5, .string x6, .string x7, .string x8, .string x9] t)) fun e w' => e = .returned (.string ⟨(spJ [x0.data.toList, x1.data.toList, x2.data.toList, x3.data.toList, x4.data.toList, x5.data.toList, x6.data.toList, x7.data.toList, x8.data.toList, x9.data.toList]).toArray⟩) ∧ Below (w.alloc (Obj.cells #[.string x0, .string x1, .string x2, .string x3, .string x4, .string x5, .string x6, .string x7, .string x8, .string x9] t)).heap.size (w.alloc (Obj.cells #[.string x0, .string x1, .string x2, .string x3, .string x4, .string x5, .string x6, .string x7, .string x8, .string x9] t)) w' := by
  refine (Tryz.strings_Join w.heap.size 0 10 [x0, x1, x2, x3, x4, x5, x6, x7, x8, x9] ⟨#[32]⟩ _ (fun j x hj => ?_) (by simp) (by simp) (by simp) ?_).mono fun e w' ⟨he, hb⟩ => ⟨he, ?_⟩
  · rw [Nat.zero_add, World.cell?_alloc_at _ _ _ _ rfl]
    have e : (#[.string x0, .string x1, .string x2, .string x3, .string x4, .string x5, .string x6, .string x7, .string x8, .string x9] : Array Value) = ([x0, x1, x2, x3, x4, x5, x6, x7, x8, x9].map Value.string).toArray := rfl
    rw [e, List.getElem?_toArray, List.getElem?_map, hj]
    rfl
  · have : (spJ [x0.data.toList, x1.data.toList, x2.data.toList, x3.data.toList, x4.data.toList, x5.data.toList, x6.data.toList, x7.data.toList, x8.data.toList, x9.data.toList]).length ≤ 140737488355328 := by omega
    exact this
  · exact hb
theorem sk11 {w w1 w2 : World} {v0 v1 v2 v3 v4 v5 v6 v7 v8 v9 v10 : Value} (h : w1.cell? ⟨w.heap.size, 0, none⟩ = some v0 ∧ w1.cell? ⟨w.heap.size, 1, none⟩ = some v1 ∧ w1.cell? ⟨w.heap.size, 2, none⟩ = some v2 ∧ w1.cell? ⟨w.heap.size, 3, none⟩ = some v3 ∧ w1.cell? ⟨w.heap.size, 4, none⟩ = some v4 ∧ w1.cell? ⟨w.heap.size, 5, none⟩ = some v5 ∧ w1.cell? ⟨w.heap.size, 6, none⟩ = some v6 ∧ w1.cell? ⟨w.heap.size, 7, none⟩ = some v7 ∧ w1.cell? ⟨w.heap.size, 8, none⟩ = some v8 ∧ w1.cell? ⟨w.heap.size, 9, none⟩ = some v9 ∧ w1.cell? ⟨w.heap.size, 10, none⟩ = some v10 ∧ Below w.heap.size w w1 ∧ w.heap.size < w1.heap.size) (hb : Below w1.heap.size w1 w2) :
    w2.cell? ⟨w.heap.size, 0, none⟩ = some v0 ∧ w2.cell? ⟨w.heap.size, 1, none⟩ = some v1 ∧ w2.cell? ⟨w.heap.size, 2, none⟩ = some v2 ∧ w2.cell? ⟨w.heap.size, 3, none⟩ = some v3 ∧ w2.cell? ⟨w.heap.size, 4, none⟩ = some v4 ∧ w2.cell? ⟨w.heap.size, 5, none⟩ = some v5 ∧ w2.cell? ⟨w.heap.size, 6, none⟩ = some v6 ∧ w2.cell? ⟨w.heap.size, 7, none⟩ = some v7 ∧ w2.cell? ⟨w.heap.size, 8, none⟩ = some v8 ∧ w2.cell? ⟨w.heap.size, 9, none⟩ = some v9 ∧ w2.cell? ⟨w.heap.size, 10, none⟩ = some v10 ∧ Below w.heap.size w w2 ∧ w.heap.size < w2.heap.size := by
  obtain ⟨h0, h1, h2, h3, h4, h5, h6, h7, h8, h9, h10, hB, hg⟩ := h
  exact ⟨(hb.cell (p := ⟨w.heap.size, 0, none⟩) hg).trans h0, (hb.cell (p := ⟨w.heap.size, 1, none⟩) hg).trans h1, (hb.cell (p := ⟨w.heap.size, 2, none⟩) hg).trans h2, (hb.cell (p := ⟨w.heap.size, 3, none⟩) hg).trans h3, (hb.cell (p := ⟨w.heap.size, 4, none⟩) hg).trans h4, (hb.cell (p := ⟨w.heap.size, 5, none⟩) hg).trans h5, (hb.cell (p := ⟨w.heap.size, 6, none⟩) hg).trans h6, (hb.cell (p := ⟨w.heap.size, 7, none⟩) hg).trans h7, (hb.cell (p := ⟨w.heap.size, 8, none⟩) hg).trans h8, (hb.cell (p := ⟨w.heap.size, 9, none⟩) hg).trans h9, (hb.cell (p := ⟨w.heap.size, 10, none⟩) hg).trans h10, bstep hB hb, Nat.lt_of_lt_of_le hg hb.size⟩
theorem sb11 {w w1 : World} {v0 v1 v2 v3 v4 v5 v6 v7 v8 v9 v10 : Value} (h : w1.cell? ⟨w.heap.size, 0, none⟩ = some v0 ∧ w1.cell? ⟨w.heap.size, 1, none⟩ = some v1 ∧ w1.cell? ⟨w.heap.size, 2, none⟩ = some v2 ∧ w1.cell? ⟨w.heap.size, 3, none⟩ = some v3 ∧ w1.cell? ⟨w.heap.size, 4, none⟩ = some v4 ∧ w1.cell? ⟨w.heap.size, 5, none⟩ = some v5 ∧ w1.cell? ⟨w.heap.size, 6, none⟩ = some v6 ∧ w1.cell? ⟨w.heap.size, 7, none⟩ = some v7 ∧ w1.cell? ⟨w.heap.size, 8, none⟩ = some v8 ∧ w1.cell? ⟨w.heap.size, 9, none⟩ = some v9 ∧ w1.cell? ⟨w.heap.size, 10, none⟩ = some v10 ∧ Below w.heap.size w w1 ∧ w.heap.size < w1.heap.size) : Below w.heap.size w w1 := h.2.2.2.2.2.2.2.2.2.2.2.1
theorem s11_of {w w1 : World} {v0 v1 v2 v3 v4 v5 v6 v7 v8 v9 v10 : Value} (h : Cs w.heap.size w1 [v0, v1, v2, v3, v4, v5, v6, v7, v8, v9, v10]) (hB : Below w.heap.size w w1) : w1.cell? ⟨w.heap.size, 0, none⟩ = some v0 ∧ w1.cell? ⟨w.heap.size, 1, none⟩ = some v1 ∧ w1.cell? ⟨w.heap.size, 2, none⟩ = some v2 ∧ w1.cell? ⟨w.heap.size, 3, none⟩ = some v3 ∧ w1.cell? ⟨w.heap.size, 4, none⟩ = some v4 ∧ w1.cell? ⟨w.heap.size, 5, none⟩ = some v5 ∧ w1.cell? ⟨w.heap.size, 6, none⟩ = some v6 ∧ w1.cell? ⟨w.heap.size, 7, none⟩ = some v7 ∧ w1.cell? ⟨w.heap.size, 8, none⟩ = some v8 ∧ w1.cell? ⟨w.heap.size, 9, none⟩ = some v9 ∧ w1.cell? ⟨w.heap.size, 10, none⟩ = some v10 ∧ Below w.heap.size w w1 ∧ w.heap.size < w1.heap.size :=
  ⟨(h.2 0 _ rfl).1, (h.2 1 _ rfl).1, (h.2 2 _ rfl).1, (h.2 3 _ rfl).1, (h.2 4 _ rfl).1, (h.2 5 _ rfl).1, (h.2 6 _ rfl).1, (h.2 7 _ rfl).1, (h.2 8 _ rfl).1, (h.2 9 _ rfl).1, (h.2 10 _ rfl).1, hB, h.1⟩
theorem rt_no {r : RV} (h : chkB r = false) : ruT r = [] ∧ ruE r = 10 := ⟨by rw [ruT, if_neg (by rw [h]; decide)], by rw [ruE, if_neg (by rw [h]; decide)]⟩
theorem rt_yes {r : RV} (h : chkB r = true) : ruT r = spJ (ruF r) ∧ ruE r = 0 := ⟨by rw [ruT, if_pos h], by rw [ruE, if_pos h]⟩
set_option maxHeartbeats 12800000 in
set_option maxRecDepth 100000 in
theorem rtext_no (nm lt : List UInt8) (fr tu mo k v d n c sv : Int) (w : World) (hnm : nm.length ≤ 1000000) (hlt : lt.length ≤ 1000000) (h : Hid (ruE ⟨nm, fr, tu, mo, k, v, d, n, c, sv, lt⟩ = 10)) :
    Calls Tryz.prog 9 #[.agg #[.string ⟨nm.toArray⟩, .int .i64 fr, .int .i64 tu, .int .i64 mo, .int .i64 k, .int .i64 v, .int .i64 d, .int .i64 n, .int .i64 c, .int .i64 sv, .string ⟨lt.toArray⟩]] w fun e w' => e = .returned (.tuple #[.string ⟨#[]⟩, .int .i64 10]) ∧ Below w.heap.size w w' := by
  go_enter Tryz.func9, Tryz.ntmps9
  go_wp2_with fail
  refine (rchk_to nm lt fr tu mo k v d n c sv 10 _ hnm hlt h).mono ?_
  rintro e w1 ⟨rfl, hb⟩
  go_wp2
  go_ret2
  exact ⟨rfl, bstep (by repeat (first | with_reducible exact Below.refl _ _ | refine Below.drew ?_ | refine Below.alloc ?_ (by simp) _)) hb⟩
set_option maxHeartbeats 12800000 in
set_option maxRecDepth 100000 in
theorem rtext_yes (nm lt : List UInt8) (fr tu mo k v d n c sv : Int) (T : List UInt8) (w : World) (hp : Pow w) (h : Hid (chkB ⟨nm, fr, tu, mo, k, v, d, n, c, sv, lt⟩ = true)) (hT : Hid (spJ (ruF ⟨nm, fr, tu, mo, k, v, d, n, c, sv, lt⟩) = T)) :
    Calls Tryz.prog 9 #[.agg #[.string ⟨nm.toArray⟩, .int .i64 fr, .int .i64 tu, .int .i64 mo, .int .i64 k, .int .i64 v, .int .i64 d, .int .i64 n, .int .i64 c, .int .i64 sv, .string ⟨lt.toArray⟩]] w fun e w' => e = .returned (.tuple #[.string ⟨T.toArray⟩, .int .i64 0]) ∧ Below w.heap.size w w' := by
  have HP := Lib.hid hp
  clear hp
  obtain ⟨a1, a2, a3, a4, a5, a6, a7, a8, a9, a10, a11, a12⟩ := chk_parts h.out
  have a3 : 1 ≤ fr := a3
  have a4 : fr ≤ tu := a4
  have a5 : tu ≤ 9999 := a5
  have a6 : 1 ≤ mo := a6
  have a7 : mo ≤ 12 := a7
  have a8 : Wk.onOk k v d = true := a8
  have a10 : Atf.atOk n c = true := a10
  have a11 : -86400 < sv := a11
  have a12 : sv < 86400 := a12
  have l1 : nm.length ≤ 40 := (name_pl a1).2
  have l2 : lt.length ≤ 6 := (let_pl a2).2.1
  have E0 : Hid (ruE ⟨nm, fr, tu, mo, k, v, d, n, c, sv, lt⟩ = 0) := Lib.hid (rt_yes h.out).2
  have N1 : Hid (Wrd.nmT 1 1 = [82, 117, 108, 101] ∧ Wrd.nmE 1 1 = 0) := Lib.hid (by decide +kernel)
  obtain ⟨_, _, m3, m4, m5⟩ := mo_txt a6 a7
  obtain ⟨M, hM⟩ : ∃ M, Wrd.nmT 2 mo = M := ⟨_, rfl⟩
  have N2 := Lib.hid (And.intro hM m4)
  have m3' : M.take 3 = moT mo := by rw [moT, hM]
  have ml : 3 ≤ M.length := by
    have := m3; rw [← m3', List.length_take] at this; omega
  rw [hM] at m5
  obtain ⟨O, hO⟩ : ∃ O, Onf.onT k v d = O := ⟨_, rfl⟩
  have N3 := Lib.hid (And.intro hO (Wk.chE_yes a8))
  obtain ⟨A, hA⟩ : ∃ A, Atf.atT n c = A := ⟨_, rfl⟩
  have N4 := Lib.hid (And.intro hA (at_txt a10).2.2.2.2.2)
  obtain ⟨S, hS⟩ : ∃ S, ctS sv = S := ⟨_, rfl⟩
  have N5 := Lib.hid (And.intro hS (ct_in (n := sv) (by omega)).1)
  obtain ⟨F, hF⟩ : ∃ F, textL fr 0 = F := ⟨_, rfl⟩
  obtain ⟨U, hU⟩ : ∃ U, toT fr tu = U := ⟨_, rfl⟩
  have N6 := Lib.hid hF
  have N7 := Lib.hid hU
  have HTT := hT.out
  rw [ruF] at HTT
  simp only [← m3', hO, hA, hS, hF, hU] at HTT
  have HT2 := Lib.hid HTT
  clear HTT
  have hTl := (ruF_pl h.out).2.1
  rw [hT.out] at hTl
  have HTl := Lib.hid hTl
  have Z1 : Hid (nm.length ≤ 1000000) := Lib.hid (by omega)
  have Z2 : Hid (lt.length ≤ 1000000) := Lib.hid (by omega)
  clear hTl hT h a1 a2 a8 a9 a10 m3 m4 hM hO hA hS hF hU m3'
  go_enter Tryz.func9, Tryz.ntmps9
  go_wp2_with fail
  refine (rchk_to nm lt fr tu mo k v d n c sv 0 _ Z1.out Z2.out E0).mono ?_
  rintro e w1 ⟨rfl, b1⟩
  have C0 : Cs w.heap.size (w.alloc (Obj.cells #[.string ⟨nm.toArray⟩, .int .i64 fr, .int .i64 tu, .int .i64 mo, .int .i64 k, .int .i64 v, .int .i64 d, .int .i64 n, .int .i64 c, .int .i64 sv, .string ⟨lt.toArray⟩] 27)) [.string ⟨nm.toArray⟩, .int .i64 fr, .int .i64 tu, .int .i64 mo, .int .i64 k, .int .i64 v, .int .i64 d, .int .i64 n, .int .i64 c, .int .i64 sv, .string ⟨lt.toArray⟩] := Cs.new _ _ _
  have C1 := Lib.hid (C0.below b1)
  have B1 := Lib.hid (bstep ((Below.refl w.heap.size w).alloc (Nat.le_refl _) _) b1)
  clear C0 b1
  go_wp2_with fail
  refine (Wrd.name_to 1 1 [82, 117, 108, 101] 0 _ (by omega) N1).mono ?_
  rintro e w2 ⟨rfl, b2⟩
  have C2 := Lib.hid (C1.out.below b2)
  have B2 := Lib.hid (bstep B1.out b2)
  clear C1 B1 b2
  have z3 := (C2.out.2 3 _ rfl).1
  go_wp2_with fail
  refine (Wrd.name_to 2 mo M 0 _ (by omega) N2).mono ?_
  rintro e w3 ⟨rfl, b3⟩
  have C3 := Lib.hid (C2.out.below b3)
  have B3 := Lib.hid (bstep B2.out b3)
  clear C2 B2 b3 z3
  have z4 := (C3.out.2 4 _ rfl).1
  have z5 := (C3.out.2 5 _ rfl).1
  have z6 := (C3.out.2 6 _ rfl).1
  go_wp2_with fail
  refine (Onf.otext_to k v d 0 O _ (HP.out.stays B3.out) N3).mono ?_
  rintro e w4 ⟨rfl, b4⟩
  have C4 := Lib.hid (C3.out.below b4)
  have B4 := Lib.hid (bstep B3.out b4)
  clear C3 B3 b4 z4 z5 z6
  have z7 := (C4.out.2 7 _ rfl).1
  have z8 := (C4.out.2 8 _ rfl).1
  go_wp2_with fail
  refine (Atf.atext_to n c 0 A _ (HP.out.stays B4.out) N4).mono ?_
  rintro e w5 ⟨rfl, b5⟩
  have C5 := Lib.hid (C4.out.below b5)
  have B5 := Lib.hid (bstep B4.out b5)
  clear C4 B4 b5 z7 z8
  have z9 := (C5.out.2 9 _ rfl).1
  go_wp2_with fail
  refine (ctext_to sv S 0 _ (HP.out.stays B5.out) N5).mono ?_
  rintro e w6 ⟨rfl, b6⟩
  have C6 := Lib.hid (C5.out.below b6)
  have B6 := Lib.hid (bstep B5.out b6)
  clear C5 B5 b6 z9
  have z10 := (C6.out.2 10 _ rfl).1
  have z0 := (C6.out.2 0 _ rfl).1
  have z1 := (C6.out.2 1 _ rfl).1
  have z2 := (C6.out.2 2 _ rfl).1
  have z3 := (C6.out.2 3 _ rfl).1
  have z4 := (C6.out.2 4 _ rfl).1
  have z5 := (C6.out.2 5 _ rfl).1
  have z6 := (C6.out.2 6 _ rfl).1
  have z7 := (C6.out.2 7 _ rfl).1
  have z8 := (C6.out.2 8 _ rfl).1
  have z9 := (C6.out.2 9 _ rfl).1
  have hsM : (⟨M.toArray⟩ : ByteArray).size = M.length := rfl
  have hml2 : M.length ≤ 9 := m5
  have im1 : (3 : Int) ≤ (((⟨M.toArray⟩ : ByteArray).size : Nat) : Int) := by rw [hsM]; omega
  have im2 : (3 : Int) ≤ ((M.length : Nat) : Int) := by omega
  have im3 : 3 ≤ (⟨M.toArray⟩ : ByteArray).size := by rw [hsM]; exact ml
  have im4 : (0 : Int) ≤ 3 := by omega
  have hl6 : Hid (B6 = B6) := Lib.hid rfl
  obtain ⟨L, hL⟩ : ∃ L, (if lt = [] then [45] else lt) = L := ⟨_, rfl⟩
  rw [hL] at HT2
  have hlc : (lt = [] ∧ L = [45]) ∨ ((lt == []) = false ∧ lt ≠ [] ∧ L = lt) := by
    by_cases e : lt = []
    · rw [if_pos e] at hL; exact Or.inl ⟨e, hL.symm⟩
    · rw [if_neg e] at hL; exact Or.inr ⟨beq_eq_false_iff_ne.2 e, e, hL.symm⟩
  clear hL m5 hl6
  rcases hlc with ⟨rfl, rfl⟩ | ⟨le1, le2, rfl⟩
  · skip
    have HJ : Hid (∀ X : List (List UInt8), X = [[82, 117, 108, 101], nm, F, U, [45], M.take 3, O, A, S, [45]] → (spJ X).length ≤ 1000) := Lib.hid (fun X hX => by have := HTl.out; rw [hX, HT2.out]; omega)
    have S0 := Lib.hid (sk11 (s11_of C6.out B6.out) (show Below w6.heap.size w6 w6.drew from (Below.refl _ _).drew))
    go_upto_region 22 with fail
    go_region_held3 (fun w' => w'.cell? ⟨w.heap.size, 0, none⟩ = some (.string ⟨nm.toArray⟩) ∧ w'.cell? ⟨w.heap.size, 1, none⟩ = some (.int .i64 fr) ∧ w'.cell? ⟨w.heap.size, 2, none⟩ = some (.int .i64 tu) ∧ w'.cell? ⟨w.heap.size, 3, none⟩ = some (.int .i64 mo) ∧ w'.cell? ⟨w.heap.size, 4, none⟩ = some (.int .i64 k) ∧ w'.cell? ⟨w.heap.size, 5, none⟩ = some (.int .i64 v) ∧ w'.cell? ⟨w.heap.size, 6, none⟩ = some (.int .i64 d) ∧ w'.cell? ⟨w.heap.size, 7, none⟩ = some (.int .i64 n) ∧ w'.cell? ⟨w.heap.size, 8, none⟩ = some (.int .i64 c) ∧ w'.cell? ⟨w.heap.size, 9, none⟩ = some (.int .i64 sv) ∧ w'.cell? ⟨w.heap.size, 10, none⟩ = some (.string ⟨[].toArray⟩) ∧ Below w.heap.size w w' ∧ w.heap.size < w'.heap.size) (first | exact S0.out | exact sk11 (by assumption) hq1 | exact sk11 (by assumption) hq2 | exact sk11 (by assumption) hq3 | exact sk11 (by assumption) ((Below.refl _ _).alloc (Nat.le_refl _) _) | go_keep) (first | (go_at_call 38; (with_reducible refine (text_to fr 0 F _ (by omega) (by omega) (by omega) (by omega) (HP.out.stays (sb11 (by assumption))) N6).mono ?_); rintro e w' ⟨rfl, hq1⟩) | (go_at_call 39; (with_reducible refine (ttx_to _ _ _ _ _ _ _ _ _ _ _ U _ (HP.out.stays (sb11 (by assumption))) (by omega) (by omega) N7).mono ?_); rintro e w' ⟨rfl, hq2⟩) | (go_at_call 37; (with_reducible refine (joinB _ _ _ _ _ _ _ _ _ _ _ _ (HJ.out _ (by simp))).mono ?_); rintro e w' ⟨rfl, hq3⟩))
    all_goals go_wp2
    all_goals go_ret2
    all_goals exact ⟨ret_si (ByteArray.ext (Array.toList_inj.1 (by show spJ _ = T; first | (rw [← HT2.out]; done) | (rw [← HT2.out]; congr 1; simp)))) rfl, sb11 (by assumption)⟩
  · have le3 : (⟨L.toArray⟩ : ByteArray).toList = L := by rw [Lib.toList_data]
    have HJ : Hid (∀ X : List (List UInt8), X = [[82, 117, 108, 101], nm, F, U, [45], M.take 3, O, A, S, L] → (spJ X).length ≤ 1000) := Lib.hid (fun X hX => by have := HTl.out; rw [hX, HT2.out]; omega)
    have S0 := Lib.hid (sk11 (s11_of C6.out B6.out) (show Below w6.heap.size w6 w6.drew from (Below.refl _ _).drew))
    go_upto_region 22 with fail
    go_region_held3 (fun w' => w'.cell? ⟨w.heap.size, 0, none⟩ = some (.string ⟨nm.toArray⟩) ∧ w'.cell? ⟨w.heap.size, 1, none⟩ = some (.int .i64 fr) ∧ w'.cell? ⟨w.heap.size, 2, none⟩ = some (.int .i64 tu) ∧ w'.cell? ⟨w.heap.size, 3, none⟩ = some (.int .i64 mo) ∧ w'.cell? ⟨w.heap.size, 4, none⟩ = some (.int .i64 k) ∧ w'.cell? ⟨w.heap.size, 5, none⟩ = some (.int .i64 v) ∧ w'.cell? ⟨w.heap.size, 6, none⟩ = some (.int .i64 d) ∧ w'.cell? ⟨w.heap.size, 7, none⟩ = some (.int .i64 n) ∧ w'.cell? ⟨w.heap.size, 8, none⟩ = some (.int .i64 c) ∧ w'.cell? ⟨w.heap.size, 9, none⟩ = some (.int .i64 sv) ∧ w'.cell? ⟨w.heap.size, 10, none⟩ = some (.string ⟨L.toArray⟩) ∧ Below w.heap.size w w' ∧ w.heap.size < w'.heap.size) (first | exact S0.out | exact sk11 (by assumption) hq1 | exact sk11 (by assumption) hq2 | exact sk11 (by assumption) hq3 | exact sk11 (by assumption) ((Below.refl _ _).alloc (Nat.le_refl _) _) | go_keep) (first | (go_at_call 38; (with_reducible refine (text_to fr 0 F _ (by omega) (by omega) (by omega) (by omega) (HP.out.stays (sb11 (by assumption))) N6).mono ?_); rintro e w' ⟨rfl, hq1⟩) | (go_at_call 39; (with_reducible refine (ttx_to _ _ _ _ _ _ _ _ _ _ _ U _ (HP.out.stays (sb11 (by assumption))) (by omega) (by omega) N7).mono ?_); rintro e w' ⟨rfl, hq2⟩) | (go_at_call 37; (with_reducible refine (joinB _ _ _ _ _ _ _ _ _ _ _ _ (HJ.out _ (by simp))).mono ?_); rintro e w' ⟨rfl, hq3⟩))
    all_goals go_wp2
    all_goals go_ret2
    all_goals exact ⟨ret_si (ByteArray.ext (Array.toList_inj.1 (by show spJ _ = T; first | (rw [← HT2.out]; done) | (rw [← HT2.out]; congr 1; simp)))) rfl, sb11 (by assumption)⟩
theorem rtext_to (nm lt : List UInt8) (fr tu mo k v d n c sv : Int) (T : List UInt8) (e : Int) (w : World) (hp : Pow w) (hnm : nm.length ≤ 1000000) (hlt : lt.length ≤ 1000000) (h : Hid (ruT ⟨nm, fr, tu, mo, k, v, d, n, c, sv, lt⟩ = T ∧ ruE ⟨nm, fr, tu, mo, k, v, d, n, c, sv, lt⟩ = e)) :
    Calls Tryz.prog 9 #[.agg #[.string ⟨nm.toArray⟩, .int .i64 fr, .int .i64 tu, .int .i64 mo, .int .i64 k, .int .i64 v, .int .i64 d, .int .i64 n, .int .i64 c, .int .i64 sv, .string ⟨lt.toArray⟩]] w fun x w' => x = .returned (.tuple #[.string ⟨T.toArray⟩, .int .i64 e]) ∧ Below w.heap.size w w' := by
  cases hc : chkB ⟨nm, fr, tu, mo, k, v, d, n, c, sv, lt⟩ with
  | false =>
    obtain ⟨a, b⟩ := rt_no hc
    obtain rfl : T = [] := by rw [← h.out.1]; exact a
    obtain rfl : e = 10 := by rw [← h.out.2]; exact b
    exact rtext_no nm lt fr tu mo k v d n c sv w hnm hlt (Lib.hid b)
  | true =>
    obtain ⟨a, b⟩ := rt_yes hc
    obtain rfl : e = 0 := by rw [← h.out.2]; exact b
    exact rtext_yes nm lt fr tu mo k v d n c sv T w hp (Lib.hid hc) (Lib.hid (by rw [← a]; exact h.out.1))
end Rul
end Go.Proofs.YtopmcelfmkeamaaGreatDoor
