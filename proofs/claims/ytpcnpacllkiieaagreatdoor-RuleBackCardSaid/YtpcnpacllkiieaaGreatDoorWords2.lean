/-
  Package words: Once.Do and a lexicon's list (fresh, and laid); first, least; strings.HasPrefix; ascii.Same.
-/
import Derived.Test.YtpcnpacllkiieaaGreatDoorWords
namespace Go.Proofs.YtpcnpacllkiieaaGreatDoor
open Go.RowKit
namespace Wrd
theorem Fresh.slow {b n : Nat} {k : Int} {L : List (List UInt8)} {o : Obj} {w w' : World} (h : Fresh b k w) (hq : SlowQ b n L (w.alloc o) w') : ∃ A, Laid b k A n L w' ∧ Below b w w' ∧ w.heap.size < w'.heap.size ∧ w'.cell? ⟨w.heap.size, 0, none⟩ = (w.alloc o).cell? ⟨w.heap.size, 0, none⟩ := by
  obtain ⟨a0, a1, a2, a3, a4, a5, a6, a7⟩ := h
  obtain ⟨A, w2, rfl, hb, hr⟩ := hq
  have hz : w.heap.size + 1 ≤ w2.heap.size := by have := hb.size; simpa using this
  have hb2 : Below b w w2 := (((Below.refl b w).alloc (by omega) o).setCell (p := ⟨b, 2, none⟩) (Nat.le_refl _) _).trans (hb.mono (by simp; omega))
  have hr2 : RowA (b + 1) A L w2 := hr.out.less (by simp; omega)
  have c0 : w2.cell? ⟨b, 0, none⟩ = some (.int .i64 k) := (hb.cell (p := ⟨b, 0, none⟩) (by simp; omega)).trans ((World.cell?_setCell_other _ ⟨b, 2, none⟩ ⟨b, 0, none⟩ _ (by simp)).trans ((World.cell?_alloc_lt w o ⟨b, 0, none⟩ a0).trans a1))
  have c1 : w2.cell? ⟨b, 1, none⟩ = some (.int .u32 0) := (hb.cell (p := ⟨b, 1, none⟩) (by simp; omega)).trans ((World.cell?_setCell_other _ ⟨b, 2, none⟩ ⟨b, 1, none⟩ _ (by simp)).trans ((World.cell?_alloc_lt w o ⟨b, 1, none⟩ a0).trans a2))
  have c4 : w2.cell? ⟨b, 4, none⟩ = some (.slice none 0 0) := (hb.cell (p := ⟨b, 4, none⟩) (by simp; omega)).trans ((World.cell?_setCell_other _ ⟨b, 2, none⟩ ⟨b, 4, none⟩ _ (by simp)).trans ((World.cell?_alloc_lt w o ⟨b, 4, none⟩ a0).trans a4))
  refine ⟨A, ⟨by simp; omega, ?_, ?_, ?_, ?_⟩, ?_, by simp; omega, ?_⟩
  · rw [World.cell?_setCell_other _ _ _ _ (by simp), World.cell?_setCell_other _ _ _ _ (by simp)]
    exact (World.cell?_setCell_other _ ⟨b, 4, none⟩ ⟨b, 0, none⟩ _ (by simp)).trans c0
  · rw [World.cell?_setCell_other _ _ _ _ (by simp)]
    exact World.cell?_setCell_same _ _ _ ((World.cell?_setCell_other _ ⟨b, 4, none⟩ ⟨b, 1, none⟩ _ (by simp)).trans c1)
  · rw [World.cell?_setCell_other _ _ _ _ (by simp), World.cell?_setCell_other _ _ _ _ (by simp)]
    exact World.cell?_setCell_same _ _ _ c4
  · exact ((hr2.set_ (by omega) _).drew.set_ (by omega) _).set_ (by omega) _
  · exact ((hb2.setCell (Nat.le_refl _) _).drew.setCell (Nat.le_refl _) _).setCell (Nat.le_refl _) _
  · have hne : ∀ i, (⟨b, i, none⟩ : Addr) ≠ ⟨w.heap.size, 0, none⟩ := fun i e => by injection e; omega
    rw [World.cell?_setCell_other _ _ _ _ (hne _), World.cell?_setCell_other _ _ _ _ (hne _)]
    refine (World.cell?_setCell_other _ ⟨b, 4, none⟩ ⟨w.heap.size, 0, none⟩ _ (hne _)).trans ?_
    refine (hb.cell (p := ⟨w.heap.size, 0, none⟩) (by simp)).trans ?_
    exact World.cell?_setCell_other _ ⟨b, 2, none⟩ ⟨w.heap.size, 0, none⟩ _ (hne _)
set_option maxRecDepth 100000 in
/-- Once.Do, not yet done. -/
theorem do0 (b n : Nat) (k : Int) (L : List (List UInt8)) (pl : Addr) (x : Value) (w : World) (h : Hid (WK k n L)) (hb : b < w.heap.size) (hpl : pl.block < w.heap.size) (hne : pl.block ≠ b) (hp : w.cell? pl = some (.pointer (some ⟨b, 0, none⟩))) (hk : w.cell? ⟨b, 0, none⟩ = some (.int .i64 k))
    (h1 : w.cell? ⟨b, 1, none⟩ = some (.int .u32 0)) (h2 : w.cell? ⟨b, 2, none⟩ = some (.int .i32 0)) (hx : w.cell? ⟨b, 4, none⟩ = some x) (f1 : w.frozen? ⟨b, 1, none⟩ = false) (f2 : w.frozen? ⟨b, 2, none⟩ = false) (fx : w.frozen? ⟨b, 4, none⟩ = false) :
    Calls Tryz.prog 129 #[.pointer (some ⟨b, 1, none⟩), .func (.func 130) #[] #[.pointer (some pl)]] w fun e w' => e = .returned (.tuple #[]) ∧ SlowQ b n L w w' := by
  have hnot : ∀ (x : Bool) (w : World), (Op.unary .not (.bool x)).run Tryz.prog w = .ok (.bool (!x)) w := fun _ _ => rfl
  go_enter Tryz.func129, Tryz.ntmps129
  go_wp2_with (go_at_call 150; refine (on_load0 _ _ h1).mono ?_; rintro e w' ⟨rfl, rfl⟩)
  go_wp2_with (go_at_call 151; refine (slow_to b n k L pl x _ h hb hpl hne hp hk h1 h2 hx f1 f2 fx).mono ?_; rintro e w2 ⟨rfl, hq⟩)
  go_end0
  exact ⟨rfl, hq⟩
set_option maxRecDepth 100000 in
/-- Once.Do, done. -/
theorem do1 (b : Nat) (f : Value) (w : World) (h1 : w.cell? ⟨b, 1, none⟩ = some (.int .u32 1)) :
    Calls Tryz.prog 129 #[.pointer (some ⟨b, 1, none⟩), f] w fun e w' => e = .returned (.tuple #[]) ∧ w = w' := by
  have hnot : ∀ (x : Bool) (w : World), (Op.unary .not (.bool x)).run Tryz.prog w = .ok (.bool (!x)) w := fun _ _ => rfl
  go_enter Tryz.func129, Tryz.ntmps129
  go_wp2_with (go_at_call 150; refine (on_load1 _ _ h1).mono ?_; rintro e w' ⟨rfl, rfl⟩)
  go_end0
  exact ⟨rfl, rfl⟩
/-- list of a fresh lexicon. -/
def LisQ (b n : Nat) (k : Int) (L : List (List UInt8)) (w : World) (e : Ending) (w' : World) : Prop := ∃ A, e = .returned (.slice A n n) ∧ Laid b k A n L w' ∧ Below b w w' ∧ w.heap.size < w'.heap.size
set_option maxRecDepth 100000 in
theorem list0 (b n : Nat) (k : Int) (L : List (List UInt8)) (w : World) (h : Hid (WK k n L)) (hf : Fresh b k w) :
    Calls Tryz.prog 92 #[.pointer (some ⟨b, 0, none⟩)] w (LisQ b n k L w) := by
  have HF := Lib.hid hf
  obtain ⟨a0, a1, a2, a3, a4, a5, a6, a7⟩ := hf
  have hne : w.heap.size ≠ b := by omega
  have hnot : ∀ (x : Bool) (w : World), (Op.unary .not (.bool x)).run Tryz.prog w = .ok (.bool (!x)) w := fun _ _ => rfl
  have g : ∀ i x, w.cell? ⟨b, i, none⟩ = some x → ∀ o : Obj, (w.alloc o).cell? ⟨b, i, none⟩ = some x := fun i x hx o => (World.cell?_alloc_lt w o ⟨b, i, none⟩ a0).trans hx
  have gf : ∀ i, w.frozen? ⟨b, i, none⟩ = false → ∀ o : Obj, (w.alloc o).frozen? ⟨b, i, none⟩ = false := fun i hx o => (((Below.refl w.heap.size w).alloc (Nat.le_refl _) o).frozen (p := ⟨b, i, none⟩) a0).trans hx
  have G := Lib.hid g
  have GF := Lib.hid gf
  clear g gf
  have b1 := G.out _ _ a2 (Obj.cells #[.pointer (some ⟨b, 0, none⟩)] 147)
  go_enter Tryz.func92, Tryz.ntmps92
  go_wp2_with fail
  refine (do0 b n k L ⟨w.heap.size, 0, none⟩ (.slice none 0 0) _ h (by simp; omega) (by simp) hne (by go_simp) (G.out _ _ a1 _) b1 (G.out _ _ a3 _) (G.out _ _ a4 _) (GF.out _ a5 _) (GF.out _ a6 _) (GF.out _ a7 _)).mono ?_
  rintro e w2 ⟨rfl, hq⟩
  obtain ⟨A, hl, hb, hz, hp⟩ := HF.out.slow hq
  have HL := Lib.hid hl
  have c4 := hl.2.2.2.1
  have cp : w2.cell? ⟨w.heap.size, 0, none⟩ = some (.pointer (some ⟨b, 0, none⟩)) := hp.trans (by go_simp)
  clear hq hl hp
  go_wp2
  go_ret
  exact ⟨A, rfl, HL.out, hb, hz⟩
set_option maxRecDepth 100000 in
/-- list of a lexicon that is laid. -/
theorem list1 (b n : Nat) (k : Int) (A : Option Addr) (L : List (List UInt8)) (w : World) (hf : Laid b k A n L w) :
    Calls Tryz.prog 92 #[.pointer (some ⟨b, 0, none⟩)] w fun e w' => e = .returned (.slice A n n) ∧ w.alloc (Obj.cells #[.pointer (some ⟨b, 0, none⟩)] 147) = w' := by
  obtain ⟨a0, a1, a2, a3, a4⟩ := hf
  have hnot : ∀ (x : Bool) (w : World), (Op.unary .not (.bool x)).run Tryz.prog w = .ok (.bool (!x)) w := fun _ _ => rfl
  have b1 := (World.cell?_alloc_lt w (Obj.cells #[.pointer (some ⟨b, 0, none⟩)] 147) ⟨b, 1, none⟩ a0).trans a2
  have b4 := (World.cell?_alloc_lt w (Obj.cells #[.pointer (some ⟨b, 0, none⟩)] 147) ⟨b, 4, none⟩ a0).trans a3
  clear a4
  go_enter Tryz.func92, Tryz.ntmps92
  go_wp2_with (go_at_call 129; refine (do1 b _ _ b1).mono ?_; rintro e w' ⟨rfl, rfl⟩)
  go_ret
  exact ⟨rfl, rfl⟩
def fstV (k : Int) : Int := if k = 3 then 0 else 1
def lstV (k : Int) : Int := if k = 2 ∨ k = 3 then 3 else 1
theorem first_to (b : Nat) (k f : Int) (w : World) (hk : w.cell? ⟨b, 0, none⟩ = some (.int .i64 k)) (h : Hid (fstV k = f)) :
    Calls Tryz.prog 91 #[.pointer (some ⟨b, 0, none⟩)] w fun e w' => e = .returned (.int .i64 f) ∧ w = w' := by
  have H : Hid (k = 3 ∧ f = 0 ∨ (k == 3) = false ∧ f = 1) := Lib.hid (by
    rw [← h.out, fstV]
    by_cases hk : k = 3
    · exact Or.inl ⟨hk, if_pos hk⟩
    · exact Or.inr ⟨beq_eq_false_iff_ne.2 hk, if_neg hk⟩)
  clear h
  rcases H.out with ⟨rfl, rfl⟩ | ⟨h3, rfl⟩
  all_goals
    clear H
    go_enter Tryz.func91, Tryz.ntmps91
    go_wp2
    go_ret
    exact ⟨rfl, rfl⟩
theorem least_to (b : Nat) (k f : Int) (w : World) (hk : w.cell? ⟨b, 0, none⟩ = some (.int .i64 k)) (h : Hid (lstV k = f)) :
    Calls Tryz.prog 166 #[.pointer (some ⟨b, 0, none⟩)] w fun e w' => e = .returned (.int .i64 f) ∧ w = w' := by
  have H : Hid (k = 2 ∧ f = 3 ∨ k = 3 ∧ f = 3 ∨ (k == 2) = false ∧ (k == 3) = false ∧ f = 1) := Lib.hid (by
    rw [← h.out, lstV]
    by_cases h2 : k = 2
    · exact Or.inl ⟨h2, if_pos (Or.inl h2)⟩
    · by_cases h3 : k = 3
      · exact Or.inr (Or.inl ⟨h3, if_pos (Or.inr h3)⟩)
      · exact Or.inr (Or.inr ⟨beq_eq_false_iff_ne.2 h2, beq_eq_false_iff_ne.2 h3, if_neg (by omega)⟩))
  clear h
  rcases H.out with ⟨rfl, rfl⟩ | ⟨rfl, rfl⟩ | ⟨h2, h3, rfl⟩
  all_goals
    clear H
    go_enter Tryz.func166, Tryz.ntmps166
    go_wp2
    go_ret
    exact ⟨rfl, rfl⟩
end Wrd
end Go.Proofs.YtpcnpacllkiieaaGreatDoor
