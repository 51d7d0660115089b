/-
  solsticeref21.On, its whole answer. (Written by gen/gen_ency.py.)
-/
import Derived.Test.YtkbgobbkhiaabaaEncH
import Derived.Test.YtkbgobbkhiaabaaBdS
import Derived.Test.YtkbgobbkhiaabaaHeldR
import Derived.Deep.RegionHeld3
import Derived.Deep.RegionWith
namespace Go.Proofs.Ytkbgobbkhiaabaa
open Go.RowKit
namespace Enc
open Wk Cel
open Rcv (CV RecV LisV IntV DayV aggR)
open Ap (RowI Grew)
def Agg16 (u : Value) : Prop := ∃ (i0 i1 i2 : Int) (b3 : Bool) (i4 : Int) (b5 : Bool) (a6 a7 a8 a9 a10 a11 a12 a13 a14 : Option Addr) (n6 c6 n7 c7 n8 c8 n9 c9 n10 c10 n11 c11 n12 c12 n13 c13 n14 c14 : Nat) (i15 : Int), u = .agg #[.int .i64 i0, .int .i64 i1, .int .i64 i2, .bool b3, .int .i64 i4, .bool b5, .slice a6 n6 c6, .slice a7 n7 c7, .slice a8 n8 c8, .slice a9 n9 c9, .slice a10 n10 c10, .slice a11 n11 c11, .slice a12 n12 c12, .slice a13 n13 c13, .slice a14 n14 c14, .int .i64 i15]
/-- Behind a call: what lies above lo stays. -/
def KeepA (lo : Nat) (w w' : World) : Prop := (∀ g vs, lo ≤ g → Cs g w vs → Cs g w' vs) ∧ (∀ p : Addr, lo ≤ p.block → p.block < w.heap.size → w'.cell? p = w.cell? p) ∧ w.heap.size ≤ w'.heap.size
theorem KeepA.ints {lo B : Nat} {w w' : World} {v : Value} {L : List Int} (hk : KeepA lo w w') (hB : lo ≤ B) (h : RowI B w v L) : IntV w' v L := by
  by_cases h0 : L.length = 0
  · have hL : L = [] := List.length_eq_zero_iff.1 h0
    subst hL
    obtain ⟨A, c, rfl⟩ := h.forms
    exact ⟨_, _, _, rfl, rfl, fun j hj => by simp at hj⟩
  · obtain ⟨g, c, rfl, hb, hl, hc, _⟩ := h.form (by omega)
    exact ⟨_, _, _, rfl, rfl, fun j hj => ⟨g, 0, rfl, Nat.lt_of_lt_of_le hl hk.2.2, by rw [Nat.zero_add]; exact (hk.2.1 ⟨g, j, none⟩ (Nat.le_trans hB hb) hl).trans (hc j hj)⟩⟩
def RonP (x : Option CV) (w : World) (e : Ending) (w' : World) : Prop := ∃ u, e = .returned (.tuple #[u, .bool x.isSome]) ∧ Agg16 u ∧ (∀ r, x = some r → ∀ w'', KeepA w.heap.size w' w'' → RecV w'' u r) ∧ Below w.heap.size w w'
theorem ron_no {x : Option CV} {w w' : World} {e : Ending} {i0 i1 i2 : Int} {b3 : Bool} {i4 : Int} {b5 : Bool} {a6 a7 a8 a9 a10 a11 a12 a13 a14 : Option Addr} {n6 c6 n7 c7 n8 c8 n9 c9 n10 c10 n11 c11 n12 c12 n13 c13 n14 c14 : Nat} {i15 : Int} (h : none = x) (he : e = .returned (.tuple #[.agg #[.int .i64 i0, .int .i64 i1, .int .i64 i2, .bool b3, .int .i64 i4, .bool b5, .slice a6 n6 c6, .slice a7 n7 c7, .slice a8 n8 c8, .slice a9 n9 c9, .slice a10 n10 c10, .slice a11 n11 c11, .slice a12 n12 c12, .slice a13 n13 c13, .slice a14 n14 c14, .int .i64 i15], .bool false])) (hb : Below w.heap.size w w') : RonP x w e w' := by
  subst h
  exact ⟨_, he, ⟨_, _, _, _, _, _, _, _, _, _, _, _, _, _, _, _, _, _, _, _, _, _, _, _, _, _, _, _, _, _, _, _, _, _, rfl⟩, fun r q => absurd q (by simp), hb⟩
theorem ron_yes {x : Option CV} {month : Int} {dy : List (Int × Int)} {md : List Int} {dv mv : Value} {gm : Nat} {w w' : World} {e : Ending} (h : some (rcv month dy md) = x) (he : e = .returned (.tuple #[.agg #[.int .i64 7, .int .i64 1, .int .i64 0, .bool false, .int .i64 0, .bool false, .slice none 0 0, .slice none 0 0, .slice none 0 0, dv, mv, .slice none 0 0, .slice none 0 0, .slice (some ⟨gm, 0, none⟩) 1 1, .slice none 0 0, .int .i64 1], .bool true])) (h9 : ∀ w'', KeepA w.heap.size w' w'' → DayV w'' dv dy) (h10 : ∀ w'', KeepA w.heap.size w' w'' → IntV w'' mv md) (hgm : w.heap.size ≤ gm) (h13 : Cs gm w' [.int .i64 month]) (hb : Below w.heap.size w w') : RonP x w e w' := by
  subst h
  have kr : KeepA w.heap.size w' w' := ⟨fun _ _ _ h => h, fun _ _ _ => rfl, Nat.le_refl _⟩
  obtain ⟨da, dn, dc, hdv, _⟩ := h9 w' kr
  obtain ⟨ma, mn, mc, hmv, _⟩ := h10 w' kr
  subst hdv hmv
  refine ⟨_, he, ⟨_, _, _, _, _, _, _, _, _, _, _, _, _, _, _, _, _, _, _, _, _, _, _, _, _, _, _, _, _, _, _, _, _, _, rfl⟩, fun r q w'' hk => ?_, hb⟩
  obtain rfl := Option.some.inj q
  exact ⟨_, _, _, _, _, _, _, _, _, rfl, ⟨IntV.none _, IntV.none _, IntV.none _, h9 _ hk, h10 _ hk, IntV.none _, IntV.none _, Rcv.int_one (hk.1 _ _ hgm h13), IntV.none _⟩⟩
theorem rin_to (n lo hi : Int) (b : Bool) (w : World) (h : decide (lo ≤ n ∧ n ≤ hi) = b) :
    Calls Try.prog 18 #[.int .i64 n, .int .i64 lo, .int .i64 hi] w fun e w' => e = .returned (.bool b) ∧ w = w' := by
  go_enter Try.func18, Try.ntmps18
  by_cases h1 : lo ≤ n
  · by_cases h2 : n ≤ hi
    · have hb : b = true := by rw [← h]; exact decide_eq_true ⟨h1, h2⟩
      subst hb
      clear h
      go_wp2
      go_ret
      exact ⟨rfl, rfl⟩
    · have hb : b = false := by rw [← h]; exact decide_eq_false (fun q => h2 q.2)
      subst hb
      clear h
      go_wp2
      go_ret
      exact ⟨rfl, rfl⟩
  · have hb : b = false := by rw [← h]; exact decide_eq_false (fun q => h1 q.1)
    subst hb
    clear h
    go_wp2
    go_ret
    exact ⟨rfl, rfl⟩
theorem rlen_l (y m L : Int) (w : World) (a1 : -9223372036854775808 ≤ y) (a2 : y ≤ 9223372036854775807) (h : Hid (Cal.mlen y m = L)) :
    Calls Try.prog 22 #[.int .i64 y, .int .i64 m] w fun e w' => e = .returned (.int .i64 L) ∧ Below w.heap.size w w' :=
  (Civ.rlen_any y m w a1 a2).mono fun _ _ ⟨he, n, hw⟩ => ⟨by rw [he, h.out], by rw [hw]; exact ⟨rfl, rfl, rfl, Nat.le_refl _, fun _ _ => rfl⟩⟩
theorem rdiv_l (a b q r : Int) (w : World) (h1 : 1 ≤ b) (hb : b ≤ 4611686018427387904) (a1 : -9223372036854775808 ≤ a) (a2 : a ≤ 9223372036854775807) (hq : a / b = q) (hr : a % b = r) :
    Calls Try.prog 19 #[.int .i64 a, .int .i64 b] w fun e w' => e = .returned (.tuple #[.int .i64 q, .int .i64 r]) ∧ Below w.heap.size w w' :=
  (Civ.rdiv_any a b w h1 hb a1 a2).mono fun _ _ ⟨he, n, hw⟩ => ⟨by rw [he, hq, hr], by rw [hw]; exact ⟨rfl, rfl, rfl, Nat.le_refl _, fun _ _ => rfl⟩⟩
def find_ (n : Nat) : Code → Option Code
  | .seq a b => if starts n a = true then some (.seq a b) else (find_ n a).orElse (fun _ => find_ n b)
  | .cond _ a b => (find_ n a).orElse (fun _ => find_ n b)
  | .block _ a => find_ n a
  | .scope a => find_ n a
  | c => if starts n c = true then some c else none
noncomputable def codeY : Code := (Try.f8.body.bind (from_ 10)).getD .skip
end Enc
end Go.Proofs.Ytkbgobbkhiaabaa
