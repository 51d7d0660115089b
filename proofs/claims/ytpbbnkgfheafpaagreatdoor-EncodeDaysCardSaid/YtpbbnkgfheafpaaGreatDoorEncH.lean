/-
  encode.On, its whole answer. (Written by gen/gen_encx.py.)
-/
import Derived.Test.YtpbbnkgfheafpaaGreatDoorEncD
import Derived.Test.YtpbbnkgfheafpaaGreatDoorBdCl
import Derived.Deep.DeepCutAuto
namespace Go.Proofs.YtpbbnkgfheafpaaGreatDoor
open Go.RowKit
namespace Enc
open Wk Cel
open Rcv (CV RecV LisV IntV DayV aggR)
open Ap (RowI Grew)
theorem cells16 {g : Nat} {w : World} {v0 v1 v2 v3 v4 v5 v6 v7 v8 v9 v10 v11 v12 v13 v14 v15 : Value} (h : Cs g w [v0, v1, v2, v3, v4, v5, v6, v7, v8, v9, v10, v11, v12, v13, v14, v15]) : (w.cell? ⟨g, 0, none⟩ = some v0 ∧ w.cell? ⟨g, 1, none⟩ = some v1 ∧ w.cell? ⟨g, 2, none⟩ = some v2 ∧ w.cell? ⟨g, 3, none⟩ = some v3 ∧ w.cell? ⟨g, 4, none⟩ = some v4 ∧ w.cell? ⟨g, 5, none⟩ = some v5 ∧ w.cell? ⟨g, 6, none⟩ = some v6 ∧ w.cell? ⟨g, 7, none⟩ = some v7 ∧ w.cell? ⟨g, 8, none⟩ = some v8 ∧ w.cell? ⟨g, 9, none⟩ = some v9 ∧ w.cell? ⟨g, 10, none⟩ = some v10 ∧ w.cell? ⟨g, 11, none⟩ = some v11 ∧ w.cell? ⟨g, 12, none⟩ = some v12 ∧ w.cell? ⟨g, 13, none⟩ = some v13 ∧ w.cell? ⟨g, 14, none⟩ = some v14 ∧ w.cell? ⟨g, 15, none⟩ = some v15) ∧ w.frozen? ⟨g, 0, none⟩ = false ∧ w.frozen? ⟨g, 1, none⟩ = false ∧ w.frozen? ⟨g, 2, none⟩ = false ∧ w.frozen? ⟨g, 3, none⟩ = false ∧ w.frozen? ⟨g, 4, none⟩ = false ∧ w.frozen? ⟨g, 5, none⟩ = false ∧ w.frozen? ⟨g, 6, none⟩ = false ∧ w.frozen? ⟨g, 7, none⟩ = false ∧ w.frozen? ⟨g, 8, none⟩ = false ∧ w.frozen? ⟨g, 9, none⟩ = false ∧ w.frozen? ⟨g, 10, none⟩ = false ∧ w.frozen? ⟨g, 11, none⟩ = false ∧ w.frozen? ⟨g, 12, none⟩ = false ∧ w.frozen? ⟨g, 13, none⟩ = false ∧ w.frozen? ⟨g, 14, none⟩ = false ∧ w.frozen? ⟨g, 15, none⟩ = false :=
  ⟨⟨(h.2 0 _ rfl).1, (h.2 1 _ rfl).1, (h.2 2 _ rfl).1, (h.2 3 _ rfl).1, (h.2 4 _ rfl).1, (h.2 5 _ rfl).1, (h.2 6 _ rfl).1, (h.2 7 _ rfl).1, (h.2 8 _ rfl).1, (h.2 9 _ rfl).1, (h.2 10 _ rfl).1, (h.2 11 _ rfl).1, (h.2 12 _ rfl).1, (h.2 13 _ rfl).1, (h.2 14 _ rfl).1, (h.2 15 _ rfl).1⟩, (h.2 0 _ rfl).2, (h.2 1 _ rfl).2, (h.2 2 _ rfl).2, (h.2 3 _ rfl).2, (h.2 4 _ rfl).2, (h.2 5 _ rfl).2, (h.2 6 _ rfl).2, (h.2 7 _ rfl).2, (h.2 8 _ rfl).2, (h.2 9 _ rfl).2, (h.2 10 _ rfl).2, (h.2 11 _ rfl).2, (h.2 12 _ rfl).2, (h.2 13 _ rfl).2, (h.2 14 _ rfl).2, (h.2 15 _ rfl).2⟩
theorem set16 {g : Nat} {w : World} {v0 v1 v2 v3 v4 v5 v6 v7 v8 v9 v10 v11 v12 v13 v14 v15 : Value} (h : Cs g w [v0, v1, v2, v3, v4, v5, v6, v7, v8, v9, v10, v11, v12, v13, v14, v15]) (u0 u1 u2 u3 u4 u5 u6 u7 u8 u9 u10 u11 u12 u13 u14 u15 : Value) : Cs g ((((((((((((((((w.setCell ⟨g, 0, none⟩ u0).setCell ⟨g, 1, none⟩ u1).setCell ⟨g, 2, none⟩ u2).setCell ⟨g, 3, none⟩ u3).setCell ⟨g, 4, none⟩ u4).setCell ⟨g, 5, none⟩ u5).setCell ⟨g, 6, none⟩ u6).setCell ⟨g, 7, none⟩ u7).setCell ⟨g, 8, none⟩ u8).setCell ⟨g, 9, none⟩ u9).setCell ⟨g, 10, none⟩ u10).setCell ⟨g, 11, none⟩ u11).setCell ⟨g, 12, none⟩ u12).setCell ⟨g, 13, none⟩ u13).setCell ⟨g, 14, none⟩ u14).setCell ⟨g, 15, none⟩ u15) [u0, u1, u2, u3, u4, u5, u6, u7, u8, u9, u10, u11, u12, u13, u14, u15] :=
  ((((((((((((((((h.set 0 (by simp) u0).set 1 (by simp) u1).set 2 (by simp) u2).set 3 (by simp) u3).set 4 (by simp) u4).set 5 (by simp) u5).set 6 (by simp) u6).set 7 (by simp) u7).set 8 (by simp) u8).set 9 (by simp) u9).set 10 (by simp) u10).set 11 (by simp) u11).set 12 (by simp) u12).set 13 (by simp) u13).set 14 (by simp) u14).set 15 (by simp) u15)
theorem other16 {g b : Nat} {w : World} {vs : List Value} (hne : g ≠ b) (h : Cs b w vs) (u0 u1 u2 u3 u4 u5 u6 u7 u8 u9 u10 u11 u12 u13 u14 u15 : Value) : Cs b ((((((((((((((((w.setCell ⟨g, 0, none⟩ u0).setCell ⟨g, 1, none⟩ u1).setCell ⟨g, 2, none⟩ u2).setCell ⟨g, 3, none⟩ u3).setCell ⟨g, 4, none⟩ u4).setCell ⟨g, 5, none⟩ u5).setCell ⟨g, 6, none⟩ u6).setCell ⟨g, 7, none⟩ u7).setCell ⟨g, 8, none⟩ u8).setCell ⟨g, 9, none⟩ u9).setCell ⟨g, 10, none⟩ u10).setCell ⟨g, 11, none⟩ u11).setCell ⟨g, 12, none⟩ u12).setCell ⟨g, 13, none⟩ u13).setCell ⟨g, 14, none⟩ u14).setCell ⟨g, 15, none⟩ u15) vs :=
  ((((((((((((((((h.other hne _).other hne _).other hne _).other hne _).other hne _).other hne _).other hne _).other hne _).other hne _).other hne _).other hne _).other hne _).other hne _).other hne _).other hne _).other hne _)
theorem below16 {w0 w : World} {g : Nat} (hg : w0.heap.size ≤ g) (h : Below w0.heap.size w0 w) (u0 u1 u2 u3 u4 u5 u6 u7 u8 u9 u10 u11 u12 u13 u14 u15 : Value) : Below w0.heap.size w0 ((((((((((((((((w.setCell ⟨g, 0, none⟩ u0).setCell ⟨g, 1, none⟩ u1).setCell ⟨g, 2, none⟩ u2).setCell ⟨g, 3, none⟩ u3).setCell ⟨g, 4, none⟩ u4).setCell ⟨g, 5, none⟩ u5).setCell ⟨g, 6, none⟩ u6).setCell ⟨g, 7, none⟩ u7).setCell ⟨g, 8, none⟩ u8).setCell ⟨g, 9, none⟩ u9).setCell ⟨g, 10, none⟩ u10).setCell ⟨g, 11, none⟩ u11).setCell ⟨g, 12, none⟩ u12).setCell ⟨g, 13, none⟩ u13).setCell ⟨g, 14, none⟩ u14).setCell ⟨g, 15, none⟩ u15) :=
  ((((((((((((((((h.setCell hg _).setCell hg _).setCell hg _).setCell hg _).setCell hg _).setCell hg _).setCell hg _).setCell hg _).setCell hg _).setCell hg _).setCell hg _).setCell hg _).setCell hg _).setCell hg _).setCell hg _).setCell hg _)
theorem res_by {P : Program} {fn : Func} {tmps : Array Value} {g : Nat} {W : World} {vs : List Value} {v : Value} (h : Cs g W vs) (k : ∀ W', Cs g W' vs → (results fn tmps).run P W' = .ok v W') : (results fn tmps).run P W = .ok v W := k W h
def BlkIs (lo : Nat) (w : World) (x : Value) (vs : List Value) : Prop := ∃ g, x = .pointer (some ⟨g, 0, none⟩) ∧ lo ≤ g ∧ Cs g w vs
theorem BlkIs.newer {lo : Nat} {w : World} (h : lo ≤ w.heap.size) (vs : List Value) (t : TypeId) : BlkIs lo (w.alloc (Obj.cells vs.toArray t)) (.pointer (some ⟨w.heap.size, 0, none⟩)) vs := ⟨_, rfl, h, Cs.new _ _ _⟩
theorem cs_newset (w : World) (a : Addr) (x : Value) (vs : List Value) (t : TypeId) : Cs w.heap.size ((w.setCell a x).alloc (Obj.cells vs.toArray t)) vs := by
  have := Cs.new (w.setCell a x) vs t
  rwa [show (w.setCell a x).heap.size = w.heap.size by simp [World.setCell]] at this
def sevL (a : Int) (j : Nat) : List Int := (List.range j).map (fun i : Nat => a + (i : Int))
theorem sev_succ (a : Int) (j : Nat) : sevL a (j + 1) = sevL a j ++ [a + (j : Int)] := by simp [sevL, List.range_succ]
theorem sev_len (a : Int) (j : Nat) : (sevL a j).length = j := by simp [sevL]
def rcv (month : Int) (dy : List (Int × Int)) (md : List Int) : CV := ⟨7, 1, 0, false, 0, false, [], [], [], dy, md, [], [], [month], [], 1⟩
/-- What a form's rule is, moved; none: it is not encoded. -/
def enR (month k v d m : Int) : Option CV :=
  if k = 2 then (if m = 0 then some (rcv month [(-1, v)] []) else none)
  else if m < -40 ∨ 40 < m then none
  else if Cal.mlen 2001 month < d ∨ fromV k d m < 1 ∨ Cal.mlen 2001 month < toV k d m then none
  else if k = 1 then some (rcv month [] [d + m])
  else if fromV k d m % 7 = 1 ∧ fromV k d m ≤ 22 then some (rcv month [(fromV k d m / 7 + 1, (v + m) % 7)] [])
  else some (rcv month [(0, (v + m) % 7)] (sevL (fromV k d m) 7))
def unO (r : Option CV) : CV × Int := match r with | none => (CV.zero, 17) | some r => (r, 0)
def enO (month k v d m : Int) : CV × Int := unO (enR month k v d m)
def starts (n : Nat) : Code → Bool
  | .region k _ _ => k == n
  | .seq a _ => starts n a
  | .scope a => starts n a
  | .block _ a => starts n a
  | _ => false
def from_ (n : Nat) : Code → Option Code
  | .seq a b => if starts n a = true then some (.seq a b) else from_ n b
  | c => if starts n c = true then some c else none
def EonQ (x : CV) (c : Int) (w : World) (e : Ending) (w' : World) : Prop := ∃ u, e = .returned (.tuple #[u, .int .i64 c]) ∧ RecV w' u x ∧ Below w.heap.size w w'
def zag : Value := .agg #[.int .i64 0, .int .i64 0, .int .i64 0, .bool false, .int .i64 0, .bool false, .slice none 0 0, .slice none 0 0, .slice none 0 0, .slice none 0 0, .slice none 0 0, .slice none 0 0, .slice none 0 0, .slice none 0 0, .slice none 0 0, .int .i64 0]
theorem eon_no {x : CV} {c : Int} {w w' : World} {e : Ending} (h : (CV.zero, c) = (x, c)) (he : e = .returned (.tuple #[.agg #[.int .i64 0, .int .i64 0, .int .i64 0, .bool false, .int .i64 0, .bool false, .slice none 0 0, .slice none 0 0, .slice none 0 0, .slice none 0 0, .slice none 0 0, .slice none 0 0, .slice none 0 0, .slice none 0 0, .slice none 0 0, .int .i64 0], .int .i64 c])) (hb : Below w.heap.size w w') : EonQ x c w e w' := by
  obtain ⟨rfl, _⟩ := Prod.mk.inj h
  exact ⟨_, he, ⟨_, _, _, _, _, _, _, _, _, rfl, ⟨IntV.none _, IntV.none _, IntV.none _, DayV.none _, IntV.none _, IntV.none _, IntV.none _, IntV.none _, IntV.none _⟩⟩, hb⟩
theorem eon_yes {month : Int} {dy : List (Int × Int)} {md : List Int} {dv mv : Value} {gm : Nat} {w w' : World} {e : Ending} (he : e = .returned (.tuple #[.agg #[.int .i64 7, .int .i64 1, .int .i64 0, .bool false, .int .i64 0, .bool false, .slice none 0 0, .slice none 0 0, .slice none 0 0, dv, mv, .slice none 0 0, .slice none 0 0, .slice (some ⟨gm, 0, none⟩) 1 1, .slice none 0 0, .int .i64 1], .int .i64 0])) (h9 : DayV w' dv dy) (h10 : IntV w' mv md) (h13 : Cs gm w' [.int .i64 month]) (hb : Below w.heap.size w w') : EonQ (rcv month dy md) 0 w e w' :=
  ⟨_, he, ⟨_, _, _, _, _, _, _, _, _, rfl, ⟨IntV.none _, IntV.none _, IntV.none _, h9, h10, IntV.none _, IntV.none _, Rcv.int_one h13, IntV.none _⟩⟩, hb⟩
theorem chk_b (k v d c : Int) (w : World) (h : Hid (chE k v d = c)) :
    Calls Tryz.prog 12 #[.agg #[.int .i64 k, .int .i64 v, .int .i64 d]] w fun e w' => e = .returned (.int .i64 c) ∧ Below w.heap.size w w' :=
  (check_at k v d c w h).mono fun _ _ ⟨he, hw⟩ => ⟨he, by rw [← hw]; exact (Below.refl _ _).alloc (Nat.le_refl _) _⟩
/-- What stands behind the rule's own block: the month's row, the rule. -/
def EnB (lo : Nat) (w : World) (x : Value) (month : Int) : Prop := ∃ gm gr, x = .pointer (some ⟨gr, 0, none⟩) ∧ lo ≤ gm ∧ lo ≤ gr ∧ gm ≠ gr ∧ Cs gm w [.int .i64 month] ∧ Cs gr w [.int .i64 7, .int .i64 1, .int .i64 0, .bool false, .int .i64 0, .bool false, .slice none 0 0, .slice none 0 0, .slice none 0 0, .slice none 0 0, .slice none 0 0, .slice none 0 0, .slice none 0 0, .slice (some ⟨gm, 0, none⟩) 1 1, .slice none 0 0, .int .i64 1]
theorem EnB.new (w : World) (month : Int) (t1 t2 : TypeId) : EnB w.heap.size ((w.alloc (Obj.cells #[.int .i64 month] t1)).alloc (Obj.cells #[.int .i64 7, .int .i64 1, .int .i64 0, .bool false, .int .i64 0, .bool false, .slice none 0 0, .slice none 0 0, .slice none 0 0, .slice none 0 0, .slice none 0 0, .slice none 0 0, .slice none 0 0, .slice (some ⟨w.heap.size, 0, none⟩) 1 1, .slice none 0 0, .int .i64 1] t2)) (.pointer (some ⟨w.heap.size + 1, 0, none⟩)) month := by
  refine ⟨w.heap.size, w.heap.size + 1, rfl, Nat.le_refl _, Nat.le_succ _, by omega, (Cs.new w [.int .i64 month] t1).alloc _, ?_⟩
  have := Cs.new (w.alloc (Obj.cells #[.int .i64 month] t1)) [.int .i64 7, .int .i64 1, .int .i64 0, .bool false, .int .i64 0, .bool false, .slice none 0 0, .slice none 0 0, .slice none 0 0, .slice none 0 0, .slice none 0 0, .slice none 0 0, .slice none 0 0, .slice (some ⟨w.heap.size, 0, none⟩) 1 1, .slice none 0 0, .int .i64 1] t2
  rwa [show (w.alloc (Obj.cells #[.int .i64 month] t1)).heap.size = w.heap.size + 1 by simp] at this
/-- The days of the month, as they stand in the rule's block. -/
def EnM (gr gm B : Nat) (w : World) (md : List Int) : Prop := ∃ mv, Cs gr w [.int .i64 7, .int .i64 1, .int .i64 0, .bool false, .int .i64 0, .bool false, .slice none 0 0, .slice none 0 0, .slice none 0 0, .slice none 0 0, mv, .slice none 0 0, .slice none 0 0, .slice (some ⟨gm, 0, none⟩) 1 1, .slice none 0 0, .int .i64 1] ∧ RowI B w mv md
theorem cs_grew {g B : Nat} {v : Value} {w w' : World} {vs : List Value} (h : Cs g w vs) (hg : Grew B v w w') (hne : some g ≠ v.ownBlock) : Cs g w' vs :=
  ⟨Nat.lt_of_lt_of_le h.1 hg.size, fun i x hi => ⟨(hg.cell (p := ⟨g, i, none⟩) h.1 hne).trans (h.2 i x hi).1, (hg.frozen (p := ⟨g, i, none⟩) h.1 hne).trans (h.2 i x hi).2⟩⟩
theorem own_ne {B g : Nat} {w : World} {v : Value} {L : List Int} (h : RowI B w v L) (hg : g < B) : some g ≠ v.ownBlock := fun e => by
  have := (World.ownsRow.lt h g e.symm).1
  omega
theorem row_set {B g : Nat} {w : World} {v : Value} {L : List Int} (h : RowI B w v L) (hg : g < B) (i : Nat) (x : Value) : RowI B (w.setCell ⟨g, i, none⟩ x) v L := ownsRow_setCell_below h hg x
theorem row16 {B g : Nat} {w : World} {v : Value} {L : List Int} (h : RowI B w v L) (hg : g < B) (u0 u1 u2 u3 u4 u5 u6 u7 u8 u9 u10 u11 u12 u13 u14 u15 : Value) : RowI B ((((((((((((((((w.setCell ⟨g, 0, none⟩ u0).setCell ⟨g, 1, none⟩ u1).setCell ⟨g, 2, none⟩ u2).setCell ⟨g, 3, none⟩ u3).setCell ⟨g, 4, none⟩ u4).setCell ⟨g, 5, none⟩ u5).setCell ⟨g, 6, none⟩ u6).setCell ⟨g, 7, none⟩ u7).setCell ⟨g, 8, none⟩ u8).setCell ⟨g, 9, none⟩ u9).setCell ⟨g, 10, none⟩ u10).setCell ⟨g, 11, none⟩ u11).setCell ⟨g, 12, none⟩ u12).setCell ⟨g, 13, none⟩ u13).setCell ⟨g, 14, none⟩ u14).setCell ⟨g, 15, none⟩ u15) v L :=
  (row_set (row_set (row_set (row_set (row_set (row_set (row_set (row_set (row_set (row_set (row_set (row_set (row_set (row_set (row_set (row_set h hg 0 _) hg 1 _) hg 2 _) hg 3 _) hg 4 _) hg 5 _) hg 6 _) hg 7 _) hg 8 _) hg 9 _) hg 10 _) hg 11 _) hg 12 _) hg 13 _) hg 14 _) hg 15 _)
end Enc
end Go.Proofs.YtpbbnkgfheafpaaGreatDoor
