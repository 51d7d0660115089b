/-
  EncodeDays: the statement proved: for every input the law answers true, and each argument reads as it did. Conditions: the row's own (the listed package-level tables hold what the program's text lays).
-/
import Derived.Test.YtpbbnkgfheafpaaGreatDoorEdL
import Derived.Test.YtpbbnkgfheafpaaGreatDoorCards
import Derived.Test.YtpbbnkgfheafpaaGreatDoorTie
import Derived.ProofKit
import Derived.OpenShut
import Derived.ShutString
import Derived.Deep.DeepHandedRow
import Derived.Lib.LaidTab
import Derived.LaidMore
import Derived.Stop.LaidErr
namespace Go.Proofs.YtpbbnkgfheafpaaGreatDoor.lawEncodeDays
open Go.ChangeShapes Go.WideShapes Go.ChangeAt Go.RowKit
open Go.ChangeMaps (open_string shut_string)

theorem own : ownKnob Tryz.prog.godebug = none := by kernel_rfl
theorem laid_plain {W : World} (h : laidMetH Tryz.prog Rows.encodeDaysRow.laid W) : laidMet Tryz.prog Rows.encodeDaysRow.laid W := h
theorem tAhd : (Tryz.prog.globals[0]?).map (·.type) = some 106 := by kernel_rfl
theorem cAhd : Tryz.prog.cellsOf 106 = 12 := by kernel_rfl
theorem cInt : Tryz.prog.cellsOf 3 = 1 := by kernel_rfl
theorem ahd {W : World} (h : laidMetH Tryz.prog Rows.encodeDaysRow.laid W) : Civ.Ahead W :=
  Lib.tabBelow_of_tabIs (Lib.tabIs_of_head (rest := _) Civ.gAhead tAhd Tryz.underlying106 Tryz.underlying3 cInt cAhd (laid_plain h))

set_option maxRecDepth 100000 in
theorem contract (H : Type) (enc : TypeId × Value → H) (W : World) (base : Nat) (args : Array Value) (ds gs : List (DataW H)) (before : List MemPlace)
    (hval : ∀ (j : Nat) t v, Tryz.f3.params[j]? = some t → args[j]? = some v → Value.okWide Tryz.prog W .any base t v)
    (hW : DataW.Whole enc Tryz.prog Tryz.f3.params.toList Rows.encodeDaysSpec.vars false W args.toList ds gs before) (hL : laidMetH Tryz.prog Rows.encodeDaysRow.laid W) :
    Calls Tryz.prog 3 args W fun e W' => ∃ v, e = .returned v ∧ Rows.encodeDaysSpec.post enc Tryz.prog Tryz.f3 false true false false W args v W' := by
  have hW' := hW
  obtain ⟨p, q, hA0, hV, rfl, hfz, hnd⟩ := hW
  have hA : DataW.TrodAll enc Tryz.prog W 0 (fun _ => true) true Tryz.f3.params.toList args.toList ds p := hA0
  rw [Tryz.params3] at hA hval
  obtain ⟨v0, vs0, d0, ds0, p0, q0, hargs0, rfl, rfl, h0, r0⟩ := trodAll_cons hA
  obtain ⟨v1, vs1, d1, ds1, p1, q1, hargs1, rfl, rfl, h1, r1⟩ := trodAll_cons r0
  obtain ⟨v2, vs2, d2, ds2, p2, q2, hargs2, rfl, rfl, h2, r2⟩ := trodAll_cons r1
  obtain ⟨v3, vs3, d3, ds3, p3, q3, hargs3, rfl, rfl, h3, r3⟩ := trodAll_cons r2
  obtain ⟨v4, vs4, d4, ds4, p4, q4, hargs4, rfl, rfl, h4, r4⟩ := trodAll_cons r3
  obtain ⟨v5, vs5, d5, ds5, p5, q5, hargs5, rfl, rfl, h5, r5⟩ := trodAll_cons r4
  obtain ⟨v6, vs6, d6, ds6, p6, q6, hargs6, rfl, rfl, h6, r6⟩ := trodAll_cons r5
  obtain ⟨rfl, rfl, rfl⟩ := trodAll_nil r6
  subst hargs6
  subst hargs5
  subst hargs4
  subst hargs3
  subst hargs2
  subst hargs1
  obtain rfl : args = #[v0, v1, v2, v3, v4, v5, v6] := by cases args; simp_all
  obtain ⟨rfl, rfl⟩ := trodVars_none hV
  obtain ⟨month, rfl, rfl, rfl, wf_month⟩ := open_int Tryz.underlying3 (hval 0 3 v0 rfl rfl) h0
  have bd_month := bounds_i64 wf_month
  obtain ⟨kind, rfl, rfl, rfl, wf_kind⟩ := open_int Tryz.underlying3 (hval 1 3 v1 rfl rfl) h1
  have bd_kind := bounds_i64 wf_kind
  obtain ⟨w_, rfl, rfl, rfl, wf_w_⟩ := open_int Tryz.underlying3 (hval 2 3 v2 rfl rfl) h2
  have bd_w_ := bounds_i64 wf_w_
  obtain ⟨d, rfl, rfl, rfl, wf_d⟩ := open_int Tryz.underlying3 (hval 3 3 v3 rfl rfl) h3
  have bd_d := bounds_i64 wf_d
  obtain ⟨move, rfl, rfl, rfl, wf_move⟩ := open_int Tryz.underlying3 (hval 4 3 v4 rfl rfl) h4
  have bd_move := bounds_i64 wf_move
  obtain ⟨y, rfl, rfl, rfl, wf_y⟩ := open_int Tryz.underlying3 (hval 5 3 v5 rfl rfl) h5
  have bd_y := bounds_i64 wf_y
  obtain ⟨n, rfl, rfl, rfl, wf_n⟩ := open_int Tryz.underlying3 (hval 6 3 v6 rfl rfl) h6
  have bd_n := bounds_i64 wf_n
  clear hA0
  simp only [List.append_nil] at hW'
  refine (Edy.edays_any month kind w_ d move y n W (ahd hL)).mono fun e W' ⟨he, hb⟩ => ?_
  subst he
  exact ⟨_, rfl, _, _, _, [], [], [], hW', trodAll_cons_mk (shut_bool Tryz.underlying4 _) trodAll_mk0, (trodAll_cons_mk (shut_int Tryz.underlying3 wf_month) (trodAll_cons_mk (shut_int Tryz.underlying3 wf_kind) (trodAll_cons_mk (shut_int Tryz.underlying3 wf_w_) (trodAll_cons_mk (shut_int Tryz.underlying3 wf_d) (trodAll_cons_mk (shut_int Tryz.underlying3 wf_move) (trodAll_cons_mk (shut_int Tryz.underlying3 wf_y) (trodAll_cons_mk (shut_int Tryz.underlying3 wf_n) (trodAll_mk0)))))))), rfl, hb.frame _, fun h => by cases h⟩

def litV : DataW Unit → Value
  | .lit (.int k n) => .int k n
  | .lit (.string s) => .string ⟨s.toArray⟩
  | _ => undef
def litsV : DataW Unit → List Value
  | .agg l => l.map litV
  | d => [litV d]
def aggV : DataW Unit → Array Value
  | .agg l => (l.flatMap litsV).toArray
  | _ => #[]
/-- A world for the witness: the settled one, each listed table holding what its initialiser lays. -/
def setCells (h : Array Obj) (g : Nat) (vs : Array Value) : Array Obj := h.modify g fun
  | .cells _ t frozen => .cells vs t frozen
  | o => o
noncomputable def laidWorld (os : Os) : World :=
  { World.holding Tryz.prog os ⟨#[], #[], []⟩ with heap := (setCells (World.holding Tryz.prog os ⟨#[], #[], []⟩).heap 0 (aggV Rows.laid_solstice_civil_ahead)) }
theorem laid_met (os : Os) : laidMet Tryz.prog Rows.encodeDaysRow.laid ((laidWorld os).forCall (fun _ _ => 0) ⟨#[], #[Value.int .i64 0, Value.int .i64 0, Value.int .i64 0, Value.int .i64 0, Value.int .i64 0, Value.int .i64 0, Value.int .i64 0], []⟩).memory :=
  laidMet_of_run' 8 (by kernel_rfl) (by kernel_rfl)
theorem reads (os : Os) {H : Type} (enc : TypeId × Value → H) : ∃ places, DataW.whole enc Tryz.prog ((laidWorld os).forCall (fun _ _ => 0) ⟨#[], #[Value.int .i64 0, Value.int .i64 0, Value.int .i64 0, Value.int .i64 0, Value.int .i64 0, Value.int .i64 0, Value.int .i64 0], []⟩).memory Tryz.f3.params.toList Rows.encodeDaysSpec.vars false #[Value.int .i64 0, Value.int .i64 0, Value.int .i64 0, Value.int .i64 0, Value.int .i64 0, Value.int .i64 0, Value.int .i64 0].toList 8 = some ([.lit (.int .i64 0), .lit (.int .i64 0), .lit (.int .i64 0), .lit (.int .i64 0), .lit (.int .i64 0), .lit (.int .i64 0), .lit (.int .i64 0)], [], places) :=
  ⟨[], by kernel_rfl⟩

set_option maxRecDepth 100000 in
theorem lifted (os : Os) (started : os.Started) (H : Type) (enc : TypeId × Value → H) (F : Stop.Interp) :
    ReturnsInHanded {} Tryz.checked os 3 .any ((OpenSpec.ofChange Rows.encodeDaysSpec).preRow enc Tryz.prog Tryz.f3 Rows.encodeDaysRow.domain false Rows.encodeDaysRow.laid) (((OpenSpec.ofChange Rows.encodeDaysSpec).at F).post enc Tryz.prog Tryz.f3 false true false false) := by
  obtain ⟨places, hx⟩ := reads os enc
  refine returnsInHanded_of_row (C := Tryz.checked) (s := OpenSpec.ofChange Rows.encodeDaysSpec) own started (by kernel_rfl) Tryz.func3
    (witness_row_at (enc := enc) (C := Tryz.checked) false (laidWorld os) #[Value.int .i64 0, Value.int .i64 0, Value.int .i64 0, Value.int .i64 0, Value.int .i64 0, Value.int .i64 0, Value.int .i64 0] rfl (by kernel_rfl) (by kernel_rfl) (by kernel_rfl)
      (OpenSpec.preRow_of_cond 8 hx (by kernel_rfl) (fun k hk => by cases hk) (by kernel_rfl) (laid_met os))) ?_
  intro W base args ds gs before hval hW _ _ _ hL _ _
  exact contract H enc W base args ds gs before hval hW hL

theorem said : Rows.EncodeDaysSaid :=
  OpenClaim.holds_of_cond 3 Tryz.f3 rfl rfl rfl rfl rfl rfl rfl ⟨rfl, rfl, rfl, rfl, rfl⟩ rfl rfl rfl rfl rfl (by kernel_rfl) Tryz.func3 (by kernel_rfl)
    (of_decide_eq_true (by kernel_rfl)) (by unfold Func.isWrapper; rw [if_neg (by decide +kernel)]; exact ⟨rfl, rfl⟩)
    (fun os started H enc _ F => by rw [OpenClaim.pre_eq_preRow]; exact lifted os started H enc F)

theorem plain (f : FuncId) (fn : Func) (hf : Tryz.pinned.checked.prog.funcNamed "solstice/solsticelaw24.EncodeDays" = some f) (hfn : Tryz.pinned.checked.prog.funcs[f]? = some fn) :
    false = Tryz.pinned.checked.prog.looks [] ∧ ∀ (j : Nat) t, fn.params[j]? = some t → Tryz.pinned.checked.prog.wantsStandIn t = false := by
  obtain rfl : f = 3 := Option.some.inj ((show Tryz.prog.funcNamed "solstice/solsticelaw24.EncodeDays" = some 3 by kernel_rfl).symm.trans hf) |>.symm
  obtain rfl : fn = Tryz.f3 := (Option.some.inj (Tryz.func3.symm.trans hfn)).symm
  refine ⟨by kernel_rfl, fun j t ht => ?_⟩
  rw [Tryz.params3] at ht
  have hm : t ∈ [3, 3, 3, 3, 3, 3, 3] := by have := Array.mem_of_getElem? ht; simpa using this
  have hall : ([3, 3, 3, 3, 3, 3, 3].all fun u => !Tryz.prog.wantsStandIn u) = true := by kernel_rfl
  have h3 : (!Tryz.prog.wantsStandIn t) = true := List.all_eq_true.1 hall t hm
  show Tryz.prog.wantsStandIn t = false
  cases hb : Tryz.prog.wantsStandIn t with
  | false => rfl
  | true => rw [hb] at h3; cases h3

/-- The card. -/
theorem card : Rows.EncodeDaysCardSaid :=
  Claim7.holds_tied_plain_at .later [] _ _ _ _ said (fun _ h => by cases h) (by kernel_rfl) (fun _ h => by cases h) encodeDays_row_tie rfl ⟨rfl, rfl⟩ (by kernel_rfl) rfl plain (by kernel_rfl)
#print axioms card
end Go.Proofs.YtpbbnkgfheafpaaGreatDoor.lawEncodeDays
