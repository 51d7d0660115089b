/-
  RrulePicks: the statement proved: for every input the law answers true, and each argument reads as it did. Conditions: the row's own (the listed package-level tables hold what the program's text lays).
-/
import Derived.Test.YtgaolaafjiiehaaGreatDoorRruLp
import Derived.Test.YtgaolaafjiiehaaGreatDoorCards
import Derived.Test.YtgaolaafjiiehaaGreatDoorTie
import Derived.ProofKit
import Derived.OpenShut
import Derived.ShutString
import Derived.Deep.DeepHandedRow
import Derived.Lib.LaidTab
import Derived.LaidMore
import Derived.Stop.LaidErr
import Derived.Test.YtgaolaafjiiehaaGreatDoorFlat
namespace Go.Proofs.YtgaolaafjiiehaaGreatDoor.lawRrulePicks
open Go.ChangeShapes Go.WideShapes Go.ChangeAt Go.RowKit
open Go.ChangeMaps (open_string shut_string)

theorem own : ownKnob Tryz.prog.godebug = none := by kernel_rfl
theorem laid_plain {W : World} (h : laidMetH Tryz.prog Rows.rrulePicksRow.laid W) : laidMet Tryz.prog Rows.rrulePicksRow.laid W := h
theorem tAhd : (Tryz.prog.globals[0]?).map (·.type) = some 113 := by kernel_rfl
theorem cAhd : Tryz.prog.cellsOf 113 = 12 := by kernel_rfl
theorem cInt : Tryz.prog.cellsOf 3 = 1 := by kernel_rfl
theorem ahd {W : World} (h : laidMetH Tryz.prog Rows.rrulePicksRow.laid W) : Civ.Ahead W :=
  Lib.tabBelow_of_tabIs (Lib.tabIs_of_head (rest := _) Civ.gAhead tAhd Tryz.underlying113 Tryz.underlying3 cInt cAhd (laid_plain h))

set_option maxRecDepth 100000 in
theorem contract (H : Type) (enc : TypeId × Value → H) (W : World) (base : Nat) (args : Array Value) (ds gs : List (DataW H)) (before : List MemPlace)
    (hval : ∀ (j : Nat) t v, Tryz.f3.params[j]? = some t → args[j]? = some v → Value.okWide Tryz.prog W .any base t v)
    (hW : DataW.Whole enc Tryz.prog Tryz.f3.params.toList Rows.rrulePicksSpec.vars false W args.toList ds gs before) (hL : laidMetH Tryz.prog Rows.rrulePicksRow.laid W) :
    Calls Tryz.prog 3 args W fun e W' => ∃ v, e = .returned v ∧ Rows.rrulePicksSpec.post enc Tryz.prog Tryz.f3 false true false false W args v W' := by
  have hW' := hW
  obtain ⟨p, q, hA0, hV, rfl, hfz, hnd⟩ := hW
  have hA : DataW.TrodAll enc Tryz.prog W 0 (fun _ => true) true Tryz.f3.params.toList args.toList ds p := hA0
  rw [Tryz.params3] at hA hval
  obtain ⟨v0, vs0, d0, ds0, p0, q0, hargs0, rfl, rfl, h0, r0⟩ := trodAll_cons hA
  obtain ⟨v1, vs1, d1, ds1, p1, q1, hargs1, rfl, rfl, h1, r1⟩ := trodAll_cons r0
  obtain ⟨v2, vs2, d2, ds2, p2, q2, hargs2, rfl, rfl, h2, r2⟩ := trodAll_cons r1
  obtain ⟨v3, vs3, d3, ds3, p3, q3, hargs3, rfl, rfl, h3, r3⟩ := trodAll_cons r2
  obtain ⟨rfl, rfl, rfl⟩ := trodAll_nil r3
  subst hargs3
  subst hargs2
  subst hargs1
  obtain rfl : args = #[v0, v1, v2, v3] := by cases args; simp_all
  obtain ⟨rfl, rfl⟩ := trodVars_none hV
  have h0k := h0
  obtain ⟨cs_r, rfl, sz_r⟩ := okWide_struct Tryz.underlying25 (hval 0 25 v0 rfl rfl)
  obtain ⟨c_r_0, c_r_1, c_r_2, c_r_3, c_r_4, c_r_5, c_r_6, c_r_7, c_r_8, c_r_9, c_r_10, c_r_11, c_r_12, c_r_13, c_r_14, c_r_15, rfl⟩ := Flat.arr16 (sz_r.trans (by kernel_rfl))
  obtain ⟨fuel0, hf0⟩ := h0
  have lv_r := (Flat.leaves_at 4 25 [3, 3, 3, 4, 3, 4, 22, 22, 22, 23, 22, 22, 22, 22, 22, 3] (by kernel_rfl) fuel0 [c_r_0, c_r_1, c_r_2, c_r_3, c_r_4, c_r_5, c_r_6, c_r_7, c_r_8, c_r_9, c_r_10, c_r_11, c_r_12, c_r_13, c_r_14, c_r_15] _ (by simpa [Value.cells] using hf0)).2
  obtain ⟨n_r_0, y_r_0, hl_r_0⟩ := lv_r 0 3 c_r_0 rfl rfl
  obtain ⟨r_0, ec_r_0, rest_r_0⟩ := DataW.trod_int Tryz.underlying3 hl_r_0
  obtain rfl : c_r_0 = .int .i64 r_0 := by simpa using ec_r_0
  have bd_r_0 := bounds_i64 rest_r_0.2
  obtain ⟨n_r_1, y_r_1, hl_r_1⟩ := lv_r 1 3 c_r_1 rfl rfl
  obtain ⟨r_1, ec_r_1, rest_r_1⟩ := DataW.trod_int Tryz.underlying3 hl_r_1
  obtain rfl : c_r_1 = .int .i64 r_1 := by simpa using ec_r_1
  have bd_r_1 := bounds_i64 rest_r_1.2
  obtain ⟨n_r_2, y_r_2, hl_r_2⟩ := lv_r 2 3 c_r_2 rfl rfl
  obtain ⟨r_2, ec_r_2, rest_r_2⟩ := DataW.trod_int Tryz.underlying3 hl_r_2
  obtain rfl : c_r_2 = .int .i64 r_2 := by simpa using ec_r_2
  have bd_r_2 := bounds_i64 rest_r_2.2
  obtain ⟨n_r_3, y_r_3, hl_r_3⟩ := lv_r 3 4 c_r_3 rfl rfl
  obtain ⟨r_3, ec_r_3, rest_r_3⟩ := DataW.trod_bool Tryz.underlying4 hl_r_3
  obtain rfl : c_r_3 = .bool r_3 := by simpa using ec_r_3
  obtain ⟨n_r_4, y_r_4, hl_r_4⟩ := lv_r 4 3 c_r_4 rfl rfl
  obtain ⟨r_4, ec_r_4, rest_r_4⟩ := DataW.trod_int Tryz.underlying3 hl_r_4
  obtain rfl : c_r_4 = .int .i64 r_4 := by simpa using ec_r_4
  have bd_r_4 := bounds_i64 rest_r_4.2
  obtain ⟨n_r_5, y_r_5, hl_r_5⟩ := lv_r 5 4 c_r_5 rfl rfl
  obtain ⟨r_5, ec_r_5, rest_r_5⟩ := DataW.trod_bool Tryz.underlying4 hl_r_5
  obtain rfl : c_r_5 = .bool r_5 := by simpa using ec_r_5
  obtain ⟨n_r_6, y_r_6, hl_r_6⟩ := lv_r 6 22 c_r_6 rfl rfl
  obtain ⟨r_6, pv_r_6, bd_r_6⟩ := Rct.open_ints hl_r_6
  obtain ⟨n_r_7, y_r_7, hl_r_7⟩ := lv_r 7 22 c_r_7 rfl rfl
  obtain ⟨r_7, pv_r_7, bd_r_7⟩ := Rct.open_ints hl_r_7
  obtain ⟨n_r_8, y_r_8, hl_r_8⟩ := lv_r 8 22 c_r_8 rfl rfl
  obtain ⟨r_8, pv_r_8, bd_r_8⟩ := Rct.open_ints hl_r_8
  obtain ⟨n_r_9, y_r_9, hl_r_9⟩ := lv_r 9 23 c_r_9 rfl rfl
  obtain ⟨r_9, pv_r_9, bd_r_9⟩ := Rct.open_days hl_r_9
  obtain ⟨n_r_10, y_r_10, hl_r_10⟩ := lv_r 10 22 c_r_10 rfl rfl
  obtain ⟨r_10, pv_r_10, bd_r_10⟩ := Rct.open_ints hl_r_10
  obtain ⟨n_r_11, y_r_11, hl_r_11⟩ := lv_r 11 22 c_r_11 rfl rfl
  obtain ⟨r_11, pv_r_11, bd_r_11⟩ := Rct.open_ints hl_r_11
  obtain ⟨n_r_12, y_r_12, hl_r_12⟩ := lv_r 12 22 c_r_12 rfl rfl
  obtain ⟨r_12, pv_r_12, bd_r_12⟩ := Rct.open_ints hl_r_12
  obtain ⟨n_r_13, y_r_13, hl_r_13⟩ := lv_r 13 22 c_r_13 rfl rfl
  obtain ⟨r_13, pv_r_13, bd_r_13⟩ := Rct.open_ints hl_r_13
  obtain ⟨n_r_14, y_r_14, hl_r_14⟩ := lv_r 14 22 c_r_14 rfl rfl
  obtain ⟨r_14, pv_r_14, bd_r_14⟩ := Rct.open_ints hl_r_14
  obtain ⟨n_r_15, y_r_15, hl_r_15⟩ := lv_r 15 3 c_r_15 rfl rfl
  obtain ⟨r_15, ec_r_15, rest_r_15⟩ := DataW.trod_int Tryz.underlying3 hl_r_15
  obtain rfl : c_r_15 = .int .i64 r_15 := by simpa using ec_r_15
  have bd_r_15 := bounds_i64 rest_r_15.2
  clear lv_r
  have hlt0 : ∀ y ∈ p0, y.block < W.heap.size := fun y hy => by simpa using hW'.lt y (by simp [hy])
  obtain ⟨start, rfl, rfl, rfl, wf_start⟩ := open_int Tryz.underlying3 (hval 1 3 v1 rfl rfl) h1
  have bd_start := bounds_i64 wf_start
  obtain ⟨p_, rfl, rfl, rfl, wf_p_⟩ := open_int Tryz.underlying3 (hval 2 3 v2 rfl rfl) h2
  have bd_p_ := bounds_i64 wf_p_
  have h3k := h3
  obtain ⟨ps_A, ps_len, ps_cap, rfl⟩ := okWide_slice Tryz.underlying22 (hval 3 22 v3 rfl rfl)
  obtain ⟨fuel3, hf3⟩ := h3
  obtain ⟨ps, pv_ps, bd_ps⟩ := Rct.open_ints (by simpa [Value.cells] using hf3)
  have hlt3 : ∀ y ∈ p3, y.block < W.heap.size := fun y hy => by simpa using hW'.lt y (by simp [hy])
  clear hA0
  simp only [List.append_nil] at hW'
  refine (Rru.picks_all start p_ _ ps ⟨r_0, r_1, r_2, r_3, r_4, r_5, r_6, r_7, r_8, r_9, r_10, r_11, r_12, r_13, r_14, r_15⟩ c_r_6 c_r_7 c_r_8 c_r_9 c_r_10 c_r_11 c_r_12 c_r_13 c_r_14 W (ahd hL) ⟨pv_r_6, pv_r_7, pv_r_8, pv_r_9, pv_r_10, pv_r_11, pv_r_12, pv_r_13, pv_r_14⟩ bd_r_4.1 bd_r_4.2 pv_ps).mono fun e W' ⟨he, hb⟩ => ?_
  subst he
  exact ⟨_, rfl, _, _, _, [], (p0 ++ p3), [], hW', trodAll_cons_mk (shut_bool Tryz.underlying4 _) trodAll_mk0, (by have q := trodAll_cons_mk (Below.trod (of_decide_eq_true (by kernel_rfl)) (by kernel_rfl) (of_decide_eq_true (by kernel_rfl)) h0k hb hlt0) (trodAll_cons_mk (shut_int Tryz.underlying3 wf_start) (trodAll_cons_mk (shut_int Tryz.underlying3 wf_p_) (trodAll_cons_mk (Below.trod (of_decide_eq_true (by kernel_rfl)) (by kernel_rfl) (of_decide_eq_true (by kernel_rfl)) h3k hb hlt3) (trodAll_mk0)))); simp only [List.append_nil] at q; exact q), rfl, hb.frame _, fun h => by cases h⟩

def litV : DataW Unit → Value
  | .lit (.int k n) => .int k n
  | .lit (.string s) => .string ⟨s.toArray⟩
  | _ => undef
def litsV : DataW Unit → List Value
  | .agg l => l.map litV
  | d => [litV d]
def aggV : DataW Unit → Array Value
  | .agg l => (l.flatMap litsV).toArray
  | _ => #[]
/-- A world for the witness: the settled one, each listed table holding what its initialiser lays. -/
def setCells (h : Array Obj) (g : Nat) (vs : Array Value) : Array Obj := h.modify g fun
  | .cells _ t frozen => .cells vs t frozen
  | o => o
noncomputable def laidWorld (os : Os) : World :=
  { World.holding Tryz.prog os ⟨#[], #[], []⟩ with heap := (setCells (World.holding Tryz.prog os ⟨#[], #[], []⟩).heap 0 (aggV Rows.laid_solstice_civil_ahead)) }
theorem laid_met (os : Os) : laidMet Tryz.prog Rows.rrulePicksRow.laid ((laidWorld os).forCall (fun _ _ => 0) ⟨#[], #[Value.agg #[Value.int .i64 0, Value.int .i64 0, Value.int .i64 0, Value.bool false, Value.int .i64 0, Value.bool false, Value.slice none 0 0, Value.slice none 0 0, Value.slice none 0 0, Value.slice none 0 0, Value.slice none 0 0, Value.slice none 0 0, Value.slice none 0 0, Value.slice none 0 0, Value.slice none 0 0, Value.int .i64 0], Value.int .i64 0, Value.int .i64 0, Value.slice none 0 0], []⟩).memory :=
  laidMet_of_run' 8 (by kernel_rfl) (by kernel_rfl)
theorem reads (os : Os) {H : Type} (enc : TypeId × Value → H) : ∃ places, DataW.whole enc Tryz.prog ((laidWorld os).forCall (fun _ _ => 0) ⟨#[], #[Value.agg #[Value.int .i64 0, Value.int .i64 0, Value.int .i64 0, Value.bool false, Value.int .i64 0, Value.bool false, Value.slice none 0 0, Value.slice none 0 0, Value.slice none 0 0, Value.slice none 0 0, Value.slice none 0 0, Value.slice none 0 0, Value.slice none 0 0, Value.slice none 0 0, Value.slice none 0 0, Value.int .i64 0], Value.int .i64 0, Value.int .i64 0, Value.slice none 0 0], []⟩).memory Tryz.f3.params.toList Rows.rrulePicksSpec.vars false #[Value.agg #[Value.int .i64 0, Value.int .i64 0, Value.int .i64 0, Value.bool false, Value.int .i64 0, Value.bool false, Value.slice none 0 0, Value.slice none 0 0, Value.slice none 0 0, Value.slice none 0 0, Value.slice none 0 0, Value.slice none 0 0, Value.slice none 0 0, Value.slice none 0 0, Value.slice none 0 0, Value.int .i64 0], Value.int .i64 0, Value.int .i64 0, Value.slice none 0 0].toList 8 = some ([.agg [.lit (.int .i64 0), .lit (.int .i64 0), .lit (.int .i64 0), .lit (.bool false), .lit (.int .i64 0), .lit (.bool false), .nil, .nil, .nil, .nil, .nil, .nil, .nil, .nil, .nil, .lit (.int .i64 0)], .lit (.int .i64 0), .lit (.int .i64 0), .nil], [], places) :=
  ⟨[], by kernel_rfl⟩

set_option maxRecDepth 100000 in
theorem lifted (os : Os) (started : os.Started) (H : Type) (enc : TypeId × Value → H) (F : Stop.Interp) :
    ReturnsInHanded {} Tryz.checked os 3 .any ((OpenSpec.ofChange Rows.rrulePicksSpec).preRow enc Tryz.prog Tryz.f3 Rows.rrulePicksRow.domain false Rows.rrulePicksRow.laid) (((OpenSpec.ofChange Rows.rrulePicksSpec).at F).post enc Tryz.prog Tryz.f3 false true false false) := by
  obtain ⟨places, hx⟩ := reads os enc
  refine returnsInHanded_of_row (C := Tryz.checked) (s := OpenSpec.ofChange Rows.rrulePicksSpec) own started (by kernel_rfl) Tryz.func3
    (witness_row_at (enc := enc) (C := Tryz.checked) false (laidWorld os) #[Value.agg #[Value.int .i64 0, Value.int .i64 0, Value.int .i64 0, Value.bool false, Value.int .i64 0, Value.bool false, Value.slice none 0 0, Value.slice none 0 0, Value.slice none 0 0, Value.slice none 0 0, Value.slice none 0 0, Value.slice none 0 0, Value.slice none 0 0, Value.slice none 0 0, Value.slice none 0 0, Value.int .i64 0], Value.int .i64 0, Value.int .i64 0, Value.slice none 0 0] rfl (by kernel_rfl) (by kernel_rfl) (by kernel_rfl)
      (OpenSpec.preRow_of_cond 8 hx (by kernel_rfl) (fun k hk => by cases hk) (by kernel_rfl) (laid_met os))) ?_
  intro W base args ds gs before hval hW _ _ _ hL _ _
  exact contract H enc W base args ds gs before hval hW hL

theorem said : Rows.RrulePicksSaid :=
  OpenClaim.holds_of_cond 3 Tryz.f3 rfl rfl rfl rfl rfl rfl rfl ⟨rfl, rfl, rfl, rfl, rfl⟩ rfl rfl rfl rfl rfl (by kernel_rfl) Tryz.func3 (by kernel_rfl)
    (of_decide_eq_true (by kernel_rfl)) (by unfold Func.isWrapper; rw [if_neg (by decide +kernel)]; exact ⟨rfl, rfl⟩)
    (fun os started H enc _ F => by rw [OpenClaim.pre_eq_preRow]; exact lifted os started H enc F)

theorem plain (f : FuncId) (fn : Func) (hf : Tryz.pinned.checked.prog.funcNamed "solstice/solsticelaw23.RrulePicks" = some f) (hfn : Tryz.pinned.checked.prog.funcs[f]? = some fn) :
    false = Tryz.pinned.checked.prog.looks [] ∧ ∀ (j : Nat) t, fn.params[j]? = some t → Tryz.pinned.checked.prog.wantsStandIn t = false := by
  obtain rfl : f = 3 := Option.some.inj ((show Tryz.prog.funcNamed "solstice/solsticelaw23.RrulePicks" = some 3 by kernel_rfl).symm.trans hf) |>.symm
  obtain rfl : fn = Tryz.f3 := (Option.some.inj (Tryz.func3.symm.trans hfn)).symm
  refine ⟨by kernel_rfl, fun j t ht => ?_⟩
  rw [Tryz.params3] at ht
  have hm : t ∈ [25, 3, 3, 22] := by have := Array.mem_of_getElem? ht; simpa using this
  have hall : ([25, 3, 3, 22].all fun u => !Tryz.prog.wantsStandIn u) = true := by kernel_rfl
  have h3 : (!Tryz.prog.wantsStandIn t) = true := List.all_eq_true.1 hall t hm
  show Tryz.prog.wantsStandIn t = false
  cases hb : Tryz.prog.wantsStandIn t with
  | false => rfl
  | true => rw [hb] at h3; cases h3

/-- The card. -/
theorem card : Rows.RrulePicksCardSaid :=
  Claim7.holds_tied_plain_at .later [] _ _ _ _ said (fun _ h => by cases h) (by kernel_rfl) (fun _ h => by cases h) rrulePicks_row_tie rfl ⟨rfl, rfl⟩ (by kernel_rfl) rfl plain (by kernel_rfl)
#print axioms card
end Go.Proofs.YtgaolaafjiiehaaGreatDoor.lawRrulePicks
