/-
  ZoneBent: the statement proved: for every input the law answers true, and each argument reads as it did. Conditions: the row's own (the listed package-level tables hold what the program's text lays).
-/
import Derived.Test.YthefgagmjamdkaaGreatDoorZeL
import Derived.Test.YthefgagmjamdkaaGreatDoorCards
import Derived.Test.YthefgagmjamdkaaGreatDoorTie
import Derived.ProofKit
import Derived.OpenShut
import Derived.ShutString
import Derived.Deep.DeepHandedRow
import Derived.Lib.LaidTab
import Derived.LaidMore
import Derived.Stop.LaidErr
import Derived.Test.YthefgagmjamdkaaGreatDoorFlat
namespace Go.Proofs.YthefgagmjamdkaaGreatDoor.lawZoneBent
open Go.ChangeShapes Go.WideShapes Go.ChangeAt Go.RowKit
open Go.ChangeMaps (open_string shut_string)

theorem own : ownKnob Tryz.prog.godebug = none := by kernel_rfl
theorem laid_plain {W : World} (h : laidMetH Tryz.prog Rows.zoneBentRow.laid W) : laidMet Tryz.prog Rows.zoneBentRow.laid W := h
theorem gPow : Tryz.prog.globalNamed "internal/strconv.uint64pow10" = some 2 := by kernel_rfl
theorem tPow : (Tryz.prog.globals[2]?).map (·.type) = some 167 := by kernel_rfl
theorem cPow : Tryz.prog.cellsOf 167 = 20 := by kernel_rfl
theorem cU64 : Tryz.prog.cellsOf 147 = 1 := by kernel_rfl
theorem pow {W : World} (h : laidMetH Tryz.prog Rows.zoneBentRow.laid W) : Pow W :=
  Lib.tabBelow_of_tabIs (Lib.tabIs_of_head (rest := _) gPow tPow Tryz.underlying167 Tryz.underlying147 cU64 cPow (laid_plain h).tail.tail)
theorem tAhd : (Tryz.prog.globals[1]?).map (·.type) = some 153 := by kernel_rfl
theorem cAhd : Tryz.prog.cellsOf 153 = 12 := by kernel_rfl
theorem cInt : Tryz.prog.cellsOf 3 = 1 := by kernel_rfl
theorem ahd {W : World} (h : laidMetH Tryz.prog Rows.zoneBentRow.laid W) : Civ.Ahead W :=
  Lib.tabBelow_of_tabIs (Lib.tabIs_of_head (rest := _) Civ.gAhead tAhd Tryz.underlying153 Tryz.underlying3 cInt cAhd (laid_plain h).tail.tail.tail)
theorem Flat.arr2 {cs : Array Value} (h : cs.size = 2) : ∃ c0 c1, cs = #[c0, c1] := by
  obtain ⟨l⟩ := cs
  match l, h with
  | [c0, c1], _ => exact ⟨_, _, rfl⟩

set_option maxRecDepth 100000 in
theorem contract (H : Type) (enc : TypeId × Value → H) (W : World) (base : Nat) (args : Array Value) (ds gs : List (DataW H)) (before : List MemPlace)
    (hval : ∀ (j : Nat) t v, Tryz.f4.params[j]? = some t → args[j]? = some v → Value.okWide Tryz.prog W .any base t v)
    (hW : DataW.Whole enc Tryz.prog Tryz.f4.params.toList Rows.zoneBentSpec.vars false W args.toList ds gs before) (hL : laidMetH Tryz.prog Rows.zoneBentRow.laid W) (hsh : W.ShapedOpen Tryz.prog) :
    Calls Tryz.prog 4 args W fun e W' => ∃ v, e = .returned v ∧ Rows.zoneBentSpec.post enc Tryz.prog Tryz.f4 false true false false W args v W' := by
  have hW' := hW
  obtain ⟨p, q, hA0, hV, rfl, hfz, hnd⟩ := hW
  have hA : DataW.TrodAll enc Tryz.prog W 0 (fun _ => true) true Tryz.f4.params.toList args.toList ds p := hA0
  rw [Tryz.params4] at hA hval
  obtain ⟨v0, vs0, d0, ds0, p0, q0, hargs0, rfl, rfl, h0, r0⟩ := trodAll_cons hA
  obtain ⟨v1, vs1, d1, ds1, p1, q1, hargs1, rfl, rfl, h1, r1⟩ := trodAll_cons r0
  obtain ⟨v2, vs2, d2, ds2, p2, q2, hargs2, rfl, rfl, h2, r2⟩ := trodAll_cons r1
  obtain ⟨rfl, rfl, rfl⟩ := trodAll_nil r2
  subst hargs2
  subst hargs1
  obtain rfl : args = #[v0, v1, v2] := by cases args; simp_all
  obtain ⟨rfl, rfl⟩ := trodVars_none hV
  have h0k := h0
  obtain ⟨cs_z, rfl, sz_z⟩ := okWide_struct Tryz.underlying24 (hval 0 24 v0 rfl rfl)
  obtain ⟨c_z_0, c_z_1, rfl⟩ := Flat.arr2 (sz_z.trans (by kernel_rfl))
  obtain ⟨fuel0, hf0⟩ := h0
  have lv_z := (Flat.leaves_at 4 24 [9, 22] (by kernel_rfl) fuel0 [c_z_0, c_z_1] _ (by simpa [Value.cells] using hf0)).2
  obtain ⟨n_z_0, y_z_0, hl_z_0⟩ := lv_z 0 9 c_z_0 rfl rfl
  obtain ⟨z_0, ec_z_0, rest_z_0⟩ := DataW.trod_string Tryz.underlying9 hl_z_0
  obtain rfl : c_z_0 = .string z_0 := by simpa using ec_z_0
  obtain ⟨n_z_1, y_z_1, hl_z_1⟩ := lv_z 1 22 c_z_1 rfl rfl
  obtain ⟨z_1, pv_z_1, bd_z_1⟩ := Zon.open_eras hl_z_1
  clear lv_z
  have hlt0 : ∀ y ∈ p0, y.block < W.heap.size := fun y hy => by simpa using hW'.lt y (by simp [hy])
  obtain ⟨at0, rfl, rfl, rfl, wf_at0⟩ := open_int Tryz.underlying3 (hval 1 3 v1 rfl rfl) h1
  have bd_at0 := bounds_i64 wf_at0
  obtain ⟨how, rfl, rfl, rfl, wf_how⟩ := open_int Tryz.underlying3 (hval 2 3 v2 rfl rfl) h2
  have bd_how := bounds_i64 wf_how
  clear hA0
  simp only [List.append_nil] at hW'
  refine (Zon.zbent_any z_0.data.toList _ z_1 at0 how W (pow hL) (ahd hL) (Wrd.MaxL.of_shape hsh) pv_z_1 (by simpa using rest_z_0.2) bd_z_1.2 bd_z_1.1).mono fun e W' ⟨he, hb⟩ => ?_
  subst he
  exact ⟨_, rfl, _, _, _, [], p0, [], hW', trodAll_cons_mk (shut_bool Tryz.underlying4 _) trodAll_mk0, (by have q := trodAll_cons_mk (Below.trod (of_decide_eq_true (by kernel_rfl)) (by kernel_rfl) (of_decide_eq_true (by kernel_rfl)) h0k hb hlt0) (trodAll_cons_mk (shut_int Tryz.underlying3 wf_at0) (trodAll_cons_mk (shut_int Tryz.underlying3 wf_how) (trodAll_mk0))); simp only [List.append_nil] at q; exact q), rfl, hb.frame _, fun h => by cases h⟩

def litV : DataW Unit → Value
  | .lit (.int k n) => .int k n
  | .lit (.string s) => .string ⟨s.toArray⟩
  | _ => undef
def litsV : DataW Unit → List Value
  | .agg l => l.map litV
  | d => [litV d]
def aggV : DataW Unit → Array Value
  | .agg l => (l.flatMap litsV).toArray
  | _ => #[]
/-- A world for the witness: the settled one, each listed table holding what its initialiser lays. -/
def setCells (h : Array Obj) (g : Nat) (vs : Array Value) : Array Obj := h.modify g fun
  | .cells _ t frozen => .cells vs t frozen
  | o => o
noncomputable def laidWorld (os : Os) : World :=
  { World.holding Tryz.prog os ⟨#[], #[], []⟩ with heap := (setCells (setCells (setCells (setCells (World.holding Tryz.prog os ⟨#[], #[], []⟩).heap 3 (aggV Rows.laid_math_bits_deBruijn32tab)) 4 (aggV Rows.laid_math_bits_deBruijn64tab)) 2 (aggV Rows.laid_internal_strconv_uint64pow10)) 1 (aggV Rows.laid_solstice_civil_ahead)) }
theorem laid_met (os : Os) : laidMet Tryz.prog Rows.zoneBentRow.laid ((laidWorld os).forCall (fun _ _ => 0) ⟨#[], #[Value.agg #[Value.string ⟨#[]⟩, Value.slice none 0 0], Value.int .i64 0, Value.int .i64 0], []⟩).memory :=
  laidMet_of_run' 8 (by kernel_rfl) (by kernel_rfl)
theorem reads (os : Os) {H : Type} (enc : TypeId × Value → H) : ∃ places, DataW.whole enc Tryz.prog ((laidWorld os).forCall (fun _ _ => 0) ⟨#[], #[Value.agg #[Value.string ⟨#[]⟩, Value.slice none 0 0], Value.int .i64 0, Value.int .i64 0], []⟩).memory Tryz.f4.params.toList Rows.zoneBentSpec.vars false #[Value.agg #[Value.string ⟨#[]⟩, Value.slice none 0 0], Value.int .i64 0, Value.int .i64 0].toList 8 = some ([.agg [.lit (.string []), .nil], .lit (.int .i64 0), .lit (.int .i64 0)], [], places) :=
  ⟨[], by kernel_rfl⟩

set_option maxRecDepth 100000 in
theorem lifted (os : Os) (started : os.Started) (H : Type) (enc : TypeId × Value → H) (F : Stop.Interp) :
    ReturnsInHanded {} Tryz.checked os 4 .any ((OpenSpec.ofChange Rows.zoneBentSpec).preRow enc Tryz.prog Tryz.f4 Rows.zoneBentRow.domain false Rows.zoneBentRow.laid) (((OpenSpec.ofChange Rows.zoneBentSpec).at F).post enc Tryz.prog Tryz.f4 false true false false) := by
  obtain ⟨places, hx⟩ := reads os enc
  refine returnsInHanded_of_row (C := Tryz.checked) (s := OpenSpec.ofChange Rows.zoneBentSpec) own started (by kernel_rfl) Tryz.func4
    (witness_row_at (enc := enc) (C := Tryz.checked) false (laidWorld os) #[Value.agg #[Value.string ⟨#[]⟩, Value.slice none 0 0], Value.int .i64 0, Value.int .i64 0] rfl (by kernel_rfl) (by kernel_rfl) (by kernel_rfl)
      (OpenSpec.preRow_of_cond 8 hx (by kernel_rfl) (fun k hk => by cases hk) (by kernel_rfl) (laid_met os))) ?_
  intro W base args ds gs before hval hW _ _ _ hL hsh _
  exact contract H enc W base args ds gs before hval hW hL hsh

theorem said : Rows.ZoneBentSaid :=
  OpenClaim.holds_of_cond 4 Tryz.f4 rfl rfl rfl rfl rfl rfl rfl ⟨rfl, rfl, rfl, rfl, rfl⟩ rfl rfl rfl rfl rfl (by kernel_rfl) Tryz.func4 (by kernel_rfl)
    (of_decide_eq_true (by kernel_rfl)) (by unfold Func.isWrapper; rw [if_neg (by decide +kernel)]; exact ⟨rfl, rfl⟩)
    (fun os started H enc _ F => by rw [OpenClaim.pre_eq_preRow]; exact lifted os started H enc F)

theorem plain (f : FuncId) (fn : Func) (hf : Tryz.pinned.checked.prog.funcNamed "solstice/solsticelaw10.ZoneBent" = some f) (hfn : Tryz.pinned.checked.prog.funcs[f]? = some fn) :
    false = Tryz.pinned.checked.prog.looks [] ∧ ∀ (j : Nat) t, fn.params[j]? = some t → Tryz.pinned.checked.prog.wantsStandIn t = false := by
  obtain rfl : f = 4 := Option.some.inj ((show Tryz.prog.funcNamed "solstice/solsticelaw10.ZoneBent" = some 4 by kernel_rfl).symm.trans hf) |>.symm
  obtain rfl : fn = Tryz.f4 := (Option.some.inj (Tryz.func4.symm.trans hfn)).symm
  refine ⟨by kernel_rfl, fun j t ht => ?_⟩
  rw [Tryz.params4] at ht
  have hm : t ∈ [24, 3, 3] := by have := Array.mem_of_getElem? ht; simpa using this
  have hall : ([24, 3, 3].all fun u => !Tryz.prog.wantsStandIn u) = true := by kernel_rfl
  have h3 : (!Tryz.prog.wantsStandIn t) = true := List.all_eq_true.1 hall t hm
  show Tryz.prog.wantsStandIn t = false
  cases hb : Tryz.prog.wantsStandIn t with
  | false => rfl
  | true => rw [hb] at h3; cases h3

/-- The card. -/
theorem card : Rows.ZoneBentCardSaid :=
  Claim7.holds_tied_plain_at .later [] _ _ _ _ said (fun _ h => by cases h) (by kernel_rfl) (fun _ h => by cases h) zoneBent_row_tie rfl ⟨rfl, rfl⟩ (by kernel_rfl) rfl plain (by kernel_rfl)
#print axioms card
end Go.Proofs.YthefgagmjamdkaaGreatDoor.lawZoneBent
