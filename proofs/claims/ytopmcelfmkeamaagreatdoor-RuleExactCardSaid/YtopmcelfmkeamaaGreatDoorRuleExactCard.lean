/-
  RuleExact: the statement proved: for every input the law answers true, and each argument reads as it did. Conditions: the row's own (the listed package-level tables hold what the program's text lays).
-/
import Derived.Test.YtopmcelfmkeamaaGreatDoorRuxL
import Derived.Test.YtopmcelfmkeamaaGreatDoorCards
import Derived.Test.YtopmcelfmkeamaaGreatDoorTie
import Derived.ProofKit
import Derived.OpenShut
import Derived.ShutString
import Derived.Deep.DeepHandedRow
import Derived.Lib.LaidTab
import Derived.LaidMore
import Derived.Stop.LaidErr
import Derived.Test.YtopmcelfmkeamaaGreatDoorFlat
namespace Go.Proofs.YtopmcelfmkeamaaGreatDoor.lawRuleExact
open Go.ChangeShapes Go.WideShapes Go.ChangeAt Go.RowKit
open Go.ChangeMaps (open_string shut_string)

theorem own : ownKnob Tryz.prog.godebug = none := by kernel_rfl
theorem laid_plain {W : World} (h : laidMetH Tryz.prog Rows.ruleExactRow.laid W) : laidMet Tryz.prog Rows.ruleExactRow.laid W := h
theorem gPow : Tryz.prog.globalNamed "internal/strconv.uint64pow10" = some 1 := by kernel_rfl
theorem tPow : (Tryz.prog.globals[1]?).map (·.type) = some 181 := by kernel_rfl
theorem cPow : Tryz.prog.cellsOf 181 = 20 := by kernel_rfl
theorem cU64 : Tryz.prog.cellsOf 161 = 1 := by kernel_rfl
theorem pow {W : World} (h : laidMetH Tryz.prog Rows.ruleExactRow.laid W) : Pow W :=
  Lib.tabBelow_of_tabIs (Lib.tabIs_of_head (rest := _) gPow tPow Tryz.underlying181 Tryz.underlying161 cU64 cPow (laid_plain h).tail.tail)

set_option maxRecDepth 100000 in
theorem contract (H : Type) (enc : TypeId × Value → H) (W : World) (base : Nat) (args : Array Value) (ds gs : List (DataW H)) (before : List MemPlace)
    (hval : ∀ (j : Nat) t v, Tryz.f3.params[j]? = some t → args[j]? = some v → Value.okWide Tryz.prog W .any base t v)
    (hW : DataW.Whole enc Tryz.prog Tryz.f3.params.toList Rows.ruleExactSpec.vars false W args.toList ds gs before) (hL : laidMetH Tryz.prog Rows.ruleExactRow.laid W) (hsh : W.ShapedOpen Tryz.prog) :
    Calls Tryz.prog 3 args W fun e W' => ∃ v, e = .returned v ∧ Rows.ruleExactSpec.post enc Tryz.prog Tryz.f3 false true false false W args v W' := by
  have hW' := hW
  obtain ⟨p, q, hA0, hV, rfl, hfz, hnd⟩ := hW
  have hA : DataW.TrodAll enc Tryz.prog W 0 (fun _ => true) true Tryz.f3.params.toList args.toList ds p := hA0
  rw [Tryz.params3] at hA hval
  obtain ⟨v0, vs0, d0, ds0, p0, q0, hargs0, rfl, rfl, h0, r0⟩ := trodAll_cons hA
  obtain ⟨v1, vs1, d1, ds1, p1, q1, hargs1, rfl, rfl, h1, r1⟩ := trodAll_cons r0
  obtain ⟨v2, vs2, d2, ds2, p2, q2, hargs2, rfl, rfl, h2, r2⟩ := trodAll_cons r1
  obtain ⟨rfl, rfl, rfl⟩ := trodAll_nil r2
  subst hargs2
  subst hargs1
  obtain rfl : args = #[v0, v1, v2] := by cases args; simp_all
  obtain ⟨rfl, rfl⟩ := trodVars_none hV
  have h0k := h0
  obtain ⟨cs_r, rfl, sz_r⟩ := okWide_struct Tryz.underlying27 (hval 0 27 v0 rfl rfl)
  obtain ⟨c_r_0, c_r_1, c_r_2, c_r_3, c_r_4, c_r_5, c_r_6, c_r_7, c_r_8, c_r_9, c_r_10, rfl⟩ := Flat.arr11 (sz_r.trans (by kernel_rfl))
  obtain ⟨fuel0, hf0⟩ := h0
  have lv_r := (Flat.leaves_at 4 27 [9, 3, 3, 3, 3, 3, 3, 3, 3, 3, 9] (by kernel_rfl) fuel0 [c_r_0, c_r_1, c_r_2, c_r_3, c_r_4, c_r_5, c_r_6, c_r_7, c_r_8, c_r_9, c_r_10] _ (by simpa [Value.cells] using hf0)).2
  obtain ⟨n_r_0, y_r_0, hl_r_0⟩ := lv_r 0 9 c_r_0 rfl rfl
  obtain ⟨r_0, ec_r_0, rest_r_0⟩ := DataW.trod_string Tryz.underlying9 hl_r_0
  obtain rfl : c_r_0 = .string r_0 := by simpa using ec_r_0
  obtain ⟨n_r_1, y_r_1, hl_r_1⟩ := lv_r 1 3 c_r_1 rfl rfl
  obtain ⟨r_1, ec_r_1, rest_r_1⟩ := DataW.trod_int Tryz.underlying3 hl_r_1
  obtain rfl : c_r_1 = .int .i64 r_1 := by simpa using ec_r_1
  have bd_r_1 := bounds_i64 rest_r_1.2
  obtain ⟨n_r_2, y_r_2, hl_r_2⟩ := lv_r 2 3 c_r_2 rfl rfl
  obtain ⟨r_2, ec_r_2, rest_r_2⟩ := DataW.trod_int Tryz.underlying3 hl_r_2
  obtain rfl : c_r_2 = .int .i64 r_2 := by simpa using ec_r_2
  have bd_r_2 := bounds_i64 rest_r_2.2
  obtain ⟨n_r_3, y_r_3, hl_r_3⟩ := lv_r 3 3 c_r_3 rfl rfl
  obtain ⟨r_3, ec_r_3, rest_r_3⟩ := DataW.trod_int Tryz.underlying3 hl_r_3
  obtain rfl : c_r_3 = .int .i64 r_3 := by simpa using ec_r_3
  have bd_r_3 := bounds_i64 rest_r_3.2
  obtain ⟨n_r_4, y_r_4, hl_r_4⟩ := lv_r 4 3 c_r_4 rfl rfl
  obtain ⟨r_4, ec_r_4, rest_r_4⟩ := DataW.trod_int Tryz.underlying3 hl_r_4
  obtain rfl : c_r_4 = .int .i64 r_4 := by simpa using ec_r_4
  have bd_r_4 := bounds_i64 rest_r_4.2
  obtain ⟨n_r_5, y_r_5, hl_r_5⟩ := lv_r 5 3 c_r_5 rfl rfl
  obtain ⟨r_5, ec_r_5, rest_r_5⟩ := DataW.trod_int Tryz.underlying3 hl_r_5
  obtain rfl : c_r_5 = .int .i64 r_5 := by simpa using ec_r_5
  have bd_r_5 := bounds_i64 rest_r_5.2
  obtain ⟨n_r_6, y_r_6, hl_r_6⟩ := lv_r 6 3 c_r_6 rfl rfl
  obtain ⟨r_6, ec_r_6, rest_r_6⟩ := DataW.trod_int Tryz.underlying3 hl_r_6
  obtain rfl : c_r_6 = .int .i64 r_6 := by simpa using ec_r_6
  have bd_r_6 := bounds_i64 rest_r_6.2
  obtain ⟨n_r_7, y_r_7, hl_r_7⟩ := lv_r 7 3 c_r_7 rfl rfl
  obtain ⟨r_7, ec_r_7, rest_r_7⟩ := DataW.trod_int Tryz.underlying3 hl_r_7
  obtain rfl : c_r_7 = .int .i64 r_7 := by simpa using ec_r_7
  have bd_r_7 := bounds_i64 rest_r_7.2
  obtain ⟨n_r_8, y_r_8, hl_r_8⟩ := lv_r 8 3 c_r_8 rfl rfl
  obtain ⟨r_8, ec_r_8, rest_r_8⟩ := DataW.trod_int Tryz.underlying3 hl_r_8
  obtain rfl : c_r_8 = .int .i64 r_8 := by simpa using ec_r_8
  have bd_r_8 := bounds_i64 rest_r_8.2
  obtain ⟨n_r_9, y_r_9, hl_r_9⟩ := lv_r 9 3 c_r_9 rfl rfl
  obtain ⟨r_9, ec_r_9, rest_r_9⟩ := DataW.trod_int Tryz.underlying3 hl_r_9
  obtain rfl : c_r_9 = .int .i64 r_9 := by simpa using ec_r_9
  have bd_r_9 := bounds_i64 rest_r_9.2
  obtain ⟨n_r_10, y_r_10, hl_r_10⟩ := lv_r 10 9 c_r_10 rfl rfl
  obtain ⟨r_10, ec_r_10, rest_r_10⟩ := DataW.trod_string Tryz.underlying9 hl_r_10
  obtain rfl : c_r_10 = .string r_10 := by simpa using ec_r_10
  clear lv_r
  have hlt0 : ∀ y ∈ p0, y.block < W.heap.size := fun y hy => by simpa using hW'.lt y (by simp [hy])
  have h1k := h1
  obtain ⟨l_A, l_len, l_cap, rfl⟩ := okWide_slice Tryz.underlying28 (hval 1 28 v1 rfl rfl)
  obtain ⟨fuel1, hf1⟩ := h1
  obtain ⟨ln_l, ls_l, hs_l⟩ := Opn.open_strs Tryz.underlying28 Tryz.underlying9 (by kernel_rfl) (by simpa [Value.cells] using hf1)
  have hlt1 : ∀ y ∈ p1, y.block < W.heap.size := fun y hy => by simpa using hW'.lt y (by simp [hy])
  obtain ⟨s, rfl, rfl, rfl, wf_s⟩ := open_string Tryz.underlying9 (hval 2 9 v2 rfl rfl) h2
  clear hA0
  simp only [List.append_nil] at hW'
  refine (Rul.rex_go r_0.data.toList r_10.data.toList r_1 r_2 r_3 r_4 r_5 r_6 r_7 r_8 r_9 l_A l_len l_cap ls_l s W (pow hL) (Wrd.MaxL.of_shape hsh) (by simpa using rest_r_0.2) (by simpa using rest_r_10.2) wf_s ln_l hs_l).mono fun e W' ⟨he, hb⟩ => ?_
  subst he
  exact ⟨_, rfl, _, _, _, [], (p0 ++ p1), [], hW', trodAll_cons_mk (shut_bool Tryz.underlying4 _) trodAll_mk0, (by have q := trodAll_cons_mk (Below.trod (of_decide_eq_true (by kernel_rfl)) (by kernel_rfl) (of_decide_eq_true (by kernel_rfl)) h0k hb hlt0) (trodAll_cons_mk (Below.trod (of_decide_eq_true (by kernel_rfl)) (by kernel_rfl) (of_decide_eq_true (by kernel_rfl)) h1k hb hlt1) (trodAll_cons_mk (shut_string Tryz.underlying9 wf_s) (trodAll_mk0))); simp only [List.append_nil] at q; exact q), rfl, hb.frame _, fun h => by cases h⟩

def litV : DataW Unit → Value
  | .lit (.int k n) => .int k n
  | _ => undef
def litsV : DataW Unit → List Value
  | .agg l => l.map litV
  | d => [litV d]
def aggV : DataW Unit → Array Value
  | .agg l => (l.flatMap litsV).toArray
  | _ => #[]
/-- A world for the witness: the settled one, each listed table holding what its initialiser lays. -/
def setCells (h : Array Obj) (g : Nat) (vs : Array Value) : Array Obj := h.modify g fun
  | .cells _ t frozen => .cells vs t frozen
  | o => o
noncomputable def laidWorld (os : Os) : World :=
  { World.holding Tryz.prog os ⟨#[], #[], []⟩ with heap := (setCells (setCells (setCells (World.holding Tryz.prog os ⟨#[], #[], []⟩).heap 3 (aggV Rows.laid_math_bits_deBruijn32tab)) 4 (aggV Rows.laid_math_bits_deBruijn64tab)) 1 (aggV Rows.laid_internal_strconv_uint64pow10)) }
theorem laid_met (os : Os) : laidMet Tryz.prog Rows.ruleExactRow.laid ((laidWorld os).forCall (fun _ _ => 0) ⟨#[], #[Value.agg #[Value.string ⟨#[]⟩, Value.int .i64 0, Value.int .i64 0, Value.int .i64 0, Value.int .i64 0, Value.int .i64 0, Value.int .i64 0, Value.int .i64 0, Value.int .i64 0, Value.int .i64 0, Value.string ⟨#[]⟩], Value.slice none 0 0, Value.string ⟨#[]⟩], []⟩).memory :=
  laidMet_of_run' 8 (by kernel_rfl) (by kernel_rfl)
theorem reads (os : Os) {H : Type} (enc : TypeId × Value → H) : ∃ places, DataW.whole enc Tryz.prog ((laidWorld os).forCall (fun _ _ => 0) ⟨#[], #[Value.agg #[Value.string ⟨#[]⟩, Value.int .i64 0, Value.int .i64 0, Value.int .i64 0, Value.int .i64 0, Value.int .i64 0, Value.int .i64 0, Value.int .i64 0, Value.int .i64 0, Value.int .i64 0, Value.string ⟨#[]⟩], Value.slice none 0 0, Value.string ⟨#[]⟩], []⟩).memory Tryz.f3.params.toList Rows.ruleExactSpec.vars false #[Value.agg #[Value.string ⟨#[]⟩, Value.int .i64 0, Value.int .i64 0, Value.int .i64 0, Value.int .i64 0, Value.int .i64 0, Value.int .i64 0, Value.int .i64 0, Value.int .i64 0, Value.int .i64 0, Value.string ⟨#[]⟩], Value.slice none 0 0, Value.string ⟨#[]⟩].toList 8 = some ([.agg [.lit (.string []), .lit (.int .i64 0), .lit (.int .i64 0), .lit (.int .i64 0), .agg [.lit (.int .i64 0), .lit (.int .i64 0), .lit (.int .i64 0)], .agg [.lit (.int .i64 0), .lit (.int .i64 0)], .lit (.int .i64 0), .lit (.string [])], .nil, .lit (.string [])], [], places) :=
  ⟨[], by kernel_rfl⟩

set_option maxRecDepth 100000 in
theorem lifted (os : Os) (started : os.Started) (H : Type) (enc : TypeId × Value → H) (F : Stop.Interp) :
    ReturnsInHanded {} Tryz.checked os 3 .any ((OpenSpec.ofChange Rows.ruleExactSpec).preRow enc Tryz.prog Tryz.f3 Rows.ruleExactRow.domain false Rows.ruleExactRow.laid) (((OpenSpec.ofChange Rows.ruleExactSpec).at F).post enc Tryz.prog Tryz.f3 false true false false) := by
  obtain ⟨places, hx⟩ := reads os enc
  refine returnsInHanded_of_row (C := Tryz.checked) (s := OpenSpec.ofChange Rows.ruleExactSpec) own started (by kernel_rfl) Tryz.func3
    (witness_row_at (enc := enc) (C := Tryz.checked) false (laidWorld os) #[Value.agg #[Value.string ⟨#[]⟩, Value.int .i64 0, Value.int .i64 0, Value.int .i64 0, Value.int .i64 0, Value.int .i64 0, Value.int .i64 0, Value.int .i64 0, Value.int .i64 0, Value.int .i64 0, Value.string ⟨#[]⟩], Value.slice none 0 0, Value.string ⟨#[]⟩] rfl (by kernel_rfl) (by kernel_rfl) (by kernel_rfl)
      (OpenSpec.preRow_of_cond 8 hx (by kernel_rfl) (fun k hk => by cases hk) (by kernel_rfl) (laid_met os))) ?_
  intro W base args ds gs before hval hW _ _ _ hL hsh _
  exact contract H enc W base args ds gs before hval hW hL hsh

theorem said : Rows.RuleExactSaid :=
  OpenClaim.holds_of_cond 3 Tryz.f3 rfl rfl rfl rfl rfl rfl rfl ⟨rfl, rfl, rfl, rfl, rfl⟩ rfl rfl rfl rfl rfl (by kernel_rfl) Tryz.func3 (by kernel_rfl)
    (of_decide_eq_true (by kernel_rfl)) (by unfold Func.isWrapper; rw [if_neg (by decide +kernel)]; exact ⟨rfl, rfl⟩)
    (fun os started H enc _ F => by rw [OpenClaim.pre_eq_preRow]; exact lifted os started H enc F)

theorem plain (f : FuncId) (fn : Func) (hf : Tryz.pinned.checked.prog.funcNamed "solstice/solsticelaw09.RuleExact" = some f) (hfn : Tryz.pinned.checked.prog.funcs[f]? = some fn) :
    false = Tryz.pinned.checked.prog.looks [] ∧ ∀ (j : Nat) t, fn.params[j]? = some t → Tryz.pinned.checked.prog.wantsStandIn t = false := by
  obtain rfl : f = 3 := Option.some.inj ((show Tryz.prog.funcNamed "solstice/solsticelaw09.RuleExact" = some 3 by kernel_rfl).symm.trans hf) |>.symm
  obtain rfl : fn = Tryz.f3 := (Option.some.inj (Tryz.func3.symm.trans hfn)).symm
  refine ⟨by kernel_rfl, fun j t ht => ?_⟩
  rw [Tryz.params3] at ht
  have hm : t ∈ [27, 28, 9] := by have := Array.mem_of_getElem? ht; simpa using this
  have hall : ([27, 28, 9].all fun u => !Tryz.prog.wantsStandIn u) = true := by kernel_rfl
  have h3 : (!Tryz.prog.wantsStandIn t) = true := List.all_eq_true.1 hall t hm
  show Tryz.prog.wantsStandIn t = false
  cases hb : Tryz.prog.wantsStandIn t with
  | false => rfl
  | true => rw [hb] at h3; cases h3

/-- The card. -/
theorem card : Rows.RuleExactCardSaid :=
  Claim7.holds_tied_plain_at .later [] _ _ _ _ said (fun _ h => by cases h) (by kernel_rfl) (fun _ h => by cases h) ruleExact_row_tie rfl ⟨rfl, rfl⟩ (by kernel_rfl) rfl plain (by kernel_rfl)
#print axioms card
end Go.Proofs.YtopmcelfmkeamaaGreatDoor.lawRuleExact
