/-
  ZoneBack: the statement proved: for every input the law answers true, and each argument reads as it did. Conditions: the row's own (the listed package-level tables hold what the program's text lays).
-/
import Derived.Test.YtpcnpacllkiieaaGreatDoorZonK
import Derived.Test.YtpcnpacllkiieaaGreatDoorCards
import Derived.Test.YtpcnpacllkiieaaGreatDoorTie
import Derived.ProofKit
import Derived.OpenShut
import Derived.ShutString
import Derived.Deep.DeepHandedRow
import Derived.Lib.LaidTab
import Derived.LaidMore
import Derived.Stop.LaidErr
import Derived.Test.YtpcnpacllkiieaaGreatDoorFlat
namespace Go.Proofs.YtpcnpacllkiieaaGreatDoor.lawZoneBack
open Go.ChangeShapes Go.WideShapes Go.ChangeAt Go.RowKit
open Go.ChangeMaps (open_string shut_string)

theorem own : ownKnob Tryz.prog.godebug = none := by kernel_rfl
theorem laid_plain {W : World} (h : laidMetH Tryz.prog Rows.zoneBackRow.laid W) : laidMet Tryz.prog Rows.zoneBackRow.laid W := h
theorem gPow : Tryz.prog.globalNamed "internal/strconv.uint64pow10" = some 1 := by kernel_rfl
theorem tPow : (Tryz.prog.globals[1]?).map (·.type) = some 185 := by kernel_rfl
theorem cPow : Tryz.prog.cellsOf 185 = 20 := by kernel_rfl
theorem cU64 : Tryz.prog.cellsOf 165 = 1 := by kernel_rfl
theorem pow {W : World} (h : laidMetH Tryz.prog Rows.zoneBackRow.laid W) : Pow W :=
  Lib.tabBelow_of_tabIs (Lib.tabIs_of_head (rest := _) gPow tPow Tryz.underlying185 Tryz.underlying165 cU64 cPow (laid_plain h).tail.tail)
theorem tAhd : (Tryz.prog.globals[2]?).map (·.type) = some 188 := by kernel_rfl
theorem cAhd : Tryz.prog.cellsOf 188 = 12 := by kernel_rfl
theorem cInt : Tryz.prog.cellsOf 3 = 1 := by kernel_rfl
theorem ahd {W : World} (h : laidMetH Tryz.prog Rows.zoneBackRow.laid W) : Civ.Ahead W :=
  Lib.tabBelow_of_tabIs (Lib.tabIs_of_head (rest := _) Civ.gAhead tAhd Tryz.underlying188 Tryz.underlying3 cInt cAhd (laid_plain h).tail.tail.tail)

set_option maxRecDepth 100000 in
theorem contract (H : Type) (enc : TypeId × Value → H) (W : World) (base : Nat) (args : Array Value) (ds gs : List (DataW H)) (before : List MemPlace)
    (hval : ∀ (j : Nat) t v, Tryz.f8.params[j]? = some t → args[j]? = some v → Value.okWide Tryz.prog W .any base t v)
    (hW : DataW.Whole enc Tryz.prog Tryz.f8.params.toList Rows.zoneBackSpec.vars false W args.toList ds gs before) (hL : laidMetH Tryz.prog Rows.zoneBackRow.laid W) (hsh : W.ShapedOpen Tryz.prog) :
    Calls Tryz.prog 8 args W fun e W' => ∃ v, e = .returned v ∧ Rows.zoneBackSpec.post enc Tryz.prog Tryz.f8 false true false false W args v W' := by
  have hW' := hW
  obtain ⟨p, q, hA0, hV, rfl, hfz, hnd⟩ := hW
  have hA : DataW.TrodAll enc Tryz.prog W 0 (fun _ => true) true Tryz.f8.params.toList args.toList ds p := hA0
  rw [Tryz.params8] at hA hval
  obtain ⟨v0, vs0, d0, ds0, p0, q0, hargs0, rfl, rfl, h0, r0⟩ := trodAll_cons hA
  obtain ⟨v1, vs1, d1, ds1, p1, q1, hargs1, rfl, rfl, h1, r1⟩ := trodAll_cons r0
  obtain ⟨rfl, rfl, rfl⟩ := trodAll_nil r1
  subst hargs1
  obtain rfl : args = #[v0, v1] := by cases args; simp_all
  obtain ⟨rfl, rfl⟩ := trodVars_none hV
  have h0k := h0
  obtain ⟨cs_a, rfl, sz_a⟩ := okWide_struct Tryz.underlying54 (hval 0 54 v0 rfl rfl)
  obtain ⟨c_a_0, c_a_1, c_a_2, c_a_3, c_a_4, c_a_5, c_a_6, c_a_7, c_a_8, c_a_9, c_a_10, c_a_11, c_a_12, rfl⟩ := Flat.arr13 (sz_a.trans (by kernel_rfl))
  obtain ⟨fuel0, hf0⟩ := h0
  have lv_a := (Flat.leaves_at 4 54 [3, 3, 3, 9, 9, 4, 3, 3, 3, 3, 3, 3, 3] (by kernel_rfl) fuel0 [c_a_0, c_a_1, c_a_2, c_a_3, c_a_4, c_a_5, c_a_6, c_a_7, c_a_8, c_a_9, c_a_10, c_a_11, c_a_12] _ (by simpa [Value.cells] using hf0)).2
  obtain ⟨n_a_0, y_a_0, hl_a_0⟩ := lv_a 0 3 c_a_0 rfl rfl
  obtain ⟨a_0, ec_a_0, rest_a_0⟩ := DataW.trod_int Tryz.underlying3 hl_a_0
  obtain rfl : c_a_0 = .int .i64 a_0 := by simpa using ec_a_0
  have bd_a_0 := bounds_i64 rest_a_0.2
  obtain ⟨n_a_1, y_a_1, hl_a_1⟩ := lv_a 1 3 c_a_1 rfl rfl
  obtain ⟨a_1, ec_a_1, rest_a_1⟩ := DataW.trod_int Tryz.underlying3 hl_a_1
  obtain rfl : c_a_1 = .int .i64 a_1 := by simpa using ec_a_1
  have bd_a_1 := bounds_i64 rest_a_1.2
  obtain ⟨n_a_2, y_a_2, hl_a_2⟩ := lv_a 2 3 c_a_2 rfl rfl
  obtain ⟨a_2, ec_a_2, rest_a_2⟩ := DataW.trod_int Tryz.underlying3 hl_a_2
  obtain rfl : c_a_2 = .int .i64 a_2 := by simpa using ec_a_2
  have bd_a_2 := bounds_i64 rest_a_2.2
  obtain ⟨n_a_3, y_a_3, hl_a_3⟩ := lv_a 3 9 c_a_3 rfl rfl
  obtain ⟨a_3, ec_a_3, rest_a_3⟩ := DataW.trod_string Tryz.underlying9 hl_a_3
  obtain rfl : c_a_3 = .string a_3 := by simpa using ec_a_3
  obtain ⟨n_a_4, y_a_4, hl_a_4⟩ := lv_a 4 9 c_a_4 rfl rfl
  obtain ⟨a_4, ec_a_4, rest_a_4⟩ := DataW.trod_string Tryz.underlying9 hl_a_4
  obtain rfl : c_a_4 = .string a_4 := by simpa using ec_a_4
  obtain ⟨n_a_5, y_a_5, hl_a_5⟩ := lv_a 5 4 c_a_5 rfl rfl
  obtain ⟨a_5, ec_a_5, rest_a_5⟩ := DataW.trod_bool Tryz.underlying4 hl_a_5
  obtain rfl : c_a_5 = .bool a_5 := by simpa using ec_a_5
  obtain ⟨n_a_6, y_a_6, hl_a_6⟩ := lv_a 6 3 c_a_6 rfl rfl
  obtain ⟨a_6, ec_a_6, rest_a_6⟩ := DataW.trod_int Tryz.underlying3 hl_a_6
  obtain rfl : c_a_6 = .int .i64 a_6 := by simpa using ec_a_6
  have bd_a_6 := bounds_i64 rest_a_6.2
  obtain ⟨n_a_7, y_a_7, hl_a_7⟩ := lv_a 7 3 c_a_7 rfl rfl
  obtain ⟨a_7, ec_a_7, rest_a_7⟩ := DataW.trod_int Tryz.underlying3 hl_a_7
  obtain rfl : c_a_7 = .int .i64 a_7 := by simpa using ec_a_7
  have bd_a_7 := bounds_i64 rest_a_7.2
  obtain ⟨n_a_8, y_a_8, hl_a_8⟩ := lv_a 8 3 c_a_8 rfl rfl
  obtain ⟨a_8, ec_a_8, rest_a_8⟩ := DataW.trod_int Tryz.underlying3 hl_a_8
  obtain rfl : c_a_8 = .int .i64 a_8 := by simpa using ec_a_8
  have bd_a_8 := bounds_i64 rest_a_8.2
  obtain ⟨n_a_9, y_a_9, hl_a_9⟩ := lv_a 9 3 c_a_9 rfl rfl
  obtain ⟨a_9, ec_a_9, rest_a_9⟩ := DataW.trod_int Tryz.underlying3 hl_a_9
  obtain rfl : c_a_9 = .int .i64 a_9 := by simpa using ec_a_9
  have bd_a_9 := bounds_i64 rest_a_9.2
  obtain ⟨n_a_10, y_a_10, hl_a_10⟩ := lv_a 10 3 c_a_10 rfl rfl
  obtain ⟨a_10, ec_a_10, rest_a_10⟩ := DataW.trod_int Tryz.underlying3 hl_a_10
  obtain rfl : c_a_10 = .int .i64 a_10 := by simpa using ec_a_10
  have bd_a_10 := bounds_i64 rest_a_10.2
  obtain ⟨n_a_11, y_a_11, hl_a_11⟩ := lv_a 11 3 c_a_11 rfl rfl
  obtain ⟨a_11, ec_a_11, rest_a_11⟩ := DataW.trod_int Tryz.underlying3 hl_a_11
  obtain rfl : c_a_11 = .int .i64 a_11 := by simpa using ec_a_11
  have bd_a_11 := bounds_i64 rest_a_11.2
  obtain ⟨n_a_12, y_a_12, hl_a_12⟩ := lv_a 12 3 c_a_12 rfl rfl
  obtain ⟨a_12, ec_a_12, rest_a_12⟩ := DataW.trod_int Tryz.underlying3 hl_a_12
  obtain rfl : c_a_12 = .int .i64 a_12 := by simpa using ec_a_12
  have bd_a_12 := bounds_i64 rest_a_12.2
  clear lv_a
  have hlt0 : ∀ y ∈ p0, y.block < W.heap.size := fun y hy => by simpa using hW'.lt y (by simp [hy])
  have h1k := h1
  obtain ⟨cs_b, rfl, sz_b⟩ := okWide_struct Tryz.underlying54 (hval 1 54 v1 rfl rfl)
  obtain ⟨c_b_0, c_b_1, c_b_2, c_b_3, c_b_4, c_b_5, c_b_6, c_b_7, c_b_8, c_b_9, c_b_10, c_b_11, c_b_12, rfl⟩ := Flat.arr13 (sz_b.trans (by kernel_rfl))
  obtain ⟨fuel1, hf1⟩ := h1
  have lv_b := (Flat.leaves_at 4 54 [3, 3, 3, 9, 9, 4, 3, 3, 3, 3, 3, 3, 3] (by kernel_rfl) fuel1 [c_b_0, c_b_1, c_b_2, c_b_3, c_b_4, c_b_5, c_b_6, c_b_7, c_b_8, c_b_9, c_b_10, c_b_11, c_b_12] _ (by simpa [Value.cells] using hf1)).2
  obtain ⟨n_b_0, y_b_0, hl_b_0⟩ := lv_b 0 3 c_b_0 rfl rfl
  obtain ⟨b_0, ec_b_0, rest_b_0⟩ := DataW.trod_int Tryz.underlying3 hl_b_0
  obtain rfl : c_b_0 = .int .i64 b_0 := by simpa using ec_b_0
  have bd_b_0 := bounds_i64 rest_b_0.2
  obtain ⟨n_b_1, y_b_1, hl_b_1⟩ := lv_b 1 3 c_b_1 rfl rfl
  obtain ⟨b_1, ec_b_1, rest_b_1⟩ := DataW.trod_int Tryz.underlying3 hl_b_1
  obtain rfl : c_b_1 = .int .i64 b_1 := by simpa using ec_b_1
  have bd_b_1 := bounds_i64 rest_b_1.2
  obtain ⟨n_b_2, y_b_2, hl_b_2⟩ := lv_b 2 3 c_b_2 rfl rfl
  obtain ⟨b_2, ec_b_2, rest_b_2⟩ := DataW.trod_int Tryz.underlying3 hl_b_2
  obtain rfl : c_b_2 = .int .i64 b_2 := by simpa using ec_b_2
  have bd_b_2 := bounds_i64 rest_b_2.2
  obtain ⟨n_b_3, y_b_3, hl_b_3⟩ := lv_b 3 9 c_b_3 rfl rfl
  obtain ⟨b_3, ec_b_3, rest_b_3⟩ := DataW.trod_string Tryz.underlying9 hl_b_3
  obtain rfl : c_b_3 = .string b_3 := by simpa using ec_b_3
  obtain ⟨n_b_4, y_b_4, hl_b_4⟩ := lv_b 4 9 c_b_4 rfl rfl
  obtain ⟨b_4, ec_b_4, rest_b_4⟩ := DataW.trod_string Tryz.underlying9 hl_b_4
  obtain rfl : c_b_4 = .string b_4 := by simpa using ec_b_4
  obtain ⟨n_b_5, y_b_5, hl_b_5⟩ := lv_b 5 4 c_b_5 rfl rfl
  obtain ⟨b_5, ec_b_5, rest_b_5⟩ := DataW.trod_bool Tryz.underlying4 hl_b_5
  obtain rfl : c_b_5 = .bool b_5 := by simpa using ec_b_5
  obtain ⟨n_b_6, y_b_6, hl_b_6⟩ := lv_b 6 3 c_b_6 rfl rfl
  obtain ⟨b_6, ec_b_6, rest_b_6⟩ := DataW.trod_int Tryz.underlying3 hl_b_6
  obtain rfl : c_b_6 = .int .i64 b_6 := by simpa using ec_b_6
  have bd_b_6 := bounds_i64 rest_b_6.2
  obtain ⟨n_b_7, y_b_7, hl_b_7⟩ := lv_b 7 3 c_b_7 rfl rfl
  obtain ⟨b_7, ec_b_7, rest_b_7⟩ := DataW.trod_int Tryz.underlying3 hl_b_7
  obtain rfl : c_b_7 = .int .i64 b_7 := by simpa using ec_b_7
  have bd_b_7 := bounds_i64 rest_b_7.2
  obtain ⟨n_b_8, y_b_8, hl_b_8⟩ := lv_b 8 3 c_b_8 rfl rfl
  obtain ⟨b_8, ec_b_8, rest_b_8⟩ := DataW.trod_int Tryz.underlying3 hl_b_8
  obtain rfl : c_b_8 = .int .i64 b_8 := by simpa using ec_b_8
  have bd_b_8 := bounds_i64 rest_b_8.2
  obtain ⟨n_b_9, y_b_9, hl_b_9⟩ := lv_b 9 3 c_b_9 rfl rfl
  obtain ⟨b_9, ec_b_9, rest_b_9⟩ := DataW.trod_int Tryz.underlying3 hl_b_9
  obtain rfl : c_b_9 = .int .i64 b_9 := by simpa using ec_b_9
  have bd_b_9 := bounds_i64 rest_b_9.2
  obtain ⟨n_b_10, y_b_10, hl_b_10⟩ := lv_b 10 3 c_b_10 rfl rfl
  obtain ⟨b_10, ec_b_10, rest_b_10⟩ := DataW.trod_int Tryz.underlying3 hl_b_10
  obtain rfl : c_b_10 = .int .i64 b_10 := by simpa using ec_b_10
  have bd_b_10 := bounds_i64 rest_b_10.2
  obtain ⟨n_b_11, y_b_11, hl_b_11⟩ := lv_b 11 3 c_b_11 rfl rfl
  obtain ⟨b_11, ec_b_11, rest_b_11⟩ := DataW.trod_int Tryz.underlying3 hl_b_11
  obtain rfl : c_b_11 = .int .i64 b_11 := by simpa using ec_b_11
  have bd_b_11 := bounds_i64 rest_b_11.2
  obtain ⟨n_b_12, y_b_12, hl_b_12⟩ := lv_b 12 3 c_b_12 rfl rfl
  obtain ⟨b_12, ec_b_12, rest_b_12⟩ := DataW.trod_int Tryz.underlying3 hl_b_12
  obtain rfl : c_b_12 = .int .i64 b_12 := by simpa using ec_b_12
  have bd_b_12 := bounds_i64 rest_b_12.2
  clear lv_b
  have hlt1 : ∀ y ∈ p1, y.block < W.heap.size := fun y hy => by simpa using hW'.lt y (by simp [hy])
  clear hA0
  simp only [List.append_nil] at hW'
  refine (Zon.zback_any a_0 a_1 a_2 a_6 a_7 a_8 a_9 a_10 a_11 a_12 a_3.data.toList a_4.data.toList a_5 b_0 b_1 b_2 b_6 b_7 b_8 b_9 b_10 b_11 b_12 b_3.data.toList b_4.data.toList b_5 W (pow hL) (ahd hL) (Wrd.MaxL.of_shape hsh) (by simpa using rest_a_3.2) (by simpa using rest_a_4.2) (by simpa using rest_b_3.2) (by simpa using rest_b_4.2)).mono fun e W' ⟨he, hb⟩ => ?_
  subst he
  exact ⟨_, rfl, _, _, _, [], (p0 ++ p1), [], hW', trodAll_cons_mk (shut_bool Tryz.underlying4 _) trodAll_mk0, (by have q := trodAll_cons_mk (Below.trod (of_decide_eq_true (by kernel_rfl)) (by kernel_rfl) (of_decide_eq_true (by kernel_rfl)) h0k hb hlt0) (trodAll_cons_mk (Below.trod (of_decide_eq_true (by kernel_rfl)) (by kernel_rfl) (of_decide_eq_true (by kernel_rfl)) h1k hb hlt1) (trodAll_mk0)); simp only [List.append_nil] at q; exact q), rfl, hb.frame _, fun h => by cases h⟩

def litV : DataW Unit → Value
  | .lit (.int k n) => .int k n
  | _ => undef
def litsV : DataW Unit → List Value
  | .agg l => l.map litV
  | d => [litV d]
def aggV : DataW Unit → Array Value
  | .agg l => (l.flatMap litsV).toArray
  | _ => #[]
/-- A world for the witness: the settled one, each listed table holding what its initialiser lays. -/
def setCells (h : Array Obj) (g : Nat) (vs : Array Value) : Array Obj := h.modify g fun
  | .cells _ t frozen => .cells vs t frozen
  | o => o
noncomputable def laidWorld (os : Os) : World :=
  { World.holding Tryz.prog os ⟨#[], #[], []⟩ with heap := (setCells (setCells (setCells (setCells (World.holding Tryz.prog os ⟨#[], #[], []⟩).heap 3 (aggV Rows.laid_math_bits_deBruijn32tab)) 4 (aggV Rows.laid_math_bits_deBruijn64tab)) 1 (aggV Rows.laid_internal_strconv_uint64pow10)) 2 (aggV Rows.laid_solstice_civil_ahead)) }
theorem laid_met (os : Os) : laidMet Tryz.prog Rows.zoneBackRow.laid ((laidWorld os).forCall (fun _ _ => 0) ⟨#[], #[Value.agg #[Value.int .i64 0, Value.int .i64 0, Value.int .i64 0, Value.string ⟨#[]⟩, Value.string ⟨#[]⟩, Value.bool false, Value.int .i64 0, Value.int .i64 0, Value.int .i64 0, Value.int .i64 0, Value.int .i64 0, Value.int .i64 0, Value.int .i64 0], Value.agg #[Value.int .i64 0, Value.int .i64 0, Value.int .i64 0, Value.string ⟨#[]⟩, Value.string ⟨#[]⟩, Value.bool false, Value.int .i64 0, Value.int .i64 0, Value.int .i64 0, Value.int .i64 0, Value.int .i64 0, Value.int .i64 0, Value.int .i64 0]], []⟩).memory :=
  laidMet_of_run' 8 (by kernel_rfl) (by kernel_rfl)
theorem reads (os : Os) {H : Type} (enc : TypeId × Value → H) : ∃ places, DataW.whole enc Tryz.prog ((laidWorld os).forCall (fun _ _ => 0) ⟨#[], #[Value.agg #[Value.int .i64 0, Value.int .i64 0, Value.int .i64 0, Value.string ⟨#[]⟩, Value.string ⟨#[]⟩, Value.bool false, Value.int .i64 0, Value.int .i64 0, Value.int .i64 0, Value.int .i64 0, Value.int .i64 0, Value.int .i64 0, Value.int .i64 0], Value.agg #[Value.int .i64 0, Value.int .i64 0, Value.int .i64 0, Value.string ⟨#[]⟩, Value.string ⟨#[]⟩, Value.bool false, Value.int .i64 0, Value.int .i64 0, Value.int .i64 0, Value.int .i64 0, Value.int .i64 0, Value.int .i64 0, Value.int .i64 0]], []⟩).memory Tryz.f8.params.toList Rows.zoneBackSpec.vars false #[Value.agg #[Value.int .i64 0, Value.int .i64 0, Value.int .i64 0, Value.string ⟨#[]⟩, Value.string ⟨#[]⟩, Value.bool false, Value.int .i64 0, Value.int .i64 0, Value.int .i64 0, Value.int .i64 0, Value.int .i64 0, Value.int .i64 0, Value.int .i64 0], Value.agg #[Value.int .i64 0, Value.int .i64 0, Value.int .i64 0, Value.string ⟨#[]⟩, Value.string ⟨#[]⟩, Value.bool false, Value.int .i64 0, Value.int .i64 0, Value.int .i64 0, Value.int .i64 0, Value.int .i64 0, Value.int .i64 0, Value.int .i64 0]].toList 8 = some ([.agg [.lit (.int .i64 0), .lit (.int .i64 0), .lit (.int .i64 0), .lit (.string []), .lit (.string []), .lit (.bool false), .lit (.int .i64 0), .lit (.int .i64 0), .agg [.lit (.int .i64 0), .lit (.int .i64 0), .lit (.int .i64 0)], .agg [.lit (.int .i64 0), .lit (.int .i64 0)]], .agg [.lit (.int .i64 0), .lit (.int .i64 0), .lit (.int .i64 0), .lit (.string []), .lit (.string []), .lit (.bool false), .lit (.int .i64 0), .lit (.int .i64 0), .agg [.lit (.int .i64 0), .lit (.int .i64 0), .lit (.int .i64 0)], .agg [.lit (.int .i64 0), .lit (.int .i64 0)]]], [], places) :=
  ⟨[], by kernel_rfl⟩

set_option maxRecDepth 100000 in
theorem lifted (os : Os) (started : os.Started) (H : Type) (enc : TypeId × Value → H) (F : Stop.Interp) :
    ReturnsInHanded {} Tryz.checked os 8 .any ((OpenSpec.ofChange Rows.zoneBackSpec).preRow enc Tryz.prog Tryz.f8 Rows.zoneBackRow.domain false Rows.zoneBackRow.laid) (((OpenSpec.ofChange Rows.zoneBackSpec).at F).post enc Tryz.prog Tryz.f8 false true false false) := by
  obtain ⟨places, hx⟩ := reads os enc
  refine returnsInHanded_of_row (C := Tryz.checked) (s := OpenSpec.ofChange Rows.zoneBackSpec) own started (by kernel_rfl) Tryz.func8
    (witness_row_at (enc := enc) (C := Tryz.checked) false (laidWorld os) #[Value.agg #[Value.int .i64 0, Value.int .i64 0, Value.int .i64 0, Value.string ⟨#[]⟩, Value.string ⟨#[]⟩, Value.bool false, Value.int .i64 0, Value.int .i64 0, Value.int .i64 0, Value.int .i64 0, Value.int .i64 0, Value.int .i64 0, Value.int .i64 0], Value.agg #[Value.int .i64 0, Value.int .i64 0, Value.int .i64 0, Value.string ⟨#[]⟩, Value.string ⟨#[]⟩, Value.bool false, Value.int .i64 0, Value.int .i64 0, Value.int .i64 0, Value.int .i64 0, Value.int .i64 0, Value.int .i64 0, Value.int .i64 0]] rfl (by kernel_rfl) (by kernel_rfl) (by kernel_rfl)
      (OpenSpec.preRow_of_cond 8 hx (by kernel_rfl) (fun k hk => by cases hk) (by kernel_rfl) (laid_met os))) ?_
  intro W base args ds gs before hval hW _ _ _ hL hsh _
  exact contract H enc W base args ds gs before hval hW hL hsh

theorem said : Rows.ZoneBackSaid :=
  OpenClaim.holds_of_cond 8 Tryz.f8 rfl rfl rfl rfl rfl rfl rfl ⟨rfl, rfl, rfl, rfl, rfl⟩ rfl rfl rfl rfl rfl (by kernel_rfl) Tryz.func8 (by kernel_rfl)
    (of_decide_eq_true (by kernel_rfl)) (by unfold Func.isWrapper; rw [if_neg (by decide +kernel)]; exact ⟨rfl, rfl⟩)
    (fun os started H enc _ F => by rw [OpenClaim.pre_eq_preRow]; exact lifted os started H enc F)

theorem plain (f : FuncId) (fn : Func) (hf : Tryz.pinned.checked.prog.funcNamed "solstice/solsticelaw10.ZoneBack" = some f) (hfn : Tryz.pinned.checked.prog.funcs[f]? = some fn) :
    false = Tryz.pinned.checked.prog.looks [] ∧ ∀ (j : Nat) t, fn.params[j]? = some t → Tryz.pinned.checked.prog.wantsStandIn t = false := by
  obtain rfl : f = 8 := Option.some.inj ((show Tryz.prog.funcNamed "solstice/solsticelaw10.ZoneBack" = some 8 by kernel_rfl).symm.trans hf) |>.symm
  obtain rfl : fn = Tryz.f8 := (Option.some.inj (Tryz.func8.symm.trans hfn)).symm
  refine ⟨by kernel_rfl, fun j t ht => ?_⟩
  rw [Tryz.params8] at ht
  have hm : t ∈ [54, 54] := by have := Array.mem_of_getElem? ht; simpa using this
  have hall : ([54, 54].all fun u => !Tryz.prog.wantsStandIn u) = true := by kernel_rfl
  have h3 : (!Tryz.prog.wantsStandIn t) = true := List.all_eq_true.1 hall t hm
  show Tryz.prog.wantsStandIn t = false
  cases hb : Tryz.prog.wantsStandIn t with
  | false => rfl
  | true => rw [hb] at h3; cases h3

/-- The card. -/
theorem card : Rows.ZoneBackCardSaid :=
  Claim7.holds_tied_plain_at .later [] _ _ _ _ said (fun _ h => by cases h) (by kernel_rfl) (fun _ h => by cases h) zoneBack_row_tie rfl ⟨rfl, rfl⟩ (by kernel_rfl) rfl plain (by kernel_rfl)
#print axioms card
end Go.Proofs.YtpcnpacllkiieaaGreatDoor.lawZoneBack
