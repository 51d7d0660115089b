/-
  RecurBack: the statement proved: for every input the law answers true, and each argument reads as it did. Conditions: the row's own (the listed package-level tables hold what the program's text lays).
-/
import Derived.Test.YtfdamkiocefgmaaDoorBdRe
import Derived.Test.YtfdamkiocefgmaaDoorCards
import Derived.Test.YtfdamkiocefgmaaDoorTie
import Derived.ProofKit
import Derived.OpenShut
import Derived.ShutString
import Derived.Deep.DeepHandedRow
import Derived.Lib.LaidTab
import Derived.LaidMore
import Derived.Stop.LaidErr
import Derived.Test.YtfdamkiocefgmaaDoorFlat
namespace Go.Proofs.YtfdamkiocefgmaaDoor.lawRecurBack
open Go.ChangeShapes Go.WideShapes Go.ChangeAt Go.RowKit
open Go.ChangeMaps (open_string shut_string)

theorem own : ownKnob Tryd.prog.godebug = none := by kernel_rfl
theorem laid_plain {W : World} (h : laidMetH Tryd.prog Rows.recurBackRow.laid W) : laidMet Tryd.prog Rows.recurBackRow.laid W := h
theorem gPow : Tryd.prog.globalNamed "internal/strconv.uint64pow10" = some 4 := by kernel_rfl
theorem tPow : (Tryd.prog.globals[4]?).map (·.type) = some 126 := by kernel_rfl
theorem cPow : Tryd.prog.cellsOf 126 = 20 := by kernel_rfl
theorem cU64 : Tryd.prog.cellsOf 108 = 1 := by kernel_rfl
theorem pow {W : World} (h : laidMetH Tryd.prog Rows.recurBackRow.laid W) : Pow W :=
  Lib.tabBelow_of_tabIs (Lib.tabIs_of_head (rest := _) gPow tPow Tryd.underlying126 Tryd.underlying108 cU64 cPow (laid_plain h).tail.tail)
theorem tAhd : (Tryd.prog.globals[2]?).map (·.type) = some 111 := by kernel_rfl
theorem cAhd : Tryd.prog.cellsOf 111 = 12 := by kernel_rfl
theorem cInt : Tryd.prog.cellsOf 3 = 1 := by kernel_rfl
theorem ahd {W : World} (h : laidMetH Tryd.prog Rows.recurBackRow.laid W) : Civ.Ahead W :=
  Lib.tabBelow_of_tabIs (Lib.tabIs_of_head (rest := _) Civ.gAhead tAhd Tryd.underlying111 Tryd.underlying3 cInt cAhd (laid_plain h).tail.tail.tail)
theorem gFrq : Tryd.prog.globalNamed "solstice/recur.freqs" = some 0 := by kernel_rfl
theorem tFrq : (Tryd.prog.globals[0]?).map (·.type) = some 42 := by kernel_rfl
theorem gDys : Tryd.prog.globalNamed "solstice/recur.days" = some 1 := by kernel_rfl
theorem tDys : (Tryd.prog.globals[1]?).map (·.type) = some 42 := by kernel_rfl
theorem cSev : Tryd.prog.cellsOf 42 = 7 := by kernel_rfl
theorem cStr : Tryd.prog.cellsOf 9 = 1 := by kernel_rfl
theorem frq {W : World} (h : laidMetH Tryd.prog Rows.recurBackRow.laid W) : Rcp.FreqT W :=
  Rcp.StrT.of (Rcp.strIs_of_head (rest := _) (L := Rcp.freqL) gFrq tFrq Tryd.underlying42 Tryd.underlying9 cStr cSev (laid_plain h).tail.tail.tail.tail.tail) gFrq (by decide)
theorem dys {W : World} (h : laidMetH Tryd.prog Rows.recurBackRow.laid W) : Rcp.DayT W :=
  Rcp.StrT.of (Rcp.strIs_of_head (rest := _) (L := Rcp.dayL) gDys tDys Tryd.underlying42 Tryd.underlying9 cStr cSev (laid_plain h).tail.tail.tail.tail.tail.tail) gDys (by decide)

set_option maxRecDepth 100000 in
theorem contract (H : Type) (enc : TypeId × Value → H) (W : World) (base : Nat) (args : Array Value) (ds gs : List (DataW H)) (before : List MemPlace)
    (hval : ∀ (j : Nat) t v, Tryd.f3.params[j]? = some t → args[j]? = some v → Value.okWide Tryd.prog W .any base t v)
    (hW : DataW.Whole enc Tryd.prog Tryd.f3.params.toList Rows.recurBackSpec.vars false W args.toList ds gs before) (hL : laidMetH Tryd.prog Rows.recurBackRow.laid W) (hsh : W.ShapedOpen Tryd.prog) :
    Calls Tryd.prog 3 args W fun e W' => ∃ v, e = .returned v ∧ Rows.recurBackSpec.post enc Tryd.prog Tryd.f3 false true false false W args v W' := by
  have hW' := hW
  obtain ⟨p, q, hA0, hV, rfl, hfz, hnd⟩ := hW
  have hA : DataW.TrodAll enc Tryd.prog W 0 (fun _ => true) true Tryd.f3.params.toList args.toList ds p := hA0
  rw [Tryd.params3] at hA hval
  obtain ⟨v0, vs0, d0, ds0, p0, q0, hargs0, rfl, rfl, h0, r0⟩ := trodAll_cons hA
  obtain ⟨v1, vs1, d1, ds1, p1, q1, hargs1, rfl, rfl, h1, r1⟩ := trodAll_cons r0
  obtain ⟨v2, vs2, d2, ds2, p2, q2, hargs2, rfl, rfl, h2, r2⟩ := trodAll_cons r1
  obtain ⟨rfl, rfl, rfl⟩ := trodAll_nil r2
  subst hargs2
  subst hargs1
  obtain rfl : args = #[v0, v1, v2] := by cases args; simp_all
  obtain ⟨rfl, rfl⟩ := trodVars_none hV
  have h0k := h0
  obtain ⟨cs_a, rfl, sz_a⟩ := okWide_struct Tryd.underlying25 (hval 0 25 v0 rfl rfl)
  obtain ⟨c_a_0, c_a_1, c_a_2, c_a_3, c_a_4, c_a_5, c_a_6, c_a_7, c_a_8, c_a_9, c_a_10, c_a_11, c_a_12, c_a_13, c_a_14, c_a_15, rfl⟩ := Flat.arr16 (sz_a.trans (by kernel_rfl))
  obtain ⟨fuel0, hf0⟩ := h0
  have lv_a := (Flat.leaves_at 4 25 [3, 3, 3, 4, 3, 4, 22, 22, 22, 23, 22, 22, 22, 22, 22, 3] (by kernel_rfl) fuel0 [c_a_0, c_a_1, c_a_2, c_a_3, c_a_4, c_a_5, c_a_6, c_a_7, c_a_8, c_a_9, c_a_10, c_a_11, c_a_12, c_a_13, c_a_14, c_a_15] _ (by simpa [Value.cells] using hf0)).2
  obtain ⟨n_a_0, y_a_0, hl_a_0⟩ := lv_a 0 3 c_a_0 rfl rfl
  obtain ⟨a_0, ec_a_0, rest_a_0⟩ := DataW.trod_int Tryd.underlying3 hl_a_0
  obtain rfl : c_a_0 = .int .i64 a_0 := by simpa using ec_a_0
  have bd_a_0 := bounds_i64 rest_a_0.2
  obtain ⟨n_a_1, y_a_1, hl_a_1⟩ := lv_a 1 3 c_a_1 rfl rfl
  obtain ⟨a_1, ec_a_1, rest_a_1⟩ := DataW.trod_int Tryd.underlying3 hl_a_1
  obtain rfl : c_a_1 = .int .i64 a_1 := by simpa using ec_a_1
  have bd_a_1 := bounds_i64 rest_a_1.2
  obtain ⟨n_a_2, y_a_2, hl_a_2⟩ := lv_a 2 3 c_a_2 rfl rfl
  obtain ⟨a_2, ec_a_2, rest_a_2⟩ := DataW.trod_int Tryd.underlying3 hl_a_2
  obtain rfl : c_a_2 = .int .i64 a_2 := by simpa using ec_a_2
  have bd_a_2 := bounds_i64 rest_a_2.2
  obtain ⟨n_a_3, y_a_3, hl_a_3⟩ := lv_a 3 4 c_a_3 rfl rfl
  obtain ⟨a_3, ec_a_3, rest_a_3⟩ := DataW.trod_bool Tryd.underlying4 hl_a_3
  obtain rfl : c_a_3 = .bool a_3 := by simpa using ec_a_3
  obtain ⟨n_a_4, y_a_4, hl_a_4⟩ := lv_a 4 3 c_a_4 rfl rfl
  obtain ⟨a_4, ec_a_4, rest_a_4⟩ := DataW.trod_int Tryd.underlying3 hl_a_4
  obtain rfl : c_a_4 = .int .i64 a_4 := by simpa using ec_a_4
  have bd_a_4 := bounds_i64 rest_a_4.2
  obtain ⟨n_a_5, y_a_5, hl_a_5⟩ := lv_a 5 4 c_a_5 rfl rfl
  obtain ⟨a_5, ec_a_5, rest_a_5⟩ := DataW.trod_bool Tryd.underlying4 hl_a_5
  obtain rfl : c_a_5 = .bool a_5 := by simpa using ec_a_5
  obtain ⟨n_a_6, y_a_6, hl_a_6⟩ := lv_a 6 22 c_a_6 rfl rfl
  obtain ⟨a_6, pv_a_6, bd_a_6⟩ := Rct.open_ints hl_a_6
  obtain ⟨n_a_7, y_a_7, hl_a_7⟩ := lv_a 7 22 c_a_7 rfl rfl
  obtain ⟨a_7, pv_a_7, bd_a_7⟩ := Rct.open_ints hl_a_7
  obtain ⟨n_a_8, y_a_8, hl_a_8⟩ := lv_a 8 22 c_a_8 rfl rfl
  obtain ⟨a_8, pv_a_8, bd_a_8⟩ := Rct.open_ints hl_a_8
  obtain ⟨n_a_9, y_a_9, hl_a_9⟩ := lv_a 9 23 c_a_9 rfl rfl
  obtain ⟨a_9, pv_a_9, bd_a_9⟩ := Rct.open_days hl_a_9
  obtain ⟨n_a_10, y_a_10, hl_a_10⟩ := lv_a 10 22 c_a_10 rfl rfl
  obtain ⟨a_10, pv_a_10, bd_a_10⟩ := Rct.open_ints hl_a_10
  obtain ⟨n_a_11, y_a_11, hl_a_11⟩ := lv_a 11 22 c_a_11 rfl rfl
  obtain ⟨a_11, pv_a_11, bd_a_11⟩ := Rct.open_ints hl_a_11
  obtain ⟨n_a_12, y_a_12, hl_a_12⟩ := lv_a 12 22 c_a_12 rfl rfl
  obtain ⟨a_12, pv_a_12, bd_a_12⟩ := Rct.open_ints hl_a_12
  obtain ⟨n_a_13, y_a_13, hl_a_13⟩ := lv_a 13 22 c_a_13 rfl rfl
  obtain ⟨a_13, pv_a_13, bd_a_13⟩ := Rct.open_ints hl_a_13
  obtain ⟨n_a_14, y_a_14, hl_a_14⟩ := lv_a 14 22 c_a_14 rfl rfl
  obtain ⟨a_14, pv_a_14, bd_a_14⟩ := Rct.open_ints hl_a_14
  obtain ⟨n_a_15, y_a_15, hl_a_15⟩ := lv_a 15 3 c_a_15 rfl rfl
  obtain ⟨a_15, ec_a_15, rest_a_15⟩ := DataW.trod_int Tryd.underlying3 hl_a_15
  obtain rfl : c_a_15 = .int .i64 a_15 := by simpa using ec_a_15
  have bd_a_15 := bounds_i64 rest_a_15.2
  clear lv_a
  have hlt0 : ∀ y ∈ p0, y.block < W.heap.size := fun y hy => by simpa using hW'.lt y (by simp [hy])
  have h1k := h1
  obtain ⟨cs_b, rfl, sz_b⟩ := okWide_struct Tryd.underlying25 (hval 1 25 v1 rfl rfl)
  obtain ⟨c_b_0, c_b_1, c_b_2, c_b_3, c_b_4, c_b_5, c_b_6, c_b_7, c_b_8, c_b_9, c_b_10, c_b_11, c_b_12, c_b_13, c_b_14, c_b_15, rfl⟩ := Flat.arr16 (sz_b.trans (by kernel_rfl))
  obtain ⟨fuel1, hf1⟩ := h1
  have lv_b := (Flat.leaves_at 4 25 [3, 3, 3, 4, 3, 4, 22, 22, 22, 23, 22, 22, 22, 22, 22, 3] (by kernel_rfl) fuel1 [c_b_0, c_b_1, c_b_2, c_b_3, c_b_4, c_b_5, c_b_6, c_b_7, c_b_8, c_b_9, c_b_10, c_b_11, c_b_12, c_b_13, c_b_14, c_b_15] _ (by simpa [Value.cells] using hf1)).2
  obtain ⟨n_b_0, y_b_0, hl_b_0⟩ := lv_b 0 3 c_b_0 rfl rfl
  obtain ⟨b_0, ec_b_0, rest_b_0⟩ := DataW.trod_int Tryd.underlying3 hl_b_0
  obtain rfl : c_b_0 = .int .i64 b_0 := by simpa using ec_b_0
  have bd_b_0 := bounds_i64 rest_b_0.2
  obtain ⟨n_b_1, y_b_1, hl_b_1⟩ := lv_b 1 3 c_b_1 rfl rfl
  obtain ⟨b_1, ec_b_1, rest_b_1⟩ := DataW.trod_int Tryd.underlying3 hl_b_1
  obtain rfl : c_b_1 = .int .i64 b_1 := by simpa using ec_b_1
  have bd_b_1 := bounds_i64 rest_b_1.2
  obtain ⟨n_b_2, y_b_2, hl_b_2⟩ := lv_b 2 3 c_b_2 rfl rfl
  obtain ⟨b_2, ec_b_2, rest_b_2⟩ := DataW.trod_int Tryd.underlying3 hl_b_2
  obtain rfl : c_b_2 = .int .i64 b_2 := by simpa using ec_b_2
  have bd_b_2 := bounds_i64 rest_b_2.2
  obtain ⟨n_b_3, y_b_3, hl_b_3⟩ := lv_b 3 4 c_b_3 rfl rfl
  obtain ⟨b_3, ec_b_3, rest_b_3⟩ := DataW.trod_bool Tryd.underlying4 hl_b_3
  obtain rfl : c_b_3 = .bool b_3 := by simpa using ec_b_3
  obtain ⟨n_b_4, y_b_4, hl_b_4⟩ := lv_b 4 3 c_b_4 rfl rfl
  obtain ⟨b_4, ec_b_4, rest_b_4⟩ := DataW.trod_int Tryd.underlying3 hl_b_4
  obtain rfl : c_b_4 = .int .i64 b_4 := by simpa using ec_b_4
  have bd_b_4 := bounds_i64 rest_b_4.2
  obtain ⟨n_b_5, y_b_5, hl_b_5⟩ := lv_b 5 4 c_b_5 rfl rfl
  obtain ⟨b_5, ec_b_5, rest_b_5⟩ := DataW.trod_bool Tryd.underlying4 hl_b_5
  obtain rfl : c_b_5 = .bool b_5 := by simpa using ec_b_5
  obtain ⟨n_b_6, y_b_6, hl_b_6⟩ := lv_b 6 22 c_b_6 rfl rfl
  obtain ⟨b_6, pv_b_6, bd_b_6⟩ := Rct.open_ints hl_b_6
  obtain ⟨n_b_7, y_b_7, hl_b_7⟩ := lv_b 7 22 c_b_7 rfl rfl
  obtain ⟨b_7, pv_b_7, bd_b_7⟩ := Rct.open_ints hl_b_7
  obtain ⟨n_b_8, y_b_8, hl_b_8⟩ := lv_b 8 22 c_b_8 rfl rfl
  obtain ⟨b_8, pv_b_8, bd_b_8⟩ := Rct.open_ints hl_b_8
  obtain ⟨n_b_9, y_b_9, hl_b_9⟩ := lv_b 9 23 c_b_9 rfl rfl
  obtain ⟨b_9, pv_b_9, bd_b_9⟩ := Rct.open_days hl_b_9
  obtain ⟨n_b_10, y_b_10, hl_b_10⟩ := lv_b 10 22 c_b_10 rfl rfl
  obtain ⟨b_10, pv_b_10, bd_b_10⟩ := Rct.open_ints hl_b_10
  obtain ⟨n_b_11, y_b_11, hl_b_11⟩ := lv_b 11 22 c_b_11 rfl rfl
  obtain ⟨b_11, pv_b_11, bd_b_11⟩ := Rct.open_ints hl_b_11
  obtain ⟨n_b_12, y_b_12, hl_b_12⟩ := lv_b 12 22 c_b_12 rfl rfl
  obtain ⟨b_12, pv_b_12, bd_b_12⟩ := Rct.open_ints hl_b_12
  obtain ⟨n_b_13, y_b_13, hl_b_13⟩ := lv_b 13 22 c_b_13 rfl rfl
  obtain ⟨b_13, pv_b_13, bd_b_13⟩ := Rct.open_ints hl_b_13
  obtain ⟨n_b_14, y_b_14, hl_b_14⟩ := lv_b 14 22 c_b_14 rfl rfl
  obtain ⟨b_14, pv_b_14, bd_b_14⟩ := Rct.open_ints hl_b_14
  obtain ⟨n_b_15, y_b_15, hl_b_15⟩ := lv_b 15 3 c_b_15 rfl rfl
  obtain ⟨b_15, ec_b_15, rest_b_15⟩ := DataW.trod_int Tryd.underlying3 hl_b_15
  obtain rfl : c_b_15 = .int .i64 b_15 := by simpa using ec_b_15
  have bd_b_15 := bounds_i64 rest_b_15.2
  clear lv_b
  have hlt1 : ∀ y ∈ p1, y.block < W.heap.size := fun y hy => by simpa using hW'.lt y (by simp [hy])
  obtain ⟨s, rfl, rfl, rfl, wf_s⟩ := open_string Tryd.underlying9 (hval 2 9 v2 rfl rfl) h2
  clear hA0
  simp only [List.append_nil] at hW'
  refine (Rct.back_w ⟨a_0, a_1, a_2, a_3, a_4, a_5, a_6, a_7, a_8, a_9, a_10, a_11, a_12, a_13, a_14, a_15⟩ c_a_6 c_a_7 c_a_8 c_a_9 c_a_10 c_a_11 c_a_12 c_a_13 c_a_14 ⟨b_0, b_1, b_2, b_3, b_4, b_5, b_6, b_7, b_8, b_9, b_10, b_11, b_12, b_13, b_14, b_15⟩ c_b_6 c_b_7 c_b_8 c_b_9 c_b_10 c_b_11 c_b_12 c_b_13 c_b_14 s W ⟨Wrd.MaxL.of_shape hsh, frq hL, dys hL, ahd hL, pow hL⟩ ⟨pv_a_6, pv_a_7, pv_a_8, pv_a_9, pv_a_10, pv_a_11, pv_a_12, pv_a_13, pv_a_14⟩ ⟨pv_b_6, pv_b_7, pv_b_8, pv_b_9, pv_b_10, pv_b_11, pv_b_12, pv_b_13, pv_b_14⟩ bd_a_4.1 bd_a_4.2 bd_b_4.1 bd_b_4.2 (Nat.le_trans wf_s (by decide))).mono fun e W' ⟨he, hb⟩ => ?_
  subst he
  exact ⟨_, rfl, _, _, _, [], (p0 ++ p1), [], hW', trodAll_cons_mk (shut_bool Tryd.underlying4 _) trodAll_mk0, (by have q := trodAll_cons_mk (Below.trod (of_decide_eq_true (by kernel_rfl)) (by kernel_rfl) (of_decide_eq_true (by kernel_rfl)) h0k hb hlt0) (trodAll_cons_mk (Below.trod (of_decide_eq_true (by kernel_rfl)) (by kernel_rfl) (of_decide_eq_true (by kernel_rfl)) h1k hb hlt1) (trodAll_cons_mk (shut_string Tryd.underlying9 wf_s) (trodAll_mk0))); simp only [List.append_nil] at q; exact q), rfl, hb.frame _, fun h => by cases h⟩

def litV : DataW Unit → Value
  | .lit (.int k n) => .int k n
  | .lit (.string s) => .string ⟨s.toArray⟩
  | _ => undef
def litsV : DataW Unit → List Value
  | .agg l => l.map litV
  | d => [litV d]
def aggV : DataW Unit → Array Value
  | .agg l => (l.flatMap litsV).toArray
  | _ => #[]
/-- A world for the witness: the settled one, each listed table holding what its initialiser lays. -/
def setCells (h : Array Obj) (g : Nat) (vs : Array Value) : Array Obj := h.modify g fun
  | .cells _ t frozen => .cells vs t frozen
  | o => o
noncomputable def laidWorld (os : Os) : World :=
  { World.holding Tryd.prog os ⟨#[], #[], []⟩ with heap := (setCells (setCells (setCells (setCells (setCells (setCells (setCells (setCells (World.holding Tryd.prog os ⟨#[], #[], []⟩).heap 7 (aggV Rows.laid_math_bits_deBruijn32tab)) 8 (aggV Rows.laid_math_bits_deBruijn64tab)) 4 (aggV Rows.laid_internal_strconv_uint64pow10)) 2 (aggV Rows.laid_solstice_civil_ahead)) 6 (aggV Rows.laid_unicode_utf8_acceptRanges)) 0 (aggV Rows.laid_solstice_recur_freqs)) 1 (aggV Rows.laid_solstice_recur_days)) 5 (aggV Rows.laid_unicode_utf8_first)) }
theorem laid_met (os : Os) : laidMet Tryd.prog Rows.recurBackRow.laid ((laidWorld os).forCall (fun _ _ => 0) ⟨#[], #[Value.agg #[Value.int .i64 0, Value.int .i64 0, Value.int .i64 0, Value.bool false, Value.int .i64 0, Value.bool false, Value.slice none 0 0, Value.slice none 0 0, Value.slice none 0 0, Value.slice none 0 0, Value.slice none 0 0, Value.slice none 0 0, Value.slice none 0 0, Value.slice none 0 0, Value.slice none 0 0, Value.int .i64 0], Value.agg #[Value.int .i64 0, Value.int .i64 0, Value.int .i64 0, Value.bool false, Value.int .i64 0, Value.bool false, Value.slice none 0 0, Value.slice none 0 0, Value.slice none 0 0, Value.slice none 0 0, Value.slice none 0 0, Value.slice none 0 0, Value.slice none 0 0, Value.slice none 0 0, Value.slice none 0 0, Value.int .i64 0], Value.string ⟨#[]⟩], []⟩).memory :=
  laidMet_of_run' 8 (by kernel_rfl) (by kernel_rfl)
theorem reads (os : Os) {H : Type} (enc : TypeId × Value → H) : ∃ places, DataW.whole enc Tryd.prog ((laidWorld os).forCall (fun _ _ => 0) ⟨#[], #[Value.agg #[Value.int .i64 0, Value.int .i64 0, Value.int .i64 0, Value.bool false, Value.int .i64 0, Value.bool false, Value.slice none 0 0, Value.slice none 0 0, Value.slice none 0 0, Value.slice none 0 0, Value.slice none 0 0, Value.slice none 0 0, Value.slice none 0 0, Value.slice none 0 0, Value.slice none 0 0, Value.int .i64 0], Value.agg #[Value.int .i64 0, Value.int .i64 0, Value.int .i64 0, Value.bool false, Value.int .i64 0, Value.bool false, Value.slice none 0 0, Value.slice none 0 0, Value.slice none 0 0, Value.slice none 0 0, Value.slice none 0 0, Value.slice none 0 0, Value.slice none 0 0, Value.slice none 0 0, Value.slice none 0 0, Value.int .i64 0], Value.string ⟨#[]⟩], []⟩).memory Tryd.f3.params.toList Rows.recurBackSpec.vars false #[Value.agg #[Value.int .i64 0, Value.int .i64 0, Value.int .i64 0, Value.bool false, Value.int .i64 0, Value.bool false, Value.slice none 0 0, Value.slice none 0 0, Value.slice none 0 0, Value.slice none 0 0, Value.slice none 0 0, Value.slice none 0 0, Value.slice none 0 0, Value.slice none 0 0, Value.slice none 0 0, Value.int .i64 0], Value.agg #[Value.int .i64 0, Value.int .i64 0, Value.int .i64 0, Value.bool false, Value.int .i64 0, Value.bool false, Value.slice none 0 0, Value.slice none 0 0, Value.slice none 0 0, Value.slice none 0 0, Value.slice none 0 0, Value.slice none 0 0, Value.slice none 0 0, Value.slice none 0 0, Value.slice none 0 0, Value.int .i64 0], Value.string ⟨#[]⟩].toList 8 = some ([.agg [.lit (.int .i64 0), .lit (.int .i64 0), .lit (.int .i64 0), .lit (.bool false), .lit (.int .i64 0), .lit (.bool false), .nil, .nil, .nil, .nil, .nil, .nil, .nil, .nil, .nil, .lit (.int .i64 0)], .agg [.lit (.int .i64 0), .lit (.int .i64 0), .lit (.int .i64 0), .lit (.bool false), .lit (.int .i64 0), .lit (.bool false), .nil, .nil, .nil, .nil, .nil, .nil, .nil, .nil, .nil, .lit (.int .i64 0)], .lit (.string [])], [], places) :=
  ⟨[], by kernel_rfl⟩

set_option maxRecDepth 100000 in
theorem lifted (os : Os) (started : os.Started) (H : Type) (enc : TypeId × Value → H) (F : Stop.Interp) :
    ReturnsInHanded {} Tryd.checked os 3 .any ((OpenSpec.ofChange Rows.recurBackSpec).preRow enc Tryd.prog Tryd.f3 Rows.recurBackRow.domain false Rows.recurBackRow.laid) (((OpenSpec.ofChange Rows.recurBackSpec).at F).post enc Tryd.prog Tryd.f3 false true false false) := by
  obtain ⟨places, hx⟩ := reads os enc
  refine returnsInHanded_of_row (C := Tryd.checked) (s := OpenSpec.ofChange Rows.recurBackSpec) own started (by kernel_rfl) Tryd.func3
    (witness_row_at (enc := enc) (C := Tryd.checked) false (laidWorld os) #[Value.agg #[Value.int .i64 0, Value.int .i64 0, Value.int .i64 0, Value.bool false, Value.int .i64 0, Value.bool false, Value.slice none 0 0, Value.slice none 0 0, Value.slice none 0 0, Value.slice none 0 0, Value.slice none 0 0, Value.slice none 0 0, Value.slice none 0 0, Value.slice none 0 0, Value.slice none 0 0, Value.int .i64 0], Value.agg #[Value.int .i64 0, Value.int .i64 0, Value.int .i64 0, Value.bool false, Value.int .i64 0, Value.bool false, Value.slice none 0 0, Value.slice none 0 0, Value.slice none 0 0, Value.slice none 0 0, Value.slice none 0 0, Value.slice none 0 0, Value.slice none 0 0, Value.slice none 0 0, Value.slice none 0 0, Value.int .i64 0], Value.string ⟨#[]⟩] rfl (by kernel_rfl) (by kernel_rfl) (by kernel_rfl)
      (OpenSpec.preRow_of_cond 8 hx (by kernel_rfl) (fun k hk => by cases hk) (by kernel_rfl) (laid_met os))) ?_
  intro W base args ds gs before hval hW _ _ _ hL hsh _
  exact contract H enc W base args ds gs before hval hW hL hsh

theorem said : Rows.RecurBackSaid :=
  OpenClaim.holds_of_cond 3 Tryd.f3 rfl rfl rfl rfl rfl rfl rfl ⟨rfl, rfl, rfl, rfl, rfl⟩ rfl rfl rfl rfl rfl (by kernel_rfl) Tryd.func3 (by kernel_rfl)
    (of_decide_eq_true (by kernel_rfl)) (by unfold Func.isWrapper; rw [if_neg (by decide +kernel)]; exact ⟨rfl, rfl⟩)
    (fun os started H enc _ F => by rw [OpenClaim.pre_eq_preRow]; exact lifted os started H enc F)

theorem plain (f : FuncId) (fn : Func) (hf : Tryd.pinned.checked.prog.funcNamed "solstice/solsticelaw21.RecurBack" = some f) (hfn : Tryd.pinned.checked.prog.funcs[f]? = some fn) :
    false = Tryd.pinned.checked.prog.looks [] ∧ ∀ (j : Nat) t, fn.params[j]? = some t → Tryd.pinned.checked.prog.wantsStandIn t = false := by
  obtain rfl : f = 3 := Option.some.inj ((show Tryd.prog.funcNamed "solstice/solsticelaw21.RecurBack" = some 3 by kernel_rfl).symm.trans hf) |>.symm
  obtain rfl : fn = Tryd.f3 := (Option.some.inj (Tryd.func3.symm.trans hfn)).symm
  refine ⟨by kernel_rfl, fun j t ht => ?_⟩
  rw [Tryd.params3] at ht
  have hm : t ∈ [25, 25, 9] := by have := Array.mem_of_getElem? ht; simpa using this
  have hall : ([25, 25, 9].all fun u => !Tryd.prog.wantsStandIn u) = true := by kernel_rfl
  have h3 : (!Tryd.prog.wantsStandIn t) = true := List.all_eq_true.1 hall t hm
  show Tryd.prog.wantsStandIn t = false
  cases hb : Tryd.prog.wantsStandIn t with
  | false => rfl
  | true => rw [hb] at h3; cases h3

/-- The card. -/
theorem card : Rows.RecurBackCardSaid :=
  Claim7.holds_tied_plain_at .later [] _ _ _ _ said (fun _ h => by cases h) (by kernel_rfl) (fun _ h => by cases h) recurBack_row_tie rfl ⟨rfl, rfl⟩ (by kernel_rfl) rfl plain (by kernel_rfl)
#print axioms card
end Go.Proofs.YtfdamkiocefgmaaDoor.lawRecurBack
