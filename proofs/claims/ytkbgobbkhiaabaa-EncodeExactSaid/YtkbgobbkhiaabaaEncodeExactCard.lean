/-
  EncodeExact: the statement proved: for every input the law answers true, and each argument reads as it did. Conditions: the row's own (the listed package-level tables hold what the program's text lays).
-/
import Derived.Test.YtkbgobbkhiaabaaEncL
import Derived.ProofKit
import Derived.OpenShut
import Derived.ShutString
import Derived.Deep.DeepHandedRow
import Derived.Lib.LaidTab
import Derived.LaidMore
import Derived.Stop.LaidErr
import Derived.Lib.SmallJoins
namespace Go.Proofs.Ytkbgobbkhiaabaa.lawEncodeExact
open Go.ChangeShapes Go.WideShapes Go.ChangeAt Go.RowKit
open Go.Joins
open Go.ChangeMaps (open_string shut_string)

theorem own : ownKnob Try.prog.godebug = none := by kernel_rfl


set_option maxRecDepth 100000 in
theorem contract (H : Type) (enc : TypeId × Value → H) (W : World) (base : Nat) (args : Array Value) (ds gs : List (DataW H)) (before : List MemPlace)
    (hval : ∀ (j : Nat) t v, Try.f3.params[j]? = some t → args[j]? = some v → Value.okWide Try.prog W .any base t v)
    (hW : DataW.Whole enc Try.prog Try.f3.params.toList Rows.encodeExactSpec.vars false W args.toList ds gs before) :
    Calls Try.prog 3 args W fun e W' => ∃ v, e = .returned v ∧ Rows.encodeExactSpec.post enc Try.prog Try.f3 false true false false W args v W' := by
  have hW' := hW
  obtain ⟨p, q, hA0, hV, rfl, hfz, hnd⟩ := hW
  have hA : DataW.TrodAll enc Try.prog W 0 (fun _ => true) true Try.f3.params.toList args.toList ds p := hA0
  rw [Try.params3] at hA hval
  obtain ⟨v0, vs0, d0, ds0, p0, q0, hargs0, rfl, rfl, h0, r0⟩ := trodAll_cons hA
  obtain ⟨v1, vs1, d1, ds1, p1, q1, hargs1, rfl, rfl, h1, r1⟩ := trodAll_cons r0
  obtain ⟨v2, vs2, d2, ds2, p2, q2, hargs2, rfl, rfl, h2, r2⟩ := trodAll_cons r1
  obtain ⟨v3, vs3, d3, ds3, p3, q3, hargs3, rfl, rfl, h3, r3⟩ := trodAll_cons r2
  obtain ⟨v4, vs4, d4, ds4, p4, q4, hargs4, rfl, rfl, h4, r4⟩ := trodAll_cons r3
  obtain ⟨v5, vs5, d5, ds5, p5, q5, hargs5, rfl, rfl, h5, r5⟩ := trodAll_cons r4
  obtain ⟨v6, vs6, d6, ds6, p6, q6, hargs6, rfl, rfl, h6, r6⟩ := trodAll_cons r5
  obtain ⟨rfl, rfl, rfl⟩ := trodAll_nil r6
  subst hargs6
  subst hargs5
  subst hargs4
  subst hargs3
  subst hargs2
  subst hargs1
  obtain rfl : args = #[v0, v1, v2, v3, v4, v5, v6] := by cases args; simp_all
  obtain ⟨rfl, rfl⟩ := trodVars_none hV
  obtain ⟨month, rfl, rfl, rfl, wf_month⟩ := open_int Try.underlying3 (hval 0 3 v0 rfl rfl) h0
  have bd_month := bounds_i64 wf_month
  obtain ⟨c_on_0, c_on_1, c_on_2, y_on_0, y_on_1, y_on_2, m_on, rfl, rfl, rfl, hy_on_0, hy_on_1, hy_on_2⟩ := open_agg3 Try.underlying23 (by kernel_rfl) (by kernel_rfl) (hval 1 23 v1 rfl rfl) h1
  obtain ⟨on_0, ec_on_0, rfl, wf_on_0⟩ := DataW.trod_int Try.underlying3 hy_on_0
  obtain rfl : c_on_0 = .int .i64 on_0 := by simpa using ec_on_0
  clear ec_on_0
  have bd_on_0 := bounds_i64 wf_on_0
  obtain ⟨on_1, ec_on_1, rfl, wf_on_1⟩ := DataW.trod_int Try.underlying3 hy_on_1
  obtain rfl : c_on_1 = .int .i64 on_1 := by simpa using ec_on_1
  clear ec_on_1
  have bd_on_1 := bounds_i64 wf_on_1
  obtain ⟨on_2, ec_on_2, rfl, wf_on_2⟩ := DataW.trod_int Try.underlying3 hy_on_2
  obtain rfl : c_on_2 = .int .i64 on_2 := by simpa using ec_on_2
  clear ec_on_2
  have bd_on_2 := bounds_i64 wf_on_2
  obtain ⟨move, rfl, rfl, rfl, wf_move⟩ := open_int Try.underlying3 (hval 2 3 v2 rfl rfl) h2
  have bd_move := bounds_i64 wf_move
  obtain ⟨c_a_0, c_a_1, y_a_0, y_a_1, m_a, rfl, rfl, rfl, hy_a_0, hy_a_1⟩ := open_agg2 Try.underlying25 (by kernel_rfl) (by kernel_rfl) (hval 3 25 v3 rfl rfl) h3
  obtain ⟨a_0, ec_a_0, rfl, wf_a_0⟩ := DataW.trod_int Try.underlying3 hy_a_0
  obtain rfl : c_a_0 = .int .i64 a_0 := by simpa using ec_a_0
  clear ec_a_0
  have bd_a_0 := bounds_i64 wf_a_0
  obtain ⟨a_1, ec_a_1, rfl, wf_a_1⟩ := DataW.trod_int Try.underlying3 hy_a_1
  obtain rfl : c_a_1 = .int .i64 a_1 := by simpa using ec_a_1
  clear ec_a_1
  have bd_a_1 := bounds_i64 wf_a_1
  obtain ⟨std, rfl, rfl, rfl, wf_std⟩ := open_int Try.underlying3 (hval 4 3 v4 rfl rfl) h4
  have bd_std := bounds_i64 wf_std
  obtain ⟨save, rfl, rfl, rfl, wf_save⟩ := open_int Try.underlying3 (hval 5 3 v5 rfl rfl) h5
  have bd_save := bounds_i64 wf_save
  obtain ⟨now, rfl, rfl, rfl, wf_now⟩ := open_int Try.underlying3 (hval 6 3 v6 rfl rfl) h6
  have bd_now := bounds_i64 wf_now
  clear hA0
  simp only [List.append_nil] at hW'
  refine (Enc.eex_any month on_0 on_1 on_2 move a_0 a_1 std save now W bd_move.1 bd_move.2 bd_a_1.1 bd_a_1.2 bd_now.1 bd_now.2).mono fun e W' ⟨he, hb⟩ => ?_
  subst he
  exact ⟨_, rfl, _, _, _, [], [], [], hW', trodAll_cons_mk (shut_bool Try.underlying4 _) trodAll_mk0, (trodAll_cons_mk (shut_int Try.underlying3 wf_month) (trodAll_cons_mk (shut_agg3 Try.underlying23 (by kernel_rfl) (by kernel_rfl) ⟨1, trod_int_mk 0 Try.underlying3 wf_on_0⟩ ⟨1, trod_int_mk 0 Try.underlying3 wf_on_1⟩ ⟨1, trod_int_mk 0 Try.underlying3 wf_on_2⟩) (trodAll_cons_mk (shut_int Try.underlying3 wf_move) (trodAll_cons_mk (shut_agg2 Try.underlying25 (by kernel_rfl) (by kernel_rfl) ⟨1, trod_int_mk 0 Try.underlying3 wf_a_0⟩ ⟨1, trod_int_mk 0 Try.underlying3 wf_a_1⟩) (trodAll_cons_mk (shut_int Try.underlying3 wf_std) (trodAll_cons_mk (shut_int Try.underlying3 wf_save) (trodAll_cons_mk (shut_int Try.underlying3 wf_now) (trodAll_mk0)))))))), rfl, hb.frame _, fun h => by cases h⟩
theorem laid_met (os : Os) : laidMet Try.prog Rows.encodeExactRow.laid ((World.holding Try.prog os ⟨#[], #[], []⟩).forCall (fun _ _ => 0) ⟨#[], #[Value.int .i64 0, Value.agg #[Value.int .i64 0, Value.int .i64 0, Value.int .i64 0], Value.int .i64 0, Value.agg #[Value.int .i64 0, Value.int .i64 0], Value.int .i64 0, Value.int .i64 0, Value.int .i64 0], []⟩).memory :=
  laidMet_of_run' 8 (by kernel_rfl) (by kernel_rfl)
theorem reads (os : Os) {H : Type} (enc : TypeId × Value → H) : ∃ places, DataW.whole enc Try.prog ((World.holding Try.prog os ⟨#[], #[], []⟩).forCall (fun _ _ => 0) ⟨#[], #[Value.int .i64 0, Value.agg #[Value.int .i64 0, Value.int .i64 0, Value.int .i64 0], Value.int .i64 0, Value.agg #[Value.int .i64 0, Value.int .i64 0], Value.int .i64 0, Value.int .i64 0, Value.int .i64 0], []⟩).memory Try.f3.params.toList Rows.encodeExactSpec.vars false #[Value.int .i64 0, Value.agg #[Value.int .i64 0, Value.int .i64 0, Value.int .i64 0], Value.int .i64 0, Value.agg #[Value.int .i64 0, Value.int .i64 0], Value.int .i64 0, Value.int .i64 0, Value.int .i64 0].toList 8 = some ([.lit (.int .i64 0), .agg [.lit (.int .i64 0), .lit (.int .i64 0), .lit (.int .i64 0)], .lit (.int .i64 0), .agg [.lit (.int .i64 0), .lit (.int .i64 0)], .lit (.int .i64 0), .lit (.int .i64 0), .lit (.int .i64 0)], [], places) :=
  ⟨[], by kernel_rfl⟩

set_option maxRecDepth 100000 in
theorem lifted (os : Os) (started : os.Started) (H : Type) (enc : TypeId × Value → H) (F : Stop.Interp) :
    ReturnsInHanded {} Try.checked os 3 .any ((OpenSpec.ofChange Rows.encodeExactSpec).preRow enc Try.prog Try.f3 Rows.encodeExactRow.domain false Rows.encodeExactRow.laid) (((OpenSpec.ofChange Rows.encodeExactSpec).at F).post enc Try.prog Try.f3 false true false false) := by
  obtain ⟨places, hx⟩ := reads os enc
  refine returnsInHanded_of_row (C := Try.checked) (s := OpenSpec.ofChange Rows.encodeExactSpec) own started (by kernel_rfl) Try.func3
    (witness_row_at (enc := enc) (C := Try.checked) false (World.holding Try.prog os ⟨#[], #[], []⟩) #[Value.int .i64 0, Value.agg #[Value.int .i64 0, Value.int .i64 0, Value.int .i64 0], Value.int .i64 0, Value.agg #[Value.int .i64 0, Value.int .i64 0], Value.int .i64 0, Value.int .i64 0, Value.int .i64 0] rfl (by kernel_rfl) (by kernel_rfl) (by kernel_rfl)
      (OpenSpec.preRow_of_cond 8 hx (by kernel_rfl) (fun k hk => by cases hk) (by kernel_rfl) (laid_met os))) ?_
  intro W base args ds gs before hval hW _ _ _ _ _ _
  exact contract H enc W base args ds gs before hval hW

theorem said : Rows.EncodeExactSaid :=
  OpenClaim.holds_of_cond 3 Try.f3 rfl rfl rfl rfl rfl rfl rfl ⟨rfl, rfl, rfl, rfl, rfl⟩ rfl rfl rfl rfl rfl (by kernel_rfl) Try.func3 (by kernel_rfl)
    (of_decide_eq_true (by kernel_rfl)) (by unfold Func.isWrapper; rw [if_neg (by decide +kernel)]; exact ⟨rfl, rfl⟩)
    (fun os started H enc _ F => by rw [OpenClaim.pre_eq_preRow]; exact lifted os started H enc F)
#print axioms said
end Go.Proofs.Ytkbgobbkhiaabaa.lawEncodeExact
