/-
  LineExact: the statement proved: for every input the law answers true, and each argument reads as it did. Conditions: the row's own (the listed package-level tables hold what the program's text lays).
-/
import Derived.Test.YtdakpncfophjnaaLnRJ
import Derived.ProofKit
import Derived.OpenShut
import Derived.ShutString
import Derived.Deep.DeepHandedRow
import Derived.Lib.LaidTab
import Derived.LaidMore
import Derived.Stop.LaidErr
import Derived.Test.YtdakpncfophjnaaFlat
namespace Go.Proofs.Ytdakpncfophjnaa.lawLineExact
open Go.ChangeShapes Go.WideShapes Go.ChangeAt Go.RowKit
open Go.ChangeMaps (open_string shut_string)

theorem own : ownKnob Try.prog.godebug = none := by kernel_rfl


set_option maxRecDepth 100000 in
theorem contract (H : Type) (enc : TypeId × Value → H) (W : World) (base : Nat) (args : Array Value) (ds gs : List (DataW H)) (before : List MemPlace)
    (hval : ∀ (j : Nat) t v, Try.f3.params[j]? = some t → args[j]? = some v → Value.okWide Try.prog W .any base t v)
    (hW : DataW.Whole enc Try.prog Try.f3.params.toList Rows.lineExactSpec.vars false W args.toList ds gs before) :
    Calls Try.prog 3 args W fun e W' => ∃ v, e = .returned v ∧ Rows.lineExactSpec.post enc Try.prog Try.f3 false true false false W args v W' := by
  have hW' := hW
  obtain ⟨p, q, hA0, hV, rfl, hfz, hnd⟩ := hW
  have hA : DataW.TrodAll enc Try.prog W 0 (fun _ => true) true Try.f3.params.toList args.toList ds p := hA0
  rw [Try.params3] at hA hval
  obtain ⟨v0, vs0, d0, ds0, p0, q0, hargs0, rfl, rfl, h0, r0⟩ := trodAll_cons hA
  obtain ⟨v1, vs1, d1, ds1, p1, q1, hargs1, rfl, rfl, h1, r1⟩ := trodAll_cons r0
  obtain ⟨v2, vs2, d2, ds2, p2, q2, hargs2, rfl, rfl, h2, r2⟩ := trodAll_cons r1
  obtain ⟨rfl, rfl, rfl⟩ := trodAll_nil r2
  subst hargs2
  subst hargs1
  obtain rfl : args = #[v0, v1, v2] := by cases args; simp_all
  obtain ⟨rfl, rfl⟩ := trodVars_none hV
  have h0k := h0
  obtain ⟨cs_l, rfl, sz_l⟩ := okWide_struct Try.underlying24 (hval 0 24 v0 rfl rfl)
  obtain ⟨c_l_0, c_l_1, c_l_2, rfl⟩ := Flat.arr3 (sz_l.trans (by kernel_rfl))
  obtain ⟨fuel0, hf0⟩ := h0
  have lv_l := (Flat.leaves_at 4 24 [9, 22, 9] (by kernel_rfl) fuel0 [c_l_0, c_l_1, c_l_2] _ (by simpa [Value.cells] using hf0)).2
  obtain ⟨n_l_0, y_l_0, hl_l_0⟩ := lv_l 0 9 c_l_0 rfl rfl
  obtain ⟨l_0, ec_l_0, rest_l_0⟩ := DataW.trod_string Try.underlying9 hl_l_0
  obtain rfl : c_l_0 = .string l_0 := by simpa using ec_l_0
  obtain ⟨n_l_1, y_l_1, hl_l_1⟩ := lv_l 1 22 c_l_1 rfl rfl
  obtain ⟨l_1, pv_l_1, bd_l_1⟩ := Lin.open_pars hl_l_1
  obtain ⟨n_l_2, y_l_2, hl_l_2⟩ := lv_l 2 9 c_l_2 rfl rfl
  obtain ⟨l_2, ec_l_2, rest_l_2⟩ := DataW.trod_string Try.underlying9 hl_l_2
  obtain rfl : c_l_2 = .string l_2 := by simpa using ec_l_2
  clear lv_l
  have hlt0 : ∀ y ∈ p0, y.block < W.heap.size := fun y hy => by simpa using hW'.lt y (by simp [hy])
  obtain ⟨s, rfl, rfl, rfl, wf_s⟩ := open_string Try.underlying9 (hval 1 9 v1 rfl rfl) h1
  obtain ⟨name, rfl, rfl, rfl, wf_name⟩ := open_string Try.underlying9 (hval 2 9 v2 rfl rfl) h2
  clear hA0
  simp only [List.append_nil] at hW'
  refine (Lin.lex_1 ⟨l_0.data.toList, l_1, l_2.data.toList⟩ c_l_1 s name W pv_l_1 wf_s wf_name (by simpa using rest_l_0.2) (by simpa using rest_l_2.2) bd_l_1).mono fun e W' ⟨he, hb⟩ => ?_
  subst he
  exact ⟨_, rfl, _, _, _, [], p0, [], hW', trodAll_cons_mk (shut_bool Try.underlying4 _) trodAll_mk0, (by have q := trodAll_cons_mk (Below.trod (of_decide_eq_true (by kernel_rfl)) (by kernel_rfl) (of_decide_eq_true (by kernel_rfl)) h0k hb hlt0) (trodAll_cons_mk (shut_string Try.underlying9 wf_s) (trodAll_cons_mk (shut_string Try.underlying9 wf_name) (trodAll_mk0))); simp only [List.append_nil] at q; exact q), rfl, hb.frame _, fun h => by cases h⟩
theorem laid_met (os : Os) : laidMet Try.prog Rows.lineExactRow.laid ((World.holding Try.prog os ⟨#[], #[], []⟩).forCall (fun _ _ => 0) ⟨#[], #[Value.agg #[Value.string ⟨#[]⟩, Value.slice none 0 0, Value.string ⟨#[]⟩], Value.string ⟨#[]⟩, Value.string ⟨#[]⟩], []⟩).memory :=
  laidMet_of_run' 8 (by kernel_rfl) (by kernel_rfl)
theorem reads (os : Os) {H : Type} (enc : TypeId × Value → H) : ∃ places, DataW.whole enc Try.prog ((World.holding Try.prog os ⟨#[], #[], []⟩).forCall (fun _ _ => 0) ⟨#[], #[Value.agg #[Value.string ⟨#[]⟩, Value.slice none 0 0, Value.string ⟨#[]⟩], Value.string ⟨#[]⟩, Value.string ⟨#[]⟩], []⟩).memory Try.f3.params.toList Rows.lineExactSpec.vars false #[Value.agg #[Value.string ⟨#[]⟩, Value.slice none 0 0, Value.string ⟨#[]⟩], Value.string ⟨#[]⟩, Value.string ⟨#[]⟩].toList 8 = some ([.agg [.lit (.string []), .nil, .lit (.string [])], .lit (.string []), .lit (.string [])], [], places) :=
  ⟨[], by kernel_rfl⟩

set_option maxRecDepth 100000 in
theorem lifted (os : Os) (started : os.Started) (H : Type) (enc : TypeId × Value → H) (F : Stop.Interp) :
    ReturnsInHanded {} Try.checked os 3 .any ((OpenSpec.ofChange Rows.lineExactSpec).preRow enc Try.prog Try.f3 Rows.lineExactRow.domain false Rows.lineExactRow.laid) (((OpenSpec.ofChange Rows.lineExactSpec).at F).post enc Try.prog Try.f3 false true false false) := by
  obtain ⟨places, hx⟩ := reads os enc
  refine returnsInHanded_of_row (C := Try.checked) (s := OpenSpec.ofChange Rows.lineExactSpec) own started (by kernel_rfl) Try.func3
    (witness_row_at (enc := enc) (C := Try.checked) false (World.holding Try.prog os ⟨#[], #[], []⟩) #[Value.agg #[Value.string ⟨#[]⟩, Value.slice none 0 0, Value.string ⟨#[]⟩], Value.string ⟨#[]⟩, Value.string ⟨#[]⟩] rfl (by kernel_rfl) (by kernel_rfl) (by kernel_rfl)
      (OpenSpec.preRow_of_cond 8 hx (by kernel_rfl) (fun k hk => by cases hk) (by kernel_rfl) (laid_met os))) ?_
  intro W base args ds gs before hval hW _ _ _ _ _ _
  exact contract H enc W base args ds gs before hval hW

theorem said : Rows.LineExactSaid :=
  OpenClaim.holds_of_cond 3 Try.f3 rfl rfl rfl rfl rfl rfl rfl ⟨rfl, rfl, rfl, rfl, rfl⟩ rfl rfl rfl rfl rfl (by kernel_rfl) Try.func3 (by kernel_rfl)
    (of_decide_eq_true (by kernel_rfl)) (by unfold Func.isWrapper; rw [if_neg (by decide +kernel)]; exact ⟨rfl, rfl⟩)
    (fun os started H enc _ F => by rw [OpenClaim.pre_eq_preRow]; exact lifted os started H enc F)
#print axioms said
end Go.Proofs.Ytdakpncfophjnaa.lawLineExact
