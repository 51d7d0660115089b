/-
  LineBack: the statement proved: for every input the law answers true, and each argument reads as it did. Conditions: the row's own (the listed package-level tables hold what the program's text lays).
-/
import Derived.Test.YtdakpncfophjnaaLinR
import Derived.ProofKit
import Derived.OpenShut
import Derived.ShutString
import Derived.Deep.DeepHandedRow
import Derived.Lib.LaidTab
import Derived.LaidMore
import Derived.Stop.LaidErr
import Derived.Test.YtdakpncfophjnaaFlat
namespace Go.Proofs.Ytdakpncfophjnaa.lawLineBack
open Go.ChangeShapes Go.WideShapes Go.ChangeAt Go.RowKit
open Go.ChangeMaps (open_string shut_string)

theorem own : ownKnob Try.prog.godebug = none := by kernel_rfl


set_option maxRecDepth 100000 in
theorem contract (H : Type) (enc : TypeId × Value → H) (W : World) (base : Nat) (args : Array Value) (ds gs : List (DataW H)) (before : List MemPlace)
    (hval : ∀ (j : Nat) t v, Try.f4.params[j]? = some t → args[j]? = some v → Value.okWide Try.prog W .any base t v)
    (hW : DataW.Whole enc Try.prog Try.f4.params.toList Rows.lineBackSpec.vars false W args.toList ds gs before) :
    Calls Try.prog 4 args W fun e W' => ∃ v, e = .returned v ∧ Rows.lineBackSpec.post enc Try.prog Try.f4 false true false false W args v W' := by
  have hW' := hW
  obtain ⟨p, q, hA0, hV, rfl, hfz, hnd⟩ := hW
  have hA : DataW.TrodAll enc Try.prog W 0 (fun _ => true) true Try.f4.params.toList args.toList ds p := hA0
  rw [Try.params4] at hA hval
  obtain ⟨v0, vs0, d0, ds0, p0, q0, hargs0, rfl, rfl, h0, r0⟩ := trodAll_cons hA
  obtain ⟨v1, vs1, d1, ds1, p1, q1, hargs1, rfl, rfl, h1, r1⟩ := trodAll_cons r0
  obtain ⟨rfl, rfl, rfl⟩ := trodAll_nil r1
  subst hargs1
  obtain rfl : args = #[v0, v1] := by cases args; simp_all
  obtain ⟨rfl, rfl⟩ := trodVars_none hV
  have h0k := h0
  obtain ⟨cs_a, rfl, sz_a⟩ := okWide_struct Try.underlying24 (hval 0 24 v0 rfl rfl)
  obtain ⟨c_a_0, c_a_1, c_a_2, rfl⟩ := Flat.arr3 (sz_a.trans (by kernel_rfl))
  obtain ⟨fuel0, hf0⟩ := h0
  have lv_a := (Flat.leaves_at 4 24 [9, 22, 9] (by kernel_rfl) fuel0 [c_a_0, c_a_1, c_a_2] _ (by simpa [Value.cells] using hf0)).2
  obtain ⟨n_a_0, y_a_0, hl_a_0⟩ := lv_a 0 9 c_a_0 rfl rfl
  obtain ⟨a_0, ec_a_0, rest_a_0⟩ := DataW.trod_string Try.underlying9 hl_a_0
  obtain rfl : c_a_0 = .string a_0 := by simpa using ec_a_0
  obtain ⟨n_a_1, y_a_1, hl_a_1⟩ := lv_a 1 22 c_a_1 rfl rfl
  obtain ⟨a_1, pv_a_1, bd_a_1⟩ := Lin.open_pars hl_a_1
  obtain ⟨n_a_2, y_a_2, hl_a_2⟩ := lv_a 2 9 c_a_2 rfl rfl
  obtain ⟨a_2, ec_a_2, rest_a_2⟩ := DataW.trod_string Try.underlying9 hl_a_2
  obtain rfl : c_a_2 = .string a_2 := by simpa using ec_a_2
  clear lv_a
  have hlt0 : ∀ y ∈ p0, y.block < W.heap.size := fun y hy => by simpa using hW'.lt y (by simp [hy])
  have h1k := h1
  obtain ⟨cs_b, rfl, sz_b⟩ := okWide_struct Try.underlying24 (hval 1 24 v1 rfl rfl)
  obtain ⟨c_b_0, c_b_1, c_b_2, rfl⟩ := Flat.arr3 (sz_b.trans (by kernel_rfl))
  obtain ⟨fuel1, hf1⟩ := h1
  have lv_b := (Flat.leaves_at 4 24 [9, 22, 9] (by kernel_rfl) fuel1 [c_b_0, c_b_1, c_b_2] _ (by simpa [Value.cells] using hf1)).2
  obtain ⟨n_b_0, y_b_0, hl_b_0⟩ := lv_b 0 9 c_b_0 rfl rfl
  obtain ⟨b_0, ec_b_0, rest_b_0⟩ := DataW.trod_string Try.underlying9 hl_b_0
  obtain rfl : c_b_0 = .string b_0 := by simpa using ec_b_0
  obtain ⟨n_b_1, y_b_1, hl_b_1⟩ := lv_b 1 22 c_b_1 rfl rfl
  obtain ⟨b_1, pv_b_1, bd_b_1⟩ := Lin.open_pars hl_b_1
  obtain ⟨n_b_2, y_b_2, hl_b_2⟩ := lv_b 2 9 c_b_2 rfl rfl
  obtain ⟨b_2, ec_b_2, rest_b_2⟩ := DataW.trod_string Try.underlying9 hl_b_2
  obtain rfl : c_b_2 = .string b_2 := by simpa using ec_b_2
  clear lv_b
  have hlt1 : ∀ y ∈ p1, y.block < W.heap.size := fun y hy => by simpa using hW'.lt y (by simp [hy])
  clear hA0
  simp only [List.append_nil] at hW'
  refine (Lin.lback_1 ⟨a_0.data.toList, a_1, a_2.data.toList⟩ ⟨b_0.data.toList, b_1, b_2.data.toList⟩ c_a_1 c_b_1 W pv_a_1 pv_b_1 (by simpa using rest_a_0.2) (by simpa using rest_a_2.2) bd_a_1 (by simpa using rest_b_0.2) (by simpa using rest_b_2.2) bd_b_1).mono fun e W' ⟨he, hb⟩ => ?_
  subst he
  exact ⟨_, rfl, _, _, _, [], (p0 ++ p1), [], hW', trodAll_cons_mk (shut_bool Try.underlying4 _) trodAll_mk0, (by have q := trodAll_cons_mk (Below.trod (of_decide_eq_true (by kernel_rfl)) (by kernel_rfl) (of_decide_eq_true (by kernel_rfl)) h0k hb hlt0) (trodAll_cons_mk (Below.trod (of_decide_eq_true (by kernel_rfl)) (by kernel_rfl) (of_decide_eq_true (by kernel_rfl)) h1k hb hlt1) (trodAll_mk0)); simp only [List.append_nil] at q; exact q), rfl, hb.frame _, fun h => by cases h⟩
theorem laid_met (os : Os) : laidMet Try.prog Rows.lineBackRow.laid ((World.holding Try.prog os ⟨#[], #[], []⟩).forCall (fun _ _ => 0) ⟨#[], #[Value.agg #[Value.string ⟨#[]⟩, Value.slice none 0 0, Value.string ⟨#[]⟩], Value.agg #[Value.string ⟨#[]⟩, Value.slice none 0 0, Value.string ⟨#[]⟩]], []⟩).memory :=
  laidMet_of_run' 8 (by kernel_rfl) (by kernel_rfl)
theorem reads (os : Os) {H : Type} (enc : TypeId × Value → H) : ∃ places, DataW.whole enc Try.prog ((World.holding Try.prog os ⟨#[], #[], []⟩).forCall (fun _ _ => 0) ⟨#[], #[Value.agg #[Value.string ⟨#[]⟩, Value.slice none 0 0, Value.string ⟨#[]⟩], Value.agg #[Value.string ⟨#[]⟩, Value.slice none 0 0, Value.string ⟨#[]⟩]], []⟩).memory Try.f4.params.toList Rows.lineBackSpec.vars false #[Value.agg #[Value.string ⟨#[]⟩, Value.slice none 0 0, Value.string ⟨#[]⟩], Value.agg #[Value.string ⟨#[]⟩, Value.slice none 0 0, Value.string ⟨#[]⟩]].toList 8 = some ([.agg [.lit (.string []), .nil, .lit (.string [])], .agg [.lit (.string []), .nil, .lit (.string [])]], [], places) :=
  ⟨[], by kernel_rfl⟩

set_option maxRecDepth 100000 in
theorem lifted (os : Os) (started : os.Started) (H : Type) (enc : TypeId × Value → H) (F : Stop.Interp) :
    ReturnsInHanded {} Try.checked os 4 .any ((OpenSpec.ofChange Rows.lineBackSpec).preRow enc Try.prog Try.f4 Rows.lineBackRow.domain false Rows.lineBackRow.laid) (((OpenSpec.ofChange Rows.lineBackSpec).at F).post enc Try.prog Try.f4 false true false false) := by
  obtain ⟨places, hx⟩ := reads os enc
  refine returnsInHanded_of_row (C := Try.checked) (s := OpenSpec.ofChange Rows.lineBackSpec) own started (by kernel_rfl) Try.func4
    (witness_row_at (enc := enc) (C := Try.checked) false (World.holding Try.prog os ⟨#[], #[], []⟩) #[Value.agg #[Value.string ⟨#[]⟩, Value.slice none 0 0, Value.string ⟨#[]⟩], Value.agg #[Value.string ⟨#[]⟩, Value.slice none 0 0, Value.string ⟨#[]⟩]] rfl (by kernel_rfl) (by kernel_rfl) (by kernel_rfl)
      (OpenSpec.preRow_of_cond 8 hx (by kernel_rfl) (fun k hk => by cases hk) (by kernel_rfl) (laid_met os))) ?_
  intro W base args ds gs before hval hW _ _ _ _ _ _
  exact contract H enc W base args ds gs before hval hW

theorem said : Rows.LineBackSaid :=
  OpenClaim.holds_of_cond 4 Try.f4 rfl rfl rfl rfl rfl rfl rfl ⟨rfl, rfl, rfl, rfl, rfl⟩ rfl rfl rfl rfl rfl (by kernel_rfl) Try.func4 (by kernel_rfl)
    (of_decide_eq_true (by kernel_rfl)) (by unfold Func.isWrapper; rw [if_neg (by decide +kernel)]; exact ⟨rfl, rfl⟩)
    (fun os started H enc _ F => by rw [OpenClaim.pre_eq_preRow]; exact lifted os started H enc F)
#print axioms said
end Go.Proofs.Ytdakpncfophjnaa.lawLineBack
