/-
  ValueLists, plain words: the texts that the law puts together, and what Times says of each.
-/
import Derived.Test.YtnjmpenfhieakaaDoorVTp
namespace Go.Proofs.YtnjmpenfhieakaaDoor
open Go.RowKit
namespace Val
open Sol Civ Wk
theorem wr_no44 {M : List (Int × Bool)} (h : ∀ x ∈ M, In x.1) : ∀ p ∈ wr M, ∀ c ∈ p, c ≠ 44 := by
  intro p hp c hc
  rw [wr, List.mem_map] at hp
  obtain ⟨x, hx, rfl⟩ := hp
  exact tm_no44 x.2 (h x hx) c hc
theorem wr_ne {M : List (Int × Bool)} (h : M ≠ []) : wr M ≠ [] := by
  intro e
  rw [wr, List.map_eq_nil_iff] at e
  exact h e
theorem tr_all (u : Bool) (L : List Int) (h : ∀ t ∈ L, In t) (hne : L ≠ []) : timesR (cmJ (wr (L.map (fun t => (t, u))))) = (L, u, 0) := by
  rw [timesR, cm_join _ (wr_ne (by rw [Ne, List.map_eq_nil_iff]; exact hne)) (wr_no44 (fun x hx => by
    rw [List.mem_map] at hx
    obtain ⟨t, ht, rfl⟩ := hx
    exact h t ht)), tms_all u L true false h (Or.inl rfl) hne]
theorem tr_bad (M : List (Int × Bool)) (h : ∀ x ∈ M, In x.1) (hne : M ≠ []) : timesR (cmJ (wr M) ++ [44]) = ([], false, 19) := by
  rw [timesR, ← cmJ_snoc (wr M) [] (wr_ne hne), cm_join _ (by simp) (fun p hp => by
    rw [List.mem_append] at hp
    rcases hp with hp | hp
    · exact wr_no44 h p hp
    · rw [List.mem_singleton] at hp; subst hp; intro c hc; cases hc), tms_bad]
theorem tr_none (M : List (Int × Bool)) (h : ∀ x ∈ M, In x.1) (p : Nat) (hp : p + 1 < M.length) (hd : (M[p]'(by omega)).2 ≠ M[p + 1].2) : timesR (cmJ (wr M)) = ([], false, 19) := by
  have hp0 : p < M.length := by omega
  have e : M = M.take p ++ M[p] :: M[p + 1] :: M.drop (p + 2) := by
    rw [← List.drop_eq_getElem_cons hp, ← List.drop_eq_getElem_cons hp0, List.take_append_drop]
  have e2 : wr M = wr (M.take p) ++ tmS M[p].1 M[p].2 :: tmS M[p + 1].1 M[p + 1].2 :: wr (M.drop (p + 2)) := by
    conv => lhs; rw [e]
    rw [wr, List.map_append]; rfl
  rw [timesR, cm_join _ (wr_ne (by intro e; rw [e] at hp; simp at hp)) (wr_no44 h), e2, tms_none _ _ _ M[p] M[p + 1] _ (h _ (List.getElem_mem hp0)) (h _ (List.getElem_mem hp)) hd]
/-- The law's lists: the times, and the marks but for one unlike. -/
def tmL2 (ls : Nat → Int) (k : Nat) : List Int := (List.range k).map (fun j => -62135596800 + IntKind.u64.wrap (ls j) % 315537897600)
def ymk (u : Bool) (K j : Nat) : Bool := u != ((j : Int) == (K : Int))
def tmY (ls : Nat → Int) (u : Bool) (K k : Nat) : List (Int × Bool) := (List.range k).map (fun j => (-62135596800 + IntKind.u64.wrap (ls j) % 315537897600, ymk u K j))
theorem tl_in (ls : Nat → Int) (k : Nat) : ∀ t ∈ tmL2 ls k, In t := by
  intro t ht
  rw [tmL2, List.mem_map] at ht
  obtain ⟨j, _, rfl⟩ := ht
  unfold In
  omega
theorem ty_in (ls : Nat → Int) (u : Bool) (K k : Nat) : ∀ x ∈ tmY ls u K k, In x.1 := by
  intro x hx
  rw [tmY, List.mem_map] at hx
  obtain ⟨j, _, rfl⟩ := hx
  unfold In
  simp only
  omega
theorem ty_len (ls : Nat → Int) (u : Bool) (K k : Nat) : (tmY ls u K k).length = k := by rw [tmY, List.length_map, List.length_range]
theorem tl_len (ls : Nat → Int) (k : Nat) : (tmL2 ls k).length = k := by rw [tmL2, List.length_map, List.length_range]
theorem ty_get (ls : Nat → Int) (u : Bool) (K k j : Nat) (hj : j < (tmY ls u K k).length) : ((tmY ls u K k)[j]).2 = ymk u K j := by
  simp [tmY]
theorem ymk_eq (u : Bool) (K : Nat) : ymk u K K = !u := by
  rw [ymk, beq_self_eq_true]; cases u <;> rfl
theorem ymk_ne (u : Bool) {K j : Nat} (h : j ≠ K) : ymk u K j = u := by
  rw [ymk, beq_eq_false_iff_ne.2 (by omega)]; cases u <;> rfl
/-- What Times says of the list with one mark unlike. -/
theorem tr_mix (ls : Nat → Int) (u : Bool) (K n : Nat) (hK : K < n) : (n = 1 ∧ (timesR (cmJ (wr (tmY ls u K n)))).2.2 = 0) ∨ (n ≠ 1 ∧ timesR (cmJ (wr (tmY ls u K n))) = ([], false, 19)) := by
  by_cases h1 : n = 1
  · left
    subst h1
    refine ⟨rfl, ?_⟩
    have e : tmY ls u K 1 = [(-62135596800 + IntKind.u64.wrap (ls 0) % 315537897600)].map (fun t => (t, ymk u K 0)) := rfl
    rw [e, tr_all _ _ (fun t ht => by rw [List.mem_singleton] at ht; subst ht; unfold In; omega) (by simp)]
  · right
    refine ⟨h1, ?_⟩
    have hne : u ≠ !u := by cases u <;> decide
    by_cases h2 : K + 1 < n
    · refine tr_none _ (ty_in ls u K n) K (by rw [ty_len]; exact h2) ?_
      rw [ty_get, ty_get, ymk_eq, ymk_ne u (by omega)]
      exact fun e => hne e.symm
    · obtain ⟨p, rfl⟩ : ∃ p, K = p + 1 := ⟨K - 1, by omega⟩
      refine tr_none _ (ty_in ls u (p + 1) n) p (by rw [ty_len]; omega) ?_
      rw [ty_get, ty_get, ymk_eq, ymk_ne u (by omega)]
      exact hne
theorem wr_map (u : Bool) (L : List Int) : wr (L.map (fun t => (t, u))) = L.map (fun t => tmS t u) := by
  rw [wr, List.map_map]; rfl
/-- One more. -/
theorem tl_succ (ls : Nat → Int) (k : Nat) : tmL2 ls (k + 1) = tmL2 ls k ++ [-62135596800 + IntKind.u64.wrap (ls k) % 315537897600] := by
  rw [tmL2, List.range_succ, List.map_append]; rfl
theorem cmJ_add (L : List (List UInt8)) (p : List UInt8) : cmJ (L ++ [p]) = if L.length = 0 then p else cmJ L ++ [44] ++ p := by
  by_cases h : L.length = 0
  · rw [if_pos h, List.length_eq_zero_iff.1 h]; rfl
  · rw [if_neg h, cmJ_snoc L p (by intro e; rw [e] at h; exact h rfl), List.append_assoc]; rfl
def sX (ls : Nat → Int) (u : Bool) (k : Nat) : List UInt8 := cmJ (wr ((tmL2 ls k).map (fun t => (t, u))))
def sY (ls : Nat → Int) (u : Bool) (K k : Nat) : List UInt8 := cmJ (wr (tmY ls u K k))
theorem sX_succ (ls : Nat → Int) (u : Bool) (k : Nat) : sX ls u (k + 1) = (if k = 0 then [] else sX ls u k ++ [44]) ++ tmS (-62135596800 + IntKind.u64.wrap (ls k) % 315537897600) u := by
  rw [sX, tl_succ, List.map_append, wr, List.map_append]
  show cmJ (wr ((tmL2 ls k).map (fun t => (t, u))) ++ [tmS (-62135596800 + IntKind.u64.wrap (ls k) % 315537897600) u]) = _
  rw [cmJ_add, wr, List.length_map, List.length_map, tl_len]
  by_cases h : k = 0
  · rw [if_pos h, if_pos h]; rfl
  · rw [if_neg h, if_neg h]; rfl
theorem sY_succ (ls : Nat → Int) (u : Bool) (K k : Nat) : sY ls u K (k + 1) = (if k = 0 then [] else sY ls u K k ++ [44]) ++ tmS (-62135596800 + IntKind.u64.wrap (ls k) % 315537897600) (ymk u K k) := by
  rw [sY, tmY, List.range_succ, List.map_append, wr, List.map_append]
  show cmJ (wr (tmY ls u K k) ++ [tmS (-62135596800 + IntKind.u64.wrap (ls k) % 315537897600) (ymk u K k)]) = _
  rw [cmJ_add, wr, List.length_map, ty_len]
  by_cases h : k = 0
  · rw [if_pos h, if_pos h]; rfl
  · rw [if_neg h, if_neg h]; rfl
theorem nx_ne {ls : Nat → Int} {n : Nat} (hn : 0 < n) : tmL2 ls n ≠ [] := fun e => by
  have := tl_len ls n
  rw [e] at this
  simp at this
  omega
theorem sX_r (ls : Nat → Int) (u : Bool) (n : Nat) (hn : 0 < n) : timesR (sX ls u n) = (tmL2 ls n, u, 0) := tr_all u _ (tl_in ls n) (nx_ne hn)
theorem sX_bad (ls : Nat → Int) (u : Bool) (n : Nat) (hn : 0 < n) : timesR (sX ls u n ++ [44]) = ([], false, 19) :=
  tr_bad _ (fun x hx => by
    rw [List.mem_map] at hx
    obtain ⟨t, ht, rfl⟩ := hx
    exact tl_in ls n t ht) (by rw [Ne, List.map_eq_nil_iff]; exact nx_ne hn)
end Val
end Go.Proofs.YtnjmpenfhieakaaDoor
