/-
  EscapeBack: what is put is got; what is got, put, got again is the same; lists, too.
-/
import Derived.Test.YtbfknaccffiafaaEscU
import Derived.Test.YtbfknaccffiafaaEscP
namespace Go.Proofs.Ytbfknaccffiafaa
open Go.RowKit Opn
namespace Esc
theorem got_len : ∀ (n : Nat) (S r : List UInt8), S.length ≤ n → getS S = some r → r.length ≤ S.length
  | 0, S, r, hn, h => by
    have : S = [] := List.length_eq_zero_iff.1 (by omega)
    subst this
    rw [get_nil] at h
    injection h with e; subst e; simp
  | n + 1, [], r, _, h => by
    rw [get_nil] at h
    injection h with e; subst e; simp
  | n + 1, c :: S, r, hn, h => by
    rw [List.length_cons] at hn
    rw [get_cons] at h
    by_cases x0 : ctl c = true ∨ c = 59 ∨ c = 44
    · rw [if_pos x0] at h; cases h
    · rw [if_neg x0] at h
      by_cases x1 : c = 92
      · rw [if_pos x1] at h
        match S, hn, h with
        | [], _, h => cases h
        | d :: S', hn, h =>
          simp only at h
          cases hm : mnt d with
          | none => rw [hm] at h; cases h
          | some m =>
            rw [hm] at h
            simp only at h
            cases hg : getS S' with
            | none => rw [hg] at h; cases h
            | some q =>
              rw [hg] at h
              injection h with e
              subst e
              rw [List.length_cons] at hn
              have := got_len n S' q (by omega) hg
              simp; omega
      · rw [if_neg x1] at h
        cases hg : getS S with
        | none => rw [hg] at h; cases h
        | some q =>
          rw [hg] at h
          injection h with e
          subst e
          have := got_len n S q (by omega) hg
          simp; omega
theorem tl_len : ∀ T : List (List UInt8), (∀ t ∈ T, t.length ≤ 800) → (tl T).length ≤ 1601 * T.length
  | [], _ => by simp [tl_nil]
  | t :: T, h => by
    have ih := tl_len T (fun u hu => h u (List.mem_cons_of_mem _ hu))
    have h1 := h t (List.mem_cons_self ..)
    have h2 := putL_len t
    rw [tl_cons, jp_cons, List.length_cons, List.length_append, List.length_cons]
    omega
def L0 (ls : Nat → ByteArray) (n : Nat) : List (List UInt8) := (List.range n).map (fun j => (ls j).data.toList)
theorem L0_len (ls : Nat → ByteArray) (n : Nat) : (L0 ls n).length = n := by simp [L0]
theorem lst_jp (ls : Nat → ByteArray) (n : Nat) : lstJ ls n = jp (L0 ls n) := by
  rw [lstJ, jp, L0, List.map_map, List.map_map]
  rfl
theorem lst_len (ls : Nat → ByteArray) (n : Nat) (hn : n ≤ 60) (h : ∀ j, j < n → (ls j).size ≤ 800) : (lstJ ls n).length ≤ 200000 := by
  rw [lst_jp]
  have hL := L0_len ls n
  have hm : ∀ t ∈ L0 ls n, t.length ≤ 800 := fun t ht => by
    obtain ⟨j, hj, rfl⟩ := List.mem_map.1 ht
    have := h j (List.mem_range.1 hj)
    simpa using this
  cases hc : L0 ls n with
  | nil => rw [jp]; simp [Lib.join_nil]
  | cons t T =>
    rw [hc] at hm hL
    have h1 := tl_len T (fun u hu => hm u (List.mem_cons_of_mem _ hu))
    have h2 := putL_len t
    have h3 := hm t (List.mem_cons_self ..)
    rw [jp_cons, List.length_append]
    rw [List.length_cons] at hL
    omega
theorem L0_at (ls : Nat → ByteArray) (n j : Nat) (hj : j < n) : ((L0 ls n).map sv)[j]? = some (.string (ls j)) := by
  rw [L0, List.map_map, List.getElem?_map, List.getElem?_range hj]
  rfl
set_option maxRecDepth 100000 in
theorem list_nil (A : Option Addr) (c : Nat) (w : World) :
    Calls Try.prog 10 #[.slice A 0 c] w fun e w' => e = .returned (.tuple #[.string ⟨#[]⟩, .int .i64 2]) ∧ w = w' := by
  go_enter Try.func10, Try.ntmps10
  go_wp2
  go_ret2
  exact ⟨rfl, rfl⟩
theorem str_eq {s : ByteArray} {S : List UInt8} (h : s.data.toList = S) : (⟨S.toArray⟩ : ByteArray) = s := ByteArray.ext (Array.toList_inj.1 (by rw [h]))
set_option maxHeartbeats 12800000 in
set_option maxRecDepth 100000 in
theorem eback_any (s : ByteArray) (A : Option Addr) (n c : Nat) (ls : Nat → ByteArray) (w : World) (hn : n ≤ maxLen) (hl : Strs A n ls w) :
    Calls Try.prog 4 #[.string s, .slice A n c] w fun e w' => e = .returned (.bool true) ∧ Below w.heap.size w w' := by
  by_cases z1 : 1000 < s.size
  · go_enter Try.func4, Try.ntmps4
    go_wp2
    go_ret
    exact ⟨rfl, Below.refl _ _⟩
  have z2 : s.size ≤ 1000 := by omega
  clear z1
  obtain ⟨S, hS⟩ : ∃ x, s.data.toList = x := ⟨_, rfl⟩
  have KS := Lib.hid hS
  have es := Lib.hid (str_eq hS)
  have lS : S.length ≤ 1000 := by rw [← hS]; simpa using z2
  have hp : (∃ X, putR S = (X, 0) ∧ getR X = (S, 0) ∧ X.length ≤ 2000) ∨ putR S = ([], 3) := by
    unfold putR
    by_cases h : putB S = true
    · rw [if_pos h]
      refine Or.inl ⟨_, rfl, by rw [getR, get_put S h], ?_⟩
      have := putL_len S; omega
    · rw [if_neg h]; exact Or.inr rfl
  have hg : (∃ r Y, getR S = (r, 0) ∧ putR r = (Y, 0) ∧ getR Y = (r, 0) ∧ r.length ≤ 1000 ∧ Y.length ≤ 2000) ∨ getR S = ([], 3) := by
    cases h : getS S with
    | none => exact Or.inr (by rw [getR, h])
    | some r =>
      have hb := got_ok _ S r (Nat.le_refl _) h
      have h1 := got_len _ S r (Nat.le_refl _) h
      have h2 := putL_len r
      exact Or.inl ⟨r, putL r, by rw [getR, h], by rw [putR, if_pos hb], by rw [getR, get_put r hb], by omega, by omega⟩
  have HLS := Lib.hid hl
  have HN := Lib.hid hn
  clear hS hl hn
  rcases hp with ⟨X, p1, p2, p3⟩ | p1
  all_goals
    rcases hg with ⟨r, Y, g1, g2, g3, g4, g5⟩ | g1
    all_goals
      have P1 := Lib.hid p1
      have G1 := Lib.hid g1
      clear p1 g1
      try have P2 := Lib.hid p2
      try have G2 := Lib.hid g2
      try have G3 := Lib.hid g3
      try have ZX : Hid ((⟨X.toArray⟩ : ByteArray).size ≤ 1000000) := Lib.hid (by show X.length ≤ 1000000; omega)
      try have ZR : Hid ((⟨r.toArray⟩ : ByteArray).size ≤ 1000000) := Lib.hid (by show r.length ≤ 1000000; omega)
      try have ZY : Hid ((⟨Y.toArray⟩ : ByteArray).size ≤ 1000000) := Lib.hid (by show Y.length ≤ 1000000; omega)
      try clear p2
      try clear g2 g3
      go_enter Try.func4, Try.ntmps4
      go_wp2_with fail
      refine (heavy_to A n c ls _ HN.out HLS.out).mono ?_
      rintro e w1 ⟨hv, rfl, hh, b1⟩
      cases hv with
      | true =>
        go_wp2
        go_ret
        exact ⟨rfl, b1⟩
      | false =>
        obtain ⟨n60, n800⟩ := hh.out rfl
        have N8 := Lib.hid n800
        clear n800 hh
        go_wp2_with fail
        refine (put_to s S _ _ _ (by omega) KS P1).mono ?_
        rintro e w2 ⟨rfl, d2⟩
        have b2 := b1.trans (d2.mono b1.size)
        clear d2 b1
        go_wp2_with fail
        first
          | (refine (get_to _ X _ _ _ ZX.out (Lib.hid rfl) P2).mono ?_
             rintro e w3 ⟨rfl, d3⟩
             rw [es.out]
             have b3 := b2.trans (d3.mono b2.size)
             clear d3 b2
             go_wp2_with fail
             refine (get_to s S _ _ _ (by omega) KS G1).mono ?_)
          | (have b3 := b2
             clear b2
             refine (get_to s S _ _ _ (by omega) KS G1).mono ?_)
        rintro e w4 ⟨rfl, d4⟩
        have b4 := b3.trans (d4.mono b3.size)
        clear d4 b3
        by_cases h0 : n = 0
        all_goals
          go_wp2_with fail
          first
            | (refine (put_to _ r _ _ _ ZR.out (Lib.hid rfl) G2).mono ?_
               rintro e w5 ⟨rfl, d5⟩
               have b5 := b4.trans (d5.mono b4.size)
               clear d5 b4
               go_wp2_with fail
               refine (get_to _ Y _ _ _ ZY.out (Lib.hid rfl) G3).mono ?_
               rintro e w6 ⟨rfl, d6⟩
               have b6 := b5.trans (d6.mono b5.size)
               clear d6 b5
               go_wp2_with fail)
            | (have b6 := b4
               clear b4)
        · subst h0
          refine (list_nil A c _).mono ?_
          rintro e w7 ⟨rfl, rfl⟩
          go_wp2_with fail
          refine (wakes17_any _).mono ?_
          rintro e w8 ⟨rfl, d8⟩
          go_wp2
          go_ret
          exact ⟨rfl, b6.trans (d8.mono b6.size)⟩
        · obtain ⟨bk, off, rfl, hbk, hcell⟩ := HLS.out.form (by omega)
          have hbk6 := Nat.lt_of_lt_of_le hbk b6.size
          have hc6 := fun j hj => (b6.cell (p := ⟨bk, off + j, none⟩) hbk).trans (hcell j hj).1
          refine (list_to bk off n c ls _ (by omega) n60 hbk6 hc6 N8.out (lst_len ls n n60 N8.out)).mono ?_
          rintro e w7 ⟨R, rc, rfl, hr, d7⟩
          have b7 := b6.trans (d7.mono b6.size)
          rcases hr.out with ⟨rfl, hall, rfl⟩ | ⟨rfl, rfl, _⟩
          · have hL := L0_len ls n
            have HJ : Hid (lstJ ls n = jp (L0 ls n)) := Lib.hid (lst_jp ls n)
            have HJZ : Hid ((⟨(lstJ ls n).toArray⟩ : ByteArray).size ≤ 200000) := Lib.hid (lst_len ls n n60 N8.out)
            have HPB : Hid (∀ t ∈ L0 ls n, putB t = true) := Lib.hid (fun t ht => by
              obtain ⟨j, hj, rfl⟩ := List.mem_map.1 ht
              exact hall j (List.mem_range.1 hj))
            have hne : L0 ls n ≠ [] := fun h => by rw [h] at hL; simp at hL; omega
            have HA : Hid (∀ j, j < n → ((L0 ls n).map sv)[j]? = some (.string (ls j))) := Lib.hid (fun j hj => L0_at ls n j hj)
            obtain ⟨Q, hQ⟩ : ∃ Q, L0 ls n = Q := ⟨_, rfl⟩
            rw [hQ] at hL HJ HPB hne HA
            obtain ⟨Jv, hJv⟩ : ∃ x, lstJ ls n = x := ⟨_, rfl⟩
            rw [hJv] at HJ HJZ ⊢
            clear hQ hJv hall d7 b6
            go_wp2_with fail
            refine (unl_to _ Jv Q _ HJZ.out (Lib.hid rfl) HJ hne (by omega) HPB).mono ?_
            rintro e w8 ⟨v, rfl, r8, d8⟩
            have b8 := b7.trans (d8.mono b7.size)
            rw [hL] at r8
            obtain ⟨g, cap, rfl, _, hgl⟩ := r8.form (by omega)
            have hgc : ∀ j, j < n → w8.cell? ⟨g, j, none⟩ = some (.string (ls j)) := fun j hj => (r8.cellAt j (by omega)).trans (HA.out j hj)
            have hlc : ∀ j, j < n → w8.cell? ⟨bk, off + j, none⟩ = some (.string (ls j)) := fun j hj => (b8.cell (p := ⟨bk, off + j, none⟩) hbk).trans (hcell j hj).1
            clear r8 d8 hcell hc6
            go_wp2_with fail
            refine (texts_to g bk off n cap c ls _ n60 hgc hlc).mono ?_
            rintro e w9 ⟨rfl, m, rfl⟩
            go_wp2_with fail
            refine (wakes17_any _).mono ?_
            rintro e w10 ⟨rfl, d10⟩
            have b9 := below_drewN b8 m
            go_wp2
            go_ret
            exact ⟨rfl, b9.trans (d10.mono b9.size)⟩
          · go_wp2_with fail
            refine (wakes17_any _).mono ?_
            rintro e w8 ⟨rfl, d8⟩
            go_wp2
            go_ret
            exact ⟨rfl, b7.trans (d8.mono b7.size)⟩
end Esc
end Go.Proofs.Ytbfknaccffiafaa
