/-
  Several texts in one (RefNum, RefNum2, RefNum3).
-/
import Derived.Test.YthefgagmjamdkaaGreatDoorBdC
/-
  Contracts of the reference's calls on numbers: In, Bound, Div, digit, Digits, Value.
-/
namespace Go.Proofs.YthefgagmjamdkaaGreatDoor
open Go.RowKit
namespace RNum
theorem ret_ii {a a' b b' : Int} (h : a = a') (k : b = b') : Ending.returned (.tuple #[.int .i64 a, .int .i64 b]) = .returned (.tuple #[.int .i64 a', .int .i64 b']) := by rw [h, k]
theorem rin_any (n lo hi : Int) (b : Bool) (w : World) (h : Hid (b = decide (lo ≤ n ∧ n ≤ hi))) :
    Calls Tryz.prog 70 #[.int .i64 n, .int .i64 lo, .int .i64 hi] w fun e w' => e = .returned (.bool b) ∧ w = w' := by
  by_cases h1 : lo ≤ n
  · by_cases h2 : n ≤ hi
    · have H := Lib.hid (h.out.trans (decide_eq_true (show lo ≤ n ∧ n ≤ hi from ⟨h1, h2⟩)))
      go_enter Tryz.func70, Tryz.ntmps70
      go_wp2
      go_ret
      exact ⟨ret_b H.out.symm, rfl⟩
    · have H := Lib.hid (h.out.trans (decide_eq_false (show ¬ (lo ≤ n ∧ n ≤ hi) from fun h => h2 h.2)))
      go_enter Tryz.func70, Tryz.ntmps70
      go_wp2
      go_ret
      exact ⟨ret_b H.out.symm, rfl⟩
  · have H := Lib.hid (h.out.trans (decide_eq_false (show ¬ (lo ≤ n ∧ n ≤ hi) from fun h => h1 h.1)))
    go_enter Tryz.func70, Tryz.ntmps70
    go_wp2
    go_ret
    exact ⟨ret_b H.out.symm, rfl⟩

set_option maxHeartbeats 400000 in
theorem rdiv_any (a b : Int) (w : World) (h1 : 1 ≤ b) (b2 : b ≤ 4611686018427387904) (a1 : -4611686018427387904 ≤ a) (a2 : a ≤ 4611686018427387904) :
    Calls Tryz.prog 91 #[.int .i64 a, .int .i64 b] w fun e w' => e = .returned (.tuple #[.int .i64 (a / b), .int .i64 (a % b)]) ∧ ∃ n, w' = w.drewN n := by
  obtain ⟨⟨t1, t2⟩, t3, t4⟩ := tq_bd h1 a1 a2
  by_cases hr : a.tmod b < 0
  · have K := Lib.hid (tq_neg h1 hr)
    have hn : ¬ 0 ≤ a := fun h => by have := Int.tmod_nonneg b h; omega
    go_enter Tryz.func91, Tryz.ntmps91
    go_wp2_with fail
    go_quiet (fail)
    go_wp2
    go_ret2
    exact ⟨ret_ii K.out.1.symm K.out.2.symm, _, rfl⟩
  · have K := Lib.hid (tq_nn h1 hr)
    have hm := Int.emod_nonneg a (show b ≠ 0 by omega)
    by_cases hn : 0 ≤ a
    · go_enter Tryz.func91, Tryz.ntmps91
      go_wp2_with fail
      go_quiet (fail)
      go_wp2
      go_ret2
      exact ⟨ret_ii K.out.1.symm rfl, _, rfl⟩
    · go_enter Tryz.func91, Tryz.ntmps91
      go_wp2_with fail
      go_quiet (fail)
      go_wp2
      go_ret2
      exact ⟨ret_ii K.out.1.symm K.out.2.symm, _, rfl⟩

theorem rdigit_any (c : UInt8) (w : World) :
    Calls Tryz.prog 60 #[.int .u8 (c.toNat : Int)] w fun e w' => e = .returned (.bool (Sol.isDig c)) ∧ w = w' := by
  by_cases h1 : 48 ≤ (c.toNat : Int)
  · by_cases h2 : (c.toNat : Int) ≤ 57
    · have H := Lib.hid ((Sol.isDig_iff c).2 ⟨h1, h2⟩)
      go_enter Tryz.func60, Tryz.ntmps60
      go_wp2
      go_ret
      exact ⟨ret_b H.out.symm, rfl⟩
    · have H := Lib.hid (Sol.isDig_hi h2)
      go_enter Tryz.func60, Tryz.ntmps60
      go_wp2
      go_ret
      exact ⟨ret_b H.out.symm, rfl⟩
  · have H := Lib.hid (Sol.isDig_lo h1)
    go_enter Tryz.func60, Tryz.ntmps60
    go_wp2
    go_ret
    exact ⟨ret_b H.out.symm, rfl⟩
end RNum
end Go.Proofs.YthefgagmjamdkaaGreatDoor
/-
  Contracts of the reference's calls on numbers, the second part: Digits, Value, Text.
-/
namespace Go.Proofs.YthefgagmjamdkaaGreatDoor
open Go.RowKit
namespace RNum
set_option maxHeartbeats 400000 in
theorem rdigits_any (s : ByteArray) (w : World) (hs : s.size ≤ maxLen) :
    Calls Tryz.prog 27 #[.string s, .int .i64 1, .int .i64 18] w fun e w' => e = .returned (.bool (Sol.parseB s.data.toList)) ∧ w = w' := by
  unfold maxLen at hs
  have hlen := Sol.list_len s
  by_cases h1 : 1 ≤ s.size
  · by_cases h2 : s.size ≤ 18
    · have HL := Lib.hid hlen
      clear hlen
      go_enter Tryz.func27, Tryz.ntmps27
      go_wp2
      go_loop [7] (fun i => ∃ k : Nat, k ≤ s.size ∧ Hid ((s.data.toList.take k).all Sol.isDig = true) ∧ i = .int .i64 k) (fun i => s.size - (intOf i).toNat)
      case atStart => exact ⟨0, Nat.zero_le _, Lib.hid rfl, rfl⟩
      case round =>
        obtain ⟨k, hk, HA, rfl⟩ := hrel
        by_cases hlt : k < s.size
        · have HS := Lib.hid (Sol.take_snoc s k hlt)
          cases hd : Sol.isDig s[k] with
          | true =>
            have HD := Lib.hid hd
            clear hd
            go_wp2_with (go_at_call 60; refine (rdigit_any _ _).mono ?_; rintro e w' ⟨rfl, rfl⟩; rw [HD.out])
            go_round
            case rel => exact ⟨k + 1, by omega, Lib.hid (by rw [HS.out, Sol.all_snoc, HA.out, HD.out]; rfl), by go_num⟩
            case measure => simp [intOf]; omega
          | false =>
            have HD := Lib.hid hd
            clear hd
            have H := Lib.hid (Sol.parseB_at (l := s.data.toList) (k := k) (by rw [HL.out]; exact hlt) HD.out)
            go_wp2_with (go_at_call 60; refine (rdigit_any _ _).mono ?_; rintro e w' ⟨rfl, rfl⟩; rw [HD.out])
            go_ret
            exact ⟨ret_b H.out.symm, rfl⟩
        · have HT : Hid (s.data.toList.take k = s.data.toList) := Lib.hid (List.take_of_length_le (by rw [HL.out]; omega))
          have H : Hid (Sol.parseB s.data.toList = true) := Lib.hid (Sol.parseB_yes (by rw [HL.out]; omega) (by rw [HL.out]; omega) (by have := HA.out; rwa [HT.out] at this))
          go_wp2
          go_ret
          exact ⟨ret_b H.out.symm, rfl⟩
    · have H := Lib.hid (Sol.parseB_long (l := s.data.toList) (by omega))
      clear hlen
      go_enter Tryz.func27, Tryz.ntmps27
      go_wp2
      go_ret
      exact ⟨ret_b H.out.symm, rfl⟩
  · have H := Lib.hid (Sol.parseB_short (l := s.data.toList) (by omega))
    clear hlen
    go_enter Tryz.func27, Tryz.ntmps27
    go_wp2
    go_ret
    exact ⟨ret_b H.out.symm, rfl⟩

theorem parseB_parts {l : List UInt8} (h : Sol.parseB l = true) : 1 ≤ l.length ∧ l.length ≤ 18 ∧ l.all Sol.isDig = true := by
  rw [Sol.parseB, Bool.and_eq_true, decide_eq_true_eq] at h
  exact ⟨h.1.1, h.1.2, h.2⟩
theorem all_take {l : List UInt8} (h : l.all Sol.isDig = true) (k : Nat) : (l.take k).all Sol.isDig = true := by
  rw [List.all_eq_true] at h ⊢
  exact fun x hx => h x (List.mem_of_mem_take hx)

set_option maxHeartbeats 400000 in
theorem rvalue_any (s : ByteArray) (w : World) (hp : Hid (Sol.parseB s.data.toList = true)) :
    Calls Tryz.prog 28 #[.string s] w fun e w' => e = .returned (.int .i64 (Sol.digVal s.data.toList)) ∧ w = w' := by
  have hlen := Sol.list_len s
  obtain ⟨p1, p2, p3⟩ := parseB_parts hp.out
  have h2 : s.size ≤ 18 := by omega
  have HP := Lib.hid p3
  have HL := Lib.hid hlen
  clear hlen p1 p2 p3
  go_enter Tryz.func28, Tryz.ntmps28
  go_wp2
  go_loop [3, 4] (fun n i => ∃ k : Nat, k ≤ s.size ∧ i = .int .i64 k ∧ n = .int .i64 (Sol.digVal (s.data.toList.take k))) (fun _ i => s.size - (intOf i).toNat)
  case atStart => exact ⟨0, Nat.zero_le _, rfl, rfl⟩
  case round =>
    obtain ⟨k, hk, rfl, rfl⟩ := hrel
    by_cases hlt : k < s.size
    · have hl : (s.data.toList.take k).length ≤ 17 := by have := List.length_take_le k s.data.toList; omega
      obtain ⟨d0, d1⟩ := Sol.digVal_le17 _ (all_take HP.out k) hl
      have HS := Lib.hid (Sol.take_snoc s k hlt)
      have hb : (s[k].toNat : Int) ≤ 255 := by have := s[k].toNat_lt; omega
      clear hl
      go_wp2
      go_round
      case rel => exact ⟨k + 1, by omega, by go_num, by rw [HS.out, Sol.digVal_snoc]; congr 1; omega⟩
      case measure => simp [intOf]; omega
    · have HT : Hid (s.data.toList.take k = s.data.toList) := Lib.hid (List.take_of_length_le (by rw [HL.out]; omega))
      go_wp2
      go_ret
      exact ⟨ret_i (by rw [HT.out]), rfl⟩
end RNum
end Go.Proofs.YthefgagmjamdkaaGreatDoor
/-
  Contracts of the reference's calls on numbers, the third part: Text.
-/
namespace Go.Proofs.YthefgagmjamdkaaGreatDoor
open Go.RowKit
namespace RNum
theorem dd_step (m : Nat) : Lib.decDigits m = (if m / 10 = 0 then [] else Lib.decDigits (m / 10)) ++ [UInt8.ofNat (48 + m % 10)] := by
  rw [Lib.decDigits]
  by_cases h : m < 10
  · rw [dif_pos h, if_pos (by omega), Nat.mod_eq_of_lt h]; rfl
  · rw [dif_neg h, if_neg (by omega)]
def RT (N m : Nat) (t : List UInt8) : Prop := (m = N ∧ t = []) ∨ (t ≠ [] ∧ Lib.decDigits N = (if m = 0 then [] else Lib.decDigits m) ++ t)
theorem rt_step {N m : Nat} {t : List UInt8} (h : RT N m t) (c : 0 < m ∨ t = []) : RT N (m / 10) (UInt8.ofNat (48 + m % 10) :: t) := by
  refine Or.inr ⟨by simp, ?_⟩
  rcases h with ⟨rfl, rfl⟩ | ⟨ht, h⟩
  · exact dd_step m
  · have hm : 0 < m := c.elim id (fun e => absurd e ht)
    rw [if_neg (by omega), dd_step m, List.append_assoc] at h
    exact h
theorem rt_len {N m : Nat} {t : List UInt8} (h : RT N m t) (hN : (Lib.decDigits N).length ≤ 19) (c : 0 < m ∨ t = []) : t.length ≤ 18 := by
  rcases h with ⟨_, rfl⟩ | ⟨ht, h⟩
  · simp
  · have hm : 0 < m := c.elim id (fun e => absurd e ht)
    rw [if_neg (by omega)] at h
    have := Sol.decDigits_pos m
    have e := congrArg List.length h
    rw [List.length_append] at e
    omega
theorem rt_end {N : Nat} {t : List UInt8} (h : RT N 0 t) (c : t ≠ []) : Lib.decDigits N = t := by
  rcases h with ⟨_, rfl⟩ | ⟨_, h⟩
  · exact absurd rfl c
  · simpa using h
theorem conv_v (v : Int) (c : UInt8) (hc : v = (c.toNat : Int)) (w : World) : Sem.run Tryz.prog (convert 93 9 (Value.slice (some ⟨w.heap.size, 0, none⟩) 1 1)) (w.alloc (Obj.cells #[Value.int IntKind.u8 v] 5)) = .ok (.string ⟨#[c]⟩) (w.alloc (Obj.cells #[Value.int IntKind.u8 v] 5)) := by
  refine run_convert_bytes_back (P := Tryz.prog) _ 93 9 5 _ 1 [c] Tryz.underlying93 Tryz.underlying5 Tryz.underlying9 ?_
  intro j hj
  obtain rfl : j = 0 := by simpa using hj
  simp [Addr.add, World.cell?_alloc_new, hc]
theorem cons_str (c : UInt8) (t : List UInt8) : (⟨#[c]⟩ : ByteArray) ++ ⟨t.toArray⟩ = ⟨(c :: t).toArray⟩ := by
  apply ByteArray.ext
  simp
theorem cons_size (c : UInt8) (t : List UInt8) : ((⟨#[c]⟩ : ByteArray) ++ ⟨t.toArray⟩).size ≠ 0 := by
  rw [cons_str, ← Sol.list_len]; simp
def empt (v : Value) : Nat := match v with | .string b => (if b.size = 0 then 1 else 0) | _ => 0

theorem empt_cons (c : UInt8) (t : List UInt8) : empt (.string (⟨#[c]⟩ ++ ⟨t.toArray⟩)) = 0 := by rw [empt, if_neg (cons_size c t)]
theorem meas {m : Nat} {c : UInt8} {t : List UInt8} (h : 0 < m) : ((m : Int) / 10).toNat + empt (.string (⟨#[c]⟩ ++ ⟨t.toArray⟩)) < (m : Int).toNat + empt (.string ⟨t.toArray⟩) := by rw [empt_cons]; omega
theorem rt_zero {N : Nat} (h : RT N 0 []) : RT N 0 [48] := rt_step h (Or.inr rfl)

def ssz (v : Value) : Nat := match v with | .string b => b.size | _ => 0
theorem ssz_cons (u : List UInt8) : ssz (.string (⟨#[48]⟩ ++ ⟨u.toArray⟩)) = u.length + 1 := by rw [ssz, cons_str, ← Sol.list_len]; simp
theorem ssz_list (u : List UInt8) : ssz (.string ⟨u.toArray⟩) = u.length := by rw [ssz, ← Sol.list_len]
theorem meas2 {u : List UInt8} {D : Nat} (h : (u.length : Int) < (D : Int)) : D - ssz (.string (⟨#[48]⟩ ++ ⟨u.toArray⟩)) < D - ssz (.string ⟨u.toArray⟩) := by rw [ssz_cons, ssz_list]; omega
theorem pad_end {D j : Nat} {t u : List UInt8} (hu : u = List.replicate j 48 ++ t) (hj : j = 0 ∨ j + t.length ≤ D) (hc : ¬ (u.length : Int) < (D : Int)) : Sol.padL D t = u := by
  have e : u.length = j + t.length := by rw [hu]; simp
  rw [Sol.padL, hu]
  have : D - t.length = j := by omega
  rw [this]

set_option maxRecDepth 100000 in
set_option maxHeartbeats 1600000 in
theorem rtext_any (n d : Int) (w : World) (_n1 : -9223372036854775808 ≤ n) (n2 : n ≤ 9223372036854775807) (_d1 : -9223372036854775808 ≤ d) (_d2 : d ≤ 9223372036854775807) :
    Calls Tryz.prog 45 #[.int .i64 n, .int .i64 d] w fun e w' => e = .returned (.string ⟨(Sol.textL n d).toArray⟩) ∧ Below w.heap.size w w' := by
  by_cases hn : n < 0
  · have H := Lib.hid (textL_neg (d := d) hn)
    go_enter Tryz.func45, Tryz.ntmps45
    go_wp2
    go_ret
    exact ⟨ret_s (by rw [H.out]), Below.refl _ _⟩
  · obtain ⟨N, rfl⟩ := Int.eq_ofNat_of_zero_le (show 0 ≤ n by omega)
    have hlen : (Lib.decDigits N).length ≤ 19 := Sol.decDigits_len (k := 18) (by omega)
    have HL := Lib.hid hlen
    clear hlen
    by_cases hd1 : 0 ≤ d
    · by_cases hd2 : d ≤ 20
      · have HT := Lib.hid (textL_in (n := (N : Int)) (d := d) (by omega) hd1 hd2)
        rw [Int.toNat_natCast] at HT
        go_enter Tryz.func45, Tryz.ntmps45
        go_wp2
        go_loopw [0, 5] (fun a s wr => ∃ (m : Nat) (t : List UInt8), m ≤ N ∧ a = .int .i64 m ∧ s = .string ⟨t.toArray⟩ ∧ Hid (RT N m t) ∧ Below w.heap.size w wr) (fun a s _ => (intOf a).toNat + empt s)
        case atStart => exact ⟨N, [], Nat.le_refl _, rfl, rfl, Lib.hid (Or.inl ⟨rfl, rfl⟩), Below.refl _ _⟩
        case round =>
          obtain ⟨m, t, hm, rfl, rfl, HR, hbr⟩ := hrel
          by_cases hm0 : 0 < m
          · have hl := rt_len HR.out HL.out (Or.inl hm0)
            have HS := Lib.hid (rt_step HR.out (Or.inl hm0))
            have hv : (48 : Int) + (m : Int) % 10 = ((UInt8.ofNat (48 + m % 10)).toNat : Int) := by
              rw [Sol.dig_toNat (k := m % 10) (by omega)]; omega
            have hcv := conv_v _ _ hv wr
            have HE := Lib.hid (cons_str (UInt8.ofNat (48 + m % 10)) t)
            have q1 : 0 ≤ (m : Int) % 10 := by omega
            have q2 : (m : Int) % 10 < 10 := by omega
            clear hv
            generalize UInt8.ofNat (48 + m % 10) = c at *
            go_wp2
            go_roundw
            case rel => exact ⟨m / 10, c :: t, by omega, by go_num, by rw [HE.out], HS, hbr.alloc hbr.size _⟩
            case measure => exact meas hm0
          · obtain rfl : m = 0 := by omega
            by_cases ht : t = []
            · subst ht
              have HS := Lib.hid (rt_zero HR.out)
              have hcv := conv_v 48 48 rfl wr
              go_wp2
              go_roundw
              case rel => exact ⟨0, [48], by omega, rfl, rfl, HS, hbr.alloc hbr.size _⟩
              case measure => decide
            · have HX := Lib.hid (rt_end HR.out ht)
              have tl : t.length ≤ 19 := by have := HL.out; rwa [HX.out] at this
              have t1 : 1 ≤ t.length := by cases t with | nil => exact absurd rfl ht | cons a b => simp
              have tne : t.isEmpty = false := by cases t with | nil => exact absurd rfl ht | cons a b => rfl
              clear ht
              go_wp2
              go_loop [5] (fun s => ∃ (j : Nat) (u : List UInt8), Hid (u = List.replicate j 48 ++ t) ∧ (j = 0 ∨ j + t.length ≤ d.toNat) ∧ s = .string ⟨u.toArray⟩) (fun s => d.toNat - ssz s)
              case atStart => exact ⟨0, t, Lib.hid rfl, Or.inl rfl, rfl⟩
              case round =>
                obtain ⟨j, u, HU, hj, rfl⟩ := hrel
                have lu : u.length = j + t.length := by rw [HU.out]; simp
                have lu1 : u.length ≤ 20 := by omega
                have HLU := Lib.hid lu
                clear lu
                by_cases hc : (u.length : Int) < d
                · have HE := Lib.hid (cons_str 48 u)
                  have hj2 : j + 1 + t.length ≤ d.toNat := by have := HLU.out; omega
                  go_wp2
                  go_round
                  case rel => exact ⟨j + 1, 48 :: u, Lib.hid (by rw [HU.out]; rfl), Or.inr hj2, by rw [HE.out]⟩
                  case measure => exact meas2 (by omega)
                · have HP := Lib.hid (pad_end (D := d.toNat) HU.out hj (by omega))
                  clear hj
                  go_wp2
                  go_ret
                  exact ⟨ret_s (by rw [HT.out, HX.out, HP.out]), hbr⟩
      · have HT : Hid (Sol.textL N d = Sol.padL 0 (Lib.decDigits N)) := Lib.hid (by rw [textL_out (n := (N : Int)) (d := d) (by omega) (fun h => hd2 h.2), padL_short (by simp), Int.toNat_natCast])
        go_enter Tryz.func45, Tryz.ntmps45
        go_wp2
        go_loopw [0, 5] (fun a s wr => ∃ (m : Nat) (t : List UInt8), m ≤ N ∧ a = .int .i64 m ∧ s = .string ⟨t.toArray⟩ ∧ Hid (RT N m t) ∧ Below w.heap.size w wr) (fun a s _ => (intOf a).toNat + empt s)
        case atStart => exact ⟨N, [], Nat.le_refl _, rfl, rfl, Lib.hid (Or.inl ⟨rfl, rfl⟩), Below.refl _ _⟩
        case round =>
          obtain ⟨m, t, hm, rfl, rfl, HR, hbr⟩ := hrel
          by_cases hm0 : 0 < m
          · have hl := rt_len HR.out HL.out (Or.inl hm0)
            have HS := Lib.hid (rt_step HR.out (Or.inl hm0))
            have hv : (48 : Int) + (m : Int) % 10 = ((UInt8.ofNat (48 + m % 10)).toNat : Int) := by
              rw [Sol.dig_toNat (k := m % 10) (by omega)]; omega
            have hcv := conv_v _ _ hv wr
            have HE := Lib.hid (cons_str (UInt8.ofNat (48 + m % 10)) t)
            have q1 : 0 ≤ (m : Int) % 10 := by omega
            have q2 : (m : Int) % 10 < 10 := by omega
            clear hv
            generalize UInt8.ofNat (48 + m % 10) = c at *
            go_wp2
            go_roundw
            case rel => exact ⟨m / 10, c :: t, by omega, by go_num, by rw [HE.out], HS, hbr.alloc hbr.size _⟩
            case measure => exact meas hm0
          · obtain rfl : m = 0 := by omega
            by_cases ht : t = []
            · subst ht
              have HS := Lib.hid (rt_zero HR.out)
              have hcv := conv_v 48 48 rfl wr
              go_wp2
              go_roundw
              case rel => exact ⟨0, [48], by omega, rfl, rfl, HS, hbr.alloc hbr.size _⟩
              case measure => decide
            · have HX := Lib.hid (rt_end HR.out ht)
              have tl : t.length ≤ 19 := by have := HL.out; rwa [HX.out] at this
              have t1 : 1 ≤ t.length := by cases t with | nil => exact absurd rfl ht | cons a b => simp
              have tne : t.isEmpty = false := by cases t with | nil => exact absurd rfl ht | cons a b => rfl
              clear ht
              go_wp2
              go_loop [5] (fun s => ∃ (j : Nat) (u : List UInt8), Hid (u = List.replicate j 48 ++ t) ∧ (j = 0 ∨ j + t.length ≤ 0) ∧ s = .string ⟨u.toArray⟩) (fun s => 0 - ssz s)
              case atStart => exact ⟨0, t, Lib.hid rfl, Or.inl rfl, rfl⟩
              case round =>
                obtain ⟨j, u, HU, hj, rfl⟩ := hrel
                have lu : u.length = j + t.length := by rw [HU.out]; simp
                have lu1 : u.length ≤ 20 := by omega
                have HLU := Lib.hid lu
                clear lu
                have hc : ¬ (u.length : Int) < (0 : Nat) := by omega
                have HP := Lib.hid (pad_end (D := 0) HU.out hj hc)
                clear hj hc
                go_wp2
                go_ret
                exact ⟨ret_s (by rw [HT.out, HX.out, HP.out]), hbr⟩
    · have HT : Hid (Sol.textL N d = Sol.padL 0 (Lib.decDigits N)) := Lib.hid (by rw [textL_out (n := (N : Int)) (d := d) (by omega) (fun h => hd1 h.1), padL_short (by simp), Int.toNat_natCast])
      go_enter Tryz.func45, Tryz.ntmps45
      go_wp2
      go_loopw [0, 5] (fun a s wr => ∃ (m : Nat) (t : List UInt8), m ≤ N ∧ a = .int .i64 m ∧ s = .string ⟨t.toArray⟩ ∧ Hid (RT N m t) ∧ Below w.heap.size w wr) (fun a s _ => (intOf a).toNat + empt s)
      case atStart => exact ⟨N, [], Nat.le_refl _, rfl, rfl, Lib.hid (Or.inl ⟨rfl, rfl⟩), Below.refl _ _⟩
      case round =>
        obtain ⟨m, t, hm, rfl, rfl, HR, hbr⟩ := hrel
        by_cases hm0 : 0 < m
        · have hl := rt_len HR.out HL.out (Or.inl hm0)
          have HS := Lib.hid (rt_step HR.out (Or.inl hm0))
          have hv : (48 : Int) + (m : Int) % 10 = ((UInt8.ofNat (48 + m % 10)).toNat : Int) := by
            rw [Sol.dig_toNat (k := m % 10) (by omega)]; omega
          have hcv := conv_v _ _ hv wr
          have HE := Lib.hid (cons_str (UInt8.ofNat (48 + m % 10)) t)
          have q1 : 0 ≤ (m : Int) % 10 := by omega
          have q2 : (m : Int) % 10 < 10 := by omega
          clear hv
          generalize UInt8.ofNat (48 + m % 10) = c at *
          go_wp2
          go_roundw
          case rel => exact ⟨m / 10, c :: t, by omega, by go_num, by rw [HE.out], HS, hbr.alloc hbr.size _⟩
          case measure => exact meas hm0
        · obtain rfl : m = 0 := by omega
          by_cases ht : t = []
          · subst ht
            have HS := Lib.hid (rt_zero HR.out)
            have hcv := conv_v 48 48 rfl wr
            go_wp2
            go_roundw
            case rel => exact ⟨0, [48], by omega, rfl, rfl, HS, hbr.alloc hbr.size _⟩
            case measure => decide
          · have HX := Lib.hid (rt_end HR.out ht)
            have tl : t.length ≤ 19 := by have := HL.out; rwa [HX.out] at this
            have t1 : 1 ≤ t.length := by cases t with | nil => exact absurd rfl ht | cons a b => simp
            have tne : t.isEmpty = false := by cases t with | nil => exact absurd rfl ht | cons a b => rfl
            clear ht
            go_wp2
            go_loop [5] (fun s => ∃ (j : Nat) (u : List UInt8), Hid (u = List.replicate j 48 ++ t) ∧ (j = 0 ∨ j + t.length ≤ 0) ∧ s = .string ⟨u.toArray⟩) (fun s => 0 - ssz s)
            case atStart => exact ⟨0, t, Lib.hid rfl, Or.inl rfl, rfl⟩
            case round =>
              obtain ⟨j, u, HU, hj, rfl⟩ := hrel
              have lu : u.length = j + t.length := by rw [HU.out]; simp
              have lu1 : u.length ≤ 20 := by omega
              have HLU := Lib.hid lu
              clear lu
              have hc : ¬ (u.length : Int) < (0 : Nat) := by omega
              have HP := Lib.hid (pad_end (D := 0) HU.out hj hc)
              clear hj hc
              go_wp2
              go_ret
              exact ⟨ret_s (by rw [HT.out, HX.out, HP.out]), hbr⟩
end RNum
end Go.Proofs.YthefgagmjamdkaaGreatDoor
