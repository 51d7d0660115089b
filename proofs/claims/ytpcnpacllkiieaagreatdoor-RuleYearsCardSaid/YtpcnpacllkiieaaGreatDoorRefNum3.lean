/-
  Contracts of the reference's calls on numbers, the third part: Text.
-/
import Derived.Test.YtpcnpacllkiieaaGreatDoorRefNum2
namespace Go.Proofs.YtpcnpacllkiieaaGreatDoor
open Go.RowKit
namespace RNum
theorem dd_step (m : Nat) : Lib.decDigits m = (if m / 10 = 0 then [] else Lib.decDigits (m / 10)) ++ [UInt8.ofNat (48 + m % 10)] := by
  rw [Lib.decDigits]
  by_cases h : m < 10
  · rw [dif_pos h, if_pos (by omega), Nat.mod_eq_of_lt h]; rfl
  · rw [dif_neg h, if_neg (by omega)]
def RT (N m : Nat) (t : List UInt8) : Prop := (m = N ∧ t = []) ∨ (t ≠ [] ∧ Lib.decDigits N = (if m = 0 then [] else Lib.decDigits m) ++ t)
theorem rt_step {N m : Nat} {t : List UInt8} (h : RT N m t) (c : 0 < m ∨ t = []) : RT N (m / 10) (UInt8.ofNat (48 + m % 10) :: t) := by
  refine Or.inr ⟨by simp, ?_⟩
  rcases h with ⟨rfl, rfl⟩ | ⟨ht, h⟩
  · exact dd_step m
  · have hm : 0 < m := c.elim id (fun e => absurd e ht)
    rw [if_neg (by omega), dd_step m, List.append_assoc] at h
    exact h
theorem rt_len {N m : Nat} {t : List UInt8} (h : RT N m t) (hN : (Lib.decDigits N).length ≤ 19) (c : 0 < m ∨ t = []) : t.length ≤ 18 := by
  rcases h with ⟨_, rfl⟩ | ⟨ht, h⟩
  · simp
  · have hm : 0 < m := c.elim id (fun e => absurd e ht)
    rw [if_neg (by omega)] at h
    have := Sol.decDigits_pos m
    have e := congrArg List.length h
    rw [List.length_append] at e
    omega
theorem rt_end {N : Nat} {t : List UInt8} (h : RT N 0 t) (c : t ≠ []) : Lib.decDigits N = t := by
  rcases h with ⟨_, rfl⟩ | ⟨_, h⟩
  · exact absurd rfl c
  · simpa using h
theorem conv_v (v : Int) (c : UInt8) (hc : v = (c.toNat : Int)) (w : World) : Sem.run Tryz.prog (convert 97 9 (Value.slice (some ⟨w.heap.size, 0, none⟩) 1 1)) (w.alloc (Obj.cells #[Value.int IntKind.u8 v] 5)) = .ok (.string ⟨#[c]⟩) (w.alloc (Obj.cells #[Value.int IntKind.u8 v] 5)) := by
  refine run_convert_bytes_back (P := Tryz.prog) _ 97 9 5 _ 1 [c] Tryz.underlying97 Tryz.underlying5 Tryz.underlying9 ?_
  intro j hj
  obtain rfl : j = 0 := by simpa using hj
  simp [Addr.add, World.cell?_alloc_new, hc]
theorem cons_str (c : UInt8) (t : List UInt8) : (⟨#[c]⟩ : ByteArray) ++ ⟨t.toArray⟩ = ⟨(c :: t).toArray⟩ := by
  apply ByteArray.ext
  simp
theorem cons_size (c : UInt8) (t : List UInt8) : ((⟨#[c]⟩ : ByteArray) ++ ⟨t.toArray⟩).size ≠ 0 := by
  rw [cons_str, ← Sol.list_len]; simp
def empt (v : Value) : Nat := match v with | .string b => (if b.size = 0 then 1 else 0) | _ => 0

theorem empt_cons (c : UInt8) (t : List UInt8) : empt (.string (⟨#[c]⟩ ++ ⟨t.toArray⟩)) = 0 := by rw [empt, if_neg (cons_size c t)]
theorem meas {m : Nat} {c : UInt8} {t : List UInt8} (h : 0 < m) : ((m : Int) / 10).toNat + empt (.string (⟨#[c]⟩ ++ ⟨t.toArray⟩)) < (m : Int).toNat + empt (.string ⟨t.toArray⟩) := by rw [empt_cons]; omega
theorem rt_zero {N : Nat} (h : RT N 0 []) : RT N 0 [48] := rt_step h (Or.inr rfl)

def ssz (v : Value) : Nat := match v with | .string b => b.size | _ => 0
theorem ssz_cons (u : List UInt8) : ssz (.string (⟨#[48]⟩ ++ ⟨u.toArray⟩)) = u.length + 1 := by rw [ssz, cons_str, ← Sol.list_len]; simp
theorem ssz_list (u : List UInt8) : ssz (.string ⟨u.toArray⟩) = u.length := by rw [ssz, ← Sol.list_len]
theorem meas2 {u : List UInt8} {D : Nat} (h : (u.length : Int) < (D : Int)) : D - ssz (.string (⟨#[48]⟩ ++ ⟨u.toArray⟩)) < D - ssz (.string ⟨u.toArray⟩) := by rw [ssz_cons, ssz_list]; omega
theorem pad_end {D j : Nat} {t u : List UInt8} (hu : u = List.replicate j 48 ++ t) (hj : j = 0 ∨ j + t.length ≤ D) (hc : ¬ (u.length : Int) < (D : Int)) : Sol.padL D t = u := by
  have e : u.length = j + t.length := by rw [hu]; simp
  rw [Sol.padL, hu]
  have : D - t.length = j := by omega
  rw [this]

set_option maxRecDepth 100000 in
set_option maxHeartbeats 1600000 in
theorem rtext_any (n d : Int) (w : World) (_n1 : -9223372036854775808 ≤ n) (n2 : n ≤ 9223372036854775807) (_d1 : -9223372036854775808 ≤ d) (_d2 : d ≤ 9223372036854775807) :
    Calls Tryz.prog 28 #[.int .i64 n, .int .i64 d] w fun e w' => e = .returned (.string ⟨(Sol.textL n d).toArray⟩) ∧ Below w.heap.size w w' := by
  by_cases hn : n < 0
  · have H := Lib.hid (textL_neg (d := d) hn)
    go_enter Tryz.func28, Tryz.ntmps28
    go_wp2
    go_ret
    exact ⟨ret_s (by rw [H.out]), Below.refl _ _⟩
  · obtain ⟨N, rfl⟩ := Int.eq_ofNat_of_zero_le (show 0 ≤ n by omega)
    have hlen : (Lib.decDigits N).length ≤ 19 := Sol.decDigits_len (k := 18) (by omega)
    have HL := Lib.hid hlen
    clear hlen
    by_cases hd1 : 0 ≤ d
    · by_cases hd2 : d ≤ 20
      · have HT := Lib.hid (textL_in (n := (N : Int)) (d := d) (by omega) hd1 hd2)
        rw [Int.toNat_natCast] at HT
        go_enter Tryz.func28, Tryz.ntmps28
        go_wp2
        go_loopw [0, 5] (fun a s wr => ∃ (m : Nat) (t : List UInt8), m ≤ N ∧ a = .int .i64 m ∧ s = .string ⟨t.toArray⟩ ∧ Hid (RT N m t) ∧ Below w.heap.size w wr) (fun a s _ => (intOf a).toNat + empt s)
        case atStart => exact ⟨N, [], Nat.le_refl _, rfl, rfl, Lib.hid (Or.inl ⟨rfl, rfl⟩), Below.refl _ _⟩
        case round =>
          obtain ⟨m, t, hm, rfl, rfl, HR, hbr⟩ := hrel
          by_cases hm0 : 0 < m
          · have hl := rt_len HR.out HL.out (Or.inl hm0)
            have HS := Lib.hid (rt_step HR.out (Or.inl hm0))
            have hv : (48 : Int) + (m : Int) % 10 = ((UInt8.ofNat (48 + m % 10)).toNat : Int) := by
              rw [Sol.dig_toNat (k := m % 10) (by omega)]; omega
            have hcv := conv_v _ _ hv wr
            have HE := Lib.hid (cons_str (UInt8.ofNat (48 + m % 10)) t)
            have q1 : 0 ≤ (m : Int) % 10 := by omega
            have q2 : (m : Int) % 10 < 10 := by omega
            clear hv
            generalize UInt8.ofNat (48 + m % 10) = c at *
            go_wp2
            go_roundw
            case rel => exact ⟨m / 10, c :: t, by omega, by go_num, by rw [HE.out], HS, hbr.alloc hbr.size _⟩
            case measure => exact meas hm0
          · obtain rfl : m = 0 := by omega
            by_cases ht : t = []
            · subst ht
              have HS := Lib.hid (rt_zero HR.out)
              have hcv := conv_v 48 48 rfl wr
              go_wp2
              go_roundw
              case rel => exact ⟨0, [48], by omega, rfl, rfl, HS, hbr.alloc hbr.size _⟩
              case measure => decide
            · have HX := Lib.hid (rt_end HR.out ht)
              have tl : t.length ≤ 19 := by have := HL.out; rwa [HX.out] at this
              have t1 : 1 ≤ t.length := by cases t with | nil => exact absurd rfl ht | cons a b => simp
              have tne : t.isEmpty = false := by cases t with | nil => exact absurd rfl ht | cons a b => rfl
              clear ht
              go_wp2
              go_loop [5] (fun s => ∃ (j : Nat) (u : List UInt8), Hid (u = List.replicate j 48 ++ t) ∧ (j = 0 ∨ j + t.length ≤ d.toNat) ∧ s = .string ⟨u.toArray⟩) (fun s => d.toNat - ssz s)
              case atStart => exact ⟨0, t, Lib.hid rfl, Or.inl rfl, rfl⟩
              case round =>
                obtain ⟨j, u, HU, hj, rfl⟩ := hrel
                have lu : u.length = j + t.length := by rw [HU.out]; simp
                have lu1 : u.length ≤ 20 := by omega
                have HLU := Lib.hid lu
                clear lu
                by_cases hc : (u.length : Int) < d
                · have HE := Lib.hid (cons_str 48 u)
                  have hj2 : j + 1 + t.length ≤ d.toNat := by have := HLU.out; omega
                  go_wp2
                  go_round
                  case rel => exact ⟨j + 1, 48 :: u, Lib.hid (by rw [HU.out]; rfl), Or.inr hj2, by rw [HE.out]⟩
                  case measure => exact meas2 (by omega)
                · have HP := Lib.hid (pad_end (D := d.toNat) HU.out hj (by omega))
                  clear hj
                  go_wp2
                  go_ret
                  exact ⟨ret_s (by rw [HT.out, HX.out, HP.out]), hbr⟩
      · have HT : Hid (Sol.textL N d = Sol.padL 0 (Lib.decDigits N)) := Lib.hid (by rw [textL_out (n := (N : Int)) (d := d) (by omega) (fun h => hd2 h.2), padL_short (by simp), Int.toNat_natCast])
        go_enter Tryz.func28, Tryz.ntmps28
        go_wp2
        go_loopw [0, 5] (fun a s wr => ∃ (m : Nat) (t : List UInt8), m ≤ N ∧ a = .int .i64 m ∧ s = .string ⟨t.toArray⟩ ∧ Hid (RT N m t) ∧ Below w.heap.size w wr) (fun a s _ => (intOf a).toNat + empt s)
        case atStart => exact ⟨N, [], Nat.le_refl _, rfl, rfl, Lib.hid (Or.inl ⟨rfl, rfl⟩), Below.refl _ _⟩
        case round =>
          obtain ⟨m, t, hm, rfl, rfl, HR, hbr⟩ := hrel
          by_cases hm0 : 0 < m
          · have hl := rt_len HR.out HL.out (Or.inl hm0)
            have HS := Lib.hid (rt_step HR.out (Or.inl hm0))
            have hv : (48 : Int) + (m : Int) % 10 = ((UInt8.ofNat (48 + m % 10)).toNat : Int) := by
              rw [Sol.dig_toNat (k := m % 10) (by omega)]; omega
            have hcv := conv_v _ _ hv wr
            have HE := Lib.hid (cons_str (UInt8.ofNat (48 + m % 10)) t)
            have q1 : 0 ≤ (m : Int) % 10 := by omega
            have q2 : (m : Int) % 10 < 10 := by omega
            clear hv
            generalize UInt8.ofNat (48 + m % 10) = c at *
            go_wp2
            go_roundw
            case rel => exact ⟨m / 10, c :: t, by omega, by go_num, by rw [HE.out], HS, hbr.alloc hbr.size _⟩
            case measure => exact meas hm0
          · obtain rfl : m = 0 := by omega
            by_cases ht : t = []
            · subst ht
              have HS := Lib.hid (rt_zero HR.out)
              have hcv := conv_v 48 48 rfl wr
              go_wp2
              go_roundw
              case rel => exact ⟨0, [48], by omega, rfl, rfl, HS, hbr.alloc hbr.size _⟩
              case measure => decide
            · have HX := Lib.hid (rt_end HR.out ht)
              have tl : t.length ≤ 19 := by have := HL.out; rwa [HX.out] at this
              have t1 : 1 ≤ t.length := by cases t with | nil => exact absurd rfl ht | cons a b => simp
              have tne : t.isEmpty = false := by cases t with | nil => exact absurd rfl ht | cons a b => rfl
              clear ht
              go_wp2
              go_loop [5] (fun s => ∃ (j : Nat) (u : List UInt8), Hid (u = List.replicate j 48 ++ t) ∧ (j = 0 ∨ j + t.length ≤ 0) ∧ s = .string ⟨u.toArray⟩) (fun s => 0 - ssz s)
              case atStart => exact ⟨0, t, Lib.hid rfl, Or.inl rfl, rfl⟩
              case round =>
                obtain ⟨j, u, HU, hj, rfl⟩ := hrel
                have lu : u.length = j + t.length := by rw [HU.out]; simp
                have lu1 : u.length ≤ 20 := by omega
                have HLU := Lib.hid lu
                clear lu
                have hc : ¬ (u.length : Int) < (0 : Nat) := by omega
                have HP := Lib.hid (pad_end (D := 0) HU.out hj hc)
                clear hj hc
                go_wp2
                go_ret
                exact ⟨ret_s (by rw [HT.out, HX.out, HP.out]), hbr⟩
    · have HT : Hid (Sol.textL N d = Sol.padL 0 (Lib.decDigits N)) := Lib.hid (by rw [textL_out (n := (N : Int)) (d := d) (by omega) (fun h => hd1 h.1), padL_short (by simp), Int.toNat_natCast])
      go_enter Tryz.func28, Tryz.ntmps28
      go_wp2
      go_loopw [0, 5] (fun a s wr => ∃ (m : Nat) (t : List UInt8), m ≤ N ∧ a = .int .i64 m ∧ s = .string ⟨t.toArray⟩ ∧ Hid (RT N m t) ∧ Below w.heap.size w wr) (fun a s _ => (intOf a).toNat + empt s)
      case atStart => exact ⟨N, [], Nat.le_refl _, rfl, rfl, Lib.hid (Or.inl ⟨rfl, rfl⟩), Below.refl _ _⟩
      case round =>
        obtain ⟨m, t, hm, rfl, rfl, HR, hbr⟩ := hrel
        by_cases hm0 : 0 < m
        · have hl := rt_len HR.out HL.out (Or.inl hm0)
          have HS := Lib.hid (rt_step HR.out (Or.inl hm0))
          have hv : (48 : Int) + (m : Int) % 10 = ((UInt8.ofNat (48 + m % 10)).toNat : Int) := by
            rw [Sol.dig_toNat (k := m % 10) (by omega)]; omega
          have hcv := conv_v _ _ hv wr
          have HE := Lib.hid (cons_str (UInt8.ofNat (48 + m % 10)) t)
          have q1 : 0 ≤ (m : Int) % 10 := by omega
          have q2 : (m : Int) % 10 < 10 := by omega
          clear hv
          generalize UInt8.ofNat (48 + m % 10) = c at *
          go_wp2
          go_roundw
          case rel => exact ⟨m / 10, c :: t, by omega, by go_num, by rw [HE.out], HS, hbr.alloc hbr.size _⟩
          case measure => exact meas hm0
        · obtain rfl : m = 0 := by omega
          by_cases ht : t = []
          · subst ht
            have HS := Lib.hid (rt_zero HR.out)
            have hcv := conv_v 48 48 rfl wr
            go_wp2
            go_roundw
            case rel => exact ⟨0, [48], by omega, rfl, rfl, HS, hbr.alloc hbr.size _⟩
            case measure => decide
          · have HX := Lib.hid (rt_end HR.out ht)
            have tl : t.length ≤ 19 := by have := HL.out; rwa [HX.out] at this
            have t1 : 1 ≤ t.length := by cases t with | nil => exact absurd rfl ht | cons a b => simp
            have tne : t.isEmpty = false := by cases t with | nil => exact absurd rfl ht | cons a b => rfl
            clear ht
            go_wp2
            go_loop [5] (fun s => ∃ (j : Nat) (u : List UInt8), Hid (u = List.replicate j 48 ++ t) ∧ (j = 0 ∨ j + t.length ≤ 0) ∧ s = .string ⟨u.toArray⟩) (fun s => 0 - ssz s)
            case atStart => exact ⟨0, t, Lib.hid rfl, Or.inl rfl, rfl⟩
            case round =>
              obtain ⟨j, u, HU, hj, rfl⟩ := hrel
              have lu : u.length = j + t.length := by rw [HU.out]; simp
              have lu1 : u.length ≤ 20 := by omega
              have HLU := Lib.hid lu
              clear lu
              have hc : ¬ (u.length : Int) < (0 : Nat) := by omega
              have HP := Lib.hid (pad_end (D := 0) HU.out hj hc)
              clear hj hc
              go_wp2
              go_ret
              exact ⟨ret_s (by rw [HT.out, HX.out, HP.out]), hbr⟩
end RNum
end Go.Proofs.YtpcnpacllkiieaaGreatDoor
