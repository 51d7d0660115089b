/-
  The reference's one, Name, day, Rule. (Written by gen/gen_rrul.py.)
-/
import Derived.Test.YthefgagmjamdkaaGreatDoorBdJ
import Derived.Test.YthefgagmjamdkaaGreatDoorBdT
import Derived.Test.YthefgagmjamdkaaGreatDoorBdU
import Derived.Test.YthefgagmjamdkaaGreatDoorBdV
import Derived.Test.YthefgagmjamdkaaGreatDoorBdH
namespace Go.Proofs.YthefgagmjamdkaaGreatDoor
open Go.RowKit
namespace Rul
open Sol Clk Cel
theorem con_snoc (O : List UInt8) (c : UInt8) (k : Nat) (hk : k < O.length) (h : (O.take k).contains c = false) (hc : ¬ O[k] = c) : (O.take (k + 1)).contains c = false := by
  rw [List.take_succ_eq_append_getElem hk, List.contains_eq_mem, decide_eq_false_iff_not, List.mem_append]
  rw [List.contains_eq_mem, decide_eq_false_iff_not] at h
  rintro (a | a)
  · exact h a
  · exact hc (List.mem_singleton.1 a).symm
set_option maxHeartbeats 3200000 in
set_option maxRecDepth 100000 in
theorem one_to (c : UInt8) (s : ByteArray) (S : List UInt8) (b : Bool) (w : World) (hs : s.size ≤ 1000) (hS : Hid (s.data.toList = S)) (h : Hid (S.contains c = b)) :
    Calls Tryz.prog 69 #[.int .u8 (c.toNat : Int), .string s] w fun e w' => e = .returned (.bool b) ∧ w = w' := by
  have hl : S.length = s.size := by rw [← hS.out]; simp
  have HL := Lib.hid hl
  clear hl
  have cb := c.toNat_lt
  go_enter Tryz.func69, Tryz.ntmps69
  go_wp2
  go_loopw [5] (fun i wr => ∃ k : Nat, k ≤ s.size ∧ Hid ((S.take k).contains c = false) ∧ i = .int .i64 k ∧ w = wr) (fun i _ => s.size - (intOf i).toNat)
  case atStart => exact ⟨0, Nat.zero_le _, Lib.hid (by simp), rfl, rfl⟩
  case round =>
    obtain ⟨k, hk, hall, rfl, rfl⟩ := hrel
    by_cases hlt : k < s.size
    · have hkS : k < S.length := by rw [HL.out]; exact hlt
      obtain ⟨d, hx⟩ : ∃ c, S[k]'hkS = c := ⟨_, rfl⟩
      have hcc : s[k] = d := by
        have : s[k] = s.data.toList[k]'(by simpa using hlt) := by simp [ByteArray.getElem_eq_getElem_data]
        rw [this, ← hx]
        exact List.getElem_of_eq hS.out _
      have db := d.toNat_lt
      by_cases e : d = c
      · subst e
        have HB : Hid (true = b) := Lib.hid (by rw [← h.out, List.contains_eq_mem]; exact (decide_eq_true (hx ▸ List.getElem_mem hkS)).symm)
        clear hx hkS
        go_wp2
        go_ret
        exact ⟨ret_b HB.out, rfl⟩
      · have HN := Lib.hid (con_snoc S c k hkS hall.out (by rw [hx]; exact e))
        have x1 : ((d.toNat : Int) == (c.toNat : Int)) = false := beq_eq_false_iff_ne.2 (fun q => e (UInt8.toNat_inj.1 (by omega)))
        have x2 : ¬ d.toNat = c.toNat := fun q => e (UInt8.toNat_inj.1 q)
        clear hx hkS e
        go_wp2
        go_roundw
        case rel => exact ⟨k + 1, by omega, HN, by go_num, trivial⟩
        case measure => simp [intOf]; omega
    · have HB : Hid (false = b) := Lib.hid (by rw [← h.out, ← hall.out, List.take_of_length_le (by rw [HL.out]; omega)])
      go_wp2
      go_ret
      exact ⟨ret_b HB.out, rfl⟩
theorem ok_95 (c : UInt8) : Fm.okB [95, 43, 45, 47] c = (Fm.isLt c || (isDig c || ([95, 43, 45, 47] : List UInt8).contains c)) :=
  beq_iff_eq.1 (byte_tab (fun c => Fm.okB [95, 43, 45, 47] c == (Fm.isLt c || (isDig c || ([95, 43, 45, 47] : List UInt8).contains c))) (by decide +kernel) c)
set_option maxHeartbeats 6400000 in
set_option maxRecDepth 100000 in
theorem rnam_to (s : ByteArray) (S : List UInt8) (b : Bool) (w : World) (hs : s.size ≤ 1000) (hS : Hid (s.data.toList = S)) (h : Hid (nameB S = b)) :
    Calls Tryz.prog 37 #[.string s] w fun e w' => e = .returned (.bool b) ∧ w = w' := by
  have hl : s.size = S.length := by rw [← hS.out]; simp
  have HL : Hid (S.length = s.size) := Lib.hid hl.symm
  have HH := h.out
  clear h
  rw [nameB] at HH
  obtain ⟨on, h1⟩ : ∃ x, Fm.onlyB S [95, 43, 45, 47] = x := ⟨_, rfl⟩
  have HO := Lib.hid h1
  rw [h1, ← hl] at HH
  clear h1
  by_cases a1 : s.size < 1
  · have : b = false := by rw [← HH, decide_eq_false (by omega)]; rfl
    subst this
    clear HH hl
    go_enter Tryz.func37, Tryz.ntmps37
    go_wp2
    go_ret
    exact ⟨rfl, rfl⟩
  by_cases a2 : 40 < s.size
  · have : b = false := by rw [← HH, decide_eq_false (by omega)]; rfl
    subst this
    clear HH hl
    go_enter Tryz.func37, Tryz.ntmps37
    go_wp2
    go_ret
    exact ⟨rfl, rfl⟩
  have a3 : 1 ≤ s.size := by omega
  have a4 : s.size ≤ 40 := by omega
  obtain ⟨h0, hx⟩ := at_ls hS.out 0 (by omega)
  obtain ⟨c, hc⟩ : ∃ c, s[0] = c := ⟨_, rfl⟩
  rw [hc] at hx
  rw [decide_eq_true ⟨a3, a4⟩, Bool.true_and] at HH
  have hd : hdBad S = (isDig c || (c == 43 || c == 45)) := by
    cases S with
    | nil => simp at h0
    | cons x T => rw [hx]; rfl
  rw [hd] at HH
  have cb := c.toNat_lt
  have hcs : (isDig c = true ∧ b = false) ∨ (isDig c = false ∧ ((c.toNat : Int) == 43) = true ∧ b = false) ∨ (isDig c = false ∧ ((c.toNat : Int) == 43) = false ∧ ((c.toNat : Int) == 45) = true ∧ b = false) ∨ (isDig c = false ∧ ((c.toNat : Int) == 43) = false ∧ ((c.toNat : Int) == 45) = false ∧ b = on) := by
    rw [← HH]
    cases hdg : isDig c with
    | true => exact Or.inl ⟨rfl, by simp⟩
    | false =>
      by_cases e1 : c = 43
      · exact Or.inr (Or.inl ⟨rfl, by rw [e1]; rfl, by simp [e1]⟩)
      · by_cases e2 : c = 45
        · exact Or.inr (Or.inr (Or.inl ⟨rfl, Esc.u8_ne (n := 43) (by decide) e1, by rw [e2]; rfl, by simp [e2]⟩))
        · refine Or.inr (Or.inr (Or.inr ⟨rfl, Esc.u8_ne (n := 43) (by decide) e1, Esc.u8_ne (n := 45) (by decide) e2, ?_⟩))
          have f1 : (c == 43) = false := beq_eq_false_iff_ne.2 e1
          have f2 : (c == 45) = false := beq_eq_false_iff_ne.2 e2
          simp [f1, f2]
  clear HH hd hx h0 hl a1 a2
  rcases hcs with ⟨hg, rfl⟩ | ⟨hg, e1, rfl⟩ | ⟨hg, e1, e2, rfl⟩ | ⟨hg, e1, e2, rfl⟩
  · have HG := Lib.hid hg
    clear hg
    go_enter Tryz.func37, Tryz.ntmps37
    go_wp2_with fail
    refine (Fm.rD_to c true _ HG).mono ?_
    rintro e w1 ⟨rfl, rfl⟩
    go_wp2
    go_ret
    exact ⟨rfl, rfl⟩
  · have HG := Lib.hid hg
    clear hg
    go_enter Tryz.func37, Tryz.ntmps37
    go_wp2_with fail
    refine (Fm.rD_to c false _ HG).mono ?_
    rintro e w1 ⟨rfl, rfl⟩
    go_wp2
    go_ret
    exact ⟨rfl, rfl⟩
  · have HG := Lib.hid hg
    clear hg
    go_enter Tryz.func37, Tryz.ntmps37
    go_wp2_with fail
    refine (Fm.rD_to c false _ HG).mono ?_
    rintro e w1 ⟨rfl, rfl⟩
    go_wp2
    go_ret
    exact ⟨rfl, rfl⟩
  · have HG := Lib.hid hg
    clear hg
    go_enter Tryz.func37, Tryz.ntmps37
    go_wp2_with fail
    refine (Fm.rD_to c false _ HG).mono ?_
    rintro e w1 ⟨rfl, rfl⟩
    go_wp2
    clear hc cb HG e1 e2
    go_loopw [3] (fun i wr => ∃ k : Nat, k ≤ s.size ∧ Hid ((S.take k).all (Fm.okB [95, 43, 45, 47]) = true) ∧ i = .int .i64 k ∧ w = wr) (fun i _ => s.size - (intOf i).toNat)
    case atStart => exact ⟨0, Nat.zero_le _, Lib.hid rfl, rfl, rfl⟩
    case round =>
      obtain ⟨k, hk, hall, rfl, rfl⟩ := hrel
      by_cases hlt : k < s.size
      · have hkS : k < S.length := by rw [HL.out]; exact hlt
        obtain ⟨c, hx⟩ : ∃ c, S[k]'hkS = c := ⟨_, rfl⟩
        have hcc : s[k] = c := by
          have : s[k] = s.data.toList[k]'(by simpa using hlt) := by simp [ByteArray.getElem_eq_getElem_data]
          rw [this, ← hx]
          exact List.getElem_of_eq hS.out _
        have HN : Hid (Fm.okB [95, 43, 45, 47] c = true → (S.take (k + 1)).all (Fm.okB [95, 43, 45, 47]) = true) := Lib.hid (fun h => by rw [List.take_succ_eq_append_getElem hkS, hx, List.all_append, hall.out, List.all_cons, h]; rfl)
        have HF : Hid (Fm.okB [95, 43, 45, 47] c = false → b = false) := Lib.hid (fun h2 => by rw [← HO.out]; exact Fm.only_at hkS (by rw [hx]; exact h2))
        have hok := ok_95 c
        clear hx hkS
        obtain ⟨p, hp⟩ : ∃ p, Fm.isLt c = p := ⟨_, rfl⟩
        obtain ⟨q, hq⟩ : ∃ p, isDig c = p := ⟨_, rfl⟩
        obtain ⟨r, hr⟩ : ∃ p, ([95, 43, 45, 47] : List UInt8).contains c = p := ⟨_, rfl⟩
        have HP := Lib.hid hp
        have HQ := Lib.hid hq
        have HR := Lib.hid hr
        rw [hp, hq, hr] at hok
        clear hp hq hr
        have cb := c.toNat_lt
        cases p with
        | true =>
          have HNN := Lib.hid (HN.out hok)
          clear HN HF hok
          go_wp2_with fail
          refine (Fm.rL_to c true _ HP).mono ?_
          rintro e w1 ⟨rfl, rfl⟩
          go_wp2
          go_roundw
          case rel => exact ⟨k + 1, by omega, HNN, by go_num, trivial⟩
          case measure => simp [intOf]; omega
        | false =>
          cases q with
          | true =>
            have HNN := Lib.hid (HN.out hok)
            clear HN HF hok
            go_wp2_with fail
            refine (Fm.rL_to c false _ HP).mono ?_
            rintro e w1 ⟨rfl, rfl⟩
            go_wp2_with fail
            refine (Fm.rD_to c true _ HQ).mono ?_
            rintro e w1 ⟨rfl, rfl⟩
            go_wp2
            go_roundw
            case rel => exact ⟨k + 1, by omega, HNN, by go_num, trivial⟩
            case measure => simp [intOf]; omega
          | false =>
            cases r with
            | true =>
              have HNN := Lib.hid (HN.out hok)
              clear HN HF hok
              go_wp2_with fail
              refine (Fm.rL_to c false _ HP).mono ?_
              rintro e w1 ⟨rfl, rfl⟩
              go_wp2_with fail
              refine (Fm.rD_to c false _ HQ).mono ?_
              rintro e w1 ⟨rfl, rfl⟩
              go_wp2_with fail
              refine (one_to c _ [95, 43, 45, 47] true _ (by decide) (Lib.hid rfl) HR).mono ?_
              rintro e w1 ⟨rfl, rfl⟩
              go_wp2
              go_roundw
              case rel => exact ⟨k + 1, by omega, HNN, by go_num, trivial⟩
              case measure => simp [intOf]; omega
            | false =>
              have HFF := Lib.hid (HF.out hok)
              clear HN HF hok
              go_wp2_with fail
              refine (Fm.rL_to c false _ HP).mono ?_
              rintro e w1 ⟨rfl, rfl⟩
              go_wp2_with fail
              refine (Fm.rD_to c false _ HQ).mono ?_
              rintro e w1 ⟨rfl, rfl⟩
              go_wp2_with fail
              refine (one_to c _ [95, 43, 45, 47] false _ (by decide) (Lib.hid rfl) HR).mono ?_
              rintro e w1 ⟨rfl, rfl⟩
              go_wp2
              go_ret
              exact ⟨ret_b HFF.out.symm, rfl⟩
      · have HB : Hid (true = b) := Lib.hid (by rw [← HO.out, ← hall.out, List.take_of_length_le (by rw [HL.out]; omega)]; rfl)
        go_wp2
        go_ret
        exact ⟨ret_b HB.out, rfl⟩
def bdayB (n : Int) : Bool := decide (-86399 ≤ n ∧ n ≤ 86399)
theorem rday9_to (n : Int) (b : Bool) (w : World) (h : Hid (bdayB n = b)) :
    Calls Tryz.prog 39 #[.int .i64 n] w fun e w' => e = .returned (.bool b) ∧ w = w' := by
  go_enter Tryz.func39, Tryz.ntmps39
  go_wp2_with fail
  refine (Fm.rin9_to n (-86399) 86399 b _ h).mono ?_
  rintro e w1 ⟨rfl, rfl⟩
  go_wp2
  go_ret
  exact ⟨rfl, rfl⟩
theorem ron_b (k v d : Int) (b : Bool) (w : World) (h : Hid (Wk.onOk k v d = b)) :
    Calls Tryz.prog 40 #[.agg #[.int .i64 k, .int .i64 v, .int .i64 d]] w fun e w' => e = .returned (.bool b) ∧ Below w.heap.size w w' :=
  (Wk.ron_any k v d w).mono fun _ _ ⟨he, hw⟩ => ⟨by rw [he, h.out], by rw [← hw]; exact (Below.refl _ _).alloc (Nat.le_refl _) _⟩
theorem rat_b (n c : Int) (b : Bool) (w : World) (h : Hid (Atf.atOk n c = b)) :
    Calls Tryz.prog 41 #[.agg #[.int .i64 n, .int .i64 c]] w fun e w' => e = .returned (.bool b) ∧ Below w.heap.size w w' :=
  (Atf.rAt_to n c b w h).mono fun _ _ ⟨he, hw⟩ => ⟨he, by rw [← hw]; exact (Below.refl _ _).alloc (Nat.le_refl _) _⟩
theorem rlen_b (y m L : Int) (w : World) (a1 : -9223372036854775808 ≤ y) (a2 : y ≤ 9223372036854775807) (h : Hid (Cal.mlen y m = L)) :
    Calls Tryz.prog 71 #[.int .i64 y, .int .i64 m] w fun e w' => e = .returned (.int .i64 L) ∧ Below w.heap.size w w' :=
  (Civ.rlen_any y m w a1 a2).mono fun _ _ ⟨he, n, hw⟩ => ⟨by rw [he, h.out], by rw [hw]; exact below_drewN (Below.refl _ _) n⟩
theorem chk_ref (nm lt : List UInt8) (fr tu mo k v d n c sv : Int) : chkB ⟨nm, fr, tu, mo, k, v, d, n, c, sv, lt⟩ = (nameB nm && (decide (1 ≤ fr ∧ fr ≤ 9999) && (decide (fr ≤ tu ∧ tu ≤ 9999) && (decide (1 ≤ mo ∧ mo ≤ 12) && (Wk.onOk k v d && (Atf.atOk n c && (bdayB sv && (Fm.letB lt && fitB fr tu mo k d)))))))) := by
  rw [chkB, bdayB]
  simp only
  rw [Bool.eq_iff_iff]
  simp only [Bool.and_eq_true, decide_eq_true_eq]
  constructor
  · rintro ⟨a, b, c1, c2, c3, c4, c5, c6, c7, c8, c9, c10⟩
    exact ⟨a, by omega, by omega, by omega, c6, c8, by omega, b, c7⟩
  · rintro ⟨a, c1, c2, c3, c6, c8, c9, b, c7⟩
    exact ⟨a, b, by omega, by omega, by omega, by omega, by omega, c6, c7, c8, by omega, by omega⟩
theorem mlen_1 (mo : Int) (h : (mo == 2) = false) : Cal.mlen 2001 mo = Cal.mlen 2000 mo := by
  have h := beq_eq_false_iff_ne.1 h
  unfold Cal.mlen
  simp [h]
end Rul
end Go.Proofs.YthefgagmjamdkaaGreatDoor
