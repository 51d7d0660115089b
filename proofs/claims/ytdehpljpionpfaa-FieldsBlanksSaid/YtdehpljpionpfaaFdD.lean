/-
  strings.Cut at one sign; fields.Lines; the waking call; FieldsBack: the walk.
-/
import Derived.Test.YtdehpljpionpfaaFdC
import Derived.IntWalk
import Derived.BigQuiet
import Derived.Deep.QuietTactic
namespace Go.Proofs.Ytdehpljpionpfaa
open Go.RowKit
namespace Fds
open Opn (sv TxtV Strs lst)
open Rws (RowB RowS)
theorem iby_ge (l : List UInt8) (c : UInt8) : -1 ≤ Lib.indexByte l c := by
  induction l with
  | nil => exact Int.le_refl _
  | cons a l ih =>
    rw [Lib.indexByte]
    repeat' split
    all_goals omega
theorem iby_lt : ∀ (l : List UInt8) (c : UInt8) (m : Nat), Lib.indexByte l c = m → m < l.length
  | [], _, m, h => by rw [Lib.indexByte] at h; omega
  | b :: l, c, m, h => by
    rw [Lib.indexByte] at h
    by_cases e : (b == c) = true
    · rw [e] at h; simp at h; simp; omega
    · rw [if_neg e] at h
      by_cases e1 : (Lib.indexByte l c == -1) = true
      · rw [if_pos e1] at h; omega
      · rw [if_neg e1] at h
        have := iby_ge l c
        have e2 : Lib.indexByte l c ≠ -1 := fun x => e1 (beq_iff_eq.2 x)
        have := iby_lt l c (m - 1) (by omega)
        simp; omega
theorem dt0 (s : ByteArray) (b : Nat) : (s.extract 0 b).data.toList = s.data.toList.take b := by rw [Lib.extract_data]; simp
set_option maxHeartbeats 1600000 in
set_option maxRecDepth 100000 in
theorem lcut_some (s : ByteArray) (S : List UInt8) (c : UInt8) (m : Nat) (w : World) (hs : s.size ≤ 1000000) (hS : Hid (s.data.toList = S)) (h : Hid (Lib.indexByte S c = m)) :
    Calls Try.prog 28 #[.string s, .string ⟨#[c]⟩] w fun e w' => ∃ a b : ByteArray, e = .returned (.tuple #[.string a, .string b, .bool true]) ∧ Hid (a.data.toList = S.take m ∧ b.data.toList = S.drop (m + 1)) ∧ Below w.heap.size w w' := by
  have hl : S.length = s.size := by rw [← hS.out]; simp
  have hm := iby_lt S c m h.out
  have hi := fun W => (Try.stringslite_Index_one s c W)
  rw [hS.out, h.out] at hi
  have HI := Lib.hid hi
  have HA : Hid ((s.extract 0 m).data.toList = S.take m ∧ (s.extract (m + 1) s.size).data.toList = S.drop (m + 1)) := Lib.hid ⟨by rw [dt0, hS.out], by rw [dtE, hS.out]⟩
  have hms : m + 1 ≤ s.size := by omega
  clear hi hl hm
  go_enter Try.func28, Try.ntmps28
  go_wp2_with fail
  refine (HI.out _).mono ?_
  rintro e w1 ⟨rfl, hw⟩
  subst hw
  go_wp2_with fail
  have h1 : IntKind.i64.wrap ((m : Int) + 1) = (m : Int) + 1 := IntWalk.i64_in _ (by omega)
  have h2 : (0 : Int) ≤ (m : Int) + 1 := by omega
  have h3 : ((m : Int) + 1).toNat = m + 1 := by omega
  have h4 : (m : Int) + 1 ≤ (s.size : Int) := by omega
  have h5 : (m : Int) ≤ (s.size : Int) := by omega
  have h6 : (⟨#[c]⟩ : ByteArray).size = 1 := rfl
  go_quiet (fail)
  clear h1 h2 h3 h4 h5
  go_wp2
  refine bodyPost_ret (v := .tuple #[.string (s.extract 0 m), .string (s.extract (m + 1) s.size), .bool true]) (by simp [results, Try.results28, go_sem]) rfl ⟨_, _, rfl, HA, below_drewN (Below.refl _ _) _⟩
set_option maxHeartbeats 1600000 in
set_option maxRecDepth 100000 in
theorem lcut_none (s : ByteArray) (S : List UInt8) (c : UInt8) (w : World) (hS : Hid (s.data.toList = S)) (h : Hid (Lib.indexByte S c = -1)) :
    Calls Try.prog 28 #[.string s, .string ⟨#[c]⟩] w fun e w' => e = .returned (.tuple #[.string s, .string ⟨#[]⟩, .bool false]) ∧ w = w' := by
  have hi := fun W => (Try.stringslite_Index_one s c W)
  rw [hS.out, h.out] at hi
  have HI := Lib.hid hi
  clear hi
  go_enter Try.func28, Try.ntmps28
  go_wp2_with fail
  refine (HI.out _).mono ?_
  rintro e w1 ⟨rfl, hw⟩
  subst hw
  go_wp2
  refine bodyPost_ret (v := .tuple #[.string s, .string ⟨#[]⟩, .bool false]) (by simp [results, Try.results28, go_sem]) rfl ⟨rfl, rfl⟩
set_option maxHeartbeats 1600000 in
set_option maxRecDepth 100000 in
theorem cut_some (s : ByteArray) (S : List UInt8) (c : UInt8) (m : Nat) (w : World) (hs : s.size ≤ 1000000) (hS : Hid (s.data.toList = S)) (h : Hid (Lib.indexByte S c = m)) :
    Calls Try.prog 21 #[.string s, .string ⟨#[c]⟩] w fun e w' => ∃ a b : ByteArray, e = .returned (.tuple #[.string a, .string b, .bool true]) ∧ Hid (a.data.toList = S.take m ∧ b.data.toList = S.drop (m + 1)) ∧ Below w.heap.size w w' := by
  go_enter Try.func21, Try.ntmps21
  go_wp2_with fail
  refine (lcut_some s S c m _ hs hS h).mono ?_
  rintro e w1 ⟨a, b, rfl, hab, hb⟩
  go_wp2
  refine bodyPost_ret (v := .tuple #[.string a, .string b, .bool true]) (by simp [results, Try.results21, go_sem]) rfl ⟨_, _, rfl, hab, hb⟩
set_option maxHeartbeats 1600000 in
set_option maxRecDepth 100000 in
theorem cut_none (s : ByteArray) (S : List UInt8) (c : UInt8) (w : World) (hS : Hid (s.data.toList = S)) (h : Hid (Lib.indexByte S c = -1)) :
    Calls Try.prog 21 #[.string s, .string ⟨#[c]⟩] w fun e w' => e = .returned (.tuple #[.string s, .string ⟨#[]⟩, .bool false]) ∧ w = w' := by
  go_enter Try.func21, Try.ntmps21
  go_wp2_with fail
  refine (lcut_none s S c _ hS h).mono ?_
  rintro e w1 ⟨rfl, hw⟩
  subst hw
  go_wp2
  refine bodyPost_ret (v := .tuple #[.string s, .string ⟨#[]⟩, .bool false]) (by simp [results, Try.results21, go_sem]) rfl ⟨rfl, rfl⟩
/-- The lines of a text; the first one has begun. -/
def lnG : List UInt8 → List UInt8 → List (List UInt8)
  | cur, [] => if cur.length = 0 then [] else [cur]
  | cur, c :: T => if c = 10 then cur :: lnG [] T else lnG (cur ++ [c]) T
def linesS (S : List UInt8) : List (List UInt8) := lnG [] S
theorem ln_some : ∀ (T cur : List UInt8) (m : Nat), Lib.indexByte T 10 = m → lnG cur T = (cur ++ T.take m) :: lnG [] (T.drop (m + 1))
  | [], _, m, h => by rw [Lib.indexByte] at h; omega
  | c :: T, cur, m, h => by
    rw [Lib.indexByte] at h
    by_cases hc : c = 10
    · subst hc
      simp at h
      have : m = 0 := by omega
      subst this
      rw [lnG, if_pos rfl]; simp
    · have e : (c == 10) = false := beq_eq_false_iff_ne.2 hc
      rw [e] at h
      by_cases h1 : Lib.indexByte T 10 = -1
      · have e1 : (Lib.indexByte T 10 == -1) = true := beq_iff_eq.2 h1
        rw [e1] at h
        simp at h
      · have e1 : (Lib.indexByte T 10 == -1) = false := beq_eq_false_iff_ne.2 h1
        rw [e1] at h
        simp at h
        match m, h with
        | 0, h => exact absurd (show Lib.indexByte T 10 = -1 by omega) h1
        | m + 1, h =>
          rw [lnG, if_neg hc, ln_some T (cur ++ [c]) m (by omega)]
          simp
theorem ln_none : ∀ (T cur : List UInt8), Lib.indexByte T 10 = -1 → lnG cur T = if (cur ++ T).length = 0 then [] else [cur ++ T]
  | [], cur, _ => by rw [lnG, List.append_nil]
  | c :: T, cur, h => by
    rw [Lib.indexByte] at h
    by_cases hc : c = 10
    · subst hc; simp at h
    · have e : (c == 10) = false := beq_eq_false_iff_ne.2 hc
      rw [e] at h
      by_cases h1 : Lib.indexByte T 10 = -1
      · rw [lnG, if_neg hc, ln_none T _ h1]
        simp
      · have e1 : (Lib.indexByte T 10 == -1) = false := beq_eq_false_iff_ne.2 h1
        rw [e1] at h
        simp at h
        have := iby_ge T 10
        omega
def szOf : Value → Nat
  | .string s => s.size
  | _ => 0
set_option maxHeartbeats 6400000 in
set_option maxRecDepth 100000 in
theorem lines_to (s : ByteArray) (S : List UInt8) (w : World) (hs : s.size ≤ 60000) (hS : Hid (s.data.toList = S)) :
    Calls Try.prog 15 #[.string s] w fun e w' => ∃ v, e = .returned (.tuple #[v, .int .i64 0]) ∧ TxtV w' v (linesS S) ∧ Below w.heap.size w w' := by
  go_enter Try.func15, Try.ntmps15
  go_wp2
  go_loopw [0, 4] (fun tv lv wr => ∃ (t : ByteArray) (M : List (List UInt8)), tv = .string t ∧ M.length + t.size ≤ s.size ∧ Hid (linesS S = M ++ linesS t.data.toList) ∧ RowS w.heap.size wr lv M ∧ Below w.heap.size w wr) (fun tv _ _ => szOf tv)
  case atStart => exact ⟨s, [], rfl, by simp, Lib.hid (by rw [hS.out]; rfl), RowS.nil _ _, Below.refl _ _⟩
  case round =>
    obtain ⟨t, M, rfl, hz, hl, hM, hb⟩ := hrel
    have htl : t.data.toList.length = t.size := by simp
    by_cases h0 : t.size = 0
    · have he : t.toList.isEmpty = true := by
        rw [Lib.toList_data, List.length_eq_zero_iff.1 (by omega : t.data.toList.length = 0)]; rfl
      have HL : Hid (linesS S = M) := Lib.hid (by
        rw [hl.out, List.length_eq_zero_iff.1 (by omega : t.data.toList.length = 0)]
        show M ++ [] = M
        simp)
      have hT := hM.txt
      rw [← HL.out] at hT
      clear hl hM htl
      go_wp2
      go_ret2
      exact ⟨_, rfl, hT, hb⟩
    · have he : t.toList.isEmpty = false := by
        rw [Lib.toList_data]
        cases hh : t.data.toList with
        | nil => rw [hh] at htl; simp at htl; omega
        | cons _ _ => rfl
      obtain ⟨T, hT⟩ : ∃ T, t.data.toList = T := ⟨_, rfl⟩
      have HT := Lib.hid hT
      rw [hT] at hl htl
      have hg := iby_ge T 10
      by_cases hn : Lib.indexByte T 10 = -1
      · have HN := Lib.hid hn
        have HL : Hid (linesS S = (M ++ [T]) ++ linesS []) := Lib.hid (by
          rw [hl.out, linesS, ln_none T [] hn, List.nil_append, if_neg (by omega)]
          rw [List.append_assoc]; rfl)
        have HML : Hid ((M ++ [T]).length + 0 ≤ s.size) := Lib.hid (by rw [List.length_append]; simp; omega)
        have HTB : Hid (t = ⟨T.toArray⟩) := Lib.hid (Rws.ba_eq hT)
        clear hn hl hT htl hg
        go_wp2_with fail
        refine (cut_none t T 10 _ HT HN).mono ?_
        rintro e w1 ⟨rfl, hw⟩
        subst hw
        go_wp2_with (at_builtin; refine Rws.appS rfl _ _ rfl w.heap.size _ M rfl hM T _ HTB.out rfl (by omega) hb.size ?_)
        intro w5 gg gcap r5 g5
        have hb5 := g5.below _ _ (Nat.le_refl _) hb hb.size
        clear g5 hM hb
        go_wp2
        go_roundw
        case rel => exact ⟨_, M ++ [T], rfl, HML.out, HL, r5, hb5⟩
        case measure => simp only [szOf]; show 0 < _; omega
      · obtain ⟨m, hm⟩ : ∃ m : Nat, Lib.indexByte T 10 = m := ⟨(Lib.indexByte T 10).toNat, by omega⟩
        have hmT := iby_lt T 10 m hm
        have HM := Lib.hid hm
        have HL : Hid (linesS S = (M ++ [T.take m]) ++ linesS (T.drop (m + 1))) := Lib.hid (by
          rw [hl.out, linesS, ln_some T [] m hm, List.nil_append, List.append_assoc]; rfl)
        clear hm hn hl hT hg
        go_wp2_with fail
        refine (cut_some t T 10 m _ (by omega) HT HM).mono ?_
        rintro e w1 ⟨a, b, rfl, hab, d1⟩
        have hM := hM.below d1
        have hb := hb.trans (d1.mono hb.size)
        clear d1
        have HA : Hid (a = ⟨(T.take m).toArray⟩) := Lib.hid (Rws.ba_eq hab.out.1)
        have HB := hab.out.2
        have hbz : b.size = t.size - (m + 1) := by rw [Lib.size_eq, HB, List.length_drop, htl]
        have HBB := Lib.hid HB
        have HBZ := Lib.hid hbz
        have HML : Hid ((M ++ [T.take m]).length + b.size ≤ s.size) := Lib.hid (by rw [List.length_append, hbz]; simp; omega)
        have hms : m < t.size := by omega
        clear hab HB hbz htl hmT
        go_wp2_with (at_builtin; refine Rws.appS rfl _ _ rfl w.heap.size _ M rfl hM (T.take m) _ HA.out rfl (by omega) hb.size ?_)
        intro w5 gg gcap r5 g5
        have hb5 := g5.below _ _ (Nat.le_refl _) hb hb.size
        clear g5 hM hb
        go_wp2
        go_roundw
        case rel => exact ⟨b, M ++ [T.take m], rfl, HML.out, by rw [HBB.out]; exact HL, r5, hb5⟩
        case measure => simp only [szOf]; rw [HBZ.out]; omega
theorem txt_lit2 (w : World) (x y : ByteArray) (X Y : List UInt8) (hx : x = ⟨X.toArray⟩) (hy : y = ⟨Y.toArray⟩) : TxtV (w.alloc (.cells #[.string x, .string y] 9)) (.slice (some ⟨w.heap.size, 0, none⟩) 2 2) [X, Y] := by
  subst hx hy
  refine ⟨_, _, _, rfl, rfl, fun j hj => ⟨_, 0, rfl, by simp, ?_⟩⟩
  match j, hj with
  | 0, _ => rw [World.cell?_alloc_new]; rfl
  | 1, _ => rw [World.cell?_alloc_new]; rfl
theorem txt_lit3 (w : World) (x y z : ByteArray) (X Y Z : List UInt8) (hx : x = ⟨X.toArray⟩) (hy : y = ⟨Y.toArray⟩) (hz : z = ⟨Z.toArray⟩) : TxtV (w.alloc (.cells #[.string x, .string y, .string z] 9)) (.slice (some ⟨w.heap.size, 0, none⟩) 3 3) [X, Y, Z] := by
  subst hx hy hz
  refine ⟨_, _, _, rfl, rfl, fun j hj => ⟨_, 0, rfl, by simp, ?_⟩⟩
  match j, hj with
  | 0, _ => rw [World.cell?_alloc_new]; rfl
  | 1, _ => rw [World.cell?_alloc_new]; rfl
  | 2, _ => rw [World.cell?_alloc_new]; rfl
theorem wk_1 : splitR [97, 32, 34, 98, 32, 99, 34, 100, 32, 35, 32, 101] = ([[97], [98, 32, 99, 100]], 0) := by decide +kernel
theorem wk_2 : linesS [120, 10, 10, 121] = [[120], [], [121]] := by decide +kernel
theorem wk_3 : joinR [[97], [], [98, 32, 99]] = ([97, 32, 34, 34, 32, 34, 98, 32, 99, 34], 0) := by decide +kernel
theorem wk_4 : splitR [97, 32, 34, 98] = ([], 6) := by decide +kernel
set_option maxHeartbeats 6400000 in
set_option maxRecDepth 100000 in
theorem wakes05_any (w : World) :
    Calls Try.prog 7 #[] w fun e w' => e = .returned (.bool true) ∧ Below w.heap.size w w' := by
  go_enter Try.func7, Try.ntmps7
  go_wp2_with fail
  refine (spl_to _ [97, 32, 34, 98, 32, 99, 34, 100, 32, 35, 32, 101] _ _ _ (by decide) (Lib.hid rfl) (Lib.hid wk_1)).mono ?_
  rintro e w1 ⟨v1, rfl, t1, b1⟩
  have T1 := Lib.hid t1
  clear t1
  go_wp2_with fail
  refine (lines_to _ [120, 10, 10, 121] _ (by decide) (Lib.hid rfl)).mono ?_
  rintro e w2 ⟨v2, rfl, t2, d2⟩
  rw [wk_2] at t2
  have b2 := b1.trans (d2.mono b1.size)
  have T12 := Lib.hid (T1.out.below d2)
  have T2 := Lib.hid t2
  clear t2 d2 b1 T1
  go_wp2_with fail
  refine (join_to _ [[97], [], [98, 32, 99]] _ _ _ (txt_lit3 w2 _ _ _ [97] [] [98, 32, 99] rfl rfl rfl) (by decide) (by decide) (Lib.hid wk_3)).mono ?_
  rintro e w3 ⟨rfl, d3⟩
  have d3' := ((Below.refl w2.heap.size w2).alloc (Nat.le_refl _) (Obj.cells #[Value.string ⟨#[97]⟩, Value.string ⟨#[]⟩, Value.string ⟨#[98, 32, 99]⟩] 9)).trans (d3.mono (by simp))
  have b3 := b2.trans (d3'.mono b2.size)
  have T13 := Lib.hid (T12.out.below d3')
  have T23 := Lib.hid (T2.out.below d3')
  clear d3 d3' b2 T12 T2
  go_wp2_with fail
  refine (spl_to _ [97, 32, 34, 98] _ _ _ (by decide) (Lib.hid rfl) (Lib.hid wk_4)).mono ?_
  rintro e w4 ⟨v4, rfl, _, d4⟩
  have b4 := b3.trans (d4.mono b3.size)
  have T14 := Lib.hid (T13.out.below d4)
  have T24 := Lib.hid (T23.out.below d4)
  clear d4 b3 T13 T23
  go_wp2_with fail
  refine (Opn.texts_any v1 _ [[97], [98, 32, 99, 100]] [[97], [98, 32, 99, 100]] _ (T14.out.below ((Below.refl _ _).alloc (Nat.le_refl _) _)) (txt_lit2 w4 _ _ [97] [98, 32, 99, 100] rfl rfl) (by decide) (by decide)).mono ?_
  rintro e w5 ⟨bb, rfl, hbb, m5, rfl⟩
  obtain rfl : bb = true := by rw [hbb.out]; exact decide_eq_true rfl
  have b5 := below_drewN (b4.alloc b4.size (Obj.cells #[Value.string ⟨#[97]⟩, Value.string ⟨#[98, 32, 99, 100]⟩] 9)) m5
  have T25 := Lib.hid (T24.out.below (below_drewN ((Below.refl _ _).alloc (Nat.le_refl _) (Obj.cells #[Value.string ⟨#[97]⟩, Value.string ⟨#[98, 32, 99, 100]⟩] 9)) m5))
  clear hbb T14 T24 b4
  obtain ⟨W5, hW5⟩ : ∃ x, (w4.alloc (Obj.cells #[Value.string ⟨#[97]⟩, Value.string ⟨#[98, 32, 99, 100]⟩] 9)).drewN m5 = x := ⟨_, rfl⟩
  rw [hW5] at b5 T25 ⊢
  clear hW5
  go_wp2_with fail
  refine (Opn.texts_any v2 _ [[120], [], [121]] [[120], [], [121]] _ (T25.out.below ((Below.refl _ _).alloc (Nat.le_refl _) _)) (txt_lit3 W5 _ _ _ [120] [] [121] rfl rfl rfl) (by decide) (by decide)).mono ?_
  rintro e w6 ⟨bb, rfl, hbb, m6, rfl⟩
  obtain rfl : bb = true := by rw [hbb.out]; exact decide_eq_true rfl
  clear hbb T25
  go_wp2
  go_ret
  exact ⟨rfl, below_drewN (b5.alloc b5.size _) m6⟩
set_option maxHeartbeats 6400000 in
set_option maxRecDepth 100000 in
theorem fdback_any (A : Option Addr) (n c : Nat) (ls : Nat → ByteArray) (w : World) (hn : n ≤ maxLen) (hl : Strs A n ls w) :
    Calls Try.prog 3 #[.slice A n c] w fun e w' => e = .returned (.bool true) ∧ Below w.heap.size w w' := by
  have HLS := Lib.hid hl
  have HN := Lib.hid hn
  clear hl hn
  obtain ⟨R, rc, hR⟩ : ∃ R rc, joinR (lst ls n) = (R, rc) := ⟨_, _, rfl⟩
  have hcs : (rc = 0 ∧ splitR R = (lst ls n, 0) ∧ R.length ≤ 600) ∨ (((rc == 0) = false) ∧ R = []) := by
    unfold joinR at hR
    cases hb : (lst ls n).any bad3 with
    | true =>
      rw [hb, if_pos rfl] at hR
      injection hR with a b
      exact Or.inr ⟨by rw [← b]; rfl, a.symm⟩
    | false =>
      rw [hb, if_neg (by decide)] at hR
      by_cases h6 : 600 < (joinF (lst ls n)).length
      · rw [if_pos h6] at hR
        injection hR with a b
        exact Or.inr ⟨by rw [← b]; rfl, a.symm⟩
      · rw [if_neg h6] at hR
        injection hR with a b
        refine Or.inl ⟨b.symm, ?_, by rw [← a]; omega⟩
        rw [← a]
        refine split_join (fun f hf => ?_) (by omega)
        have := List.any_eq_false.1 hb f hf
        simpa using this
  have HR := Lib.hid hR
  clear hR
  go_enter Try.func3, Try.ntmps3
  go_wp2_with fail
  refine (Opn.heavy_to A n c ls _ HN.out HLS.out).mono ?_
  rintro e w1 ⟨hv, rfl, hh, b1⟩
  cases hv with
  | true =>
    go_wp2
    go_ret
    exact ⟨rfl, b1⟩
  | false =>
    obtain ⟨n60, n800⟩ := hh.out rfl
    have N8 : Hid (∀ t ∈ lst ls n, t.length ≤ 800) := Lib.hid (fun t ht => by
      obtain ⟨j, hj, rfl⟩ := List.mem_map.1 ht
      have := n800 j (List.mem_range.1 hj)
      simpa using this)
    have LA := Lib.hid (HLS.out.below b1)
    clear n800 hh
    go_wp2_with fail
    refine (join_to _ (lst ls n) R rc _ (TxtV.of_strs LA.out) (by rw [Opn.lst_len]; exact n60) N8.out HR).mono ?_
    rintro e w2 ⟨rfl, d2⟩
    have b2 := b1.trans (d2.mono b1.size)
    have LB := Lib.hid (LA.out.below d2)
    clear d2 b1 LA
    rcases hcs with ⟨rfl, hsp, hR6⟩ | ⟨hne, rfl⟩
    · have HSP := Lib.hid hsp
      have hRz : (⟨R.toArray⟩ : ByteArray).size = R.length := rfl
      clear hsp
      go_wp2_with fail
      refine (spl_to ⟨R.toArray⟩ R (lst ls n) 0 _ (by omega) (Lib.hid rfl) HSP).mono ?_
      rintro e w3 ⟨v, rfl, t3, d3⟩
      have b3 := b2.trans (d3.mono b2.size)
      have LC := Lib.hid (LB.out.below d3)
      have T3 := Lib.hid t3
      clear d3 b2 LB t3
      go_wp2_with fail
      refine (Opn.texts_any v _ (lst ls n) (lst ls n) _ T3.out (TxtV.of_strs LC.out) (by rw [Opn.lst_len]; omega) (by rw [Opn.lst_len]; omega)).mono ?_
      rintro e w4 ⟨bb, rfl, hbb, m, rfl⟩
      obtain rfl : bb = true := by rw [hbb.out]; exact decide_eq_true rfl
      have b4 := below_drewN b3 m
      clear hbb T3 LC
      go_wp2_with fail
      refine (wakes05_any _).mono ?_
      rintro e w5 ⟨rfl, b5⟩
      go_wp2
      go_ret
      exact ⟨rfl, b4.trans (b5.mono b4.size)⟩
    · have hne2 : (rc != 0) = true := by rw [bne, hne]; rfl
      go_wp2_with fail
      refine (wakes05_any _).mono ?_
      rintro e w5 ⟨rfl, b5⟩
      go_wp2
      go_ret
      exact ⟨rfl, b2.trans (b5.mono b2.size)⟩
end Fds
end Go.Proofs.Ytdehpljpionpfaa
