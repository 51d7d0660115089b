/-
  Several texts in one (RulM, RulA, RulB).
-/
import Derived.Test.YthefgagmjamdkaaGreatDoorBdE
import Derived.Test.YthefgagmjamdkaaGreatDoorBdF
import Derived.Test.YthefgagmjamdkaaGreatDoorBdG
import Derived.Test.YthefgagmjamdkaaGreatDoorBdH
import Derived.Test.YthefgagmjamdkaaGreatDoorBdD
import Derived.Lib.Join
import Derived.Test.YthefgagmjamdkaaGreatDoorBdCl
import Derived.Lib.QuietBelow
/-
  Packages rule and zone, plain words: what their fields say, their texts, and that one is the other's.
-/
namespace Go.Proofs.YthefgagmjamdkaaGreatDoor
open Go.RowKit
namespace Rul
open Sol Clk
/-! ### Names, years, savings -/
def hdBad : List UInt8 → Bool
  | [] => true
  | c :: _ => isDig c || (c == 43 || c == 45)
def nameB (S : List UInt8) : Bool := decide (1 ≤ S.length ∧ S.length ≤ 40) && (!hdBad S && Fm.onlyB S [95, 43, 45, 47])
def fromP (S : List UInt8) : Int × Int := if parseB S = true then (parseV S, 0) else if Wrd.wdP 4 S = (1, 0) then (1, 0) else if Wrd.wdP 4 S = (2, 0) then (9999, 0) else (0, 5)
def toP (S : List UInt8) (f : Int) : Int × Int := if Wrd.wdP 4 S = (3, 0) then (f, 0) else fromP S
def svL (S : List UInt8) : List UInt8 := match S.getLast? with | some c => if c = 115 ∨ c = 100 then S.dropLast else S | none => S
theorem sv_snoc (x : List UInt8) (d : UInt8) : svL (x ++ [d]) = if d = 115 ∨ d = 100 then x else x ++ [d] := by simp [svL]
/-! ### Rules -/
structure RV where
  nm : List UInt8
  fr : Int
  tu : Int
  mo : Int
  k : Int
  v : Int
  d : Int
  n : Int
  c : Int
  sv : Int
  lt : List UInt8
def RV.zero : RV := ⟨[], 0, 0, 0, 0, 0, 0, 0, 0, 0, []⟩
def RV.val (r : RV) : Value := .agg #[.string ⟨r.nm.toArray⟩, .int .i64 r.fr, .int .i64 r.tu, .int .i64 r.mo, .int .i64 r.k, .int .i64 r.v, .int .i64 r.d, .int .i64 r.n, .int .i64 r.c, .int .i64 r.sv, .string ⟨r.lt.toArray⟩]
def fitB (fr tu mo k d : Int) : Bool := decide (k = 2) || decide (d ≤ Cal.mlen (if k = 1 ∧ fr < tu then 2001 else 2000) mo)
def chkB (r : RV) : Bool :=
  nameB r.nm && (Fm.letB r.lt && (decide (1 ≤ r.fr) && (decide (r.fr ≤ r.tu) && (decide (r.tu ≤ 9999) && (decide (1 ≤ r.mo) && (decide (r.mo ≤ 12) && (Wk.onOk r.k r.v r.d && (fitB r.fr r.tu r.mo r.k r.d && (Atf.atOk r.n r.c && (decide (-86400 < r.sv) && decide (r.sv < 86400)))))))))))
/-- What a line's fields say, right or not. -/
def ruX : List (List UInt8) → Int × RV
  | [f0, f1, f2, f3, f4, f5, f6, f7, f8, f9] =>
    if Wrd.wdP 1 f0 ≠ (1, 0) then (7, RV.zero) else if f4 ≠ [45] then (10, RV.zero)
    else if (fromP f2).2 ≠ 0 then ((fromP f2).2, RV.zero)
    else if (toP f3 (fromP f2).1).2 ≠ 0 then ((toP f3 (fromP f2).1).2, RV.zero)
    else if (Wrd.wdP 2 f5).2 ≠ 0 then ((Wrd.wdP 2 f5).2, RV.zero)
    else if (Onf.onP f6).2.2.2 ≠ 0 then ((Onf.onP f6).2.2.2, RV.zero)
    else if Atf.apE f7 ≠ 0 then (Atf.apE f7, RV.zero)
    else if clE (svL f8) ≠ 0 then (clE (svL f8), RV.zero)
    else (0, ⟨f1, (fromP f2).1, (toP f3 (fromP f2).1).1, (Wrd.wdP 2 f5).1, (Onf.onP f6).1, (Onf.onP f6).2.1, (Onf.onP f6).2.2.1, Atf.apV f7, Atf.apKk f7, clV (svL f8), if f9 = [45] then [] else f9⟩)
  | _ => (6, RV.zero)
def ruP (L : List (List UInt8)) : Int × RV := if (ruX L).1 ≠ 0 then ((ruX L).1, RV.zero) else if chkB (ruX L).2 = true then (0, (ruX L).2) else (10, RV.zero)
def toT (fr tu : Int) : List UInt8 := if tu = fr then [111, 110, 108, 121] else if tu = 9999 then [109, 97, 120] else textL tu 0
def moT (mo : Int) : List UInt8 := (Wrd.nmT 2 mo).take 3
/-- A rule's fields as they are written. -/
def ruF (r : RV) : List (List UInt8) := [[82, 117, 108, 101], r.nm, textL r.fr 0, toT r.fr r.tu, [45], moT r.mo, Onf.onT r.k r.v r.d, Atf.atT r.n r.c, ctS r.sv, if r.lt = [] then [45] else r.lt]
def spJ (L : List (List UInt8)) : List UInt8 := Lib.join L [32]
def ruT (r : RV) : List UInt8 := if chkB r = true then spJ (ruF r) else []
def ruE (r : RV) : Int := if chkB r = true then 0 else 10
/-! ### Eras -/
structure EV where
  st : Int
  kd : Int
  sv : Int
  ru : List UInt8
  fm : List UInt8
  un : Bool
  yr : Int
  mo : Int
  k : Int
  v : Int
  d : Int
  n : Int
  c : Int
def EV.zero : EV := ⟨0, 0, 0, [], [], false, 0, 0, 0, 0, 0, 0, 0⟩
def EV.val (e : EV) : Value := .agg #[.int .i64 e.st, .int .i64 e.kd, .int .i64 e.sv, .string ⟨e.ru.toArray⟩, .string ⟨e.fm.toArray⟩, .bool e.un, .int .i64 e.yr, .int .i64 e.mo, .int .i64 e.k, .int .i64 e.v, .int .i64 e.d, .int .i64 e.n, .int .i64 e.c]
def bday (n : Int) : Bool := decide (-86400 < n) && decide (n < 86400)
def svB (kd sv : Int) (ru : List UInt8) : Bool := if kd = 1 then decide (sv = 0) && decide (ru = []) else if kd = 2 then bday sv && decide (ru = []) else if kd = 3 then decide (sv = 0) && nameB ru else false
def unB (un : Bool) (yr mo k v d n c : Int) : Bool := if un = false then decide (yr = 0 ∧ mo = 0 ∧ k = 0 ∧ v = 0 ∧ d = 0 ∧ n = 0 ∧ c = 0) else decide (Wk.resE yr mo k v d = 0) && Atf.atOk n c
def rgB (e : EV) : Bool := bday e.st && (svB e.kd e.sv e.ru && (Fm.fmtB e.fm && unB e.un e.yr e.mo e.k e.v e.d e.n e.c))
def svP (S : List UInt8) : Int × Int × List UInt8 := if S = [45] then (1, 0, []) else if clB S = true then (2, clV S, []) else (3, 0, S)
/-- The end's month, day, time, and why none. -/
def unX : List (List UInt8) → Int × (Int × (Int × Int × Int) × (Int × Int))
  | [] => (0, (1, (1, 0, 1), (0, 1)))
  | [f4] => ((Wrd.wdP 2 f4).2, ((Wrd.wdP 2 f4).1, (1, 0, 1), (0, 1)))
  | [f4, f5] => if (Wrd.wdP 2 f4).2 ≠ 0 then ((Wrd.wdP 2 f4).2, (0, (0, 0, 0), (0, 0))) else ((Onf.onP f5).2.2.2, ((Wrd.wdP 2 f4).1, ((Onf.onP f5).1, (Onf.onP f5).2.1, (Onf.onP f5).2.2.1), (0, 1)))
  | f4 :: f5 :: f6 :: _ => if (Wrd.wdP 2 f4).2 ≠ 0 then ((Wrd.wdP 2 f4).2, (0, (0, 0, 0), (0, 0))) else if (Onf.onP f5).2.2.2 ≠ 0 then ((Onf.onP f5).2.2.2, (0, (0, 0, 0), (0, 0))) else (Atf.apE f6, ((Wrd.wdP 2 f4).1, ((Onf.onP f5).1, (Onf.onP f5).2.1, (Onf.onP f5).2.2.1), (Atf.apV f6, Atf.apKk f6)))
def erX : List (List UInt8) → Int × EV
  | f0 :: f1 :: f2 :: R =>
    if 4 < R.length then (6, EV.zero) else if clE f0 ≠ 0 then (clE f0, EV.zero)
    else match R with
      | [] => (0, ⟨clV f0, (svP f1).1, (svP f1).2.1, (svP f1).2.2, f2, false, 0, 0, 0, 0, 0, 0, 0⟩)
      | f3 :: Q => if parseB f3 = false then (5, EV.zero) else if (unX Q).1 ≠ 0 then ((unX Q).1, EV.zero)
        else (0, ⟨clV f0, (svP f1).1, (svP f1).2.1, (svP f1).2.2, f2, true, parseV f3, (unX Q).2.1, (unX Q).2.2.1.1, (unX Q).2.2.1.2.1, (unX Q).2.2.1.2.2, (unX Q).2.2.2.1, (unX Q).2.2.2.2⟩)
  | _ => (6, EV.zero)
def erP (L : List (List UInt8)) : Int × EV := if (erX L).1 ≠ 0 then ((erX L).1, EV.zero) else if rgB (erX L).2 = true then (0, (erX L).2) else (11, EV.zero)
def svT (kd sv : Int) (ru : List UInt8) : List UInt8 := if kd = 2 then ctS sv else if kd = 3 then ru else [45]
def unF (un : Bool) (yr mo k v d n c : Int) : List (List UInt8) := if un = true then [textL yr 0, moT mo, Onf.onT k v d, Atf.atT n c] else []
def erF (e : EV) : List (List UInt8) := [ctS e.st, svT e.kd e.sv e.ru, e.fm] ++ unF e.un e.yr e.mo e.k e.v e.d e.n e.c
def erT (e : EV) : List UInt8 := if rgB e = true then spJ (erF e) else []
def erE (e : EV) : Int := if rgB e = true then 0 else 11
/-! ### Signs that part no fields -/
def plainC (c : UInt8) : Bool := !(c == 34 || (c == 35 || (c == 32 || (c == 9 || (c == 13 || (c == 0 || c == 10))))))
def plainF (S : List UInt8) : Bool := decide (1 ≤ S.length) && S.all plainC
theorem byte_tab (p : UInt8 → Bool) (h : ((List.range 256).all fun n => p (UInt8.ofNat n)) = true) (c : UInt8) : p c = true := by
  have := List.all_eq_true.1 h c.toNat (List.mem_range.2 c.toNat_lt)
  simpa using this
theorem pl_dig {c : UInt8} (h : isDig c = true) : plainC c = true := by
  have := byte_tab (fun c => !(isDig c) || plainC c) (by decide +kernel) c
  simp only [h] at this
  simpa using this
theorem pl_ok1 {c : UInt8} (h : Fm.okB [95, 43, 45, 47] c = true) : plainC c = true := by
  have := byte_tab (fun c => !(Fm.okB [95, 43, 45, 47] c) || plainC c) (by decide +kernel) c
  simp only [h] at this
  simpa using this
theorem pl_ok2 {c : UInt8} (h : Fm.okB [43, 45] c = true) : plainC c = true := by
  have := byte_tab (fun c => !(Fm.okB [43, 45] c) || plainC c) (by decide +kernel) c
  simp only [h] at this
  simpa using this
theorem pl_ok3 {c : UInt8} (h : Fm.okB [43, 45, 37, 47] c = true) : plainC c = true := by
  have := byte_tab (fun c => !(Fm.okB [43, 45, 37, 47] c) || plainC c) (by decide +kernel) c
  simp only [h] at this
  simpa using this
theorem all_of {p q : UInt8 → Bool} {S : List UInt8} (h : S.all p = true) (k : ∀ c, p c = true → q c = true) : S.all q = true :=
  List.all_eq_true.2 fun c hc => k c (List.all_eq_true.1 h c hc)
theorem plF {S : List UInt8} (h : 1 ≤ S.length) (k : S.all plainC = true) : plainF S = true := by rw [plainF, decide_eq_true h, k]; rfl
theorem pl_parts {c : UInt8} (h : plainC c = true) : c ≠ 34 ∧ c ≠ 35 ∧ Fds.isBl c = false ∧ c ≠ 0 ∧ c ≠ 10 := by
  have := byte_tab (fun c => !(plainC c) || decide (c ≠ 34 ∧ c ≠ 35 ∧ Fds.isBl c = false ∧ c ≠ 0 ∧ c ≠ 10)) (by decide +kernel) c
  simp only [h] at this
  simpa using this
theorem plF_parts {S : List UInt8} (h : plainF S = true) : 1 ≤ S.length ∧ ∀ c ∈ S, plainC c = true := by
  rw [plainF, Bool.and_eq_true] at h
  exact ⟨of_decide_eq_true h.1, List.all_eq_true.1 h.2⟩
/-! ### What is joined by spaces is split -/
theorem spJ_one (f : List UInt8) : spJ [f] = f := Lib.join_one f _
theorem spJ_cons (f g : List UInt8) (L : List (List UInt8)) : spJ (f :: g :: L) = f ++ 32 :: spJ (g :: L) := by
  rw [spJ, Lib.join_cons, spJ, Lib.join_cons]
  simp [Lib.joinTail]
theorem sp_f {f : List UInt8} (h : plainF f = true) (R : List UInt8) : Fds.spG 0 [] (f ++ R) = Fds.spG 1 f R := by
  obtain ⟨h1, h2⟩ := plF_parts h
  match f, h1, h2 with
  | c :: T, _, h2 =>
    obtain ⟨a, b, d, _, _⟩ := pl_parts (h2 c List.mem_cons_self)
    rw [List.cons_append, Fds.sp_begin _ b d, ← List.cons_append, Fds.sp_plain (c :: T) [] R (fun x hx => by
      obtain ⟨a, b, d, _, _⟩ := pl_parts (h2 x hx)
      exact ⟨a, b, d⟩), List.nil_append]
theorem sp_join : ∀ L : List (List UInt8), (∀ f ∈ L, plainF f = true) → Fds.spG 0 [] (spJ L) = some L
  | [], _ => by rw [spJ, Lib.join_nil, Fds.sp0_nil]
  | [f], h => by
    have := sp_f (h f List.mem_cons_self) []
    rw [List.append_nil] at this
    rw [spJ_one, this, Fds.sp1_nil]
  | f :: g :: L, h => by
    rw [spJ_cons, sp_f (h f List.mem_cons_self), Fds.sp_ends f (c := 32) _ (Or.inr rfl), Fds.sp_blank _ rfl, sp_join (g :: L) (fun x hx => h x (List.mem_cons_of_mem _ hx))]
    rfl
theorem spJ_mem : ∀ (L : List (List UInt8)), (∀ f ∈ L, plainF f = true) → ∀ c ∈ spJ L, c = 32 ∨ plainC c = true
  | [], _, c, hc => by rw [spJ, Lib.join_nil] at hc; cases hc
  | [f], h, c, hc => by
    rw [spJ_one] at hc
    exact Or.inr ((plF_parts (h f List.mem_cons_self)).2 c hc)
  | f :: g :: L, h, c, hc => by
    rw [spJ_cons, List.mem_append, List.mem_cons] at hc
    rcases hc with hc | hc | hc
    · exact Or.inr ((plF_parts (h f List.mem_cons_self)).2 c hc)
    · exact Or.inl hc
    · exact spJ_mem (g :: L) (fun x hx => h x (List.mem_cons_of_mem _ hx)) c hc
theorem bad0_join (L : List (List UInt8)) (h : ∀ f ∈ L, plainF f = true) : Fds.bad0 (spJ L) = false := by
  have key : ∀ n : UInt8, (n = 0 ∨ n = 10) → (spJ L).contains n = false := fun n hn => by
    cases hc : (spJ L).contains n with
    | false => rfl
    | true =>
      have hm : n ∈ spJ L := by simpa using hc
      rcases spJ_mem L h n hm with e | e
      · rcases hn with rfl | rfl <;> exact absurd e (by decide)
      · obtain ⟨_, _, _, a, b⟩ := pl_parts e
        rcases hn with rfl | rfl
        · exact absurd rfl a
        · exact absurd rfl b
  rw [Fds.bad0, key 0 (Or.inl rfl), key 10 (Or.inr rfl)]
  rfl
theorem split_join (L : List (List UInt8)) (h : ∀ f ∈ L, plainF f = true) (hl : (spJ L).length ≤ 600) : Fds.splitR (spJ L) = (L, 0) := by
  rw [Fds.splitR, if_neg (by omega), if_neg (by rw [bad0_join L h]; decide), sp_join L h]
theorem spJ_len : ∀ (L : List (List UInt8)), (spJ L).length ≤ (L.map fun f => f.length + 1).sum
  | [] => by rw [spJ, Lib.join_nil]; simp
  | [f] => by rw [spJ_one]; simp
  | f :: g :: L => by
    have := spJ_len (g :: L)
    rw [spJ_cons, List.length_append, List.length_cons, List.map_cons, List.sum_cons]
    omega
/-! ### Pieces: their signs, their lengths, and that they are read -/
theorem tl_dig (h d : Int) : (textL h d).all isDig = true := by
  rw [textL]
  split
  · rfl
  · exact padL_all _ _
theorem yr_txt {n : Int} (h0 : 0 ≤ n) (h1 : n ≤ 9999) : parseB (textL n 0) = true ∧ parseV (textL n 0) = n ∧ 1 ≤ (textL n 0).length ∧ (textL n 0).length ≤ 4 := by
  have e : textL n 0 = Lib.decDigits n.toNat := by
    rw [textL, if_neg (by omega), if_pos (by decide), show (0 : Int).toNat = 0 from rfl, padL, Nat.zero_sub]
    rfl
  have l1 := decDigits_pos n.toNat
  have l2 := decDigits_len (k := 3) (u := n.toNat) (by omega)
  have p : parseB (textL n 0) = true := parseB_yes (by rw [e]; exact l1) (by rw [e]; omega) (tl_dig n 0)
  refine ⟨p, ?_, by rw [e]; exact l1, by rw [e]; exact l2⟩
  rw [parseV_yes p, e, decDigits_val]
  omega
theorem fgo_head (c : UInt8) (T : List UInt8) (f m : Int) : ∀ (L : List (List UInt8)) (i fv : Int), (∀ x ∈ L, ∃ b B, Wrd.smL x = b :: B ∧ b ≠ c) → Wrd.fgo f m (c :: T) L i fv 0 = (0, 7)
  | [], i, fv, _ => by rw [Wrd.fgo, if_neg (by omega)]
  | x :: L, i, fv, h => by
    obtain ⟨b, B, e, hne⟩ := h x List.mem_cons_self
    have hp : (c :: T).isPrefixOf (Wrd.smL x) = false := by
      rw [e]
      have : (c == b) = false := beq_eq_false_iff_ne.2 (fun q => hne q.symm)
      simp [List.isPrefixOf, this]
    rw [Wrd.fgo, if_neg (by rw [e]; intro q; injection q with q _; exact hne q), if_neg (by rw [hp]; decide)]
    exact fgo_head c T f m L (i + 1) fv (fun y hy => h y (List.mem_cons_of_mem _ hy))
theorem wd4_dig {S : List UInt8} (h : 1 ≤ S.length) (hd : S.all isDig = true) : Wrd.wdP 4 S = (0, 7) := by
  match S, h, hd with
  | c :: T, _, hd =>
    have hc : isDig c = true := List.all_eq_true.1 hd c List.mem_cons_self
    have k := byte_tab (fun c => !(isDig c) || decide (Wrd.smB c ≠ 109 ∧ Wrd.smB c ≠ 111)) (by decide +kernel) c
    simp only [hc] at k
    have k : Wrd.smB c ≠ 109 ∧ Wrd.smB c ≠ 111 := by simpa using k
    show Wrd.fgo _ _ (Wrd.smB c :: Wrd.smL T) (Wrd.wds 4) 0 0 0 = (0, 7)
    refine fgo_head _ _ _ _ _ _ _ ?_
    intro x hx
    have hx : x ∈ Wrd.wds4 := hx
    simp only [Wrd.wds4, List.mem_cons, List.mem_nil_iff, or_false] at hx
    rcases hx with rfl | rfl | rfl
    · exact ⟨109, _, rfl, fun e => k.1 e.symm⟩
    · exact ⟨109, _, rfl, fun e => k.1 e.symm⟩
    · exact ⟨111, _, rfl, fun e => k.2 e.symm⟩
theorem from_txt {n : Int} (h0 : 0 ≤ n) (h1 : n ≤ 9999) : fromP (textL n 0) = (n, 0) := by
  obtain ⟨a, b, _, _⟩ := yr_txt h0 h1
  rw [fromP, if_pos a, b]
theorem to_txt {fr tu : Int} (h0 : 1 ≤ tu) (h1 : tu ≤ 9999) : toP (toT fr tu) fr = (tu, 0) := by
  unfold toT
  by_cases e : tu = fr
  · subst e
    rw [if_pos rfl, toP, if_pos (by decide +kernel)]
  · rw [if_neg e]
    by_cases e2 : tu = 9999
    · subst e2
      rw [if_pos rfl, toP, if_neg (by decide +kernel), fromP, if_neg (by decide +kernel), if_neg (by decide +kernel), if_pos (by decide +kernel)]
    · obtain ⟨_, _, l1, _⟩ := yr_txt (n := tu) (by omega) h1
      rw [if_neg e2, toP, wd4_dig l1 (tl_dig tu 0), if_neg (by decide), from_txt (by omega) h1]
theorem to_pl {fr tu : Int} (h0 : 1 ≤ tu) (h1 : tu ≤ 9999) : plainF (toT fr tu) = true ∧ (toT fr tu).length ≤ 4 := by
  unfold toT
  split
  · exact ⟨by decide, by decide⟩
  · split
    · exact ⟨by decide, by decide⟩
    · obtain ⟨_, _, l1, l2⟩ := yr_txt (n := tu) (by omega) h1
      exact ⟨plF l1 (all_of (tl_dig tu 0) fun c h => pl_dig h), l2⟩
theorem yr_pl {n : Int} (h0 : 0 ≤ n) (h1 : n ≤ 9999) : plainF (textL n 0) = true ∧ (textL n 0).length ≤ 4 := by
  obtain ⟨_, _, l1, l2⟩ := yr_txt h0 h1
  exact ⟨plF l1 (all_of (tl_dig n 0) fun c h => pl_dig h), l2⟩
theorem mo_tab : ((List.range 13).all fun m => decide (m = 0) || (decide (Wrd.wdP 2 (moT (m : Int)) = ((m : Int), 0)) && (plainF (moT (m : Int)) && (decide ((moT (m : Int)).length = 3) && (decide (Wrd.nmE 2 (m : Int) = 0) && decide ((Wrd.nmT 2 (m : Int)).length ≤ 9)))))) = true := by decide +kernel
theorem mo_txt {m : Int} (h0 : 1 ≤ m) (h1 : m ≤ 12) : Wrd.wdP 2 (moT m) = (m, 0) ∧ plainF (moT m) = true ∧ (moT m).length = 3 ∧ Wrd.nmE 2 m = 0 ∧ (Wrd.nmT 2 m).length ≤ 9 := by
  have := List.all_eq_true.1 mo_tab m.toNat (List.mem_range.2 (by omega))
  rw [decide_eq_false (by omega), Bool.false_or, Int.toNat_of_nonneg (by omega)] at this
  simp only [Bool.and_eq_true, decide_eq_true_eq] at this
  exact this
theorem on_tab : ((List.range 5).all fun k => (List.range 7).all fun v => (List.range 32).all fun d => !(Wk.onOk (k : Int) (v : Int) (d : Int)) || plainF (Onf.onT2 k v d)) = true := by decide +kernel
theorem on_pl {k v d : Int} (h : Wk.onOk k v d = true) : plainF (Onf.onT k v d) = true := by
  obtain ⟨h1, h2, h3⟩ := Wk.onOk_v h
  obtain ⟨k, rfl⟩ : ∃ n : Nat, k = n := ⟨k.toNat, by omega⟩
  obtain ⟨v, rfl⟩ : ∃ n : Nat, v = n := ⟨v.toNat, by omega⟩
  obtain ⟨d, rfl⟩ : ∃ n : Nat, d = n := ⟨d.toNat, by omega⟩
  have a := List.all_eq_true.1 on_tab k (List.mem_range.2 (by omega))
  have b := List.all_eq_true.1 a v (List.mem_range.2 (by omega))
  have c := List.all_eq_true.1 b d (List.mem_range.2 (by omega))
  rw [h, Bool.not_true, Bool.false_or] at c
  have e : Onf.onT (k : Int) (v : Int) (d : Int) = Onf.onT2 k v d := by
    unfold Onf.onT Onf.onT2
    rw [if_pos h, Onf.textL_31 d (by omega)]
    have e2 : ((k : Int) = 2) = (k = 2) := propext (by omega)
    have e3 : ((k : Int) = 3) = (k = 3) := propext (by omega)
    have e4 : ((k : Int) = 4) = (k = 4) := propext (by omega)
    simp only [e2, e3, e4]
  rw [e]
  exact c
theorem ct_pl {n : Int} (h0 : -345600 ≤ n) (h1 : n ≤ 345600) : plainF (ctL n) = true ∧ (ctL n).length ≤ 9 := by
  obtain ⟨x, d, e, _⟩ := Atf.ct_last h0 h1
  have hl : 1 ≤ (ctL n).length := by rw [e]; simp
  have td : ∀ a b, (textL a b).all plainC = true := fun a b => all_of (tl_dig a b) fun c h => pl_dig h
  have hb : ∀ m, (body m).all plainC = true := fun m => by
    unfold body
    rw [List.all_append, List.all_append, td]
    split <;> split <;> simp [td] <;> decide
  refine ⟨plF hl ?_, Atf.ct_len h0 h1⟩
  unfold ctL
  split
  · rw [List.all_cons, hb]; decide
  · exact hb n
theorem sv_txt {n : Int} (h0 : -345600 ≤ n) (h1 : n ≤ 345600) : clE (svL (ctL n)) = 0 ∧ clV (svL (ctL n)) = n := by
  obtain ⟨x, d, e, hd⟩ := Atf.ct_last h0 h1
  have hne : ¬ (d = 115 ∨ d = 100) := fun h => by rcases h with rfl | rfl <;> exact absurd hd (by decide)
  have : svL (ctL n) = ctL n := by rw [e, sv_snoc, if_neg hne]
  obtain ⟨c1, c2⟩ := cl_ct h0 h1
  rw [this]
  exact ⟨clE_yes c1, c2⟩
theorem at_txt {n k : Int} (h : Atf.atOk n k = true) : Atf.apE (Atf.atT n k) = 0 ∧ Atf.apV (Atf.atT n k) = n ∧ Atf.apKk (Atf.atT n k) = k ∧ plainF (Atf.atT n k) = true ∧ (Atf.atT n k).length ≤ 10 ∧ Atf.atE n k = 0 := by
  have h' := h
  rw [Atf.atOk, Bool.and_eq_true, Atf.inS, Atf.isK] at h'
  have a := of_decide_eq_true h'.1
  have b := of_decide_eq_true h'.2
  obtain ⟨p1, p2, p3, p4, p5⟩ := Atf.at_back a b
  obtain ⟨q1, q2⟩ := ct_pl a.1 a.2
  obtain ⟨r1, r2⟩ := plF_parts q1
  rw [p2]
  have hs : (Atf.suf k).all plainC = true ∧ (Atf.suf k).length ≤ 1 := by
    unfold Atf.suf
    split
    · exact ⟨by decide, by decide⟩
    · split
      · exact ⟨by decide, by decide⟩
      · exact ⟨by decide, by decide⟩
  refine ⟨p5, p3, p4, plF (by rw [List.length_append]; omega) ?_, by rw [List.length_append]; omega, p1⟩
  rw [List.all_append, List.all_eq_true.2 r2, hs.1]
  rfl
theorem name_pl {S : List UInt8} (h : nameB S = true) : plainF S = true ∧ S.length ≤ 40 := by
  rw [nameB, Bool.and_eq_true, Bool.and_eq_true] at h
  have a := of_decide_eq_true h.1
  exact ⟨plF a.1 (all_of h.2.2 fun c hc => pl_ok1 hc), a.2⟩
theorem let_pl {S : List UInt8} (h : Fm.letB S = true) : S ≠ [45] ∧ S.length ≤ 6 ∧ S.all plainC = true := by
  rw [Fm.letB, Bool.and_eq_true, Bool.and_eq_true] at h
  have b : ¬ S = [45] := by simpa using h.2.1
  exact ⟨b, of_decide_eq_true h.1, all_of h.2.2 fun c hc => pl_ok2 hc⟩
theorem fmt_pl {S : List UInt8} (h : Fm.fmtB S = true) : plainF S = true ∧ S.length ≤ 40 := by
  rw [Fm.fmtB, Bool.and_eq_true, Bool.and_eq_true] at h
  have a := of_decide_eq_true h.1
  exact ⟨plF a.1 (all_of h.2.1 fun c hc => pl_ok3 hc), a.2⟩
/-! ### There and back -/
theorem chk_parts {r : RV} (h : chkB r = true) : nameB r.nm = true ∧ Fm.letB r.lt = true ∧ 1 ≤ r.fr ∧ r.fr ≤ r.tu ∧ r.tu ≤ 9999 ∧ 1 ≤ r.mo ∧ r.mo ≤ 12 ∧ Wk.onOk r.k r.v r.d = true ∧ fitB r.fr r.tu r.mo r.k r.d = true ∧ Atf.atOk r.n r.c = true ∧ -86400 < r.sv ∧ r.sv < 86400 := by
  rw [chkB] at h
  simp only [Bool.and_eq_true, decide_eq_true_eq] at h
  exact h
theorem ruF_pl {r : RV} (h : chkB r = true) : (∀ f ∈ ruF r, plainF f = true) ∧ (spJ (ruF r)).length ≤ 200 ∧ ∀ f ∈ ruF r, f.length ≤ 40 := by
  obtain ⟨a1, a2, a3, a4, a5, a6, a7, a8, a9, a10, a11, a12⟩ := chk_parts h
  obtain ⟨b1, b2⟩ := name_pl a1
  obtain ⟨c0, c1, c2⟩ := let_pl a2
  obtain ⟨d1, d2⟩ := yr_pl (n := r.fr) (by omega) (by omega)
  obtain ⟨e1, e2⟩ := to_pl (fr := r.fr) (tu := r.tu) (by omega) (by omega)
  obtain ⟨_, f1, f2, _, _⟩ := mo_txt a6 a7
  have g1 := on_pl a8
  have g2 := (Onf.on_back a8).2
  obtain ⟨_, _, _, i1, i2, _⟩ := at_txt a10
  obtain ⟨j1, j2⟩ := ct_pl (n := r.sv) (by omega) (by omega)
  have jj := (ct_in (n := r.sv) (by omega)).2
  have k1 : plainF (if r.lt = [] then [45] else r.lt) = true ∧ (if r.lt = [] then [45] else r.lt).length ≤ 6 := by
    split
    · exact ⟨by decide, by decide⟩
    · rename_i hne
      exact ⟨plF (by cases hl : r.lt with | nil => exact absurd hl hne | cons c T => simp) c2, c1⟩
  refine ⟨?_, ?_, ?_⟩
  · intro f hf
    simp only [ruF, List.mem_cons, List.mem_nil_iff, or_false] at hf
    rcases hf with rfl | rfl | rfl | rfl | rfl | rfl | rfl | rfl | rfl | rfl
    · decide
    · exact b1
    · exact d1
    · exact e1
    · decide
    · exact f1
    · exact g1
    · exact i1
    · rw [jj]; exact j1
    · exact k1.1
  · have := spJ_len (ruF r)
    rw [ruF] at this ⊢
    simp only [List.map_cons, List.map_nil, List.sum_cons, List.sum_nil, List.length_cons, List.length_nil] at this
    rw [jj] at this
    rw [jj]
    have k2 := k1.2
    omega
  · intro f hf
    simp only [ruF, List.mem_cons, List.mem_nil_iff, or_false] at hf
    rcases hf with rfl | rfl | rfl | rfl | rfl | rfl | rfl | rfl | rfl | rfl
    · decide
    · exact b2
    · omega
    · omega
    · decide
    · omega
    · omega
    · omega
    · rw [jj]; omega
    · have := k1.2; omega
theorem ruX_back {r : RV} (h : chkB r = true) : ruX (ruF r) = (0, r) := by
  obtain ⟨a1, a2, a3, a4, a5, a6, a7, a8, a9, a10, a11, a12⟩ := chk_parts h
  obtain ⟨c0, c1, c2⟩ := let_pl a2
  obtain ⟨f1, _, _, _, _⟩ := mo_txt a6 a7
  have g1 := (Onf.on_back a8).1
  obtain ⟨i1, i2, i3, _, _, _⟩ := at_txt a10
  obtain ⟨j1, j2⟩ := sv_txt (n := r.sv) (by omega) (by omega)
  have jj := (ct_in (n := r.sv) (by omega)).2
  have d1 := from_txt (n := r.fr) (by omega) (by omega)
  have e1 := to_txt (fr := r.fr) (tu := r.tu) (by omega) (by omega)
  have kk : (if (if r.lt = [] then [45] else r.lt) = [45] then [] else (if r.lt = [] then [45] else r.lt)) = r.lt := by
    by_cases hl : r.lt = []
    · rw [if_pos hl, if_pos rfl, hl]
    · rw [if_neg hl, if_neg c0]
  rw [ruF, ruX, if_neg (by decide +kernel), if_neg (by decide), d1, if_neg (by simp), e1, if_neg (by simp), f1, if_neg (by simp), g1, if_neg (by simp), i1, if_neg (by simp), jj, j1, if_neg (by simp), i2, i3, j2, kk]
theorem ruP_back {r : RV} (h : chkB r = true) : ruP (ruF r) = (0, r) := by
  rw [ruP, ruX_back h, if_neg (by simp), if_pos h]
end Rul
end Go.Proofs.YthefgagmjamdkaaGreatDoor
/-
  Contracts of package rule: Name, Letter, dayFits, Check. (Written by gen/gen_rula.py.)
-/
namespace Go.Proofs.YthefgagmjamdkaaGreatDoor
open Go.RowKit
namespace Rul
open Sol Clk Cel
theorem at_ls {s : ByteArray} {S : List UInt8} (hS : s.data.toList = S) (k : Nat) (h : k < s.size) : ∃ h2 : k < S.length, s[k] = S[k] := by
  subst hS
  exact ⟨by simpa using h, by simp [ByteArray.getElem_eq_getElem_data]⟩
set_option maxHeartbeats 3200000 in
set_option maxRecDepth 100000 in
theorem nam_to (s : ByteArray) (S : List UInt8) (b : Bool) (w : World) (hs : s.size ≤ 1000000) (hS : Hid (s.data.toList = S)) (h : Hid (nameB S = b)) :
    Calls Tryz.prog 38 #[.string s] w fun e w' => e = .returned (.bool b) ∧ w = w' := by
  have hl : s.size = S.length := by rw [← hS.out]; simp
  have HH := h.out
  clear h
  rw [nameB] at HH
  obtain ⟨on, h1⟩ : ∃ x, Fm.onlyB S [95, 43, 45, 47] = x := ⟨_, rfl⟩
  have H1 := Lib.hid h1
  rw [h1, ← hl] at HH
  clear h1
  by_cases a1 : s.size < 1
  · have : b = false := by rw [← HH, decide_eq_false (by omega)]; rfl
    subst this
    clear HH hl
    go_enter Tryz.func38, Tryz.ntmps38
    go_wp2
    go_ret
    exact ⟨rfl, rfl⟩
  by_cases a2 : 40 < s.size
  · have : b = false := by rw [← HH, decide_eq_false (by omega)]; rfl
    subst this
    clear HH hl
    go_enter Tryz.func38, Tryz.ntmps38
    go_wp2
    go_ret
    exact ⟨rfl, rfl⟩
  have a3 : 1 ≤ s.size := by omega
  have a4 : s.size ≤ 40 := by omega
  obtain ⟨h0, hx⟩ := at_ls hS.out 0 (by omega)
  obtain ⟨c, hc⟩ : ∃ c, s[0] = c := ⟨_, rfl⟩
  rw [hc] at hx
  rw [decide_eq_true ⟨a3, a4⟩, Bool.true_and] at HH
  have hd : hdBad S = (isDig c || (c == 43 || c == 45)) := by
    cases S with
    | nil => simp at h0
    | cons x T => rw [hx]; rfl
  rw [hd] at HH
  have cb := c.toNat_lt
  have hcs : (isDig c = true ∧ b = false) ∨ (isDig c = false ∧ ((c.toNat : Int) == 43) = true ∧ b = false) ∨ (isDig c = false ∧ ((c.toNat : Int) == 43) = false ∧ ((c.toNat : Int) == 45) = true ∧ b = false) ∨ (isDig c = false ∧ ((c.toNat : Int) == 43) = false ∧ ((c.toNat : Int) == 45) = false ∧ b = on) := by
    rw [← HH]
    cases hdg : isDig c with
    | true => exact Or.inl ⟨rfl, by simp⟩
    | false =>
      by_cases e1 : c = 43
      · exact Or.inr (Or.inl ⟨rfl, by rw [e1]; rfl, by simp [e1]⟩)
      · by_cases e2 : c = 45
        · exact Or.inr (Or.inr (Or.inl ⟨rfl, Esc.u8_ne (n := 43) (by decide) e1, by rw [e2]; rfl, by simp [e2]⟩))
        · refine Or.inr (Or.inr (Or.inr ⟨rfl, Esc.u8_ne (n := 43) (by decide) e1, Esc.u8_ne (n := 45) (by decide) e2, ?_⟩))
          have f1 : (c == 43) = false := beq_eq_false_iff_ne.2 e1
          have f2 : (c == 45) = false := beq_eq_false_iff_ne.2 e2
          simp [f1, f2]
  clear HH hd hx h0 hl a1 a2
  rcases hcs with ⟨hg, rfl⟩ | ⟨hg, e1, rfl⟩ | ⟨hg, e1, e2, rfl⟩ | ⟨hg, e1, e2, rfl⟩
  · have HG := Lib.hid hg
    clear hg
    go_enter Tryz.func38, Tryz.ntmps38
    go_wp2_with fail
    refine (Fm.isD_to c true _ HG).mono ?_
    rintro e w1 ⟨rfl, rfl⟩
    go_wp2
    go_ret
    exact ⟨rfl, rfl⟩
  · have HG := Lib.hid hg
    clear hg
    go_enter Tryz.func38, Tryz.ntmps38
    go_wp2_with fail
    refine (Fm.isD_to c false _ HG).mono ?_
    rintro e w1 ⟨rfl, rfl⟩
    go_wp2
    go_ret
    exact ⟨rfl, rfl⟩
  · have HG := Lib.hid hg
    clear hg
    go_enter Tryz.func38, Tryz.ntmps38
    go_wp2_with fail
    refine (Fm.isD_to c false _ HG).mono ?_
    rintro e w1 ⟨rfl, rfl⟩
    go_wp2
    go_ret
    exact ⟨rfl, rfl⟩
  · have HG := Lib.hid hg
    clear hg
    go_enter Tryz.func38, Tryz.ntmps38
    go_wp2_with fail
    refine (Fm.isD_to c false _ HG).mono ?_
    rintro e w1 ⟨rfl, rfl⟩
    go_wp2_with fail
    refine (Fm.only_to s ⟨#[95, 43, 45, 47]⟩ S [95, 43, 45, 47] _ _ hs hS (Lib.hid rfl) H1).mono ?_
    rintro e w1 ⟨rfl, rfl⟩
    go_wp2
    go_ret
    exact ⟨rfl, rfl⟩
theorem len_to (y m n : Int) (w : World) (h : Hid (Cal.mlen y m = n)) :
    Calls Tryz.prog 101 #[.int .i64 y, .int .i64 m] w fun e w' => e = .returned (.int .i64 n) ∧ w = w' :=
  (Civ.len_any y m w).mono fun _ _ ⟨he, hw⟩ => ⟨by rw [he, h.out], hw⟩
theorem len_b (y m n : Int) (w : World) (h : Hid (Cal.mlen y m = n)) :
    Calls Tryz.prog 101 #[.int .i64 y, .int .i64 m] w fun e w' => e = .returned (.int .i64 n) ∧ Below w.heap.size w w' :=
  (len_to y m n w h).mono fun _ _ ⟨he, hw⟩ => ⟨he, hw ▸ Below.refl _ _⟩
/-- Which of a rule's conditions fails first. -/
theorem chk_cases (nm lt : List UInt8) (fr tu mo k v d n c sv : Int) (e : Int) (h : ruE ⟨nm, fr, tu, mo, k, v, d, n, c, sv, lt⟩ = e) :
    (Hid (nameB nm = false) ∧ e = 10) ∨
    (Hid (nameB nm = true) ∧ Hid (Fm.letB lt = false) ∧ e = 10) ∨
    (Hid (nameB nm = true) ∧ Hid (Fm.letB lt = true) ∧ ¬ 1 ≤ fr ∧ e = 10) ∨
    (Hid (nameB nm = true) ∧ Hid (Fm.letB lt = true) ∧ 1 ≤ fr ∧ ¬ fr ≤ tu ∧ e = 10) ∨
    (Hid (nameB nm = true) ∧ Hid (Fm.letB lt = true) ∧ 1 ≤ fr ∧ fr ≤ tu ∧ ¬ tu ≤ 9999 ∧ e = 10) ∨
    (Hid (nameB nm = true) ∧ Hid (Fm.letB lt = true) ∧ 1 ≤ fr ∧ fr ≤ tu ∧ tu ≤ 9999 ∧ ¬ 1 ≤ mo ∧ e = 10) ∨
    (Hid (nameB nm = true) ∧ Hid (Fm.letB lt = true) ∧ 1 ≤ fr ∧ fr ≤ tu ∧ tu ≤ 9999 ∧ 1 ≤ mo ∧ ¬ mo ≤ 12 ∧ e = 10) ∨
    (Hid (nameB nm = true) ∧ Hid (Fm.letB lt = true) ∧ 1 ≤ fr ∧ fr ≤ tu ∧ tu ≤ 9999 ∧ 1 ≤ mo ∧ mo ≤ 12 ∧ Hid (Wk.onOk k v d = false) ∧ e = 10) ∨
    (Hid (nameB nm = true) ∧ Hid (Fm.letB lt = true) ∧ 1 ≤ fr ∧ fr ≤ tu ∧ tu ≤ 9999 ∧ 1 ≤ mo ∧ mo ≤ 12 ∧ Hid (Wk.onOk k v d = true) ∧ Hid (fitB fr tu mo k d = false) ∧ e = 10) ∨
    (Hid (nameB nm = true) ∧ Hid (Fm.letB lt = true) ∧ 1 ≤ fr ∧ fr ≤ tu ∧ tu ≤ 9999 ∧ 1 ≤ mo ∧ mo ≤ 12 ∧ Hid (Wk.onOk k v d = true) ∧ Hid (fitB fr tu mo k d = true) ∧ Hid (Atf.atOk n c = false) ∧ e = 10) ∨
    (Hid (nameB nm = true) ∧ Hid (Fm.letB lt = true) ∧ 1 ≤ fr ∧ fr ≤ tu ∧ tu ≤ 9999 ∧ 1 ≤ mo ∧ mo ≤ 12 ∧ Hid (Wk.onOk k v d = true) ∧ Hid (fitB fr tu mo k d = true) ∧ Hid (Atf.atOk n c = true) ∧ ¬ -86400 < sv ∧ e = 10) ∨
    (Hid (nameB nm = true) ∧ Hid (Fm.letB lt = true) ∧ 1 ≤ fr ∧ fr ≤ tu ∧ tu ≤ 9999 ∧ 1 ≤ mo ∧ mo ≤ 12 ∧ Hid (Wk.onOk k v d = true) ∧ Hid (fitB fr tu mo k d = true) ∧ Hid (Atf.atOk n c = true) ∧ -86400 < sv ∧ ¬ sv < 86400 ∧ e = 10) ∨
    (Hid (nameB nm = true) ∧ Hid (Fm.letB lt = true) ∧ 1 ≤ fr ∧ fr ≤ tu ∧ tu ≤ 9999 ∧ 1 ≤ mo ∧ mo ≤ 12 ∧ Hid (Wk.onOk k v d = true) ∧ Hid (fitB fr tu mo k d = true) ∧ Hid (Atf.atOk n c = true) ∧ -86400 < sv ∧ sv < 86400 ∧ e = 0) := by
  rw [ruE, chkB] at h
  by_cases q0 : nameB nm = true
  case neg =>
    have q0 : nameB nm = false := by simpa using q0
    exact Or.inl ⟨Lib.hid q0, by rw [← h, if_neg (by simp [q0])]⟩
  by_cases q1 : Fm.letB lt = true
  case neg =>
    have q1 : Fm.letB lt = false := by simpa using q1
    exact Or.inr (Or.inl ⟨Lib.hid q0, Lib.hid q1, by rw [← h, if_neg (by simp [q0, q1])]⟩)
  by_cases q2 : 1 ≤ fr
  case neg => exact Or.inr (Or.inr (Or.inl ⟨Lib.hid q0, Lib.hid q1, q2, by rw [← h, if_neg (by simp [q0, q1, q2])]⟩))
  by_cases q3 : fr ≤ tu
  case neg => exact Or.inr (Or.inr (Or.inr (Or.inl ⟨Lib.hid q0, Lib.hid q1, q2, q3, by rw [← h, if_neg (by simp [q0, q1, q2, q3])]⟩)))
  by_cases q4 : tu ≤ 9999
  case neg => exact Or.inr (Or.inr (Or.inr (Or.inr (Or.inl ⟨Lib.hid q0, Lib.hid q1, q2, q3, q4, by rw [← h, if_neg (by simp [q0, q1, q2, q3, q4])]⟩))))
  by_cases q5 : 1 ≤ mo
  case neg => exact Or.inr (Or.inr (Or.inr (Or.inr (Or.inr (Or.inl ⟨Lib.hid q0, Lib.hid q1, q2, q3, q4, q5, by rw [← h, if_neg (by simp [q0, q1, q2, q3, q4, q5])]⟩)))))
  by_cases q6 : mo ≤ 12
  case neg => exact Or.inr (Or.inr (Or.inr (Or.inr (Or.inr (Or.inr (Or.inl ⟨Lib.hid q0, Lib.hid q1, q2, q3, q4, q5, q6, by rw [← h, if_neg (by simp [q0, q1, q2, q3, q4, q5, q6])]⟩))))))
  by_cases q7 : Wk.onOk k v d = true
  case neg =>
    have q7 : Wk.onOk k v d = false := by simpa using q7
    exact Or.inr (Or.inr (Or.inr (Or.inr (Or.inr (Or.inr (Or.inr (Or.inl ⟨Lib.hid q0, Lib.hid q1, q2, q3, q4, q5, q6, Lib.hid q7, by rw [← h, if_neg (by simp [q0, q1, q2, q3, q4, q5, q6, q7])]⟩)))))))
  by_cases q8 : fitB fr tu mo k d = true
  case neg =>
    have q8 : fitB fr tu mo k d = false := by simpa using q8
    exact Or.inr (Or.inr (Or.inr (Or.inr (Or.inr (Or.inr (Or.inr (Or.inr (Or.inl ⟨Lib.hid q0, Lib.hid q1, q2, q3, q4, q5, q6, Lib.hid q7, Lib.hid q8, by rw [← h, if_neg (by simp [q0, q1, q2, q3, q4, q5, q6, q7, q8])]⟩))))))))
  by_cases q9 : Atf.atOk n c = true
  case neg =>
    have q9 : Atf.atOk n c = false := by simpa using q9
    exact Or.inr (Or.inr (Or.inr (Or.inr (Or.inr (Or.inr (Or.inr (Or.inr (Or.inr (Or.inl ⟨Lib.hid q0, Lib.hid q1, q2, q3, q4, q5, q6, Lib.hid q7, Lib.hid q8, Lib.hid q9, by rw [← h, if_neg (by simp [q0, q1, q2, q3, q4, q5, q6, q7, q8, q9])]⟩)))))))))
  by_cases q10 : -86400 < sv
  case neg => exact Or.inr (Or.inr (Or.inr (Or.inr (Or.inr (Or.inr (Or.inr (Or.inr (Or.inr (Or.inr (Or.inl ⟨Lib.hid q0, Lib.hid q1, q2, q3, q4, q5, q6, Lib.hid q7, Lib.hid q8, Lib.hid q9, q10, by rw [← h, if_neg (by simp [q0, q1, q2, q3, q4, q5, q6, q7, q8, q9, q10])]⟩))))))))))
  by_cases q11 : sv < 86400
  case neg => exact Or.inr (Or.inr (Or.inr (Or.inr (Or.inr (Or.inr (Or.inr (Or.inr (Or.inr (Or.inr (Or.inr (Or.inl ⟨Lib.hid q0, Lib.hid q1, q2, q3, q4, q5, q6, Lib.hid q7, Lib.hid q8, Lib.hid q9, q10, q11, by rw [← h, if_neg (by simp [q0, q1, q2, q3, q4, q5, q6, q7, q8, q9, q10, q11])]⟩)))))))))))
  exact Or.inr (Or.inr (Or.inr (Or.inr (Or.inr (Or.inr (Or.inr (Or.inr (Or.inr (Or.inr (Or.inr (Or.inr (⟨Lib.hid q0, Lib.hid q1, q2, q3, q4, q5, q6, Lib.hid q7, Lib.hid q8, Lib.hid q9, q10, q11, by rw [← h, if_pos (by simp [q0, q1, q2, q3, q4, q5, q6, q7, q8, q9, q10, q11])]⟩))))))))))))
end Rul
end Go.Proofs.YthefgagmjamdkaaGreatDoor
/-
  Contracts of package rule: the parts of a line's fields (parseFrom, parseTo, parseSave).
-/
namespace Go.Proofs.YthefgagmjamdkaaGreatDoor
open Go.RowKit
namespace Rul
open Sol Clk Cel
theorem suf_snoc (l : List UInt8) (x y : UInt8) : Lib.hasSuffix (l ++ [x]) [y] = (y == x) := by simp [Lib.hasSuffix, List.isSuffixOf, List.isPrefixOf]
end Rul
end Go.Proofs.YthefgagmjamdkaaGreatDoor
