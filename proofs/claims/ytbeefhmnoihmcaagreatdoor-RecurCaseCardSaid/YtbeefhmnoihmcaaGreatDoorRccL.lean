/-
  RecurCase: the law's walk.
-/
import Derived.Test.YtbeefhmnoihmcaaGreatDoorRccM
import Derived.Test.YtbeefhmnoihmcaaGreatDoorRrlF
import Derived.Test.YtbeefhmnoihmcaaGreatDoorRcbA
import Derived.Test.YtbeefhmnoihmcaaGreatDoorRcbH
namespace Go.Proofs.YtbeefhmnoihmcaaGreatDoor
open Go.RowKit
namespace Rcc
open Cel
open Rcp Spc Rct
open Ap (Grew)
open Wrd (smB smL)
open Rcv (CV IntV DayV LisV RecV)
open Rck (ckE ckB Small)
theorem infoU : (Tryz.prog.info? 5).map (fun i => (i.zero, i.size, i.bytes)) = some (some (.int .u8 0), 1, 1) := by kernel_rfl
def bvU (c : UInt8) : Value := .int .u8 (c.toNat : Int)
/-- A row of bytes that the call owns. -/
def RowU (B : Nat) (w : World) (v : Value) (P : List UInt8) : Prop := w.ownsRow B 5 1 v P.length (P.map bvU)
theorem RowU.nil (B : Nat) (w : World) : RowU B w (.slice none 0 0) [] := World.ownsRow_nil _ _ _ _
theorem RowU.below {B : Nat} {w w' : World} {v : Value} {P : List UInt8} (h : RowU B w v P) (hb : Below w.heap.size w w') : RowU B w' v P := Ap.own_below h hb
theorem appU {w : World} {ops : Array Oper} {rest : List Oper} {o : Oper} {a : Act} {Q : Exit → Act → World → Prop} (hgd : o.guard = none) (s x : Operand)
    (ho : o.op = .call { callee := .builtin .append, args := #[s, x], argTypes := #[37, 37] })
    (B : Nat) (v : Value) (P : List UInt8) (hs : a.eval s = v) (hown : RowU B w v P) (c : UInt8)
    (hx : a.eval x = .slice (some ⟨w.heap.size, 0, none⟩) 1 1) (hn : P.length ≤ 100000000) (hB : B ≤ w.heap.size)
    (h : ∀ w' g cap, RowU B w' (.slice (some ⟨g, 0, none⟩) (P.length + 1) cap) (P ++ [c]) → Grew B v w w' → wpList Tryz.prog ops Q rest (a.put o.dst (.slice (some ⟨g, 0, none⟩) (P.length + 1) cap)) w') :
    wpList Tryz.prog ops Q (o :: rest) a (w.alloc (.cells #[.int .u8 (c.toNat : Int)] 5)) := by
  obtain ⟨i0, hi0, hz0, hz1, hz2⟩ := info_parts infoU
  refine Ap.appX hgd s x 37 ho B 5 i0 (.int .u8 0) 1 1 (by kernel_rfl) hi0 hz0 hz1 hz2 rfl (by decide) v P.length _ hs hown #[.int .u8 (c.toNat : Int)] 5 rfl (by intro u hu; simp at hu; subst hu; rfl) hx hn (by decide) hB ?_
  intro w' g cap r g' _
  refine h w' g cap ?_ g'
  unfold RowU
  rw [List.map_append, List.length_append]
  exact r
theorem RowU.conv {B : Nat} {w : World} {v : Value} {P : List UInt8} (h : RowU B w v P) : (convert 37 9 v).run Tryz.prog w = .ok (.string ⟨P.toArray⟩) w := by
  rcases h.2 with ⟨rfl, h2⟩ | ⟨g, cap, cur, rfl, _⟩
  · obtain rfl : P = [] := List.length_eq_zero_iff.1 h2
    rw [run_convert_bytes_string w 37 9 5 none 0 0 (by kernel_rfl) (by kernel_rfl) (by kernel_rfl)]
    first | rfl | (simp; done) | (simp [loadCells]; done)
  · refine run_convert_bytes_back (P := Tryz.prog) w 37 9 5 ⟨g, 0, none⟩ cap P (by kernel_rfl) (by kernel_rfl) (by kernel_rfl) (fun j hj => ?_)
    have := World.ownsRow.cellAt h j (by omega)
    rw [show (⟨g, 0, none⟩ : Addr).add j = ⟨g, j, none⟩ from by simp [Addr.add]; exact fun h => h.symm, this]
    simp [bvU, hj]
theorem get_list {s : ByteArray} {S : List UInt8} (hS : s.data.toList = S) (k : Nat) (h : k < s.size) : ∃ h2 : k < S.length, s[k] = S[k] := by
  have hl : S.length = s.size := by rw [← hS]; simp
  have : s[k] = s.data.toList[k]'(by simpa using h) := by simp [ByteArray.getElem_eq_getElem_data]
  refine ⟨by omega, ?_⟩
  rw [this]
  exact List.getElem_of_eq hS _
theorem st_len : ∀ (L : List UInt8) (s : St), (L.foldl stp s).sm.length = s.sm.length + L.length ∧ (L.foldl stp s).pa.length + (L.foldl stp s).tu.length = s.pa.length + s.tu.length + L.length
  | [], s => by simp
  | c :: L, s => by
    have h := st_len L (stp s c)
    have e1 : (stp s c).sm.length = s.sm.length + 1 := by unfold stp; split <;> (try split) <;> simp
    have e2 : (stp s c).pa.length + (stp s c).tu.length = s.pa.length + s.tu.length + 1 := by
      unfold stp
      split
      · simp <;> omega
      · split <;> (simp <;> omega)
    rw [List.foldl_cons]
    rw [e1] at h
    rw [e2] at h
    simp only [List.length_cons]
    omega
theorem st_next {T : List UInt8} {k : Nat} {s s' : St} {c : UInt8} (hk : k < T.length) (h : (T.take k).foldl stp ⟨[], [], [], false⟩ = s) (hc : T[k] = c) (hs : stp s c = s') : (T.take (k + 1)).foldl stp ⟨[], [], [], false⟩ = s' := by
  rw [List.take_succ_eq_append_getElem hk, List.foldl_append, h, hc]
  exact hs
theorem cat_l (a b : ByteArray) : (a ++ b).data.toList = a.data.toList ++ b.data.toList := by simp
theorem smB_up {c : UInt8} (h : 65 ≤ (c.toNat : Int)) (h2 : (c.toNat : Int) ≤ 90) : (c.toNat : Int) + 32 = ((smB c).toNat : Int) := by
  rw [smB, if_pos (by omega)]
  simp
  omega
/-- What the loop holds. -/
structure StV (B : Nat) (w : World) (st : St) (sv tv pv vv : Value) : Prop where
  s : RowU B w sv st.sm
  t : ∃ b : ByteArray, tv = .string b ∧ b.data.toList = st.tu
  p : ∃ b : ByteArray, pv = .string b ∧ b.data.toList = st.pa
  v : vv = .bool st.va
set_option maxHeartbeats 25600000 in
set_option maxRecDepth 100000 in
theorem case_any (x : CV) (s6 s7 s8 s9 s10 s11 s12 s13 s14 : Value) (w : World) (hT : Tabs w) (hla : LisV w x s6 s7 s8 s9 s10 s11 s12 s13 s14) (ub1 : -9223372036854775808 ≤ x.ua) (ub2 : x.ua ≤ 9223372036854775807) :
    Calls Tryz.prog 4 #[.agg #[.int .i64 x.fq, .int .i64 x.iv, .int .i64 x.ct, .bool x.un, .int .i64 x.ua, .bool x.ut, s6, s7, s8, s9, s10, s11, s12, s13, s14, .int .i64 x.wk]] w fun e w' => e = .returned (.bool true) ∧ Below w.heap.size w w' := by
  have TT := Lib.hid hT
  have L0 := Lib.hid hla
  clear hT hla
  go_enter Tryz.func4, Tryz.ntmps4
  go_upto_region 0 with fail
  go_cut [1] (fun p wz => p = .pointer (some ⟨w.heap.size, 0, none⟩) ∧ Hid (Cs w.heap.size wz [.int .i64 x.fq, .int .i64 x.iv, .int .i64 x.ct, .bool x.un, .int .i64 x.ua, .bool x.ut, s6, s7, s8, s9, s10, s11, s12, s13, s14, .int .i64 x.wk]) ∧ Hid (Below w.heap.size w wz))
  case first =>
    go_wp2
    go_meet
    exact ⟨rfl, Lib.hid (Cs.new w _ _), Lib.hid ((Below.refl _ _).alloc (Nat.le_refl _) _)⟩
  case rest =>
  obtain ⟨w1, rfl⟩ : ∃ x : World, x = wc := ⟨_, rfl⟩
  obtain ⟨rfl, C, B⟩ := hcut
  have L := Lib.hid (L0.out.below B.out)
  go_wp2_with (refine kn_load C.out rfl (by rfl) (by rfl) (by rfl) ?_; intro K hK; go_simp)
  refine (hv_to s6 s7 s8 s9 s10 s11 s12 s13 s14 x _ L.out).mono ?_
  rintro e w2 ⟨r, rfl, hr, k⟩
  have C := Lib.hid (C.out.below k)
  have L := Lib.hid (L.out.below k)
  have B := Lib.hid (bstep B.out k)
  clear k
  cases r with
  | true =>
    go_wp2
    go_ret
    exact ⟨rfl, B.out⟩
  | false =>
  have A3 := Lib.hid (hr.out rfl)
  clear hr
  obtain ⟨b, hb⟩ : ∃ b, ckB x = b := ⟨_, rfl⟩
  have HB := Lib.hid hb
  clear hb
  go_wp2_with (refine kn_load C.out rfl (by rfl) (by rfl) (by rfl) ?_; intro K hK; go_simp)
  refine (Rrl.rrec_to s6 s7 s8 s9 s10 s11 s12 s13 s14 x b _ ub1 ub2 L.out HB).mono ?_
  rintro e w3 ⟨rfl, k⟩
  have C := Lib.hid (C.out.below k)
  have L := Lib.hid (L.out.below k)
  have B := Lib.hid (bstep B.out k)
  clear k
  cases b with
  | false =>
    go_wp2
    go_ret
    exact ⟨rfl, B.out⟩
  | true =>
  have hk : ckE x = 0 := by rw [ckE, if_pos HB.out]
  obtain ⟨T, tx, tl, sm, tu, pa, va, ef, p1, p2, l1, l2, q1, q2⟩ := case_all hk A3.out
  obtain ⟨Z, hZ⟩ : ∃ Z : ByteArray, ⟨T.toArray⟩ = Z := ⟨_, rfl⟩
  have HZ : Hid (Z.data.toList = T) := Lib.hid (by rw [← hZ])
  have hz : Z.size = T.length := by rw [← HZ.out]; simp
  have HZ2 := Lib.hid hZ
  have TXH := Lib.hid tx
  have EF := Lib.hid ef
  have P1 := Lib.hid p1
  have P2 := Lib.hid p2
  have Q1 := Lib.hid q1
  have Q2 := Lib.hid q2
  have LL := Lib.hid (And.intro l1 l2)
  clear tx ef p1 p2 q1 q2 hZ hk l1 l2
  go_upto_region 3 with fail
  go_cut [3, 4] (fun v e wz => v = .string Z ∧ e = .int .i64 0 ∧ Hid (Cs w.heap.size wz [.int .i64 x.fq, .int .i64 x.iv, .int .i64 x.ct, .bool x.un, .int .i64 x.ua, .bool x.ut, s6, s7, s8, s9, s10, s11, s12, s13, s14, .int .i64 x.wk]) ∧ Hid (LisV wz x s6 s7 s8 s9 s10 s11 s12 s13 s14) ∧ Hid (Below w.heap.size w wz))
  case first =>
    go_wp2_with (refine kn_load C.out rfl (by rfl) (by rfl) (by rfl) ?_; intro K hK; go_simp)
    refine (tx_to s6 s7 s8 s9 s10 s11 s12 s13 s14 x T 0 _ (TT.out.stays B.out).2.2.2.2 (TT.out.stays B.out).2.1 (TT.out.stays B.out).2.2.1 (TT.out.stays B.out).2.2.2.1 ub1 ub2 L A3 TXH).mono ?_
    rintro e w4 ⟨rfl, k⟩
    rw [HZ2.out]
    go_wp2
    go_meet
    exact ⟨rfl, rfl, Lib.hid (C.out.below k), Lib.hid (L.out.below k), Lib.hid (bstep B.out k)⟩
  case rest =>
  obtain ⟨w4, rfl⟩ : ∃ x : World, x = wc := ⟨_, rfl⟩
  clear C L B
  obtain ⟨rfl, rfl, C, L, B⟩ := hcut
  obtain ⟨n, hn⟩ : ∃ n, T.length = n := ⟨_, rfl⟩
  have HN := Lib.hid hn
  rw [hn] at hz tl
  clear hn
  have g4 : w.heap.size + 1 ≤ w4.heap.size := C.out.1
  go_wp2_with fail
  go_loopw [5, 6, 7, 8, 9] (fun sv tv pv vv iv wr => ∃ (k : Nat) (st : St), k ≤ n ∧ iv = .int .i64 k ∧ Hid ((T.take k).foldl stp ⟨[], [], [], false⟩ = st) ∧ StV (w.heap.size + 1) wr st sv tv pv vv ∧ Hid (Below (w.heap.size + 1) w4 wr)) (fun _ _ _ _ iv _ => n - (intOf iv).toNat)
  case atStart => exact ⟨0, ⟨[], [], [], false⟩, Nat.zero_le _, rfl, Lib.hid rfl, ⟨RowU.nil _ _, ⟨⟨#[]⟩, rfl, rfl⟩, ⟨⟨#[]⟩, rfl, rfl⟩, rfl⟩, Lib.hid (Below.refl _ _)⟩
  case round =>
    obtain ⟨k, ⟨ssm, stu, spa, sva⟩, hk, rfl, HT, ⟨hrow, ⟨TB, rfl, ht⟩, ⟨PB, rfl, hp⟩, rfl⟩, BL⟩ := hrel
    obtain ⟨wo, rfl⟩ : ∃ wo : World, wo = wr := ⟨_, rfl⟩
    simp only at hrow ht hp
    have hlen := st_len (T.take k) ⟨[], [], [], false⟩
    rw [HT.out] at hlen
    simp only [List.length_nil, List.length_take, Nat.zero_add] at hlen
    have hs8 : ssm.length ≤ 100000 := by omega
    have hpz : PB.size = spa.length := by rw [← hp]; simp
    have htz : TB.size = stu.length := by rw [← ht]; simp
    have hp8 : PB.size ≤ 100000 := by omega
    have ht8 : TB.size ≤ 100000 := by omega
    have gw : w.heap.size + 1 ≤ wo.heap.size := Nat.le_trans g4 BL.out.size
    have HP := Lib.hid hp
    have HTU := Lib.hid ht
    clear hlen ht hp
    by_cases hlt : k < n
    case neg =>
      obtain rfl : k = n := by omega
      have e0 : (⟨ssm, stu, spa, sva⟩ : St) = ⟨sm, tu, pa, va⟩ := by
        have q := HT.out
        rw [← HN.out, List.take_length, EF.out] at q
        exact q.symm
      injection e0 with e1 e2 e3 e4
      subst e1 e2 e3 e4
      have hcv := RowU.conv hrow
      have BW : Hid (Below w.heap.size w wo) := Lib.hid (B.out.trans (BL.out.mono (by omega)))
      have C := Lib.hid (wps_lo C.out BL.out (by omega))
      have L := Lib.hid (L0.out.below BW.out)
      clear HT EF BL
      go_upto_region 22 with fail
      go_cut [11, 12] (fun p e wz => e = .int .i64 0 ∧ Hid (BlkX wz p x) ∧ Hid (Cs w.heap.size wz [.int .i64 x.fq, .int .i64 x.iv, .int .i64 x.ct, .bool x.un, .int .i64 x.ua, .bool x.ut, s6, s7, s8, s9, s10, s11, s12, s13, s14, .int .i64 x.wk]) ∧ Hid (LisV wz x s6 s7 s8 s9 s10 s11 s12 s13 s14) ∧ Hid (Below w.heap.size w wz))
      case first =>
        go_wp2_with fail
        refine (pa_to ⟨ssm.toArray⟩ ssm x 0 _ (TT.out.stays BW.out).1 (TT.out.stays BW.out).2.1 (TT.out.stays BW.out).2.2.1 (TT.out.stays BW.out).2.2.2.1 (by show ssm.toArray.size ≤ _; simp; omega) (Lib.hid rfl) Q1 P1).mono ?_
        rintro e w5 ⟨u, rfl, hr, k5⟩
        obtain ⟨a6, a7, a8, a9, a10, a11, a12, a13, a14, c6, c7, c8, c9, c10, c11, c12, c13, c14, rfl, hl⟩ := recv_form hr
        have HL := Lib.hid hl
        clear hr hl hcv
        go_wp2
        go_meet
        exact ⟨rfl, Lib.hid (BlkX.new (x := x) HL.out rfl), Lib.hid ((C.out.below k5).alloc _), Lib.hid ((L.out.below k5).below ((Below.refl _ _).alloc (Nat.le_refl _) _)), Lib.hid ((bstep BW.out k5).alloc (bstep BW.out k5).size _)⟩
      case rest =>
      obtain ⟨w5, rfl⟩ : ∃ x : World, x = wc := ⟨_, rfl⟩
      clear C L BW hcv hrow
      obtain ⟨rfl, X5, C, L, BW⟩ := hcut
      obtain ⟨g5, t6, t7, t8, t9, t10, t11, t12, t13, t14, rfl, hcs, hls⟩ := X5.out
      have D := Lib.hid hcs
      have M := Lib.hid hls
      clear hcs hls X5
      go_upto_region 23 with fail
      go_cut [13, 14] (fun p e wz => e = .int .i64 0 ∧ Hid (BlkX wz p x) ∧ Hid (Cs g5 wz [.int .i64 x.fq, .int .i64 x.iv, .int .i64 x.ct, .bool x.un, .int .i64 x.ua, .bool x.ut, t6, t7, t8, t9, t10, t11, t12, t13, t14, .int .i64 x.wk]) ∧ Hid (LisV wz x t6 t7 t8 t9 t10 t11 t12 t13 t14) ∧ Hid (Cs w.heap.size wz [.int .i64 x.fq, .int .i64 x.iv, .int .i64 x.ct, .bool x.un, .int .i64 x.ua, .bool x.ut, s6, s7, s8, s9, s10, s11, s12, s13, s14, .int .i64 x.wk]) ∧ Hid (LisV wz x s6 s7 s8 s9 s10 s11 s12 s13 s14) ∧ Hid (Below w.heap.size w wz))
      case first =>
        go_wp2_with fail
        refine (pa_to (PB ++ TB) (spa ++ stu) x 0 _ (TT.out.stays BW.out).1 (TT.out.stays BW.out).2.1 (TT.out.stays BW.out).2.2.1 (TT.out.stays BW.out).2.2.2.1 (by rw [ByteArray.size_append]; have q := LL.out.2; rw [List.length_append] at q; omega) (Lib.hid (by rw [cat_l, HP.out, HTU.out])) Q2 P2).mono ?_
        rintro e w6 ⟨u, rfl, hr, k6⟩
        obtain ⟨a6, a7, a8, a9, a10, a11, a12, a13, a14, c6, c7, c8, c9, c10, c11, c12, c13, c14, rfl, hl⟩ := recv_form hr
        have HL := Lib.hid hl
        clear hr hl
        go_wp2
        go_meet
        have al := ((Below.refl w6.heap.size w6).alloc (Nat.le_refl _))
        exact ⟨rfl, Lib.hid (BlkX.new (x := x) HL.out rfl), Lib.hid ((D.out.below k6).alloc _), Lib.hid ((M.out.below k6).below (al _)), Lib.hid ((C.out.below k6).alloc _), Lib.hid ((L.out.below k6).below (al _)), Lib.hid ((bstep BW.out k6).alloc (bstep BW.out k6).size _)⟩
      case rest =>
      obtain ⟨w6, rfl⟩ : ∃ x : World, x = wc := ⟨_, rfl⟩
      clear C L BW D M
      obtain ⟨rfl, X6, D, M, C, L, BW⟩ := hcut
      obtain ⟨g6, u6, u7, u8, u9, u10, u11, u12, u13, u14, rfl, hcs, hls⟩ := X6.out
      have E := Lib.hid hcs
      have O := Lib.hid hls
      clear hcs hls X6
      go_wp2_with (first | (refine kn_load D.out rfl (by rfl) (by rfl) (by rfl) ?_; intro K hK; go_simp) | (refine kn_load C.out rfl (by rfl) (by rfl) (by rfl) ?_; intro K hK; go_simp))
      refine (Rcv.krec_to t6 t7 t8 t9 t10 t11 t12 t13 t14 s6 s7 s8 s9 s10 s11 s12 s13 s14 x x _ M.out L.out (Rcb.len3_sml A3.out) (Rcb.len3_sml A3.out)).mono ?_
      rintro e w7 ⟨r, rfl, hr, k7⟩
      obtain rfl : r = true := hr.2 rfl
      have E := Lib.hid (E.out.below k7)
      have O := Lib.hid (O.out.below k7)
      have C := Lib.hid (C.out.below k7)
      have L := Lib.hid (L.out.below k7)
      have BW := Lib.hid (bstep BW.out k7)
      clear hr k7 D M
      go_wp2_with (first | (refine kn_load E.out rfl (by rfl) (by rfl) (by rfl) ?_; intro K hK; go_simp) | (refine kn_load C.out rfl (by rfl) (by rfl) (by rfl) ?_; intro K hK; go_simp))
      refine (Rcv.krec_to u6 u7 u8 u9 u10 u11 u12 u13 u14 s6 s7 s8 s9 s10 s11 s12 s13 s14 x x _ O.out L.out (Rcb.len3_sml A3.out) (Rcb.len3_sml A3.out)).mono ?_
      rintro e w8 ⟨r, rfl, hr, k8⟩
      obtain rfl : r = true := hr.2 rfl
      have BW := Lib.hid (bstep BW.out k8)
      clear hr k8 E O C L
      go_wp2_with fail
      refine (wakes21_any _ (TT.out.stays BW.out)).mono ?_
      rintro e w9 ⟨rfl, k9⟩
      go_wp2
      go_ret
      exact ⟨rfl, bstep BW.out k9⟩
    obtain ⟨hkS, hx⟩ := get_list HZ.out k (by omega)
    obtain ⟨c, hc⟩ : ∃ c, Z[k] = c := ⟨_, rfl⟩
    rw [hc] at hx
    have HC : Hid (T[k] = c) := Lib.hid hx.symm
    have cb := c.toNat_lt
    clear hx
    by_cases c59 : c = 59
    · subst c59
      have HN2 : Hid ((T.take (k + 1)).foldl stp ⟨[], [], [], false⟩ = ⟨ssm ++ [59], 59 :: (spa ++ stu), [], false⟩) := Lib.hid (st_next hkS HT.out HC.out (by simp [stp]))
      clear HT
      go_wp2_with (at_builtin; refine appU rfl _ _ rfl (w.heap.size + 1) _ ssm rfl hrow 59 rfl (by omega) gw ?_)
      intro w5 gg gcap r5 g5
      have hb5 := Lib.hid (g5.below _ _ (Nat.le_refl _) BL.out gw)
      clear g5 hrow
      go_wp2
      go_roundw
      case rel => exact ⟨k + 1, _, by omega, by go_num, HN2, ⟨by simpa using r5, ⟨_, rfl, by rw [cat_l, cat_l, HP.out, HTU.out]; rfl⟩, ⟨_, rfl, rfl⟩, rfl⟩, hb5⟩
      case measure => simp [intOf]; omega
    have n59 : ((c.toNat : Int) == 59) = false := by
      refine beq_eq_false_iff_ne.2 (fun q => c59 ?_)
      exact UInt8.toNat_inj.1 (by simpa using Int.ofNat_inj.1 q)
    have HX : Hid ((PB ++ Z.extract k (k + 1)).data.toList = spa ++ [c]) := Lib.hid (by
      rw [cat_l, HP.out, Lib.extract_data, HZ.out]
      congr 1
      rw [show k + 1 - k = 1 by omega, List.drop_eq_getElem_cons hkS, HC.out]
      rfl)
    have zx : (Z.extract k (k + 1)).size = 1 := by rw [Lib.size_eq, Lib.extract_data, HZ.out, List.length_take, List.length_drop]; omega
    by_cases c61 : c = 61
    · subst c61
      obtain ⟨b, hb⟩ : ∃ b, decide (spa = unL) = b := ⟨_, rfl⟩
      have eb : (PB.toList == [85, 78, 84, 73, 76]) = b := by
        rw [Lib.toList_data, HP.out, ← hb]
        by_cases q : spa = unL
        · rw [decide_eq_true q]; exact beq_iff_eq.2 q
        · rw [decide_eq_false q]; exact beq_eq_false_iff_ne.2 q
      have e61 : smB 61 = 61 := by decide
      have HN2 : Hid ((T.take (k + 1)).foldl stp ⟨[], [], [], false⟩ = ⟨ssm ++ [61], stu, spa ++ [61], b⟩) := Lib.hid (st_next hkS HT.out HC.out (by simp [stp, hb, e61]))
      clear HT hb e61
      go_wp2_with (at_builtin; refine appU rfl _ _ rfl (w.heap.size + 1) _ ssm rfl hrow 61 rfl (by omega) gw ?_)
      intro w5 gg gcap r5 g5
      have hb5 := Lib.hid (g5.below _ _ (Nat.le_refl _) BL.out gw)
      clear g5 hrow
      go_wp2
      go_roundw
      case rel => exact ⟨k + 1, _, by omega, by go_num, HN2, ⟨by simpa using r5, ⟨_, rfl, HTU.out⟩, ⟨_, rfl, HX.out⟩, rfl⟩, hb5⟩
      case measure => simp [intOf]; omega
    have n61 : ((c.toNat : Int) == 61) = false := by
      refine beq_eq_false_iff_ne.2 (fun q => c61 ?_)
      exact UInt8.toNat_inj.1 (by simpa using Int.ofNat_inj.1 q)
    have HS : Hid (stp ⟨ssm, stu, spa, sva⟩ c = ⟨ssm ++ [if sva = true then c else smB c], stu, spa ++ [c], sva⟩) := Lib.hid (by simp [stp, c59, c61])
    by_cases lo : (c.toNat : Int) < 65
    · have HN2 : Hid ((T.take (k + 1)).foldl stp ⟨[], [], [], false⟩ = ⟨ssm ++ [c], stu, spa ++ [c], sva⟩) := Lib.hid (st_next hkS HT.out HC.out (by rw [HS.out, Wrd.smB_lo lo]; simp))
      have lo2 : ¬ (65 : Int) ≤ (c.toNat : Int) := by omega
      clear HT HS
      go_wp2_with (at_builtin; refine appU rfl _ _ rfl (w.heap.size + 1) _ ssm rfl hrow c rfl (by omega) gw ?_)
      intro w5 gg gcap r5 g5
      have hb5 := Lib.hid (g5.below _ _ (Nat.le_refl _) BL.out gw)
      clear g5 hrow
      go_wp2
      go_roundw
      case rel => exact ⟨k + 1, _, by omega, by go_num, HN2, ⟨by simpa using r5, ⟨_, rfl, HTU.out⟩, ⟨_, rfl, HX.out⟩, rfl⟩, hb5⟩
      case measure => simp [intOf]; omega
    by_cases hi : 90 < (c.toNat : Int)
    · have HN2 : Hid ((T.take (k + 1)).foldl stp ⟨[], [], [], false⟩ = ⟨ssm ++ [c], stu, spa ++ [c], sva⟩) := Lib.hid (st_next hkS HT.out HC.out (by rw [HS.out, Wrd.smB_hi hi]; simp))
      have lo2 : (65 : Int) ≤ (c.toNat : Int) := by omega
      have hi2 : ¬ (c.toNat : Int) ≤ 90 := by omega
      clear HT HS
      go_wp2_with (at_builtin; refine appU rfl _ _ rfl (w.heap.size + 1) _ ssm rfl hrow c rfl (by omega) gw ?_)
      intro w5 gg gcap r5 g5
      have hb5 := Lib.hid (g5.below _ _ (Nat.le_refl _) BL.out gw)
      clear g5 hrow
      go_wp2
      go_roundw
      case rel => exact ⟨k + 1, _, by omega, by go_num, HN2, ⟨by simpa using r5, ⟨_, rfl, HTU.out⟩, ⟨_, rfl, HX.out⟩, rfl⟩, hb5⟩
      case measure => simp [intOf]; omega
    have lo2 : (65 : Int) ≤ (c.toNat : Int) := by omega
    have hi2 : (c.toNat : Int) ≤ 90 := by omega
    cases sva with
    | true =>
      have HN2 : Hid ((T.take (k + 1)).foldl stp ⟨[], [], [], false⟩ = ⟨ssm ++ [c], stu, spa ++ [c], true⟩) := Lib.hid (st_next hkS HT.out HC.out (by rw [HS.out]; simp))
      clear HT HS
      go_wp2_with (at_builtin; refine appU rfl _ _ rfl (w.heap.size + 1) _ ssm rfl hrow c rfl (by omega) gw ?_)
      intro w5 gg gcap r5 g5
      have hb5 := Lib.hid (g5.below _ _ (Nat.le_refl _) BL.out gw)
      clear g5 hrow
      go_wp2
      go_roundw
      case rel => exact ⟨k + 1, _, by omega, by go_num, HN2, ⟨by simpa using r5, ⟨_, rfl, HTU.out⟩, ⟨_, rfl, HX.out⟩, rfl⟩, hb5⟩
      case measure => simp [intOf]; omega
    | false =>
      have HN2 : Hid ((T.take (k + 1)).foldl stp ⟨[], [], [], false⟩ = ⟨ssm ++ [smB c], stu, spa ++ [c], false⟩) := Lib.hid (st_next hkS HT.out HC.out (by rw [HS.out]; simp))
      have up : IntKind.u8.wrap ((c.toNat : Int) + 32) = ((smB c).toNat : Int) := by rw [smB_up lo2 hi2, IntKind.wrap_u8]; have := (smB c).toNat_lt; omega
      clear HT HS
      go_wp2_with (at_builtin; refine appU rfl _ _ rfl (w.heap.size + 1) _ ssm rfl hrow (smB c) rfl (by omega) gw ?_)
      intro w5 gg gcap r5 g5
      have hb5 := Lib.hid (g5.below _ _ (Nat.le_refl _) BL.out gw)
      clear g5 hrow
      go_wp2
      go_roundw
      case rel => exact ⟨k + 1, _, by omega, by go_num, HN2, ⟨by simpa using r5, ⟨_, rfl, HTU.out⟩, ⟨_, rfl, HX.out⟩, rfl⟩, hb5⟩
      case measure => simp [intOf]; omega
end Rcc
end Go.Proofs.YtbeefhmnoihmcaaGreatDoor
