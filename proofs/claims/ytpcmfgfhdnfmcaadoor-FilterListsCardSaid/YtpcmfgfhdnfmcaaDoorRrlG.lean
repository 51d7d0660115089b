/-
  The reference's Recur (layer 21): from its days on. (Written by gen/gen_rrl.py.)
-/
import Derived.Test.YtpcmfgfhdnfmcaaDoorRrlB
namespace Go.Proofs.YtpcmfgfhdnfmcaaDoor
open Go.RowKit
namespace Rrl
open Cel
open Rcv (CV IntV DayV LisV)
open Rck (ckB ckE frB eiB dyB lsB gtB nmB endB frB_iff dyB_iff Small)

def startsR (n : Nat) : Code → Bool
  | .region k _ _ => k == n
  | .seq a _ => startsR n a
  | .scope a => startsR n a
  | .block _ a => startsR n a
  | _ => false
def fromR (n : Nat) : Code → Option Code
  | .seq a b => if startsR n a = true then some (.seq a b) else fromR n b
  | c => if startsR n c = true then some c else none
theorem ds_out {f : Int} {m : Nat} {L : List (Int × Int)} {k : Nat} (hk : k < L.length) (h : okD f m L[k] = false) : dsB f m L = false := by
  refine decide_eq_false (fun q => ?_)
  have := q.1 _ (List.getElem_mem hk)
  rw [h] at this; cases this
theorem ds_dup {f : Int} {m : Nat} {L : List (Int × Int)} {j k : Nat} (hk : k < L.length) (hj : j < k) (h : L[j] = L[k]) : dsB f m L = false := by
  refine decide_eq_false (fun q => ?_)
  have := (List.pairwise_iff_getElem.1 q.2) j k (by omega) hk hj
  exact this h
theorem ds_next {f : Int} {m : Nat} {L : List (Int × Int)} {k : Nat} (hk : k < L.length) (h : dsB f m (L.take k) = true) (h1 : okD f m L[k] = true) (h2 : ∀ (j : Nat) (hj : j < k), L[j] ≠ L[k]) : dsB f m (L.take (k + 1)) = true := by
  have h := of_decide_eq_true h
  rw [List.take_succ_eq_append_getElem hk]
  refine decide_eq_true ⟨fun n hn => ?_, ?_⟩
  · rcases List.mem_append.1 hn with q | q
    · exact h.1 n q
    · rw [List.mem_singleton.1 q]; exact h1
  · rw [List.nodup_append]
    refine ⟨h.2, by simp, fun a ha b hb => ?_⟩
    rw [List.mem_singleton.1 hb]
    obtain ⟨j, hj, rfl⟩ := List.mem_iff_getElem.1 ha
    rw [List.length_take] at hj
    rw [List.getElem_take]
    exact h2 j (by omega)
theorem day_at {w : World} {a9 : Option Addr} {c : Nat} {L : List (Int × Int)} (h : DayV w (.slice a9 L.length c) L) : ∃ bx ox, 0 < L.length → a9 = some ⟨bx, ox, none⟩ ∧ bx < w.heap.size ∧ ∀ (j : Nat) (hj : j < L.length), w.cell? ⟨bx, ox + j * 2, none⟩ = some (.int .i64 (L[j]).1) ∧ w.cell? ⟨bx, ox + j * 2 + 1, none⟩ = some (.int .i64 (L[j]).2) := by
  by_cases h0 : 0 < L.length
  · obtain ⟨b, off, c', e, h1, h2⟩ := h.form h0
    injection e with e1 e2 e3
    exact ⟨b, off, fun _ => ⟨e1, h1, h2⟩⟩
  · exact ⟨0, 0, fun q => absurd q h0⟩
noncomputable def code23 : Code := (Tryd.f15.body.bind (fromR 23)).getD .skip
set_option maxHeartbeats 25600000 in
set_option maxRecDepth 100000 in
theorem rr23 (x : CV) (a6 a7 a8 a9 a10 a11 a12 a13 a14 : Option Addr) (c6 c7 c8 c9 c10 c11 c12 c13 c14 : Nat) (r : Bool) (w w1 : World) (C : Hid (Cs w.heap.size w1 [.int .i64 x.fq, .int .i64 x.iv, .int .i64 x.ct, .bool x.un, .int .i64 x.ua, .bool x.ut, .slice a6 x.sc.length c6, .slice a7 x.mi.length c7, .slice a8 x.hr.length c8, .slice a9 x.dy.length c9, .slice a10 x.md.length c10, .slice a11 x.yd.length c11, .slice a12 x.wn.length c12, .slice a13 x.mo.length c13, .slice a14 x.sp.length c14, .int .i64 x.wk])) (B : Hid (Below w.heap.size w w1)) (HL : Hid (l1B x = false)) (HR2 : Hid (g2B x = r))
    (z0 z2 z3 z4 z5 z6 z7 z8 z9 z10 z11 z12 z13 z14 z15 z16 z17 z18 z19 z20 z21 z22 z23 z24 z25 z26 z27 z28 z29 z30 z31 z32 z33 z34 z35 z36 z37 z38 z39 z40 z41 z42 z43 z44 z45 z46 z47 z48 z49 z50 z51 z52 z53 z54 z55 z56 z57 z58 z59 z60 z61 z62 z63 z64 z65 z66 z67 z68 z69 z70 z71 z72 z73 z74 z75 z76 z77 z78 z79 z80 z81 z82 z83 z84 z85 z86 z87 z88 z89 z90 z91 z92 z93 z94 z95 z96 z97 z98 z99 z100 z101 z102 z103 z104 z105 z106 z107 z108 z109 z110 z111 z112 z113 z114 z115 z116 z117 z118 z119 z120 z121 z122 z123 z124 z125 z126 z127 z128 z129 z130 z131 z132 z133 z134 z135 z136 z137 z138 z139 z140 z141 z142 z143 z144 z145 z146 z147 z148 z149 z150 z151 z152 z153 z154 z155 z156 z157 z158 z159 z160 z161 z162 z163 z164 z165 z166 z167 z168 z169 z170 z171 z172 z173 z174 z175 z176 z177 z178 z179 z180 z181 z182 z183 z184 z185 z186 z187 z188 z189 z190 z191 z192 z193 z194 z195 z196 z197 z198 z199 z200 z201 z202 z203 z204 z205 z206 z207 z208 z209 z210 z211 z212 z213 z214 z215 z216 z217 z218 z219 z220 z221 z222 z223 z224 z225 z226 z227 z228 z229 z230 z231 z232 z233 z234 z235 z236 z237 z238 z239 z240 z241 z242 z243 z244 z245 z246 z247 z248 z249 z250 z251 z252 z253 z254 z255 z256 z257 z258 z259 z260 z261 z262 z263 z264 z265 z266 z267 z268 z269 z270 z271 z272 z273 z274 z275 z276 z277 z278 z279 z280 z281 z282 z283 z284 z285 z286 : Value) : Code.wp Tryd.prog code23 (bodyPost Tryd.prog Tryd.f15 (fun e w' => e = .returned (.bool r) ∧ Below w.heap.size w w')) ⟨List.toArray (z0 :: .pointer (some ⟨w.heap.size, 0, none⟩) :: z2 :: z3 :: z4 :: z5 :: z6 :: z7 :: z8 :: z9 :: z10 :: z11 :: z12 :: z13 :: z14 :: z15 :: z16 :: z17 :: z18 :: z19 :: z20 :: z21 :: z22 :: z23 :: z24 :: z25 :: z26 :: z27 :: z28 :: z29 :: z30 :: z31 :: z32 :: z33 :: z34 :: z35 :: z36 :: z37 :: z38 :: z39 :: z40 :: z41 :: z42 :: z43 :: z44 :: z45 :: z46 :: z47 :: z48 :: z49 :: z50 :: z51 :: z52 :: z53 :: z54 :: z55 :: z56 :: z57 :: z58 :: z59 :: z60 :: z61 :: z62 :: z63 :: z64 :: z65 :: z66 :: z67 :: z68 :: z69 :: z70 :: z71 :: z72 :: z73 :: z74 :: z75 :: z76 :: z77 :: z78 :: z79 :: z80 :: z81 :: z82 :: z83 :: z84 :: z85 :: z86 :: z87 :: z88 :: z89 :: z90 :: z91 :: z92 :: z93 :: z94 :: z95 :: z96 :: z97 :: z98 :: z99 :: z100 :: z101 :: z102 :: z103 :: z104 :: z105 :: z106 :: z107 :: z108 :: z109 :: z110 :: z111 :: z112 :: z113 :: z114 :: z115 :: z116 :: z117 :: z118 :: z119 :: z120 :: z121 :: z122 :: z123 :: z124 :: z125 :: z126 :: z127 :: z128 :: z129 :: z130 :: z131 :: z132 :: z133 :: z134 :: z135 :: z136 :: z137 :: z138 :: z139 :: z140 :: z141 :: z142 :: z143 :: z144 :: z145 :: z146 :: z147 :: z148 :: z149 :: z150 :: z151 :: z152 :: z153 :: z154 :: z155 :: z156 :: z157 :: z158 :: z159 :: z160 :: z161 :: z162 :: z163 :: z164 :: z165 :: z166 :: z167 :: z168 :: z169 :: z170 :: z171 :: z172 :: z173 :: z174 :: z175 :: z176 :: z177 :: z178 :: z179 :: z180 :: z181 :: z182 :: z183 :: z184 :: z185 :: z186 :: z187 :: z188 :: z189 :: z190 :: z191 :: z192 :: z193 :: z194 :: z195 :: z196 :: z197 :: z198 :: z199 :: z200 :: z201 :: z202 :: z203 :: z204 :: z205 :: z206 :: z207 :: z208 :: z209 :: z210 :: z211 :: z212 :: z213 :: z214 :: z215 :: z216 :: z217 :: z218 :: z219 :: z220 :: z221 :: z222 :: z223 :: z224 :: z225 :: z226 :: z227 :: z228 :: z229 :: z230 :: z231 :: z232 :: z233 :: z234 :: z235 :: z236 :: z237 :: z238 :: z239 :: z240 :: z241 :: z242 :: z243 :: z244 :: z245 :: z246 :: z247 :: z248 :: z249 :: z250 :: z251 :: z252 :: z253 :: z254 :: z255 :: z256 :: z257 :: z258 :: z259 :: z260 :: z261 :: z262 :: z263 :: z264 :: z265 :: z266 :: z267 :: z268 :: z269 :: z270 :: z271 :: z272 :: z273 :: z274 :: z275 :: z276 :: z277 :: z278 :: z279 :: z280 :: z281 :: z282 :: z283 :: z284 :: z285 :: z286 :: []), []⟩ w1 := by
  conv => arg 2; whnf
  have hl := of_decide_eq_false HL.out
  have b6 : x.sc.length ≤ 60 := by omega
  have b7 : x.mi.length ≤ 60 := by omega
  have b8 : x.hr.length ≤ 24 := by omega
  have b13 : x.mo.length ≤ 12 := by omega
  have b10 : x.md.length ≤ 62 := by omega
  have b11 : x.yd.length ≤ 732 := by omega
  have b12 : x.wn.length ≤ 106 := by omega
  have b14 : x.sp.length ≤ 732 := by omega
  have b9 : x.dy.length ≤ 749 := by omega
  clear hl
  go_upto_region 23 with fail
  have m6 := (C.out.2 6 _ rfl).1
  have m7 := (C.out.2 7 _ rfl).1
  have m8 := (C.out.2 8 _ rfl).1
  have m9 := (C.out.2 9 _ rfl).1
  have m10 := (C.out.2 10 _ rfl).1
  have m11 := (C.out.2 11 _ rfl).1
  have m12 := (C.out.2 12 _ rfl).1
  have m13 := (C.out.2 13 _ rfl).1
  have m14 := (C.out.2 14 _ rfl).1
  have wr1 : IntKind.i64.wrap ((x.sc.length : Int) + (x.mi.length : Int)) = (x.sc.length : Int) + (x.mi.length : Int) := IntWalk.i64_in _ (by omega)
  have wr2 : IntKind.i64.wrap (((x.sc.length : Int) + (x.mi.length : Int)) + (x.hr.length : Int)) = ((x.sc.length : Int) + (x.mi.length : Int)) + (x.hr.length : Int) := IntWalk.i64_in _ (by omega)
  have wr3 : IntKind.i64.wrap ((((x.sc.length : Int) + (x.mi.length : Int)) + (x.hr.length : Int)) + (x.dy.length : Int)) = (((x.sc.length : Int) + (x.mi.length : Int)) + (x.hr.length : Int)) + (x.dy.length : Int) := IntWalk.i64_in _ (by omega)
  have wr4 : IntKind.i64.wrap (((((x.sc.length : Int) + (x.mi.length : Int)) + (x.hr.length : Int)) + (x.dy.length : Int)) + (x.md.length : Int)) = ((((x.sc.length : Int) + (x.mi.length : Int)) + (x.hr.length : Int)) + (x.dy.length : Int)) + (x.md.length : Int) := IntWalk.i64_in _ (by omega)
  have wr5 : IntKind.i64.wrap ((((((x.sc.length : Int) + (x.mi.length : Int)) + (x.hr.length : Int)) + (x.dy.length : Int)) + (x.md.length : Int)) + (x.yd.length : Int)) = (((((x.sc.length : Int) + (x.mi.length : Int)) + (x.hr.length : Int)) + (x.dy.length : Int)) + (x.md.length : Int)) + (x.yd.length : Int) := IntWalk.i64_in _ (by omega)
  have wr6 : IntKind.i64.wrap (((((((x.sc.length : Int) + (x.mi.length : Int)) + (x.hr.length : Int)) + (x.dy.length : Int)) + (x.md.length : Int)) + (x.yd.length : Int)) + (x.wn.length : Int)) = ((((((x.sc.length : Int) + (x.mi.length : Int)) + (x.hr.length : Int)) + (x.dy.length : Int)) + (x.md.length : Int)) + (x.yd.length : Int)) + (x.wn.length : Int) := IntWalk.i64_in _ (by omega)
  have wr7 : IntKind.i64.wrap ((((((((x.sc.length : Int) + (x.mi.length : Int)) + (x.hr.length : Int)) + (x.dy.length : Int)) + (x.md.length : Int)) + (x.yd.length : Int)) + (x.wn.length : Int)) + (x.mo.length : Int)) = (((((((x.sc.length : Int) + (x.mi.length : Int)) + (x.hr.length : Int)) + (x.dy.length : Int)) + (x.md.length : Int)) + (x.yd.length : Int)) + (x.wn.length : Int)) + (x.mo.length : Int) := IntWalk.i64_in _ (by omega)
  by_cases s0 : x.sp.length = 0
  · have y0 : (x.sp.length : Int) = 0 := by omega
    have y1 : ((x.sp.length : Int) == 0) = true := beq_iff_eq.2 y0
    obtain rfl : r = true := by rw [← HR2.out, g2B, decide_eq_true s0]; rfl
    clear HR2
    go_wp2
    go_ret
    exact ⟨rfl, B.out⟩
  · have y0 : ¬ (x.sp.length : Int) = 0 := by omega
    have y1 : ((x.sp.length : Int) == 0) = false := beq_eq_false_iff_ne.2 y0
    by_cases s1 : 0 < x.sc.length + x.mi.length + x.hr.length + x.dy.length + x.md.length + x.yd.length + x.wn.length + x.mo.length
    · have y2 : 0 < (((((((x.sc.length : Int) + (x.mi.length : Int)) + (x.hr.length : Int)) + (x.dy.length : Int)) + (x.md.length : Int)) + (x.yd.length : Int)) + (x.wn.length : Int)) + (x.mo.length : Int) := by omega
      obtain rfl : r = true := by rw [← HR2.out, g2B, decide_eq_true s1, Bool.or_true]
      clear HR2
      go_wp2
      go_ret
      exact ⟨rfl, B.out⟩
    · have y2 : ¬ 0 < (((((((x.sc.length : Int) + (x.mi.length : Int)) + (x.hr.length : Int)) + (x.dy.length : Int)) + (x.md.length : Int)) + (x.yd.length : Int)) + (x.wn.length : Int)) + (x.mo.length : Int) := by omega
      obtain rfl : r = false := by rw [← HR2.out, g2B, decide_eq_false s1, decide_eq_false s0]; rfl
      clear HR2
      go_wp2
      go_ret
      exact ⟨rfl, B.out⟩
noncomputable def code21 : Code := (Tryd.f15.body.bind (fromR 21)).getD .skip
set_option maxHeartbeats 25600000 in
set_option maxRecDepth 100000 in
theorem rr21_1 (x : CV) (a6 a7 a8 a9 a10 a11 a12 a13 a14 : Option Addr) (c6 c7 c8 c9 c10 c11 c12 c13 c14 : Nat) (r : Bool) (w w1 : World) (C : Hid (Cs w.heap.size w1 [.int .i64 x.fq, .int .i64 x.iv, .int .i64 x.ct, .bool x.un, .int .i64 x.ua, .bool x.ut, .slice a6 x.sc.length c6, .slice a7 x.mi.length c7, .slice a8 x.hr.length c8, .slice a9 x.dy.length c9, .slice a10 x.md.length c10, .slice a11 x.yd.length c11, .slice a12 x.wn.length c12, .slice a13 x.mo.length c13, .slice a14 x.sp.length c14, .int .i64 x.wk])) (B : Hid (Below w.heap.size w w1)) (HL : Hid (l1B x = false)) (e0 : 0 < x.md.length) (q5 : (x.fq = 5)) (HQ : Hid (ckB x = (g1B x && g2B x))) (HR : Hid (ckB x = r))
    (z0 z2 z3 z4 z5 z6 z7 z8 z9 z10 z11 z12 z13 z14 z15 z16 z17 z18 z19 z20 z21 z22 z23 z24 z25 z26 z27 z28 z29 z30 z31 z32 z33 z34 z35 z36 z37 z38 z39 z40 z41 z42 z43 z44 z45 z46 z47 z48 z49 z50 z51 z52 z53 z54 z55 z56 z57 z58 z59 z60 z61 z62 z63 z64 z65 z66 z67 z68 z69 z70 z71 z72 z73 z74 z75 z76 z77 z78 z79 z80 z81 z82 z83 z84 z85 z86 z87 z88 z89 z90 z91 z92 z93 z94 z95 z96 z97 z98 z99 z100 z101 z102 z103 z104 z105 z106 z107 z108 z109 z110 z111 z112 z113 z114 z115 z116 z117 z118 z119 z120 z121 z122 z123 z124 z125 z126 z127 z128 z129 z130 z131 z132 z133 z134 z135 z136 z137 z138 z139 z140 z141 z142 z143 z144 z145 z146 z147 z148 z149 z150 z151 z152 z153 z154 z155 z156 z157 z158 z159 z160 z161 z162 z163 z164 z165 z166 z167 z168 z169 z170 z171 z172 z173 z174 z175 z176 z177 z178 z179 z180 z181 z182 z183 z184 z185 z186 z187 z188 z189 z190 z191 z192 z193 z194 z195 z196 z197 z198 z199 z200 z201 z202 z203 z204 z205 z206 z207 z208 z209 z210 z211 z212 z213 z214 z215 z216 z217 z218 z219 z220 z221 z222 z223 z224 z225 z226 z227 z228 z229 z230 z231 z232 z233 z234 z235 z236 z237 z238 z239 z240 z241 z242 z243 z244 z245 z246 z247 z248 z249 z250 z251 z252 z253 z254 z255 z256 z257 z258 z259 z260 z261 z262 z263 z264 z265 z266 z267 z268 z269 z270 z271 z272 z273 z274 z275 z276 z277 z278 z279 z280 z281 z282 z283 z284 z285 z286 : Value) : Code.wp Tryd.prog code21 (bodyPost Tryd.prog Tryd.f15 (fun e w' => e = .returned (.bool r) ∧ Below w.heap.size w w')) ⟨List.toArray (z0 :: .pointer (some ⟨w.heap.size, 0, none⟩) :: z2 :: z3 :: z4 :: z5 :: z6 :: z7 :: z8 :: z9 :: z10 :: z11 :: z12 :: z13 :: z14 :: z15 :: z16 :: z17 :: z18 :: z19 :: z20 :: z21 :: z22 :: z23 :: z24 :: z25 :: z26 :: z27 :: z28 :: z29 :: z30 :: z31 :: z32 :: z33 :: z34 :: z35 :: z36 :: z37 :: z38 :: z39 :: z40 :: z41 :: z42 :: z43 :: z44 :: z45 :: z46 :: z47 :: z48 :: z49 :: z50 :: z51 :: z52 :: z53 :: z54 :: z55 :: z56 :: z57 :: z58 :: z59 :: z60 :: z61 :: z62 :: z63 :: z64 :: z65 :: z66 :: z67 :: z68 :: z69 :: z70 :: z71 :: z72 :: z73 :: z74 :: z75 :: z76 :: z77 :: z78 :: z79 :: z80 :: z81 :: z82 :: z83 :: z84 :: z85 :: z86 :: z87 :: z88 :: z89 :: z90 :: z91 :: z92 :: z93 :: z94 :: z95 :: z96 :: z97 :: z98 :: z99 :: z100 :: z101 :: z102 :: z103 :: z104 :: z105 :: z106 :: z107 :: z108 :: z109 :: z110 :: z111 :: z112 :: z113 :: z114 :: z115 :: z116 :: z117 :: z118 :: z119 :: z120 :: z121 :: z122 :: z123 :: z124 :: z125 :: z126 :: z127 :: z128 :: z129 :: z130 :: z131 :: z132 :: z133 :: z134 :: z135 :: z136 :: z137 :: z138 :: z139 :: z140 :: z141 :: z142 :: z143 :: z144 :: z145 :: z146 :: z147 :: z148 :: z149 :: z150 :: z151 :: z152 :: z153 :: z154 :: z155 :: z156 :: z157 :: z158 :: z159 :: z160 :: z161 :: z162 :: z163 :: z164 :: z165 :: z166 :: z167 :: z168 :: z169 :: z170 :: z171 :: z172 :: z173 :: z174 :: z175 :: z176 :: z177 :: z178 :: z179 :: z180 :: z181 :: z182 :: z183 :: z184 :: z185 :: z186 :: z187 :: z188 :: z189 :: z190 :: z191 :: z192 :: z193 :: z194 :: z195 :: z196 :: z197 :: z198 :: z199 :: z200 :: z201 :: z202 :: z203 :: z204 :: z205 :: z206 :: z207 :: z208 :: z209 :: z210 :: z211 :: z212 :: z213 :: z214 :: z215 :: z216 :: z217 :: z218 :: z219 :: z220 :: z221 :: z222 :: z223 :: z224 :: z225 :: z226 :: z227 :: z228 :: z229 :: z230 :: z231 :: z232 :: z233 :: z234 :: z235 :: z236 :: z237 :: z238 :: z239 :: z240 :: z241 :: z242 :: z243 :: z244 :: z245 :: z246 :: z247 :: z248 :: z249 :: z250 :: z251 :: z252 :: z253 :: z254 :: z255 :: z256 :: z257 :: z258 :: z259 :: z260 :: z261 :: z262 :: z263 :: z264 :: z265 :: z266 :: z267 :: z268 :: z269 :: z270 :: z271 :: z272 :: z273 :: z274 :: z275 :: z276 :: z277 :: z278 :: z279 :: z280 :: z281 :: z282 :: z283 :: z284 :: z285 :: z286 :: []), []⟩ w1 := by
  conv => arg 2; whnf
  obtain ⟨g1, hg1⟩ : ∃ g, g1B x = g := ⟨_, rfl⟩
  have HG1 := Lib.hid hg1
  clear hg1
  go_upto_region 21 with fail
  rename_i K23 hK23 Kc hKc
  go_cut [248] (fun v wz => v = .bool (!g1) ∧ w1 = wz)
  case first =>
    have m0 := (C.out.2 0 _ rfl).1
    have m10 := (C.out.2 10 _ rfl).1
    have m11 := (C.out.2 11 _ rfl).1
    have m12 := (C.out.2 12 _ rfl).1
    have f0 : (0 : Int) < (x.md.length : Int) := by omega
    have z0 : (x.fq == 5) = true := beq_iff_eq.2 q5
    obtain rfl : g1 = false := by rw [← HG1.out, g1B, decide_eq_true e0, decide_eq_true q5]; rfl
    go_wp2_with (go_at_call 42; first | (with_reducible refine (rin_to x.fq 4 6 _ _ HI.out).mono ?_; rintro e wq ⟨rfl, rfl⟩))
    go_meet
    exact ⟨rfl, rfl⟩
  case rest =>
  obtain ⟨rfl, hw⟩ := hcut
  subst hw
  cases g1 with
  | false =>
    have hr : ckB x = false := by rw [HQ.out, HG1.out]; rfl
    rw [HR.out] at hr
    subst hr
    go_wp2
    go_ret
    exact ⟨rfl, B.out⟩
  | true =>
  have HR2 : Hid (g2B x = r) := Lib.hid (by rw [← HR.out, HQ.out, HG1.out]; rfl)
  go_step
  go_step
  go_step
  go_step
  exact hK23 _ _ (rr23 x a6 a7 a8 a9 a10 a11 a12 a13 a14 c6 c7 c8 c9 c10 c11 c12 c13 c14 r w _ C B HL HR2 _ _ _ _ _ _ _ _ _ _ _ _ _ _ _ _ _ _ _ _ _ _ _ _ _ _ _ _ _ _ _ _ _ _ _ _ _ _ _ _ _ _ _ _ _ _ _ _ _ _ _ _ _ _ _ _ _ _ _ _ _ _ _ _ _ _ _ _ _ _ _ _ _ _ _ _ _ _ _ _ _ _ _ _ _ _ _ _ _ _ _ _ _ _ _ _ _ _ _ _ _ _ _ _ _ _ _ _ _ _ _ _ _ _ _ _ _ _ _ _ _ _ _ _ _ _ _ _ _ _ _ _ _ _ _ _ _ _ _ _ _ _ _ _ _ _ _ _ _ _ _ _ _ _ _ _ _ _ _ _ _ _ _ _ _ _ _ _ _ _ _ _ _ _ _ _ _ _ _ _ _ _ _ _ _ _ _ _ _ _ _ _ _ _ _ _ _ _ _ _ _ _ _ _ _ _ _ _ _ _ _ _ _ _ _ _ _ _ _ _ _ _ _ _ _ _ _ _ _ _ _ _ _ _ _ _ _ _ _ _ _ _ _ _ _ _ _ _ _ _ _ _ _ _ _ _ _ _ _ _ _ _ _ _ _ _ _ _ _ _ _ _ _ _ _ _ _ _ _ _ _ _ _ _ _ _)
set_option maxHeartbeats 25600000 in
set_option maxRecDepth 100000 in
theorem rr21_01 (x : CV) (a6 a7 a8 a9 a10 a11 a12 a13 a14 : Option Addr) (c6 c7 c8 c9 c10 c11 c12 c13 c14 : Nat) (r : Bool) (w w1 : World) (C : Hid (Cs w.heap.size w1 [.int .i64 x.fq, .int .i64 x.iv, .int .i64 x.ct, .bool x.un, .int .i64 x.ua, .bool x.ut, .slice a6 x.sc.length c6, .slice a7 x.mi.length c7, .slice a8 x.hr.length c8, .slice a9 x.dy.length c9, .slice a10 x.md.length c10, .slice a11 x.yd.length c11, .slice a12 x.wn.length c12, .slice a13 x.mo.length c13, .slice a14 x.sp.length c14, .int .i64 x.wk])) (B : Hid (Below w.heap.size w w1)) (HL : Hid (l1B x = false)) (e0 : ¬ 0 < x.md.length) (e1 : 0 < x.yd.length) (q46 : (4 ≤ x.fq ∧ x.fq ≤ 6)) (HQ : Hid (ckB x = (g1B x && g2B x))) (HR : Hid (ckB x = r))
    (z0 z2 z3 z4 z5 z6 z7 z8 z9 z10 z11 z12 z13 z14 z15 z16 z17 z18 z19 z20 z21 z22 z23 z24 z25 z26 z27 z28 z29 z30 z31 z32 z33 z34 z35 z36 z37 z38 z39 z40 z41 z42 z43 z44 z45 z46 z47 z48 z49 z50 z51 z52 z53 z54 z55 z56 z57 z58 z59 z60 z61 z62 z63 z64 z65 z66 z67 z68 z69 z70 z71 z72 z73 z74 z75 z76 z77 z78 z79 z80 z81 z82 z83 z84 z85 z86 z87 z88 z89 z90 z91 z92 z93 z94 z95 z96 z97 z98 z99 z100 z101 z102 z103 z104 z105 z106 z107 z108 z109 z110 z111 z112 z113 z114 z115 z116 z117 z118 z119 z120 z121 z122 z123 z124 z125 z126 z127 z128 z129 z130 z131 z132 z133 z134 z135 z136 z137 z138 z139 z140 z141 z142 z143 z144 z145 z146 z147 z148 z149 z150 z151 z152 z153 z154 z155 z156 z157 z158 z159 z160 z161 z162 z163 z164 z165 z166 z167 z168 z169 z170 z171 z172 z173 z174 z175 z176 z177 z178 z179 z180 z181 z182 z183 z184 z185 z186 z187 z188 z189 z190 z191 z192 z193 z194 z195 z196 z197 z198 z199 z200 z201 z202 z203 z204 z205 z206 z207 z208 z209 z210 z211 z212 z213 z214 z215 z216 z217 z218 z219 z220 z221 z222 z223 z224 z225 z226 z227 z228 z229 z230 z231 z232 z233 z234 z235 z236 z237 z238 z239 z240 z241 z242 z243 z244 z245 z246 z247 z248 z249 z250 z251 z252 z253 z254 z255 z256 z257 z258 z259 z260 z261 z262 z263 z264 z265 z266 z267 z268 z269 z270 z271 z272 z273 z274 z275 z276 z277 z278 z279 z280 z281 z282 z283 z284 z285 z286 : Value) : Code.wp Tryd.prog code21 (bodyPost Tryd.prog Tryd.f15 (fun e w' => e = .returned (.bool r) ∧ Below w.heap.size w w')) ⟨List.toArray (z0 :: .pointer (some ⟨w.heap.size, 0, none⟩) :: z2 :: z3 :: z4 :: z5 :: z6 :: z7 :: z8 :: z9 :: z10 :: z11 :: z12 :: z13 :: z14 :: z15 :: z16 :: z17 :: z18 :: z19 :: z20 :: z21 :: z22 :: z23 :: z24 :: z25 :: z26 :: z27 :: z28 :: z29 :: z30 :: z31 :: z32 :: z33 :: z34 :: z35 :: z36 :: z37 :: z38 :: z39 :: z40 :: z41 :: z42 :: z43 :: z44 :: z45 :: z46 :: z47 :: z48 :: z49 :: z50 :: z51 :: z52 :: z53 :: z54 :: z55 :: z56 :: z57 :: z58 :: z59 :: z60 :: z61 :: z62 :: z63 :: z64 :: z65 :: z66 :: z67 :: z68 :: z69 :: z70 :: z71 :: z72 :: z73 :: z74 :: z75 :: z76 :: z77 :: z78 :: z79 :: z80 :: z81 :: z82 :: z83 :: z84 :: z85 :: z86 :: z87 :: z88 :: z89 :: z90 :: z91 :: z92 :: z93 :: z94 :: z95 :: z96 :: z97 :: z98 :: z99 :: z100 :: z101 :: z102 :: z103 :: z104 :: z105 :: z106 :: z107 :: z108 :: z109 :: z110 :: z111 :: z112 :: z113 :: z114 :: z115 :: z116 :: z117 :: z118 :: z119 :: z120 :: z121 :: z122 :: z123 :: z124 :: z125 :: z126 :: z127 :: z128 :: z129 :: z130 :: z131 :: z132 :: z133 :: z134 :: z135 :: z136 :: z137 :: z138 :: z139 :: z140 :: z141 :: z142 :: z143 :: z144 :: z145 :: z146 :: z147 :: z148 :: z149 :: z150 :: z151 :: z152 :: z153 :: z154 :: z155 :: z156 :: z157 :: z158 :: z159 :: z160 :: z161 :: z162 :: z163 :: z164 :: z165 :: z166 :: z167 :: z168 :: z169 :: z170 :: z171 :: z172 :: z173 :: z174 :: z175 :: z176 :: z177 :: z178 :: z179 :: z180 :: z181 :: z182 :: z183 :: z184 :: z185 :: z186 :: z187 :: z188 :: z189 :: z190 :: z191 :: z192 :: z193 :: z194 :: z195 :: z196 :: z197 :: z198 :: z199 :: z200 :: z201 :: z202 :: z203 :: z204 :: z205 :: z206 :: z207 :: z208 :: z209 :: z210 :: z211 :: z212 :: z213 :: z214 :: z215 :: z216 :: z217 :: z218 :: z219 :: z220 :: z221 :: z222 :: z223 :: z224 :: z225 :: z226 :: z227 :: z228 :: z229 :: z230 :: z231 :: z232 :: z233 :: z234 :: z235 :: z236 :: z237 :: z238 :: z239 :: z240 :: z241 :: z242 :: z243 :: z244 :: z245 :: z246 :: z247 :: z248 :: z249 :: z250 :: z251 :: z252 :: z253 :: z254 :: z255 :: z256 :: z257 :: z258 :: z259 :: z260 :: z261 :: z262 :: z263 :: z264 :: z265 :: z266 :: z267 :: z268 :: z269 :: z270 :: z271 :: z272 :: z273 :: z274 :: z275 :: z276 :: z277 :: z278 :: z279 :: z280 :: z281 :: z282 :: z283 :: z284 :: z285 :: z286 :: []), []⟩ w1 := by
  conv => arg 2; whnf
  obtain ⟨g1, hg1⟩ : ∃ g, g1B x = g := ⟨_, rfl⟩
  have HG1 := Lib.hid hg1
  clear hg1
  go_upto_region 21 with fail
  rename_i K23 hK23 Kc hKc
  go_cut [248] (fun v wz => v = .bool (!g1) ∧ w1 = wz)
  case first =>
    have m0 := (C.out.2 0 _ rfl).1
    have m10 := (C.out.2 10 _ rfl).1
    have m11 := (C.out.2 11 _ rfl).1
    have m12 := (C.out.2 12 _ rfl).1
    have f0 : ¬ (0 : Int) < (x.md.length : Int) := by omega
    have f1 : (0 : Int) < (x.yd.length : Int) := by omega
    have HI : Hid (decide (4 ≤ x.fq ∧ x.fq ≤ 6) = true) := Lib.hid (decide_eq_true q46)
    obtain rfl : g1 = false := by rw [← HG1.out, g1B, decide_eq_false e0, decide_eq_true e1, decide_eq_true q46]; rfl
    go_wp2_with (go_at_call 42; first | (with_reducible refine (rin_to x.fq 4 6 _ _ HI.out).mono ?_; rintro e wq ⟨rfl, rfl⟩))
    go_meet
    exact ⟨rfl, rfl⟩
  case rest =>
  obtain ⟨rfl, hw⟩ := hcut
  subst hw
  cases g1 with
  | false =>
    have hr : ckB x = false := by rw [HQ.out, HG1.out]; rfl
    rw [HR.out] at hr
    subst hr
    go_wp2
    go_ret
    exact ⟨rfl, B.out⟩
  | true =>
  have HR2 : Hid (g2B x = r) := Lib.hid (by rw [← HR.out, HQ.out, HG1.out]; rfl)
  go_step
  go_step
  go_step
  go_step
  exact hK23 _ _ (rr23 x a6 a7 a8 a9 a10 a11 a12 a13 a14 c6 c7 c8 c9 c10 c11 c12 c13 c14 r w _ C B HL HR2 _ _ _ _ _ _ _ _ _ _ _ _ _ _ _ _ _ _ _ _ _ _ _ _ _ _ _ _ _ _ _ _ _ _ _ _ _ _ _ _ _ _ _ _ _ _ _ _ _ _ _ _ _ _ _ _ _ _ _ _ _ _ _ _ _ _ _ _ _ _ _ _ _ _ _ _ _ _ _ _ _ _ _ _ _ _ _ _ _ _ _ _ _ _ _ _ _ _ _ _ _ _ _ _ _ _ _ _ _ _ _ _ _ _ _ _ _ _ _ _ _ _ _ _ _ _ _ _ _ _ _ _ _ _ _ _ _ _ _ _ _ _ _ _ _ _ _ _ _ _ _ _ _ _ _ _ _ _ _ _ _ _ _ _ _ _ _ _ _ _ _ _ _ _ _ _ _ _ _ _ _ _ _ _ _ _ _ _ _ _ _ _ _ _ _ _ _ _ _ _ _ _ _ _ _ _ _ _ _ _ _ _ _ _ _ _ _ _ _ _ _ _ _ _ _ _ _ _ _ _ _ _ _ _ _ _ _ _ _ _ _ _ _ _ _ _ _ _ _ _ _ _ _ _ _ _ _ _ _ _ _ _ _ _ _ _ _ _ _ _ _ _ _ _ _ _ _ _ _ _ _ _ _ _ _ _)
set_option maxHeartbeats 25600000 in
set_option maxRecDepth 100000 in
theorem rr21_21 (x : CV) (a6 a7 a8 a9 a10 a11 a12 a13 a14 : Option Addr) (c6 c7 c8 c9 c10 c11 c12 c13 c14 : Nat) (r : Bool) (w w1 : World) (C : Hid (Cs w.heap.size w1 [.int .i64 x.fq, .int .i64 x.iv, .int .i64 x.ct, .bool x.un, .int .i64 x.ua, .bool x.ut, .slice a6 x.sc.length c6, .slice a7 x.mi.length c7, .slice a8 x.hr.length c8, .slice a9 x.dy.length c9, .slice a10 x.md.length c10, .slice a11 x.yd.length c11, .slice a12 x.wn.length c12, .slice a13 x.mo.length c13, .slice a14 x.sp.length c14, .int .i64 x.wk])) (B : Hid (Below w.heap.size w w1)) (HL : Hid (l1B x = false)) (e0 : 0 < x.md.length) (q5 : ¬ (x.fq = 5)) (e1 : 0 < x.yd.length) (q46 : (4 ≤ x.fq ∧ x.fq ≤ 6)) (HQ : Hid (ckB x = (g1B x && g2B x))) (HR : Hid (ckB x = r))
    (z0 z2 z3 z4 z5 z6 z7 z8 z9 z10 z11 z12 z13 z14 z15 z16 z17 z18 z19 z20 z21 z22 z23 z24 z25 z26 z27 z28 z29 z30 z31 z32 z33 z34 z35 z36 z37 z38 z39 z40 z41 z42 z43 z44 z45 z46 z47 z48 z49 z50 z51 z52 z53 z54 z55 z56 z57 z58 z59 z60 z61 z62 z63 z64 z65 z66 z67 z68 z69 z70 z71 z72 z73 z74 z75 z76 z77 z78 z79 z80 z81 z82 z83 z84 z85 z86 z87 z88 z89 z90 z91 z92 z93 z94 z95 z96 z97 z98 z99 z100 z101 z102 z103 z104 z105 z106 z107 z108 z109 z110 z111 z112 z113 z114 z115 z116 z117 z118 z119 z120 z121 z122 z123 z124 z125 z126 z127 z128 z129 z130 z131 z132 z133 z134 z135 z136 z137 z138 z139 z140 z141 z142 z143 z144 z145 z146 z147 z148 z149 z150 z151 z152 z153 z154 z155 z156 z157 z158 z159 z160 z161 z162 z163 z164 z165 z166 z167 z168 z169 z170 z171 z172 z173 z174 z175 z176 z177 z178 z179 z180 z181 z182 z183 z184 z185 z186 z187 z188 z189 z190 z191 z192 z193 z194 z195 z196 z197 z198 z199 z200 z201 z202 z203 z204 z205 z206 z207 z208 z209 z210 z211 z212 z213 z214 z215 z216 z217 z218 z219 z220 z221 z222 z223 z224 z225 z226 z227 z228 z229 z230 z231 z232 z233 z234 z235 z236 z237 z238 z239 z240 z241 z242 z243 z244 z245 z246 z247 z248 z249 z250 z251 z252 z253 z254 z255 z256 z257 z258 z259 z260 z261 z262 z263 z264 z265 z266 z267 z268 z269 z270 z271 z272 z273 z274 z275 z276 z277 z278 z279 z280 z281 z282 z283 z284 z285 z286 : Value) : Code.wp Tryd.prog code21 (bodyPost Tryd.prog Tryd.f15 (fun e w' => e = .returned (.bool r) ∧ Below w.heap.size w w')) ⟨List.toArray (z0 :: .pointer (some ⟨w.heap.size, 0, none⟩) :: z2 :: z3 :: z4 :: z5 :: z6 :: z7 :: z8 :: z9 :: z10 :: z11 :: z12 :: z13 :: z14 :: z15 :: z16 :: z17 :: z18 :: z19 :: z20 :: z21 :: z22 :: z23 :: z24 :: z25 :: z26 :: z27 :: z28 :: z29 :: z30 :: z31 :: z32 :: z33 :: z34 :: z35 :: z36 :: z37 :: z38 :: z39 :: z40 :: z41 :: z42 :: z43 :: z44 :: z45 :: z46 :: z47 :: z48 :: z49 :: z50 :: z51 :: z52 :: z53 :: z54 :: z55 :: z56 :: z57 :: z58 :: z59 :: z60 :: z61 :: z62 :: z63 :: z64 :: z65 :: z66 :: z67 :: z68 :: z69 :: z70 :: z71 :: z72 :: z73 :: z74 :: z75 :: z76 :: z77 :: z78 :: z79 :: z80 :: z81 :: z82 :: z83 :: z84 :: z85 :: z86 :: z87 :: z88 :: z89 :: z90 :: z91 :: z92 :: z93 :: z94 :: z95 :: z96 :: z97 :: z98 :: z99 :: z100 :: z101 :: z102 :: z103 :: z104 :: z105 :: z106 :: z107 :: z108 :: z109 :: z110 :: z111 :: z112 :: z113 :: z114 :: z115 :: z116 :: z117 :: z118 :: z119 :: z120 :: z121 :: z122 :: z123 :: z124 :: z125 :: z126 :: z127 :: z128 :: z129 :: z130 :: z131 :: z132 :: z133 :: z134 :: z135 :: z136 :: z137 :: z138 :: z139 :: z140 :: z141 :: z142 :: z143 :: z144 :: z145 :: z146 :: z147 :: z148 :: z149 :: z150 :: z151 :: z152 :: z153 :: z154 :: z155 :: z156 :: z157 :: z158 :: z159 :: z160 :: z161 :: z162 :: z163 :: z164 :: z165 :: z166 :: z167 :: z168 :: z169 :: z170 :: z171 :: z172 :: z173 :: z174 :: z175 :: z176 :: z177 :: z178 :: z179 :: z180 :: z181 :: z182 :: z183 :: z184 :: z185 :: z186 :: z187 :: z188 :: z189 :: z190 :: z191 :: z192 :: z193 :: z194 :: z195 :: z196 :: z197 :: z198 :: z199 :: z200 :: z201 :: z202 :: z203 :: z204 :: z205 :: z206 :: z207 :: z208 :: z209 :: z210 :: z211 :: z212 :: z213 :: z214 :: z215 :: z216 :: z217 :: z218 :: z219 :: z220 :: z221 :: z222 :: z223 :: z224 :: z225 :: z226 :: z227 :: z228 :: z229 :: z230 :: z231 :: z232 :: z233 :: z234 :: z235 :: z236 :: z237 :: z238 :: z239 :: z240 :: z241 :: z242 :: z243 :: z244 :: z245 :: z246 :: z247 :: z248 :: z249 :: z250 :: z251 :: z252 :: z253 :: z254 :: z255 :: z256 :: z257 :: z258 :: z259 :: z260 :: z261 :: z262 :: z263 :: z264 :: z265 :: z266 :: z267 :: z268 :: z269 :: z270 :: z271 :: z272 :: z273 :: z274 :: z275 :: z276 :: z277 :: z278 :: z279 :: z280 :: z281 :: z282 :: z283 :: z284 :: z285 :: z286 :: []), []⟩ w1 := by
  conv => arg 2; whnf
  obtain ⟨g1, hg1⟩ : ∃ g, g1B x = g := ⟨_, rfl⟩
  have HG1 := Lib.hid hg1
  clear hg1
  go_upto_region 21 with fail
  rename_i K23 hK23 Kc hKc
  go_cut [248] (fun v wz => v = .bool (!g1) ∧ w1 = wz)
  case first =>
    have m0 := (C.out.2 0 _ rfl).1
    have m10 := (C.out.2 10 _ rfl).1
    have m11 := (C.out.2 11 _ rfl).1
    have m12 := (C.out.2 12 _ rfl).1
    have f0 : (0 : Int) < (x.md.length : Int) := by omega
    have z0 : (x.fq == 5) = false := beq_eq_false_iff_ne.2 q5
    have f1 : (0 : Int) < (x.yd.length : Int) := by omega
    have HI : Hid (decide (4 ≤ x.fq ∧ x.fq ≤ 6) = true) := Lib.hid (decide_eq_true q46)
    obtain rfl : g1 = false := by rw [← HG1.out, g1B, decide_eq_true e0, decide_eq_false q5, decide_eq_true e1, decide_eq_true q46]; rfl
    go_wp2_with (go_at_call 42; first | (with_reducible refine (rin_to x.fq 4 6 _ _ HI.out).mono ?_; rintro e wq ⟨rfl, rfl⟩))
    go_meet
    exact ⟨rfl, rfl⟩
  case rest =>
  obtain ⟨rfl, hw⟩ := hcut
  subst hw
  cases g1 with
  | false =>
    have hr : ckB x = false := by rw [HQ.out, HG1.out]; rfl
    rw [HR.out] at hr
    subst hr
    go_wp2
    go_ret
    exact ⟨rfl, B.out⟩
  | true =>
  have HR2 : Hid (g2B x = r) := Lib.hid (by rw [← HR.out, HQ.out, HG1.out]; rfl)
  go_step
  go_step
  go_step
  go_step
  exact hK23 _ _ (rr23 x a6 a7 a8 a9 a10 a11 a12 a13 a14 c6 c7 c8 c9 c10 c11 c12 c13 c14 r w _ C B HL HR2 _ _ _ _ _ _ _ _ _ _ _ _ _ _ _ _ _ _ _ _ _ _ _ _ _ _ _ _ _ _ _ _ _ _ _ _ _ _ _ _ _ _ _ _ _ _ _ _ _ _ _ _ _ _ _ _ _ _ _ _ _ _ _ _ _ _ _ _ _ _ _ _ _ _ _ _ _ _ _ _ _ _ _ _ _ _ _ _ _ _ _ _ _ _ _ _ _ _ _ _ _ _ _ _ _ _ _ _ _ _ _ _ _ _ _ _ _ _ _ _ _ _ _ _ _ _ _ _ _ _ _ _ _ _ _ _ _ _ _ _ _ _ _ _ _ _ _ _ _ _ _ _ _ _ _ _ _ _ _ _ _ _ _ _ _ _ _ _ _ _ _ _ _ _ _ _ _ _ _ _ _ _ _ _ _ _ _ _ _ _ _ _ _ _ _ _ _ _ _ _ _ _ _ _ _ _ _ _ _ _ _ _ _ _ _ _ _ _ _ _ _ _ _ _ _ _ _ _ _ _ _ _ _ _ _ _ _ _ _ _ _ _ _ _ _ _ _ _ _ _ _ _ _ _ _ _ _ _ _ _ _ _ _ _ _ _ _ _ _ _ _ _ _ _ _ _ _ _ _ _ _ _ _ _ _ _)
set_option maxHeartbeats 25600000 in
set_option maxRecDepth 100000 in
theorem rr21_00 (x : CV) (a6 a7 a8 a9 a10 a11 a12 a13 a14 : Option Addr) (c6 c7 c8 c9 c10 c11 c12 c13 c14 : Nat) (r : Bool) (w w1 : World) (C : Hid (Cs w.heap.size w1 [.int .i64 x.fq, .int .i64 x.iv, .int .i64 x.ct, .bool x.un, .int .i64 x.ua, .bool x.ut, .slice a6 x.sc.length c6, .slice a7 x.mi.length c7, .slice a8 x.hr.length c8, .slice a9 x.dy.length c9, .slice a10 x.md.length c10, .slice a11 x.yd.length c11, .slice a12 x.wn.length c12, .slice a13 x.mo.length c13, .slice a14 x.sp.length c14, .int .i64 x.wk])) (B : Hid (Below w.heap.size w w1)) (HL : Hid (l1B x = false)) (e0 : ¬ 0 < x.md.length) (e1 : ¬ 0 < x.yd.length) (HQ : Hid (ckB x = (g1B x && g2B x))) (HR : Hid (ckB x = r))
    (z0 z2 z3 z4 z5 z6 z7 z8 z9 z10 z11 z12 z13 z14 z15 z16 z17 z18 z19 z20 z21 z22 z23 z24 z25 z26 z27 z28 z29 z30 z31 z32 z33 z34 z35 z36 z37 z38 z39 z40 z41 z42 z43 z44 z45 z46 z47 z48 z49 z50 z51 z52 z53 z54 z55 z56 z57 z58 z59 z60 z61 z62 z63 z64 z65 z66 z67 z68 z69 z70 z71 z72 z73 z74 z75 z76 z77 z78 z79 z80 z81 z82 z83 z84 z85 z86 z87 z88 z89 z90 z91 z92 z93 z94 z95 z96 z97 z98 z99 z100 z101 z102 z103 z104 z105 z106 z107 z108 z109 z110 z111 z112 z113 z114 z115 z116 z117 z118 z119 z120 z121 z122 z123 z124 z125 z126 z127 z128 z129 z130 z131 z132 z133 z134 z135 z136 z137 z138 z139 z140 z141 z142 z143 z144 z145 z146 z147 z148 z149 z150 z151 z152 z153 z154 z155 z156 z157 z158 z159 z160 z161 z162 z163 z164 z165 z166 z167 z168 z169 z170 z171 z172 z173 z174 z175 z176 z177 z178 z179 z180 z181 z182 z183 z184 z185 z186 z187 z188 z189 z190 z191 z192 z193 z194 z195 z196 z197 z198 z199 z200 z201 z202 z203 z204 z205 z206 z207 z208 z209 z210 z211 z212 z213 z214 z215 z216 z217 z218 z219 z220 z221 z222 z223 z224 z225 z226 z227 z228 z229 z230 z231 z232 z233 z234 z235 z236 z237 z238 z239 z240 z241 z242 z243 z244 z245 z246 z247 z248 z249 z250 z251 z252 z253 z254 z255 z256 z257 z258 z259 z260 z261 z262 z263 z264 z265 z266 z267 z268 z269 z270 z271 z272 z273 z274 z275 z276 z277 z278 z279 z280 z281 z282 z283 z284 z285 z286 : Value) : Code.wp Tryd.prog code21 (bodyPost Tryd.prog Tryd.f15 (fun e w' => e = .returned (.bool r) ∧ Below w.heap.size w w')) ⟨List.toArray (z0 :: .pointer (some ⟨w.heap.size, 0, none⟩) :: z2 :: z3 :: z4 :: z5 :: z6 :: z7 :: z8 :: z9 :: z10 :: z11 :: z12 :: z13 :: z14 :: z15 :: z16 :: z17 :: z18 :: z19 :: z20 :: z21 :: z22 :: z23 :: z24 :: z25 :: z26 :: z27 :: z28 :: z29 :: z30 :: z31 :: z32 :: z33 :: z34 :: z35 :: z36 :: z37 :: z38 :: z39 :: z40 :: z41 :: z42 :: z43 :: z44 :: z45 :: z46 :: z47 :: z48 :: z49 :: z50 :: z51 :: z52 :: z53 :: z54 :: z55 :: z56 :: z57 :: z58 :: z59 :: z60 :: z61 :: z62 :: z63 :: z64 :: z65 :: z66 :: z67 :: z68 :: z69 :: z70 :: z71 :: z72 :: z73 :: z74 :: z75 :: z76 :: z77 :: z78 :: z79 :: z80 :: z81 :: z82 :: z83 :: z84 :: z85 :: z86 :: z87 :: z88 :: z89 :: z90 :: z91 :: z92 :: z93 :: z94 :: z95 :: z96 :: z97 :: z98 :: z99 :: z100 :: z101 :: z102 :: z103 :: z104 :: z105 :: z106 :: z107 :: z108 :: z109 :: z110 :: z111 :: z112 :: z113 :: z114 :: z115 :: z116 :: z117 :: z118 :: z119 :: z120 :: z121 :: z122 :: z123 :: z124 :: z125 :: z126 :: z127 :: z128 :: z129 :: z130 :: z131 :: z132 :: z133 :: z134 :: z135 :: z136 :: z137 :: z138 :: z139 :: z140 :: z141 :: z142 :: z143 :: z144 :: z145 :: z146 :: z147 :: z148 :: z149 :: z150 :: z151 :: z152 :: z153 :: z154 :: z155 :: z156 :: z157 :: z158 :: z159 :: z160 :: z161 :: z162 :: z163 :: z164 :: z165 :: z166 :: z167 :: z168 :: z169 :: z170 :: z171 :: z172 :: z173 :: z174 :: z175 :: z176 :: z177 :: z178 :: z179 :: z180 :: z181 :: z182 :: z183 :: z184 :: z185 :: z186 :: z187 :: z188 :: z189 :: z190 :: z191 :: z192 :: z193 :: z194 :: z195 :: z196 :: z197 :: z198 :: z199 :: z200 :: z201 :: z202 :: z203 :: z204 :: z205 :: z206 :: z207 :: z208 :: z209 :: z210 :: z211 :: z212 :: z213 :: z214 :: z215 :: z216 :: z217 :: z218 :: z219 :: z220 :: z221 :: z222 :: z223 :: z224 :: z225 :: z226 :: z227 :: z228 :: z229 :: z230 :: z231 :: z232 :: z233 :: z234 :: z235 :: z236 :: z237 :: z238 :: z239 :: z240 :: z241 :: z242 :: z243 :: z244 :: z245 :: z246 :: z247 :: z248 :: z249 :: z250 :: z251 :: z252 :: z253 :: z254 :: z255 :: z256 :: z257 :: z258 :: z259 :: z260 :: z261 :: z262 :: z263 :: z264 :: z265 :: z266 :: z267 :: z268 :: z269 :: z270 :: z271 :: z272 :: z273 :: z274 :: z275 :: z276 :: z277 :: z278 :: z279 :: z280 :: z281 :: z282 :: z283 :: z284 :: z285 :: z286 :: []), []⟩ w1 := by
  conv => arg 2; whnf
  obtain ⟨g1, hg1⟩ : ∃ g, g1B x = g := ⟨_, rfl⟩
  have HG1 := Lib.hid hg1
  clear hg1
  go_upto_region 21 with fail
  rename_i K23 hK23 Kc hKc
  go_cut [248] (fun v wz => v = .bool (!g1) ∧ w1 = wz)
  case first =>
    have m0 := (C.out.2 0 _ rfl).1
    have m10 := (C.out.2 10 _ rfl).1
    have m11 := (C.out.2 11 _ rfl).1
    have m12 := (C.out.2 12 _ rfl).1
    have f0 : ¬ (0 : Int) < (x.md.length : Int) := by omega
    have f1 : ¬ (0 : Int) < (x.yd.length : Int) := by omega
    have HI : Hid (decide (4 ≤ x.fq ∧ x.fq ≤ 6) = decide (4 ≤ x.fq ∧ x.fq ≤ 6)) := Lib.hid rfl
    by_cases e2 : 0 < x.wn.length
    · by_cases q7 : x.fq ≠ 7
      · have f2 : (0 : Int) < (x.wn.length : Int) := by omega
        have z2 : (x.fq == 7) = false := beq_eq_false_iff_ne.2 q7
        have z3 : (x.fq != 7) = true := by rw [bne, z2]; rfl
        obtain rfl : g1 = false := by rw [← HG1.out, g1B, decide_eq_false e0, decide_eq_false e1, decide_eq_true e2, decide_eq_true q7]; rfl
        go_wp2_with (go_at_call 42; first | (with_reducible refine (rin_to x.fq 4 6 _ _ HI.out).mono ?_; rintro e wq ⟨rfl, rfl⟩))
        go_meet
        exact ⟨rfl, rfl⟩
      · have f2 : (0 : Int) < (x.wn.length : Int) := by omega
        have z2 : (x.fq == 7) = true := beq_iff_eq.2 (Classical.byContradiction q7)
        have z3 : (x.fq != 7) = false := by rw [bne, z2]; rfl
        obtain rfl : g1 = true := by rw [← HG1.out, g1B, decide_eq_false e0, decide_eq_false e1, decide_eq_true e2, decide_eq_false q7]; rfl
        go_wp2_with (go_at_call 42; first | (with_reducible refine (rin_to x.fq 4 6 _ _ HI.out).mono ?_; rintro e wq ⟨rfl, rfl⟩))
        go_meet
        exact ⟨rfl, rfl⟩
    · have f2 : ¬ (0 : Int) < (x.wn.length : Int) := by omega
      obtain rfl : g1 = true := by rw [← HG1.out, g1B, decide_eq_false e0, decide_eq_false e1, decide_eq_false e2]; rfl
      go_wp2_with (go_at_call 42; first | (with_reducible refine (rin_to x.fq 4 6 _ _ HI.out).mono ?_; rintro e wq ⟨rfl, rfl⟩))
      go_meet
      exact ⟨rfl, rfl⟩
  case rest =>
  obtain ⟨rfl, hw⟩ := hcut
  subst hw
  cases g1 with
  | false =>
    have hr : ckB x = false := by rw [HQ.out, HG1.out]; rfl
    rw [HR.out] at hr
    subst hr
    go_wp2
    go_ret
    exact ⟨rfl, B.out⟩
  | true =>
  have HR2 : Hid (g2B x = r) := Lib.hid (by rw [← HR.out, HQ.out, HG1.out]; rfl)
  go_step
  go_step
  go_step
  go_step
  exact hK23 _ _ (rr23 x a6 a7 a8 a9 a10 a11 a12 a13 a14 c6 c7 c8 c9 c10 c11 c12 c13 c14 r w _ C B HL HR2 _ _ _ _ _ _ _ _ _ _ _ _ _ _ _ _ _ _ _ _ _ _ _ _ _ _ _ _ _ _ _ _ _ _ _ _ _ _ _ _ _ _ _ _ _ _ _ _ _ _ _ _ _ _ _ _ _ _ _ _ _ _ _ _ _ _ _ _ _ _ _ _ _ _ _ _ _ _ _ _ _ _ _ _ _ _ _ _ _ _ _ _ _ _ _ _ _ _ _ _ _ _ _ _ _ _ _ _ _ _ _ _ _ _ _ _ _ _ _ _ _ _ _ _ _ _ _ _ _ _ _ _ _ _ _ _ _ _ _ _ _ _ _ _ _ _ _ _ _ _ _ _ _ _ _ _ _ _ _ _ _ _ _ _ _ _ _ _ _ _ _ _ _ _ _ _ _ _ _ _ _ _ _ _ _ _ _ _ _ _ _ _ _ _ _ _ _ _ _ _ _ _ _ _ _ _ _ _ _ _ _ _ _ _ _ _ _ _ _ _ _ _ _ _ _ _ _ _ _ _ _ _ _ _ _ _ _ _ _ _ _ _ _ _ _ _ _ _ _ _ _ _ _ _ _ _ _ _ _ _ _ _ _ _ _ _ _ _ _ _ _ _ _ _ _ _ _ _ _ _ _ _ _ _ _ _)
set_option maxHeartbeats 25600000 in
set_option maxRecDepth 100000 in
theorem rr21_02 (x : CV) (a6 a7 a8 a9 a10 a11 a12 a13 a14 : Option Addr) (c6 c7 c8 c9 c10 c11 c12 c13 c14 : Nat) (r : Bool) (w w1 : World) (C : Hid (Cs w.heap.size w1 [.int .i64 x.fq, .int .i64 x.iv, .int .i64 x.ct, .bool x.un, .int .i64 x.ua, .bool x.ut, .slice a6 x.sc.length c6, .slice a7 x.mi.length c7, .slice a8 x.hr.length c8, .slice a9 x.dy.length c9, .slice a10 x.md.length c10, .slice a11 x.yd.length c11, .slice a12 x.wn.length c12, .slice a13 x.mo.length c13, .slice a14 x.sp.length c14, .int .i64 x.wk])) (B : Hid (Below w.heap.size w w1)) (HL : Hid (l1B x = false)) (e0 : ¬ 0 < x.md.length) (e1 : 0 < x.yd.length) (q46 : ¬ (4 ≤ x.fq ∧ x.fq ≤ 6)) (HQ : Hid (ckB x = (g1B x && g2B x))) (HR : Hid (ckB x = r))
    (z0 z2 z3 z4 z5 z6 z7 z8 z9 z10 z11 z12 z13 z14 z15 z16 z17 z18 z19 z20 z21 z22 z23 z24 z25 z26 z27 z28 z29 z30 z31 z32 z33 z34 z35 z36 z37 z38 z39 z40 z41 z42 z43 z44 z45 z46 z47 z48 z49 z50 z51 z52 z53 z54 z55 z56 z57 z58 z59 z60 z61 z62 z63 z64 z65 z66 z67 z68 z69 z70 z71 z72 z73 z74 z75 z76 z77 z78 z79 z80 z81 z82 z83 z84 z85 z86 z87 z88 z89 z90 z91 z92 z93 z94 z95 z96 z97 z98 z99 z100 z101 z102 z103 z104 z105 z106 z107 z108 z109 z110 z111 z112 z113 z114 z115 z116 z117 z118 z119 z120 z121 z122 z123 z124 z125 z126 z127 z128 z129 z130 z131 z132 z133 z134 z135 z136 z137 z138 z139 z140 z141 z142 z143 z144 z145 z146 z147 z148 z149 z150 z151 z152 z153 z154 z155 z156 z157 z158 z159 z160 z161 z162 z163 z164 z165 z166 z167 z168 z169 z170 z171 z172 z173 z174 z175 z176 z177 z178 z179 z180 z181 z182 z183 z184 z185 z186 z187 z188 z189 z190 z191 z192 z193 z194 z195 z196 z197 z198 z199 z200 z201 z202 z203 z204 z205 z206 z207 z208 z209 z210 z211 z212 z213 z214 z215 z216 z217 z218 z219 z220 z221 z222 z223 z224 z225 z226 z227 z228 z229 z230 z231 z232 z233 z234 z235 z236 z237 z238 z239 z240 z241 z242 z243 z244 z245 z246 z247 z248 z249 z250 z251 z252 z253 z254 z255 z256 z257 z258 z259 z260 z261 z262 z263 z264 z265 z266 z267 z268 z269 z270 z271 z272 z273 z274 z275 z276 z277 z278 z279 z280 z281 z282 z283 z284 z285 z286 : Value) : Code.wp Tryd.prog code21 (bodyPost Tryd.prog Tryd.f15 (fun e w' => e = .returned (.bool r) ∧ Below w.heap.size w w')) ⟨List.toArray (z0 :: .pointer (some ⟨w.heap.size, 0, none⟩) :: z2 :: z3 :: z4 :: z5 :: z6 :: z7 :: z8 :: z9 :: z10 :: z11 :: z12 :: z13 :: z14 :: z15 :: z16 :: z17 :: z18 :: z19 :: z20 :: z21 :: z22 :: z23 :: z24 :: z25 :: z26 :: z27 :: z28 :: z29 :: z30 :: z31 :: z32 :: z33 :: z34 :: z35 :: z36 :: z37 :: z38 :: z39 :: z40 :: z41 :: z42 :: z43 :: z44 :: z45 :: z46 :: z47 :: z48 :: z49 :: z50 :: z51 :: z52 :: z53 :: z54 :: z55 :: z56 :: z57 :: z58 :: z59 :: z60 :: z61 :: z62 :: z63 :: z64 :: z65 :: z66 :: z67 :: z68 :: z69 :: z70 :: z71 :: z72 :: z73 :: z74 :: z75 :: z76 :: z77 :: z78 :: z79 :: z80 :: z81 :: z82 :: z83 :: z84 :: z85 :: z86 :: z87 :: z88 :: z89 :: z90 :: z91 :: z92 :: z93 :: z94 :: z95 :: z96 :: z97 :: z98 :: z99 :: z100 :: z101 :: z102 :: z103 :: z104 :: z105 :: z106 :: z107 :: z108 :: z109 :: z110 :: z111 :: z112 :: z113 :: z114 :: z115 :: z116 :: z117 :: z118 :: z119 :: z120 :: z121 :: z122 :: z123 :: z124 :: z125 :: z126 :: z127 :: z128 :: z129 :: z130 :: z131 :: z132 :: z133 :: z134 :: z135 :: z136 :: z137 :: z138 :: z139 :: z140 :: z141 :: z142 :: z143 :: z144 :: z145 :: z146 :: z147 :: z148 :: z149 :: z150 :: z151 :: z152 :: z153 :: z154 :: z155 :: z156 :: z157 :: z158 :: z159 :: z160 :: z161 :: z162 :: z163 :: z164 :: z165 :: z166 :: z167 :: z168 :: z169 :: z170 :: z171 :: z172 :: z173 :: z174 :: z175 :: z176 :: z177 :: z178 :: z179 :: z180 :: z181 :: z182 :: z183 :: z184 :: z185 :: z186 :: z187 :: z188 :: z189 :: z190 :: z191 :: z192 :: z193 :: z194 :: z195 :: z196 :: z197 :: z198 :: z199 :: z200 :: z201 :: z202 :: z203 :: z204 :: z205 :: z206 :: z207 :: z208 :: z209 :: z210 :: z211 :: z212 :: z213 :: z214 :: z215 :: z216 :: z217 :: z218 :: z219 :: z220 :: z221 :: z222 :: z223 :: z224 :: z225 :: z226 :: z227 :: z228 :: z229 :: z230 :: z231 :: z232 :: z233 :: z234 :: z235 :: z236 :: z237 :: z238 :: z239 :: z240 :: z241 :: z242 :: z243 :: z244 :: z245 :: z246 :: z247 :: z248 :: z249 :: z250 :: z251 :: z252 :: z253 :: z254 :: z255 :: z256 :: z257 :: z258 :: z259 :: z260 :: z261 :: z262 :: z263 :: z264 :: z265 :: z266 :: z267 :: z268 :: z269 :: z270 :: z271 :: z272 :: z273 :: z274 :: z275 :: z276 :: z277 :: z278 :: z279 :: z280 :: z281 :: z282 :: z283 :: z284 :: z285 :: z286 :: []), []⟩ w1 := by
  conv => arg 2; whnf
  obtain ⟨g1, hg1⟩ : ∃ g, g1B x = g := ⟨_, rfl⟩
  have HG1 := Lib.hid hg1
  clear hg1
  go_upto_region 21 with fail
  rename_i K23 hK23 Kc hKc
  go_cut [248] (fun v wz => v = .bool (!g1) ∧ w1 = wz)
  case first =>
    have m0 := (C.out.2 0 _ rfl).1
    have m10 := (C.out.2 10 _ rfl).1
    have m11 := (C.out.2 11 _ rfl).1
    have m12 := (C.out.2 12 _ rfl).1
    have f0 : ¬ (0 : Int) < (x.md.length : Int) := by omega
    have f1 : (0 : Int) < (x.yd.length : Int) := by omega
    have HI : Hid (decide (4 ≤ x.fq ∧ x.fq ≤ 6) = false) := Lib.hid (decide_eq_false q46)
    by_cases e2 : 0 < x.wn.length
    · by_cases q7 : x.fq ≠ 7
      · have f2 : (0 : Int) < (x.wn.length : Int) := by omega
        have z2 : (x.fq == 7) = false := beq_eq_false_iff_ne.2 q7
        have z3 : (x.fq != 7) = true := by rw [bne, z2]; rfl
        obtain rfl : g1 = false := by rw [← HG1.out, g1B, decide_eq_false e0, decide_eq_true e1, decide_eq_false q46, decide_eq_true e2, decide_eq_true q7]; rfl
        go_wp2_with (go_at_call 42; first | (with_reducible refine (rin_to x.fq 4 6 _ _ HI.out).mono ?_; rintro e wq ⟨rfl, rfl⟩))
        go_meet
        exact ⟨rfl, rfl⟩
      · have f2 : (0 : Int) < (x.wn.length : Int) := by omega
        have z2 : (x.fq == 7) = true := beq_iff_eq.2 (Classical.byContradiction q7)
        have z3 : (x.fq != 7) = false := by rw [bne, z2]; rfl
        obtain rfl : g1 = true := by rw [← HG1.out, g1B, decide_eq_false e0, decide_eq_true e1, decide_eq_false q46, decide_eq_true e2, decide_eq_false q7]; rfl
        go_wp2_with (go_at_call 42; first | (with_reducible refine (rin_to x.fq 4 6 _ _ HI.out).mono ?_; rintro e wq ⟨rfl, rfl⟩))
        go_meet
        exact ⟨rfl, rfl⟩
    · have f2 : ¬ (0 : Int) < (x.wn.length : Int) := by omega
      obtain rfl : g1 = true := by rw [← HG1.out, g1B, decide_eq_false e0, decide_eq_true e1, decide_eq_false q46, decide_eq_false e2]; rfl
      go_wp2_with (go_at_call 42; first | (with_reducible refine (rin_to x.fq 4 6 _ _ HI.out).mono ?_; rintro e wq ⟨rfl, rfl⟩))
      go_meet
      exact ⟨rfl, rfl⟩
  case rest =>
  obtain ⟨rfl, hw⟩ := hcut
  subst hw
  cases g1 with
  | false =>
    have hr : ckB x = false := by rw [HQ.out, HG1.out]; rfl
    rw [HR.out] at hr
    subst hr
    go_wp2
    go_ret
    exact ⟨rfl, B.out⟩
  | true =>
  have HR2 : Hid (g2B x = r) := Lib.hid (by rw [← HR.out, HQ.out, HG1.out]; rfl)
  go_step
  go_step
  go_step
  go_step
  exact hK23 _ _ (rr23 x a6 a7 a8 a9 a10 a11 a12 a13 a14 c6 c7 c8 c9 c10 c11 c12 c13 c14 r w _ C B HL HR2 _ _ _ _ _ _ _ _ _ _ _ _ _ _ _ _ _ _ _ _ _ _ _ _ _ _ _ _ _ _ _ _ _ _ _ _ _ _ _ _ _ _ _ _ _ _ _ _ _ _ _ _ _ _ _ _ _ _ _ _ _ _ _ _ _ _ _ _ _ _ _ _ _ _ _ _ _ _ _ _ _ _ _ _ _ _ _ _ _ _ _ _ _ _ _ _ _ _ _ _ _ _ _ _ _ _ _ _ _ _ _ _ _ _ _ _ _ _ _ _ _ _ _ _ _ _ _ _ _ _ _ _ _ _ _ _ _ _ _ _ _ _ _ _ _ _ _ _ _ _ _ _ _ _ _ _ _ _ _ _ _ _ _ _ _ _ _ _ _ _ _ _ _ _ _ _ _ _ _ _ _ _ _ _ _ _ _ _ _ _ _ _ _ _ _ _ _ _ _ _ _ _ _ _ _ _ _ _ _ _ _ _ _ _ _ _ _ _ _ _ _ _ _ _ _ _ _ _ _ _ _ _ _ _ _ _ _ _ _ _ _ _ _ _ _ _ _ _ _ _ _ _ _ _ _ _ _ _ _ _ _ _ _ _ _ _ _ _ _ _ _ _ _ _ _ _ _ _ _ _ _ _ _ _ _ _)
set_option maxHeartbeats 25600000 in
set_option maxRecDepth 100000 in
theorem rr21_20 (x : CV) (a6 a7 a8 a9 a10 a11 a12 a13 a14 : Option Addr) (c6 c7 c8 c9 c10 c11 c12 c13 c14 : Nat) (r : Bool) (w w1 : World) (C : Hid (Cs w.heap.size w1 [.int .i64 x.fq, .int .i64 x.iv, .int .i64 x.ct, .bool x.un, .int .i64 x.ua, .bool x.ut, .slice a6 x.sc.length c6, .slice a7 x.mi.length c7, .slice a8 x.hr.length c8, .slice a9 x.dy.length c9, .slice a10 x.md.length c10, .slice a11 x.yd.length c11, .slice a12 x.wn.length c12, .slice a13 x.mo.length c13, .slice a14 x.sp.length c14, .int .i64 x.wk])) (B : Hid (Below w.heap.size w w1)) (HL : Hid (l1B x = false)) (e0 : 0 < x.md.length) (q5 : ¬ (x.fq = 5)) (e1 : ¬ 0 < x.yd.length) (HQ : Hid (ckB x = (g1B x && g2B x))) (HR : Hid (ckB x = r))
    (z0 z2 z3 z4 z5 z6 z7 z8 z9 z10 z11 z12 z13 z14 z15 z16 z17 z18 z19 z20 z21 z22 z23 z24 z25 z26 z27 z28 z29 z30 z31 z32 z33 z34 z35 z36 z37 z38 z39 z40 z41 z42 z43 z44 z45 z46 z47 z48 z49 z50 z51 z52 z53 z54 z55 z56 z57 z58 z59 z60 z61 z62 z63 z64 z65 z66 z67 z68 z69 z70 z71 z72 z73 z74 z75 z76 z77 z78 z79 z80 z81 z82 z83 z84 z85 z86 z87 z88 z89 z90 z91 z92 z93 z94 z95 z96 z97 z98 z99 z100 z101 z102 z103 z104 z105 z106 z107 z108 z109 z110 z111 z112 z113 z114 z115 z116 z117 z118 z119 z120 z121 z122 z123 z124 z125 z126 z127 z128 z129 z130 z131 z132 z133 z134 z135 z136 z137 z138 z139 z140 z141 z142 z143 z144 z145 z146 z147 z148 z149 z150 z151 z152 z153 z154 z155 z156 z157 z158 z159 z160 z161 z162 z163 z164 z165 z166 z167 z168 z169 z170 z171 z172 z173 z174 z175 z176 z177 z178 z179 z180 z181 z182 z183 z184 z185 z186 z187 z188 z189 z190 z191 z192 z193 z194 z195 z196 z197 z198 z199 z200 z201 z202 z203 z204 z205 z206 z207 z208 z209 z210 z211 z212 z213 z214 z215 z216 z217 z218 z219 z220 z221 z222 z223 z224 z225 z226 z227 z228 z229 z230 z231 z232 z233 z234 z235 z236 z237 z238 z239 z240 z241 z242 z243 z244 z245 z246 z247 z248 z249 z250 z251 z252 z253 z254 z255 z256 z257 z258 z259 z260 z261 z262 z263 z264 z265 z266 z267 z268 z269 z270 z271 z272 z273 z274 z275 z276 z277 z278 z279 z280 z281 z282 z283 z284 z285 z286 : Value) : Code.wp Tryd.prog code21 (bodyPost Tryd.prog Tryd.f15 (fun e w' => e = .returned (.bool r) ∧ Below w.heap.size w w')) ⟨List.toArray (z0 :: .pointer (some ⟨w.heap.size, 0, none⟩) :: z2 :: z3 :: z4 :: z5 :: z6 :: z7 :: z8 :: z9 :: z10 :: z11 :: z12 :: z13 :: z14 :: z15 :: z16 :: z17 :: z18 :: z19 :: z20 :: z21 :: z22 :: z23 :: z24 :: z25 :: z26 :: z27 :: z28 :: z29 :: z30 :: z31 :: z32 :: z33 :: z34 :: z35 :: z36 :: z37 :: z38 :: z39 :: z40 :: z41 :: z42 :: z43 :: z44 :: z45 :: z46 :: z47 :: z48 :: z49 :: z50 :: z51 :: z52 :: z53 :: z54 :: z55 :: z56 :: z57 :: z58 :: z59 :: z60 :: z61 :: z62 :: z63 :: z64 :: z65 :: z66 :: z67 :: z68 :: z69 :: z70 :: z71 :: z72 :: z73 :: z74 :: z75 :: z76 :: z77 :: z78 :: z79 :: z80 :: z81 :: z82 :: z83 :: z84 :: z85 :: z86 :: z87 :: z88 :: z89 :: z90 :: z91 :: z92 :: z93 :: z94 :: z95 :: z96 :: z97 :: z98 :: z99 :: z100 :: z101 :: z102 :: z103 :: z104 :: z105 :: z106 :: z107 :: z108 :: z109 :: z110 :: z111 :: z112 :: z113 :: z114 :: z115 :: z116 :: z117 :: z118 :: z119 :: z120 :: z121 :: z122 :: z123 :: z124 :: z125 :: z126 :: z127 :: z128 :: z129 :: z130 :: z131 :: z132 :: z133 :: z134 :: z135 :: z136 :: z137 :: z138 :: z139 :: z140 :: z141 :: z142 :: z143 :: z144 :: z145 :: z146 :: z147 :: z148 :: z149 :: z150 :: z151 :: z152 :: z153 :: z154 :: z155 :: z156 :: z157 :: z158 :: z159 :: z160 :: z161 :: z162 :: z163 :: z164 :: z165 :: z166 :: z167 :: z168 :: z169 :: z170 :: z171 :: z172 :: z173 :: z174 :: z175 :: z176 :: z177 :: z178 :: z179 :: z180 :: z181 :: z182 :: z183 :: z184 :: z185 :: z186 :: z187 :: z188 :: z189 :: z190 :: z191 :: z192 :: z193 :: z194 :: z195 :: z196 :: z197 :: z198 :: z199 :: z200 :: z201 :: z202 :: z203 :: z204 :: z205 :: z206 :: z207 :: z208 :: z209 :: z210 :: z211 :: z212 :: z213 :: z214 :: z215 :: z216 :: z217 :: z218 :: z219 :: z220 :: z221 :: z222 :: z223 :: z224 :: z225 :: z226 :: z227 :: z228 :: z229 :: z230 :: z231 :: z232 :: z233 :: z234 :: z235 :: z236 :: z237 :: z238 :: z239 :: z240 :: z241 :: z242 :: z243 :: z244 :: z245 :: z246 :: z247 :: z248 :: z249 :: z250 :: z251 :: z252 :: z253 :: z254 :: z255 :: z256 :: z257 :: z258 :: z259 :: z260 :: z261 :: z262 :: z263 :: z264 :: z265 :: z266 :: z267 :: z268 :: z269 :: z270 :: z271 :: z272 :: z273 :: z274 :: z275 :: z276 :: z277 :: z278 :: z279 :: z280 :: z281 :: z282 :: z283 :: z284 :: z285 :: z286 :: []), []⟩ w1 := by
  conv => arg 2; whnf
  obtain ⟨g1, hg1⟩ : ∃ g, g1B x = g := ⟨_, rfl⟩
  have HG1 := Lib.hid hg1
  clear hg1
  go_upto_region 21 with fail
  rename_i K23 hK23 Kc hKc
  go_cut [248] (fun v wz => v = .bool (!g1) ∧ w1 = wz)
  case first =>
    have m0 := (C.out.2 0 _ rfl).1
    have m10 := (C.out.2 10 _ rfl).1
    have m11 := (C.out.2 11 _ rfl).1
    have m12 := (C.out.2 12 _ rfl).1
    have f0 : (0 : Int) < (x.md.length : Int) := by omega
    have z0 : (x.fq == 5) = false := beq_eq_false_iff_ne.2 q5
    have f1 : ¬ (0 : Int) < (x.yd.length : Int) := by omega
    have HI : Hid (decide (4 ≤ x.fq ∧ x.fq ≤ 6) = decide (4 ≤ x.fq ∧ x.fq ≤ 6)) := Lib.hid rfl
    by_cases e2 : 0 < x.wn.length
    · by_cases q7 : x.fq ≠ 7
      · have f2 : (0 : Int) < (x.wn.length : Int) := by omega
        have z2 : (x.fq == 7) = false := beq_eq_false_iff_ne.2 q7
        have z3 : (x.fq != 7) = true := by rw [bne, z2]; rfl
        obtain rfl : g1 = false := by rw [← HG1.out, g1B, decide_eq_true e0, decide_eq_false q5, decide_eq_false e1, decide_eq_true e2, decide_eq_true q7]; rfl
        go_wp2_with (go_at_call 42; first | (with_reducible refine (rin_to x.fq 4 6 _ _ HI.out).mono ?_; rintro e wq ⟨rfl, rfl⟩))
        go_meet
        exact ⟨rfl, rfl⟩
      · have f2 : (0 : Int) < (x.wn.length : Int) := by omega
        have z2 : (x.fq == 7) = true := beq_iff_eq.2 (Classical.byContradiction q7)
        have z3 : (x.fq != 7) = false := by rw [bne, z2]; rfl
        obtain rfl : g1 = true := by rw [← HG1.out, g1B, decide_eq_true e0, decide_eq_false q5, decide_eq_false e1, decide_eq_true e2, decide_eq_false q7]; rfl
        go_wp2_with (go_at_call 42; first | (with_reducible refine (rin_to x.fq 4 6 _ _ HI.out).mono ?_; rintro e wq ⟨rfl, rfl⟩))
        go_meet
        exact ⟨rfl, rfl⟩
    · have f2 : ¬ (0 : Int) < (x.wn.length : Int) := by omega
      obtain rfl : g1 = true := by rw [← HG1.out, g1B, decide_eq_true e0, decide_eq_false q5, decide_eq_false e1, decide_eq_false e2]; rfl
      go_wp2_with (go_at_call 42; first | (with_reducible refine (rin_to x.fq 4 6 _ _ HI.out).mono ?_; rintro e wq ⟨rfl, rfl⟩))
      go_meet
      exact ⟨rfl, rfl⟩
  case rest =>
  obtain ⟨rfl, hw⟩ := hcut
  subst hw
  cases g1 with
  | false =>
    have hr : ckB x = false := by rw [HQ.out, HG1.out]; rfl
    rw [HR.out] at hr
    subst hr
    go_wp2
    go_ret
    exact ⟨rfl, B.out⟩
  | true =>
  have HR2 : Hid (g2B x = r) := Lib.hid (by rw [← HR.out, HQ.out, HG1.out]; rfl)
  go_step
  go_step
  go_step
  go_step
  exact hK23 _ _ (rr23 x a6 a7 a8 a9 a10 a11 a12 a13 a14 c6 c7 c8 c9 c10 c11 c12 c13 c14 r w _ C B HL HR2 _ _ _ _ _ _ _ _ _ _ _ _ _ _ _ _ _ _ _ _ _ _ _ _ _ _ _ _ _ _ _ _ _ _ _ _ _ _ _ _ _ _ _ _ _ _ _ _ _ _ _ _ _ _ _ _ _ _ _ _ _ _ _ _ _ _ _ _ _ _ _ _ _ _ _ _ _ _ _ _ _ _ _ _ _ _ _ _ _ _ _ _ _ _ _ _ _ _ _ _ _ _ _ _ _ _ _ _ _ _ _ _ _ _ _ _ _ _ _ _ _ _ _ _ _ _ _ _ _ _ _ _ _ _ _ _ _ _ _ _ _ _ _ _ _ _ _ _ _ _ _ _ _ _ _ _ _ _ _ _ _ _ _ _ _ _ _ _ _ _ _ _ _ _ _ _ _ _ _ _ _ _ _ _ _ _ _ _ _ _ _ _ _ _ _ _ _ _ _ _ _ _ _ _ _ _ _ _ _ _ _ _ _ _ _ _ _ _ _ _ _ _ _ _ _ _ _ _ _ _ _ _ _ _ _ _ _ _ _ _ _ _ _ _ _ _ _ _ _ _ _ _ _ _ _ _ _ _ _ _ _ _ _ _ _ _ _ _ _ _ _ _ _ _ _ _ _ _ _ _ _ _ _ _ _ _)
set_option maxHeartbeats 25600000 in
set_option maxRecDepth 100000 in
theorem rr21_22 (x : CV) (a6 a7 a8 a9 a10 a11 a12 a13 a14 : Option Addr) (c6 c7 c8 c9 c10 c11 c12 c13 c14 : Nat) (r : Bool) (w w1 : World) (C : Hid (Cs w.heap.size w1 [.int .i64 x.fq, .int .i64 x.iv, .int .i64 x.ct, .bool x.un, .int .i64 x.ua, .bool x.ut, .slice a6 x.sc.length c6, .slice a7 x.mi.length c7, .slice a8 x.hr.length c8, .slice a9 x.dy.length c9, .slice a10 x.md.length c10, .slice a11 x.yd.length c11, .slice a12 x.wn.length c12, .slice a13 x.mo.length c13, .slice a14 x.sp.length c14, .int .i64 x.wk])) (B : Hid (Below w.heap.size w w1)) (HL : Hid (l1B x = false)) (e0 : 0 < x.md.length) (q5 : ¬ (x.fq = 5)) (e1 : 0 < x.yd.length) (q46 : ¬ (4 ≤ x.fq ∧ x.fq ≤ 6)) (HQ : Hid (ckB x = (g1B x && g2B x))) (HR : Hid (ckB x = r))
    (z0 z2 z3 z4 z5 z6 z7 z8 z9 z10 z11 z12 z13 z14 z15 z16 z17 z18 z19 z20 z21 z22 z23 z24 z25 z26 z27 z28 z29 z30 z31 z32 z33 z34 z35 z36 z37 z38 z39 z40 z41 z42 z43 z44 z45 z46 z47 z48 z49 z50 z51 z52 z53 z54 z55 z56 z57 z58 z59 z60 z61 z62 z63 z64 z65 z66 z67 z68 z69 z70 z71 z72 z73 z74 z75 z76 z77 z78 z79 z80 z81 z82 z83 z84 z85 z86 z87 z88 z89 z90 z91 z92 z93 z94 z95 z96 z97 z98 z99 z100 z101 z102 z103 z104 z105 z106 z107 z108 z109 z110 z111 z112 z113 z114 z115 z116 z117 z118 z119 z120 z121 z122 z123 z124 z125 z126 z127 z128 z129 z130 z131 z132 z133 z134 z135 z136 z137 z138 z139 z140 z141 z142 z143 z144 z145 z146 z147 z148 z149 z150 z151 z152 z153 z154 z155 z156 z157 z158 z159 z160 z161 z162 z163 z164 z165 z166 z167 z168 z169 z170 z171 z172 z173 z174 z175 z176 z177 z178 z179 z180 z181 z182 z183 z184 z185 z186 z187 z188 z189 z190 z191 z192 z193 z194 z195 z196 z197 z198 z199 z200 z201 z202 z203 z204 z205 z206 z207 z208 z209 z210 z211 z212 z213 z214 z215 z216 z217 z218 z219 z220 z221 z222 z223 z224 z225 z226 z227 z228 z229 z230 z231 z232 z233 z234 z235 z236 z237 z238 z239 z240 z241 z242 z243 z244 z245 z246 z247 z248 z249 z250 z251 z252 z253 z254 z255 z256 z257 z258 z259 z260 z261 z262 z263 z264 z265 z266 z267 z268 z269 z270 z271 z272 z273 z274 z275 z276 z277 z278 z279 z280 z281 z282 z283 z284 z285 z286 : Value) : Code.wp Tryd.prog code21 (bodyPost Tryd.prog Tryd.f15 (fun e w' => e = .returned (.bool r) ∧ Below w.heap.size w w')) ⟨List.toArray (z0 :: .pointer (some ⟨w.heap.size, 0, none⟩) :: z2 :: z3 :: z4 :: z5 :: z6 :: z7 :: z8 :: z9 :: z10 :: z11 :: z12 :: z13 :: z14 :: z15 :: z16 :: z17 :: z18 :: z19 :: z20 :: z21 :: z22 :: z23 :: z24 :: z25 :: z26 :: z27 :: z28 :: z29 :: z30 :: z31 :: z32 :: z33 :: z34 :: z35 :: z36 :: z37 :: z38 :: z39 :: z40 :: z41 :: z42 :: z43 :: z44 :: z45 :: z46 :: z47 :: z48 :: z49 :: z50 :: z51 :: z52 :: z53 :: z54 :: z55 :: z56 :: z57 :: z58 :: z59 :: z60 :: z61 :: z62 :: z63 :: z64 :: z65 :: z66 :: z67 :: z68 :: z69 :: z70 :: z71 :: z72 :: z73 :: z74 :: z75 :: z76 :: z77 :: z78 :: z79 :: z80 :: z81 :: z82 :: z83 :: z84 :: z85 :: z86 :: z87 :: z88 :: z89 :: z90 :: z91 :: z92 :: z93 :: z94 :: z95 :: z96 :: z97 :: z98 :: z99 :: z100 :: z101 :: z102 :: z103 :: z104 :: z105 :: z106 :: z107 :: z108 :: z109 :: z110 :: z111 :: z112 :: z113 :: z114 :: z115 :: z116 :: z117 :: z118 :: z119 :: z120 :: z121 :: z122 :: z123 :: z124 :: z125 :: z126 :: z127 :: z128 :: z129 :: z130 :: z131 :: z132 :: z133 :: z134 :: z135 :: z136 :: z137 :: z138 :: z139 :: z140 :: z141 :: z142 :: z143 :: z144 :: z145 :: z146 :: z147 :: z148 :: z149 :: z150 :: z151 :: z152 :: z153 :: z154 :: z155 :: z156 :: z157 :: z158 :: z159 :: z160 :: z161 :: z162 :: z163 :: z164 :: z165 :: z166 :: z167 :: z168 :: z169 :: z170 :: z171 :: z172 :: z173 :: z174 :: z175 :: z176 :: z177 :: z178 :: z179 :: z180 :: z181 :: z182 :: z183 :: z184 :: z185 :: z186 :: z187 :: z188 :: z189 :: z190 :: z191 :: z192 :: z193 :: z194 :: z195 :: z196 :: z197 :: z198 :: z199 :: z200 :: z201 :: z202 :: z203 :: z204 :: z205 :: z206 :: z207 :: z208 :: z209 :: z210 :: z211 :: z212 :: z213 :: z214 :: z215 :: z216 :: z217 :: z218 :: z219 :: z220 :: z221 :: z222 :: z223 :: z224 :: z225 :: z226 :: z227 :: z228 :: z229 :: z230 :: z231 :: z232 :: z233 :: z234 :: z235 :: z236 :: z237 :: z238 :: z239 :: z240 :: z241 :: z242 :: z243 :: z244 :: z245 :: z246 :: z247 :: z248 :: z249 :: z250 :: z251 :: z252 :: z253 :: z254 :: z255 :: z256 :: z257 :: z258 :: z259 :: z260 :: z261 :: z262 :: z263 :: z264 :: z265 :: z266 :: z267 :: z268 :: z269 :: z270 :: z271 :: z272 :: z273 :: z274 :: z275 :: z276 :: z277 :: z278 :: z279 :: z280 :: z281 :: z282 :: z283 :: z284 :: z285 :: z286 :: []), []⟩ w1 := by
  conv => arg 2; whnf
  obtain ⟨g1, hg1⟩ : ∃ g, g1B x = g := ⟨_, rfl⟩
  have HG1 := Lib.hid hg1
  clear hg1
  go_upto_region 21 with fail
  rename_i K23 hK23 Kc hKc
  go_cut [248] (fun v wz => v = .bool (!g1) ∧ w1 = wz)
  case first =>
    have m0 := (C.out.2 0 _ rfl).1
    have m10 := (C.out.2 10 _ rfl).1
    have m11 := (C.out.2 11 _ rfl).1
    have m12 := (C.out.2 12 _ rfl).1
    have f0 : (0 : Int) < (x.md.length : Int) := by omega
    have z0 : (x.fq == 5) = false := beq_eq_false_iff_ne.2 q5
    have f1 : (0 : Int) < (x.yd.length : Int) := by omega
    have HI : Hid (decide (4 ≤ x.fq ∧ x.fq ≤ 6) = false) := Lib.hid (decide_eq_false q46)
    by_cases e2 : 0 < x.wn.length
    · by_cases q7 : x.fq ≠ 7
      · have f2 : (0 : Int) < (x.wn.length : Int) := by omega
        have z2 : (x.fq == 7) = false := beq_eq_false_iff_ne.2 q7
        have z3 : (x.fq != 7) = true := by rw [bne, z2]; rfl
        obtain rfl : g1 = false := by rw [← HG1.out, g1B, decide_eq_true e0, decide_eq_false q5, decide_eq_true e1, decide_eq_false q46, decide_eq_true e2, decide_eq_true q7]; rfl
        go_wp2_with (go_at_call 42; first | (with_reducible refine (rin_to x.fq 4 6 _ _ HI.out).mono ?_; rintro e wq ⟨rfl, rfl⟩))
        go_meet
        exact ⟨rfl, rfl⟩
      · have f2 : (0 : Int) < (x.wn.length : Int) := by omega
        have z2 : (x.fq == 7) = true := beq_iff_eq.2 (Classical.byContradiction q7)
        have z3 : (x.fq != 7) = false := by rw [bne, z2]; rfl
        obtain rfl : g1 = true := by rw [← HG1.out, g1B, decide_eq_true e0, decide_eq_false q5, decide_eq_true e1, decide_eq_false q46, decide_eq_true e2, decide_eq_false q7]; rfl
        go_wp2_with (go_at_call 42; first | (with_reducible refine (rin_to x.fq 4 6 _ _ HI.out).mono ?_; rintro e wq ⟨rfl, rfl⟩))
        go_meet
        exact ⟨rfl, rfl⟩
    · have f2 : ¬ (0 : Int) < (x.wn.length : Int) := by omega
      obtain rfl : g1 = true := by rw [← HG1.out, g1B, decide_eq_true e0, decide_eq_false q5, decide_eq_true e1, decide_eq_false q46, decide_eq_false e2]; rfl
      go_wp2_with (go_at_call 42; first | (with_reducible refine (rin_to x.fq 4 6 _ _ HI.out).mono ?_; rintro e wq ⟨rfl, rfl⟩))
      go_meet
      exact ⟨rfl, rfl⟩
  case rest =>
  obtain ⟨rfl, hw⟩ := hcut
  subst hw
  cases g1 with
  | false =>
    have hr : ckB x = false := by rw [HQ.out, HG1.out]; rfl
    rw [HR.out] at hr
    subst hr
    go_wp2
    go_ret
    exact ⟨rfl, B.out⟩
  | true =>
  have HR2 : Hid (g2B x = r) := Lib.hid (by rw [← HR.out, HQ.out, HG1.out]; rfl)
  go_step
  go_step
  go_step
  go_step
  exact hK23 _ _ (rr23 x a6 a7 a8 a9 a10 a11 a12 a13 a14 c6 c7 c8 c9 c10 c11 c12 c13 c14 r w _ C B HL HR2 _ _ _ _ _ _ _ _ _ _ _ _ _ _ _ _ _ _ _ _ _ _ _ _ _ _ _ _ _ _ _ _ _ _ _ _ _ _ _ _ _ _ _ _ _ _ _ _ _ _ _ _ _ _ _ _ _ _ _ _ _ _ _ _ _ _ _ _ _ _ _ _ _ _ _ _ _ _ _ _ _ _ _ _ _ _ _ _ _ _ _ _ _ _ _ _ _ _ _ _ _ _ _ _ _ _ _ _ _ _ _ _ _ _ _ _ _ _ _ _ _ _ _ _ _ _ _ _ _ _ _ _ _ _ _ _ _ _ _ _ _ _ _ _ _ _ _ _ _ _ _ _ _ _ _ _ _ _ _ _ _ _ _ _ _ _ _ _ _ _ _ _ _ _ _ _ _ _ _ _ _ _ _ _ _ _ _ _ _ _ _ _ _ _ _ _ _ _ _ _ _ _ _ _ _ _ _ _ _ _ _ _ _ _ _ _ _ _ _ _ _ _ _ _ _ _ _ _ _ _ _ _ _ _ _ _ _ _ _ _ _ _ _ _ _ _ _ _ _ _ _ _ _ _ _ _ _ _ _ _ _ _ _ _ _ _ _ _ _ _ _ _ _ _ _ _ _ _ _ _ _ _ _ _ _ _)
set_option maxHeartbeats 25600000 in
set_option maxRecDepth 100000 in
theorem rr21 (x : CV) (a6 a7 a8 a9 a10 a11 a12 a13 a14 : Option Addr) (c6 c7 c8 c9 c10 c11 c12 c13 c14 : Nat) (r : Bool) (w w1 : World) (C : Hid (Cs w.heap.size w1 [.int .i64 x.fq, .int .i64 x.iv, .int .i64 x.ct, .bool x.un, .int .i64 x.ua, .bool x.ut, .slice a6 x.sc.length c6, .slice a7 x.mi.length c7, .slice a8 x.hr.length c8, .slice a9 x.dy.length c9, .slice a10 x.md.length c10, .slice a11 x.yd.length c11, .slice a12 x.wn.length c12, .slice a13 x.mo.length c13, .slice a14 x.sp.length c14, .int .i64 x.wk])) (B : Hid (Below w.heap.size w w1)) (HL : Hid (l1B x = false)) (HQ : Hid (ckB x = (g1B x && g2B x))) (HR : Hid (ckB x = r))
    (z0 z2 z3 z4 z5 z6 z7 z8 z9 z10 z11 z12 z13 z14 z15 z16 z17 z18 z19 z20 z21 z22 z23 z24 z25 z26 z27 z28 z29 z30 z31 z32 z33 z34 z35 z36 z37 z38 z39 z40 z41 z42 z43 z44 z45 z46 z47 z48 z49 z50 z51 z52 z53 z54 z55 z56 z57 z58 z59 z60 z61 z62 z63 z64 z65 z66 z67 z68 z69 z70 z71 z72 z73 z74 z75 z76 z77 z78 z79 z80 z81 z82 z83 z84 z85 z86 z87 z88 z89 z90 z91 z92 z93 z94 z95 z96 z97 z98 z99 z100 z101 z102 z103 z104 z105 z106 z107 z108 z109 z110 z111 z112 z113 z114 z115 z116 z117 z118 z119 z120 z121 z122 z123 z124 z125 z126 z127 z128 z129 z130 z131 z132 z133 z134 z135 z136 z137 z138 z139 z140 z141 z142 z143 z144 z145 z146 z147 z148 z149 z150 z151 z152 z153 z154 z155 z156 z157 z158 z159 z160 z161 z162 z163 z164 z165 z166 z167 z168 z169 z170 z171 z172 z173 z174 z175 z176 z177 z178 z179 z180 z181 z182 z183 z184 z185 z186 z187 z188 z189 z190 z191 z192 z193 z194 z195 z196 z197 z198 z199 z200 z201 z202 z203 z204 z205 z206 z207 z208 z209 z210 z211 z212 z213 z214 z215 z216 z217 z218 z219 z220 z221 z222 z223 z224 z225 z226 z227 z228 z229 z230 z231 z232 z233 z234 z235 z236 z237 z238 z239 z240 z241 z242 z243 z244 z245 z246 z247 z248 z249 z250 z251 z252 z253 z254 z255 z256 z257 z258 z259 z260 z261 z262 z263 z264 z265 z266 z267 z268 z269 z270 z271 z272 z273 z274 z275 z276 z277 z278 z279 z280 z281 z282 z283 z284 z285 z286 : Value) : Code.wp Tryd.prog code21 (bodyPost Tryd.prog Tryd.f15 (fun e w' => e = .returned (.bool r) ∧ Below w.heap.size w w')) ⟨List.toArray (z0 :: .pointer (some ⟨w.heap.size, 0, none⟩) :: z2 :: z3 :: z4 :: z5 :: z6 :: z7 :: z8 :: z9 :: z10 :: z11 :: z12 :: z13 :: z14 :: z15 :: z16 :: z17 :: z18 :: z19 :: z20 :: z21 :: z22 :: z23 :: z24 :: z25 :: z26 :: z27 :: z28 :: z29 :: z30 :: z31 :: z32 :: z33 :: z34 :: z35 :: z36 :: z37 :: z38 :: z39 :: z40 :: z41 :: z42 :: z43 :: z44 :: z45 :: z46 :: z47 :: z48 :: z49 :: z50 :: z51 :: z52 :: z53 :: z54 :: z55 :: z56 :: z57 :: z58 :: z59 :: z60 :: z61 :: z62 :: z63 :: z64 :: z65 :: z66 :: z67 :: z68 :: z69 :: z70 :: z71 :: z72 :: z73 :: z74 :: z75 :: z76 :: z77 :: z78 :: z79 :: z80 :: z81 :: z82 :: z83 :: z84 :: z85 :: z86 :: z87 :: z88 :: z89 :: z90 :: z91 :: z92 :: z93 :: z94 :: z95 :: z96 :: z97 :: z98 :: z99 :: z100 :: z101 :: z102 :: z103 :: z104 :: z105 :: z106 :: z107 :: z108 :: z109 :: z110 :: z111 :: z112 :: z113 :: z114 :: z115 :: z116 :: z117 :: z118 :: z119 :: z120 :: z121 :: z122 :: z123 :: z124 :: z125 :: z126 :: z127 :: z128 :: z129 :: z130 :: z131 :: z132 :: z133 :: z134 :: z135 :: z136 :: z137 :: z138 :: z139 :: z140 :: z141 :: z142 :: z143 :: z144 :: z145 :: z146 :: z147 :: z148 :: z149 :: z150 :: z151 :: z152 :: z153 :: z154 :: z155 :: z156 :: z157 :: z158 :: z159 :: z160 :: z161 :: z162 :: z163 :: z164 :: z165 :: z166 :: z167 :: z168 :: z169 :: z170 :: z171 :: z172 :: z173 :: z174 :: z175 :: z176 :: z177 :: z178 :: z179 :: z180 :: z181 :: z182 :: z183 :: z184 :: z185 :: z186 :: z187 :: z188 :: z189 :: z190 :: z191 :: z192 :: z193 :: z194 :: z195 :: z196 :: z197 :: z198 :: z199 :: z200 :: z201 :: z202 :: z203 :: z204 :: z205 :: z206 :: z207 :: z208 :: z209 :: z210 :: z211 :: z212 :: z213 :: z214 :: z215 :: z216 :: z217 :: z218 :: z219 :: z220 :: z221 :: z222 :: z223 :: z224 :: z225 :: z226 :: z227 :: z228 :: z229 :: z230 :: z231 :: z232 :: z233 :: z234 :: z235 :: z236 :: z237 :: z238 :: z239 :: z240 :: z241 :: z242 :: z243 :: z244 :: z245 :: z246 :: z247 :: z248 :: z249 :: z250 :: z251 :: z252 :: z253 :: z254 :: z255 :: z256 :: z257 :: z258 :: z259 :: z260 :: z261 :: z262 :: z263 :: z264 :: z265 :: z266 :: z267 :: z268 :: z269 :: z270 :: z271 :: z272 :: z273 :: z274 :: z275 :: z276 :: z277 :: z278 :: z279 :: z280 :: z281 :: z282 :: z283 :: z284 :: z285 :: z286 :: []), []⟩ w1 := by
  by_cases e0 : 0 < x.md.length
  · by_cases q5 : x.fq = 5
    · exact rr21_1 x a6 a7 a8 a9 a10 a11 a12 a13 a14 c6 c7 c8 c9 c10 c11 c12 c13 c14 r w w1 C B HL e0 q5 HQ HR z0 z2 z3 z4 z5 z6 z7 z8 z9 z10 z11 z12 z13 z14 z15 z16 z17 z18 z19 z20 z21 z22 z23 z24 z25 z26 z27 z28 z29 z30 z31 z32 z33 z34 z35 z36 z37 z38 z39 z40 z41 z42 z43 z44 z45 z46 z47 z48 z49 z50 z51 z52 z53 z54 z55 z56 z57 z58 z59 z60 z61 z62 z63 z64 z65 z66 z67 z68 z69 z70 z71 z72 z73 z74 z75 z76 z77 z78 z79 z80 z81 z82 z83 z84 z85 z86 z87 z88 z89 z90 z91 z92 z93 z94 z95 z96 z97 z98 z99 z100 z101 z102 z103 z104 z105 z106 z107 z108 z109 z110 z111 z112 z113 z114 z115 z116 z117 z118 z119 z120 z121 z122 z123 z124 z125 z126 z127 z128 z129 z130 z131 z132 z133 z134 z135 z136 z137 z138 z139 z140 z141 z142 z143 z144 z145 z146 z147 z148 z149 z150 z151 z152 z153 z154 z155 z156 z157 z158 z159 z160 z161 z162 z163 z164 z165 z166 z167 z168 z169 z170 z171 z172 z173 z174 z175 z176 z177 z178 z179 z180 z181 z182 z183 z184 z185 z186 z187 z188 z189 z190 z191 z192 z193 z194 z195 z196 z197 z198 z199 z200 z201 z202 z203 z204 z205 z206 z207 z208 z209 z210 z211 z212 z213 z214 z215 z216 z217 z218 z219 z220 z221 z222 z223 z224 z225 z226 z227 z228 z229 z230 z231 z232 z233 z234 z235 z236 z237 z238 z239 z240 z241 z242 z243 z244 z245 z246 z247 z248 z249 z250 z251 z252 z253 z254 z255 z256 z257 z258 z259 z260 z261 z262 z263 z264 z265 z266 z267 z268 z269 z270 z271 z272 z273 z274 z275 z276 z277 z278 z279 z280 z281 z282 z283 z284 z285 z286
    · by_cases e1 : 0 < x.yd.length
      · by_cases q46 : 4 ≤ x.fq ∧ x.fq ≤ 6
        · exact rr21_21 x a6 a7 a8 a9 a10 a11 a12 a13 a14 c6 c7 c8 c9 c10 c11 c12 c13 c14 r w w1 C B HL e0 q5 e1 q46 HQ HR z0 z2 z3 z4 z5 z6 z7 z8 z9 z10 z11 z12 z13 z14 z15 z16 z17 z18 z19 z20 z21 z22 z23 z24 z25 z26 z27 z28 z29 z30 z31 z32 z33 z34 z35 z36 z37 z38 z39 z40 z41 z42 z43 z44 z45 z46 z47 z48 z49 z50 z51 z52 z53 z54 z55 z56 z57 z58 z59 z60 z61 z62 z63 z64 z65 z66 z67 z68 z69 z70 z71 z72 z73 z74 z75 z76 z77 z78 z79 z80 z81 z82 z83 z84 z85 z86 z87 z88 z89 z90 z91 z92 z93 z94 z95 z96 z97 z98 z99 z100 z101 z102 z103 z104 z105 z106 z107 z108 z109 z110 z111 z112 z113 z114 z115 z116 z117 z118 z119 z120 z121 z122 z123 z124 z125 z126 z127 z128 z129 z130 z131 z132 z133 z134 z135 z136 z137 z138 z139 z140 z141 z142 z143 z144 z145 z146 z147 z148 z149 z150 z151 z152 z153 z154 z155 z156 z157 z158 z159 z160 z161 z162 z163 z164 z165 z166 z167 z168 z169 z170 z171 z172 z173 z174 z175 z176 z177 z178 z179 z180 z181 z182 z183 z184 z185 z186 z187 z188 z189 z190 z191 z192 z193 z194 z195 z196 z197 z198 z199 z200 z201 z202 z203 z204 z205 z206 z207 z208 z209 z210 z211 z212 z213 z214 z215 z216 z217 z218 z219 z220 z221 z222 z223 z224 z225 z226 z227 z228 z229 z230 z231 z232 z233 z234 z235 z236 z237 z238 z239 z240 z241 z242 z243 z244 z245 z246 z247 z248 z249 z250 z251 z252 z253 z254 z255 z256 z257 z258 z259 z260 z261 z262 z263 z264 z265 z266 z267 z268 z269 z270 z271 z272 z273 z274 z275 z276 z277 z278 z279 z280 z281 z282 z283 z284 z285 z286
        · exact rr21_22 x a6 a7 a8 a9 a10 a11 a12 a13 a14 c6 c7 c8 c9 c10 c11 c12 c13 c14 r w w1 C B HL e0 q5 e1 q46 HQ HR z0 z2 z3 z4 z5 z6 z7 z8 z9 z10 z11 z12 z13 z14 z15 z16 z17 z18 z19 z20 z21 z22 z23 z24 z25 z26 z27 z28 z29 z30 z31 z32 z33 z34 z35 z36 z37 z38 z39 z40 z41 z42 z43 z44 z45 z46 z47 z48 z49 z50 z51 z52 z53 z54 z55 z56 z57 z58 z59 z60 z61 z62 z63 z64 z65 z66 z67 z68 z69 z70 z71 z72 z73 z74 z75 z76 z77 z78 z79 z80 z81 z82 z83 z84 z85 z86 z87 z88 z89 z90 z91 z92 z93 z94 z95 z96 z97 z98 z99 z100 z101 z102 z103 z104 z105 z106 z107 z108 z109 z110 z111 z112 z113 z114 z115 z116 z117 z118 z119 z120 z121 z122 z123 z124 z125 z126 z127 z128 z129 z130 z131 z132 z133 z134 z135 z136 z137 z138 z139 z140 z141 z142 z143 z144 z145 z146 z147 z148 z149 z150 z151 z152 z153 z154 z155 z156 z157 z158 z159 z160 z161 z162 z163 z164 z165 z166 z167 z168 z169 z170 z171 z172 z173 z174 z175 z176 z177 z178 z179 z180 z181 z182 z183 z184 z185 z186 z187 z188 z189 z190 z191 z192 z193 z194 z195 z196 z197 z198 z199 z200 z201 z202 z203 z204 z205 z206 z207 z208 z209 z210 z211 z212 z213 z214 z215 z216 z217 z218 z219 z220 z221 z222 z223 z224 z225 z226 z227 z228 z229 z230 z231 z232 z233 z234 z235 z236 z237 z238 z239 z240 z241 z242 z243 z244 z245 z246 z247 z248 z249 z250 z251 z252 z253 z254 z255 z256 z257 z258 z259 z260 z261 z262 z263 z264 z265 z266 z267 z268 z269 z270 z271 z272 z273 z274 z275 z276 z277 z278 z279 z280 z281 z282 z283 z284 z285 z286
      · exact rr21_20 x a6 a7 a8 a9 a10 a11 a12 a13 a14 c6 c7 c8 c9 c10 c11 c12 c13 c14 r w w1 C B HL e0 q5 e1 HQ HR z0 z2 z3 z4 z5 z6 z7 z8 z9 z10 z11 z12 z13 z14 z15 z16 z17 z18 z19 z20 z21 z22 z23 z24 z25 z26 z27 z28 z29 z30 z31 z32 z33 z34 z35 z36 z37 z38 z39 z40 z41 z42 z43 z44 z45 z46 z47 z48 z49 z50 z51 z52 z53 z54 z55 z56 z57 z58 z59 z60 z61 z62 z63 z64 z65 z66 z67 z68 z69 z70 z71 z72 z73 z74 z75 z76 z77 z78 z79 z80 z81 z82 z83 z84 z85 z86 z87 z88 z89 z90 z91 z92 z93 z94 z95 z96 z97 z98 z99 z100 z101 z102 z103 z104 z105 z106 z107 z108 z109 z110 z111 z112 z113 z114 z115 z116 z117 z118 z119 z120 z121 z122 z123 z124 z125 z126 z127 z128 z129 z130 z131 z132 z133 z134 z135 z136 z137 z138 z139 z140 z141 z142 z143 z144 z145 z146 z147 z148 z149 z150 z151 z152 z153 z154 z155 z156 z157 z158 z159 z160 z161 z162 z163 z164 z165 z166 z167 z168 z169 z170 z171 z172 z173 z174 z175 z176 z177 z178 z179 z180 z181 z182 z183 z184 z185 z186 z187 z188 z189 z190 z191 z192 z193 z194 z195 z196 z197 z198 z199 z200 z201 z202 z203 z204 z205 z206 z207 z208 z209 z210 z211 z212 z213 z214 z215 z216 z217 z218 z219 z220 z221 z222 z223 z224 z225 z226 z227 z228 z229 z230 z231 z232 z233 z234 z235 z236 z237 z238 z239 z240 z241 z242 z243 z244 z245 z246 z247 z248 z249 z250 z251 z252 z253 z254 z255 z256 z257 z258 z259 z260 z261 z262 z263 z264 z265 z266 z267 z268 z269 z270 z271 z272 z273 z274 z275 z276 z277 z278 z279 z280 z281 z282 z283 z284 z285 z286
  · by_cases e1 : 0 < x.yd.length
    · by_cases q46 : 4 ≤ x.fq ∧ x.fq ≤ 6
      · exact rr21_01 x a6 a7 a8 a9 a10 a11 a12 a13 a14 c6 c7 c8 c9 c10 c11 c12 c13 c14 r w w1 C B HL e0 e1 q46 HQ HR z0 z2 z3 z4 z5 z6 z7 z8 z9 z10 z11 z12 z13 z14 z15 z16 z17 z18 z19 z20 z21 z22 z23 z24 z25 z26 z27 z28 z29 z30 z31 z32 z33 z34 z35 z36 z37 z38 z39 z40 z41 z42 z43 z44 z45 z46 z47 z48 z49 z50 z51 z52 z53 z54 z55 z56 z57 z58 z59 z60 z61 z62 z63 z64 z65 z66 z67 z68 z69 z70 z71 z72 z73 z74 z75 z76 z77 z78 z79 z80 z81 z82 z83 z84 z85 z86 z87 z88 z89 z90 z91 z92 z93 z94 z95 z96 z97 z98 z99 z100 z101 z102 z103 z104 z105 z106 z107 z108 z109 z110 z111 z112 z113 z114 z115 z116 z117 z118 z119 z120 z121 z122 z123 z124 z125 z126 z127 z128 z129 z130 z131 z132 z133 z134 z135 z136 z137 z138 z139 z140 z141 z142 z143 z144 z145 z146 z147 z148 z149 z150 z151 z152 z153 z154 z155 z156 z157 z158 z159 z160 z161 z162 z163 z164 z165 z166 z167 z168 z169 z170 z171 z172 z173 z174 z175 z176 z177 z178 z179 z180 z181 z182 z183 z184 z185 z186 z187 z188 z189 z190 z191 z192 z193 z194 z195 z196 z197 z198 z199 z200 z201 z202 z203 z204 z205 z206 z207 z208 z209 z210 z211 z212 z213 z214 z215 z216 z217 z218 z219 z220 z221 z222 z223 z224 z225 z226 z227 z228 z229 z230 z231 z232 z233 z234 z235 z236 z237 z238 z239 z240 z241 z242 z243 z244 z245 z246 z247 z248 z249 z250 z251 z252 z253 z254 z255 z256 z257 z258 z259 z260 z261 z262 z263 z264 z265 z266 z267 z268 z269 z270 z271 z272 z273 z274 z275 z276 z277 z278 z279 z280 z281 z282 z283 z284 z285 z286
      · exact rr21_02 x a6 a7 a8 a9 a10 a11 a12 a13 a14 c6 c7 c8 c9 c10 c11 c12 c13 c14 r w w1 C B HL e0 e1 q46 HQ HR z0 z2 z3 z4 z5 z6 z7 z8 z9 z10 z11 z12 z13 z14 z15 z16 z17 z18 z19 z20 z21 z22 z23 z24 z25 z26 z27 z28 z29 z30 z31 z32 z33 z34 z35 z36 z37 z38 z39 z40 z41 z42 z43 z44 z45 z46 z47 z48 z49 z50 z51 z52 z53 z54 z55 z56 z57 z58 z59 z60 z61 z62 z63 z64 z65 z66 z67 z68 z69 z70 z71 z72 z73 z74 z75 z76 z77 z78 z79 z80 z81 z82 z83 z84 z85 z86 z87 z88 z89 z90 z91 z92 z93 z94 z95 z96 z97 z98 z99 z100 z101 z102 z103 z104 z105 z106 z107 z108 z109 z110 z111 z112 z113 z114 z115 z116 z117 z118 z119 z120 z121 z122 z123 z124 z125 z126 z127 z128 z129 z130 z131 z132 z133 z134 z135 z136 z137 z138 z139 z140 z141 z142 z143 z144 z145 z146 z147 z148 z149 z150 z151 z152 z153 z154 z155 z156 z157 z158 z159 z160 z161 z162 z163 z164 z165 z166 z167 z168 z169 z170 z171 z172 z173 z174 z175 z176 z177 z178 z179 z180 z181 z182 z183 z184 z185 z186 z187 z188 z189 z190 z191 z192 z193 z194 z195 z196 z197 z198 z199 z200 z201 z202 z203 z204 z205 z206 z207 z208 z209 z210 z211 z212 z213 z214 z215 z216 z217 z218 z219 z220 z221 z222 z223 z224 z225 z226 z227 z228 z229 z230 z231 z232 z233 z234 z235 z236 z237 z238 z239 z240 z241 z242 z243 z244 z245 z246 z247 z248 z249 z250 z251 z252 z253 z254 z255 z256 z257 z258 z259 z260 z261 z262 z263 z264 z265 z266 z267 z268 z269 z270 z271 z272 z273 z274 z275 z276 z277 z278 z279 z280 z281 z282 z283 z284 z285 z286
    · exact rr21_00 x a6 a7 a8 a9 a10 a11 a12 a13 a14 c6 c7 c8 c9 c10 c11 c12 c13 c14 r w w1 C B HL e0 e1 HQ HR z0 z2 z3 z4 z5 z6 z7 z8 z9 z10 z11 z12 z13 z14 z15 z16 z17 z18 z19 z20 z21 z22 z23 z24 z25 z26 z27 z28 z29 z30 z31 z32 z33 z34 z35 z36 z37 z38 z39 z40 z41 z42 z43 z44 z45 z46 z47 z48 z49 z50 z51 z52 z53 z54 z55 z56 z57 z58 z59 z60 z61 z62 z63 z64 z65 z66 z67 z68 z69 z70 z71 z72 z73 z74 z75 z76 z77 z78 z79 z80 z81 z82 z83 z84 z85 z86 z87 z88 z89 z90 z91 z92 z93 z94 z95 z96 z97 z98 z99 z100 z101 z102 z103 z104 z105 z106 z107 z108 z109 z110 z111 z112 z113 z114 z115 z116 z117 z118 z119 z120 z121 z122 z123 z124 z125 z126 z127 z128 z129 z130 z131 z132 z133 z134 z135 z136 z137 z138 z139 z140 z141 z142 z143 z144 z145 z146 z147 z148 z149 z150 z151 z152 z153 z154 z155 z156 z157 z158 z159 z160 z161 z162 z163 z164 z165 z166 z167 z168 z169 z170 z171 z172 z173 z174 z175 z176 z177 z178 z179 z180 z181 z182 z183 z184 z185 z186 z187 z188 z189 z190 z191 z192 z193 z194 z195 z196 z197 z198 z199 z200 z201 z202 z203 z204 z205 z206 z207 z208 z209 z210 z211 z212 z213 z214 z215 z216 z217 z218 z219 z220 z221 z222 z223 z224 z225 z226 z227 z228 z229 z230 z231 z232 z233 z234 z235 z236 z237 z238 z239 z240 z241 z242 z243 z244 z245 z246 z247 z248 z249 z250 z251 z252 z253 z254 z255 z256 z257 z258 z259 z260 z261 z262 z263 z264 z265 z266 z267 z268 z269 z270 z271 z272 z273 z274 z275 z276 z277 z278 z279 z280 z281 z282 z283 z284 z285 z286
end Rrl
end Go.Proofs.YtpcmfgfhdnfmcaaDoor
