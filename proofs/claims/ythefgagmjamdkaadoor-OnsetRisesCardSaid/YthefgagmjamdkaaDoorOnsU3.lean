/-
  OnsetRises: its region 9. (Written by gen/gen_onsu.py.)
-/
import Derived.Test.YthefgagmjamdkaaDoorOnsU2
import Derived.BigRegion
namespace Go.Proofs.YthefgagmjamdkaaDoor
open Go.RowKit
namespace Ons
open Rul Rs Cel
theorem rise_at {K : List OV} (h : K.Pairwise olt) {i : Nat} (h1 : 0 < i) (h2 : i < K.length) : olt (K[i - 1]'(by omega)) K[i] := List.pairwise_iff_getElem.1 h (i - 1) i (by omega) h2 (by omega)
end Ons
namespace Reg
/-- A region, wherever it stands. -/
def reg_ (n : Nat) : Code → Option Code
  | .region k o b => if k == n then some (.region k o b) else none
  | .seq a b => (reg_ n a).orElse (fun _ => reg_ n b)
  | .cond _ a b => (reg_ n a).orElse (fun _ => reg_ n b)
  | .block _ a => reg_ n a
  | .scope a => reg_ n a
  | .loop a => reg_ n a
  | _ => none
end Reg
namespace Ons
open Rul Rs Cel
structure KpS (w : World) (bk o1 o2 : Nat) (v1 v2 : List Value) (x : World) : Prop where
  a : x.rangeAt bk o1 v1
  d : x.rangeAt bk o2 v2
  g : Below w.heap.size w x
structure RsS (w : World) (bk ok : Nat) (i1 i2 i3 : Int) (g : Nat) (vs : List Value) (x : World) : Prop where
  k : x.rangeAt bk ok [.int .i64 i1, .int .i64 i2, .int .i64 i3]
  kl : bk < x.heap.size
  r : Cs g x vs
  g : Below w.heap.size w x
theorem RsS.below {w : World} {bk ok : Nat} {i1 i2 i3 : Int} {g : Nat} {vs : List Value} {x y : World} (h : RsS w bk ok i1 i2 i3 g vs x) (k : Below x.heap.size x y) : RsS w bk ok i1 i2 i3 g vs y := ⟨range_below h.kl h.k k, Nat.lt_of_lt_of_le h.kl k.size, h.r.below k, bstep h.g k⟩
theorem RsS.drew {w : World} {bk ok : Nat} {i1 i2 i3 : Int} {g : Nat} {vs : List Value} {x : World} (h : RsS w bk ok i1 i2 i3 g vs x) : RsS w bk ok i1 i2 i3 g vs x.drew := ⟨h.k, h.kl, h.r.drewN 1, below_drewN h.g 1⟩

theorem dummy9 : True := trivial

noncomputable def rg9C : Code := (Tryd.f4.body.bind (Reg.reg_ 9)).getD .skip

set_option maxHeartbeats 25600000 in
set_option maxRecDepth 100000 in
theorem rr9a (Q : Exit → Act → World → Prop) (A0 : Option Addr) (N cV bk ok KN cK i ri : Nat) (y i3 : Int) (wo : World) (S0 : Hid (KpS wo bk (ok + i * 3) (ok + i * 3) [.int .i64 ri, .int .i64 y, .int .i64 i3] [.int .i64 ri, .int .i64 y, .int .i64 i3] wo)) (g0' : ¬ 0 < i) (z1 z2 z3 z4 z5 z6 z8 z10 z11 z12 z13 z14 z15 z16 z17 z18 z19 z20 z21 z22 z23 z24 z25 z26 z27 z28 z29 z30 z31 z32 z33 z34 z35 z36 z37 z38 z39 z40 z41 z42 z43 z44 z45 z46 z47 z48 z49 z50 z51 z52 z53 z54 z55 z56 z57 z58 z59 z60 z61 z62 z63 z64 z65 z66 z67 z68 z69 z70 z71 z72 z73 z74 z75 z76 z77 z78 z79 z80 z81 z82 z83 z84 z85 z86 z87 z88 z89 z90 z91 z92 z93 z94 z95 z96 z97 z98 z99 z100 z101 z102 z103 z104 z105 z106 z107 z108 z109 z110 z111 z112 z113 z114 z115 z116 z117 z118 z119 z120 z121 z122 z123 z124 z125 z126 z127 z128 z129 z130 z131 z132 z133 z134 z135 z136 z137 z138 z139 z140 z141 z142 z143 z144 z145 z146 z147 z148 z149 z150 z151 z152 z153 z154 z155 z156 z157 z158 z159 z160 z161 z162 z163 z164 z165 z166 z167 z168 z169 z170 z171 z172 z173 z174 z175 z176 z177 z178 z179 z180 z181 z182 z183 z184 z185 z186 z187 z188 z189 z190 z191 z192 z193 z194 z195 z196 z197 z198 z199 z200 z201 z202 z203 z204 z205 z206 z207 z208 z209 z210 z211 z212 z213 z214 z215 z216 z217 z218 z219 z220 z221 z222 z223 z224 z225 z226 z227 z228 z229 z230 z231 z232 z233 z234 z235 z236 z237 z238 z239 z240 z241 z242 z243 z244 z245 z246 z247 z248 z249 z250 z251 z252 z253 z254 z255 z256 z257 z258 z259 z260 z261 : Value) (HPQ : ∀ c (a : Act) d (v : Value) (wz : World), Q (.panic c) (a.put d v) wz → Q (.panic c) a wz) (hQ : ∀ (y53 y54 y55 y56 y57 y58 y59 y60 y61 y62 y63 y64 y65 y66 y67 y68 y69 y70 y71 y72 y73 y74 y75 y76 y77 y78 y79 y80 y81 y82 y83 y84 y85 y86 y87 y88 y89 y90 y91 y92 y93 y94 y95 y96 y97 y98 y99 y100 y101 y102 y103 y104 y105 y106 y107 y108 y109 y110 y111 y112 y113 y114 y115 y116 y117 y118 y119 y120 y121 y122 y123 : Value) (wz : World), Hid (Below wo.heap.size wo wz) → Q .normal ⟨List.toArray (.slice A0 N cV :: z1 :: z2 :: z3 :: z4 :: z5 :: z6 :: .slice (some ⟨bk, ok, none⟩) KN cK :: z8 :: .int .i64 ((i : Nat) : Int) :: z10 :: z11 :: z12 :: z13 :: z14 :: z15 :: z16 :: z17 :: z18 :: z19 :: z20 :: z21 :: z22 :: z23 :: z24 :: z25 :: z26 :: z27 :: z28 :: z29 :: z30 :: z31 :: z32 :: z33 :: z34 :: z35 :: z36 :: z37 :: z38 :: z39 :: z40 :: z41 :: z42 :: z43 :: z44 :: z45 :: z46 :: z47 :: z48 :: z49 :: z50 :: z51 :: z52 :: y53 :: y54 :: y55 :: y56 :: y57 :: y58 :: y59 :: y60 :: y61 :: y62 :: y63 :: y64 :: y65 :: y66 :: y67 :: y68 :: y69 :: y70 :: y71 :: y72 :: y73 :: y74 :: y75 :: y76 :: y77 :: y78 :: y79 :: y80 :: y81 :: y82 :: y83 :: y84 :: y85 :: y86 :: y87 :: y88 :: y89 :: y90 :: y91 :: y92 :: y93 :: y94 :: y95 :: y96 :: y97 :: y98 :: y99 :: y100 :: y101 :: y102 :: y103 :: y104 :: y105 :: y106 :: y107 :: y108 :: y109 :: y110 :: y111 :: y112 :: y113 :: y114 :: y115 :: y116 :: y117 :: y118 :: y119 :: y120 :: y121 :: y122 :: y123 :: .bool false :: z125 :: z126 :: z127 :: z128 :: z129 :: z130 :: z131 :: z132 :: z133 :: z134 :: z135 :: z136 :: z137 :: z138 :: z139 :: z140 :: z141 :: z142 :: z143 :: z144 :: z145 :: z146 :: z147 :: z148 :: z149 :: z150 :: z151 :: z152 :: z153 :: z154 :: z155 :: z156 :: z157 :: z158 :: z159 :: z160 :: z161 :: z162 :: z163 :: z164 :: z165 :: z166 :: z167 :: z168 :: z169 :: z170 :: z171 :: z172 :: z173 :: z174 :: z175 :: z176 :: z177 :: z178 :: z179 :: z180 :: z181 :: z182 :: z183 :: z184 :: z185 :: z186 :: z187 :: z188 :: z189 :: z190 :: z191 :: z192 :: z193 :: z194 :: z195 :: z196 :: z197 :: z198 :: z199 :: z200 :: z201 :: z202 :: z203 :: z204 :: z205 :: z206 :: z207 :: z208 :: z209 :: z210 :: z211 :: z212 :: z213 :: z214 :: z215 :: z216 :: z217 :: z218 :: z219 :: z220 :: z221 :: z222 :: z223 :: z224 :: z225 :: z226 :: z227 :: z228 :: z229 :: z230 :: z231 :: z232 :: z233 :: z234 :: z235 :: z236 :: z237 :: z238 :: z239 :: z240 :: z241 :: z242 :: z243 :: z244 :: z245 :: z246 :: z247 :: z248 :: z249 :: z250 :: z251 :: z252 :: z253 :: z254 :: z255 :: z256 :: z257 :: z258 :: z259 :: z260 :: z261 :: []), []⟩ wz) : Code.wp Tryd.prog rg9C Q ⟨List.toArray (.slice A0 N cV :: z1 :: z2 :: z3 :: z4 :: z5 :: z6 :: .slice (some ⟨bk, ok, none⟩) KN cK :: z8 :: .int .i64 ((i : Nat) : Int) :: z10 :: z11 :: z12 :: z13 :: z14 :: z15 :: z16 :: z17 :: z18 :: z19 :: z20 :: z21 :: z22 :: z23 :: z24 :: z25 :: z26 :: z27 :: z28 :: z29 :: z30 :: z31 :: z32 :: z33 :: z34 :: z35 :: z36 :: z37 :: z38 :: z39 :: z40 :: z41 :: z42 :: z43 :: z44 :: z45 :: z46 :: z47 :: z48 :: z49 :: z50 :: z51 :: z52 :: z53 :: z54 :: z55 :: z56 :: z57 :: z58 :: z59 :: z60 :: z61 :: z62 :: z63 :: z64 :: z65 :: z66 :: z67 :: z68 :: z69 :: z70 :: z71 :: z72 :: z73 :: z74 :: z75 :: z76 :: z77 :: z78 :: z79 :: z80 :: z81 :: z82 :: z83 :: z84 :: z85 :: z86 :: z87 :: z88 :: z89 :: z90 :: z91 :: z92 :: z93 :: z94 :: z95 :: z96 :: z97 :: z98 :: z99 :: z100 :: z101 :: z102 :: z103 :: z104 :: z105 :: z106 :: z107 :: z108 :: z109 :: z110 :: z111 :: z112 :: z113 :: z114 :: z115 :: z116 :: z117 :: z118 :: z119 :: z120 :: z121 :: z122 :: z123 :: z124 :: z125 :: z126 :: z127 :: z128 :: z129 :: z130 :: z131 :: z132 :: z133 :: z134 :: z135 :: z136 :: z137 :: z138 :: z139 :: z140 :: z141 :: z142 :: z143 :: z144 :: z145 :: z146 :: z147 :: z148 :: z149 :: z150 :: z151 :: z152 :: z153 :: z154 :: z155 :: z156 :: z157 :: z158 :: z159 :: z160 :: z161 :: z162 :: z163 :: z164 :: z165 :: z166 :: z167 :: z168 :: z169 :: z170 :: z171 :: z172 :: z173 :: z174 :: z175 :: z176 :: z177 :: z178 :: z179 :: z180 :: z181 :: z182 :: z183 :: z184 :: z185 :: z186 :: z187 :: z188 :: z189 :: z190 :: z191 :: z192 :: z193 :: z194 :: z195 :: z196 :: z197 :: z198 :: z199 :: z200 :: z201 :: z202 :: z203 :: z204 :: z205 :: z206 :: z207 :: z208 :: z209 :: z210 :: z211 :: z212 :: z213 :: z214 :: z215 :: z216 :: z217 :: z218 :: z219 :: z220 :: z221 :: z222 :: z223 :: z224 :: z225 :: z226 :: z227 :: z228 :: z229 :: z230 :: z231 :: z232 :: z233 :: z234 :: z235 :: z236 :: z237 :: z238 :: z239 :: z240 :: z241 :: z242 :: z243 :: z244 :: z245 :: z246 :: z247 :: z248 :: z249 :: z250 :: z251 :: z252 :: z253 :: z254 :: z255 :: z256 :: z257 :: z258 :: z259 :: z260 :: z261 :: []), []⟩ wo := by
  conv => arg 2; whnf
  refine Hr.Walk.region (R := fun _ x => KpS wo bk (ok + i * 3) (ok + i * 3) [.int .i64 ri, .int .i64 y, .int .i64 i3] [.int .i64 ri, .int .i64 y, .int .i64 i3] x) (by kernel_rfl) ?_
  obtain ⟨w1, hw1⟩ : ∃ z, wo.drew = z := ⟨_, rfl⟩
  have S1 : Hid (KpS wo bk (ok + i * 3) (ok + i * 3) [.int .i64 ri, .int .i64 y, .int .i64 i3] [.int .i64 ri, .int .i64 y, .int .i64 i3] w1) := Lib.hid (by rw [← hw1]; exact ⟨S0.out.a, S0.out.d, below_drewN S0.out.g 1⟩)
  rw [hw1]
  clear hw1
  refine Hr.Walk.one (i := 0) (by kernel_rfl) rfl (fun K hK => ?_)
  have hx := S1.out; have a0 : w1.cell? ⟨bk, ok + i * 3, none⟩ = _ := hx.a 0 _ rfl; have a1 := hx.a 1 _ rfl; have a2 := hx.a 2 _ rfl; clear hx
  go_simp
  refine hK.out _ _ S1.out ?_
  clear hK K
  refine Hr.Walk.one (i := 1) (by kernel_rfl) rfl (fun K hK => ?_)
  have hx := S1.out; have a0 : w1.cell? ⟨bk, ok + i * 3, none⟩ = _ := hx.a 0 _ rfl; have a1 := hx.a 1 _ rfl; have a2 := hx.a 2 _ rfl; clear hx
  go_simp
  refine hK.out _ _ S1.out ?_
  clear hK K
  refine Hr.Walk.one (i := 2) (by kernel_rfl) rfl (fun K hK => ?_)
  have hx := S1.out; have a0 : w1.cell? ⟨bk, ok + i * 3, none⟩ = _ := hx.a 0 _ rfl; have a1 := hx.a 1 _ rfl; have a2 := hx.a 2 _ rfl; clear hx
  go_simp
  refine hK.out _ _ S1.out ?_
  clear hK K
  refine Hr.Walk.take (i := 3) (v := undef) (fun x => KpS wo bk (ok + i * 3) (ok + i * 3) [.int .i64 ri, .int .i64 y, .int .i64 i3] [.int .i64 ri, .int .i64 y, .int .i64 i3] x) (fun _ => True) rfl (by kernel_rfl) (by kernel_rfl) (by kernel_rfl) (fun _ _ _ h => HPQ _ _ _ _ _ h) (fun _ _ _ _ _ _ => trivial) (fun _ _ _ h => h) (fun _ _ h => h) trivial (Or.inr ⟨by rfl, rfl⟩) S1.out S1.out ?_
  (try go_simp)
  refine Hr.Walk.take (i := 4) (v := undef) (fun x => KpS wo bk (ok + i * 3) (ok + i * 3) [.int .i64 ri, .int .i64 y, .int .i64 i3] [.int .i64 ri, .int .i64 y, .int .i64 i3] x) (fun _ => True) rfl (by kernel_rfl) (by kernel_rfl) (by kernel_rfl) (fun _ _ _ h => HPQ _ _ _ _ _ h) (fun _ _ _ _ _ _ => trivial) (fun _ _ _ h => h) (fun _ _ h => h) trivial (Or.inr ⟨by rfl, rfl⟩) S1.out S1.out ?_
  (try go_simp)
  refine Hr.Walk.take (i := 5) (v := undef) (fun x => KpS wo bk (ok + i * 3) (ok + i * 3) [.int .i64 ri, .int .i64 y, .int .i64 i3] [.int .i64 ri, .int .i64 y, .int .i64 i3] x) (fun _ => True) rfl (by kernel_rfl) (by kernel_rfl) (by kernel_rfl) (fun _ _ _ h => HPQ _ _ _ _ _ h) (fun _ _ _ _ _ _ => trivial) (fun _ _ _ h => h) (fun _ _ h => h) trivial (Or.inr ⟨by rfl, rfl⟩) S1.out S1.out ?_
  (try go_simp)
  refine Hr.Walk.take (i := 6) (v := undef) (fun x => KpS wo bk (ok + i * 3) (ok + i * 3) [.int .i64 ri, .int .i64 y, .int .i64 i3] [.int .i64 ri, .int .i64 y, .int .i64 i3] x) (fun _ => True) rfl (by kernel_rfl) (by kernel_rfl) (by kernel_rfl) (fun _ _ _ h => HPQ _ _ _ _ _ h) (fun _ _ _ _ _ _ => trivial) (fun _ _ _ h => h) (fun _ _ h => h) trivial (Or.inr ⟨by rfl, rfl⟩) S1.out S1.out ?_
  (try go_simp)
  refine Hr.Walk.take (i := 7) (v := undef) (fun x => KpS wo bk (ok + i * 3) (ok + i * 3) [.int .i64 ri, .int .i64 y, .int .i64 i3] [.int .i64 ri, .int .i64 y, .int .i64 i3] x) (fun _ => True) rfl (by kernel_rfl) (by kernel_rfl) (by kernel_rfl) (fun _ _ _ h => HPQ _ _ _ _ _ h) (fun _ _ _ _ _ _ => trivial) (fun _ _ _ h => h) (fun _ _ h => h) trivial (Or.inr ⟨by rfl, rfl⟩) S1.out S1.out ?_
  (try go_simp)
  refine Hr.Walk.take (i := 8) (v := undef) (fun x => KpS wo bk (ok + i * 3) (ok + i * 3) [.int .i64 ri, .int .i64 y, .int .i64 i3] [.int .i64 ri, .int .i64 y, .int .i64 i3] x) (fun _ => True) rfl (by kernel_rfl) (by kernel_rfl) (by kernel_rfl) (fun _ _ _ h => HPQ _ _ _ _ _ h) (fun _ _ _ _ _ _ => trivial) (fun _ _ _ h => h) (fun _ _ h => h) trivial (Or.inr ⟨by rfl, rfl⟩) S1.out S1.out ?_
  (try go_simp)
  refine Hr.Walk.one (i := 9) (by kernel_rfl) rfl (fun K hK => ?_)
  have hx := S1.out; have a0 : w1.cell? ⟨bk, ok + i * 3, none⟩ = _ := hx.a 0 _ rfl; have a1 := hx.a 1 _ rfl; have a2 := hx.a 2 _ rfl; clear hx
  go_simp
  refine hK.out _ _ S1.out ?_
  clear hK K
  refine Hr.Walk.one (i := 10) (by kernel_rfl) rfl (fun K hK => ?_)
  have hx := S1.out; have a0 : w1.cell? ⟨bk, ok + i * 3, none⟩ = _ := hx.a 0 _ rfl; have a1 := hx.a 1 _ rfl; have a2 := hx.a 2 _ rfl; clear hx
  go_simp
  refine hK.out _ _ S1.out ?_
  clear hK K
  refine Hr.Walk.one (i := 11) (by kernel_rfl) rfl (fun K hK => ?_)
  have hx := S1.out; have a0 : w1.cell? ⟨bk, ok + i * 3, none⟩ = _ := hx.a 0 _ rfl; have a1 := hx.a 1 _ rfl; have a2 := hx.a 2 _ rfl; clear hx
  go_simp
  refine hK.out _ _ S1.out ?_
  clear hK K
  refine Hr.Walk.one (i := 12) (by kernel_rfl) rfl (fun K hK => ?_)
  have hx := S1.out; have a0 : w1.cell? ⟨bk, ok + i * 3, none⟩ = _ := hx.a 0 _ rfl; have a1 := hx.a 1 _ rfl; have a2 := hx.a 2 _ rfl; clear hx
  go_simp
  refine hK.out _ _ S1.out ?_
  clear hK K
  refine Hr.Walk.one (i := 13) (by kernel_rfl) rfl (fun K hK => ?_)
  have hx := S1.out; have a0 : w1.cell? ⟨bk, ok + i * 3, none⟩ = _ := hx.a 0 _ rfl; have a1 := hx.a 1 _ rfl; have a2 := hx.a 2 _ rfl; clear hx
  go_simp
  refine hK.out _ _ S1.out ?_
  clear hK K
  refine Hr.Walk.one (i := 14) (by kernel_rfl) rfl (fun K hK => ?_)
  have hx := S1.out; have a0 : w1.cell? ⟨bk, ok + i * 3, none⟩ = _ := hx.a 0 _ rfl; have a1 := hx.a 1 _ rfl; have a2 := hx.a 2 _ rfl; clear hx
  go_simp
  refine hK.out _ _ S1.out ?_
  clear hK K
  refine Hr.Walk.one (i := 15) (by kernel_rfl) rfl (fun K hK => ?_)
  have hx := S1.out; have a0 : w1.cell? ⟨bk, ok + i * 3, none⟩ = _ := hx.a 0 _ rfl; have a1 := hx.a 1 _ rfl; have a2 := hx.a 2 _ rfl; clear hx
  go_simp
  refine hK.out _ _ S1.out ?_
  clear hK K
  refine Hr.Walk.take (i := 16) (v := undef) (fun x => KpS wo bk (ok + i * 3) (ok + i * 3) [.int .i64 ri, .int .i64 y, .int .i64 i3] [.int .i64 ri, .int .i64 y, .int .i64 i3] x) (fun _ => True) rfl (by kernel_rfl) (by kernel_rfl) (by kernel_rfl) (fun _ _ _ h => HPQ _ _ _ _ _ h) (fun _ _ _ _ _ _ => trivial) (fun _ _ _ h => h) (fun _ _ h => h) trivial (Or.inr ⟨by rfl, rfl⟩) S1.out S1.out ?_
  (try go_simp)
  refine Hr.Walk.take (i := 17) (v := undef) (fun x => KpS wo bk (ok + i * 3) (ok + i * 3) [.int .i64 ri, .int .i64 y, .int .i64 i3] [.int .i64 ri, .int .i64 y, .int .i64 i3] x) (fun _ => True) rfl (by kernel_rfl) (by kernel_rfl) (by kernel_rfl) (fun _ _ _ h => HPQ _ _ _ _ _ h) (fun _ _ _ _ _ _ => trivial) (fun _ _ _ h => h) (fun _ _ h => h) trivial (Or.inr ⟨by rfl, rfl⟩) S1.out S1.out ?_
  (try go_simp)
  refine Hr.Walk.take (i := 18) (v := undef) (fun x => KpS wo bk (ok + i * 3) (ok + i * 3) [.int .i64 ri, .int .i64 y, .int .i64 i3] [.int .i64 ri, .int .i64 y, .int .i64 i3] x) (fun _ => True) rfl (by kernel_rfl) (by kernel_rfl) (by kernel_rfl) (fun _ _ _ h => HPQ _ _ _ _ _ h) (fun _ _ _ _ _ _ => trivial) (fun _ _ _ h => h) (fun _ _ h => h) trivial (Or.inr ⟨by rfl, rfl⟩) S1.out S1.out ?_
  (try go_simp)
  refine Hr.Walk.take (i := 19) (v := undef) (fun x => KpS wo bk (ok + i * 3) (ok + i * 3) [.int .i64 ri, .int .i64 y, .int .i64 i3] [.int .i64 ri, .int .i64 y, .int .i64 i3] x) (fun _ => True) rfl (by kernel_rfl) (by kernel_rfl) (by kernel_rfl) (fun _ _ _ h => HPQ _ _ _ _ _ h) (fun _ _ _ _ _ _ => trivial) (fun _ _ _ h => h) (fun _ _ h => h) trivial (Or.inr ⟨by rfl, rfl⟩) S1.out S1.out ?_
  (try go_simp)
  refine Hr.Walk.take (i := 20) (v := undef) (fun x => KpS wo bk (ok + i * 3) (ok + i * 3) [.int .i64 ri, .int .i64 y, .int .i64 i3] [.int .i64 ri, .int .i64 y, .int .i64 i3] x) (fun _ => True) rfl (by kernel_rfl) (by kernel_rfl) (by kernel_rfl) (fun _ _ _ h => HPQ _ _ _ _ _ h) (fun _ _ _ _ _ _ => trivial) (fun _ _ _ h => h) (fun _ _ h => h) trivial (Or.inr ⟨by rfl, rfl⟩) S1.out S1.out ?_
  (try go_simp)
  refine Hr.Walk.take (i := 21) (v := undef) (fun x => KpS wo bk (ok + i * 3) (ok + i * 3) [.int .i64 ri, .int .i64 y, .int .i64 i3] [.int .i64 ri, .int .i64 y, .int .i64 i3] x) (fun _ => True) rfl (by kernel_rfl) (by kernel_rfl) (by kernel_rfl) (fun _ _ _ h => HPQ _ _ _ _ _ h) (fun _ _ _ _ _ _ => trivial) (fun _ _ _ h => h) (fun _ _ h => h) trivial (Or.inr ⟨by rfl, rfl⟩) S1.out S1.out ?_
  (try go_simp)
  refine Hr.Walk.one (i := 22) (by kernel_rfl) rfl (fun K hK => ?_)
  have hx := S1.out; have a0 : w1.cell? ⟨bk, ok + i * 3, none⟩ = _ := hx.a 0 _ rfl; have a1 := hx.a 1 _ rfl; have a2 := hx.a 2 _ rfl; clear hx
  go_simp
  refine hK.out _ _ S1.out ?_
  clear hK K
  refine Hr.Walk.one (i := 23) (by kernel_rfl) rfl (fun K hK => ?_)
  have hx := S1.out; have a0 : w1.cell? ⟨bk, ok + i * 3, none⟩ = _ := hx.a 0 _ rfl; have a1 := hx.a 1 _ rfl; have a2 := hx.a 2 _ rfl; clear hx
  go_simp
  refine hK.out _ _ S1.out ?_
  clear hK K
  refine Hr.Walk.one (i := 24) (by kernel_rfl) rfl (fun K hK => ?_)
  have hx := S1.out; have a0 : w1.cell? ⟨bk, ok + i * 3, none⟩ = _ := hx.a 0 _ rfl; have a1 := hx.a 1 _ rfl; have a2 := hx.a 2 _ rfl; clear hx
  go_simp
  refine hK.out _ _ S1.out ?_
  clear hK K
  refine Hr.Walk.one (i := 25) (by kernel_rfl) rfl (fun K hK => ?_)
  have hx := S1.out; have a0 : w1.cell? ⟨bk, ok + i * 3, none⟩ = _ := hx.a 0 _ rfl; have a1 := hx.a 1 _ rfl; have a2 := hx.a 2 _ rfl; clear hx
  go_simp
  refine hK.out _ _ S1.out ?_
  clear hK K
  refine Hr.Walk.one (i := 26) (by kernel_rfl) rfl (fun K hK => ?_)
  have hx := S1.out; have a0 : w1.cell? ⟨bk, ok + i * 3, none⟩ = _ := hx.a 0 _ rfl; have a1 := hx.a 1 _ rfl; have a2 := hx.a 2 _ rfl; clear hx
  go_simp
  refine hK.out _ _ S1.out ?_
  clear hK K
  refine Hr.Walk.one (i := 27) (by kernel_rfl) rfl (fun K hK => ?_)
  have hx := S1.out; have a0 : w1.cell? ⟨bk, ok + i * 3, none⟩ = _ := hx.a 0 _ rfl; have a1 := hx.a 1 _ rfl; have a2 := hx.a 2 _ rfl; clear hx
  go_simp
  refine hK.out _ _ S1.out ?_
  clear hK K
  refine Hr.Walk.one (i := 28) (by kernel_rfl) rfl (fun K hK => ?_)
  have hx := S1.out; have a0 : w1.cell? ⟨bk, ok + i * 3, none⟩ = _ := hx.a 0 _ rfl; have a1 := hx.a 1 _ rfl; have a2 := hx.a 2 _ rfl; clear hx
  go_simp
  refine hK.out _ _ S1.out ?_
  clear hK K
  refine Hr.Walk.take (i := 29) (v := undef) (fun x => KpS wo bk (ok + i * 3) (ok + i * 3) [.int .i64 ri, .int .i64 y, .int .i64 i3] [.int .i64 ri, .int .i64 y, .int .i64 i3] x) (fun _ => True) rfl (by kernel_rfl) (by kernel_rfl) (by kernel_rfl) (fun _ _ _ h => HPQ _ _ _ _ _ h) (fun _ _ _ _ _ _ => trivial) (fun _ _ _ h => h) (fun _ _ h => h) trivial (Or.inr ⟨by rfl, rfl⟩) S1.out S1.out ?_
  (try go_simp)
  refine Hr.Walk.take (i := 30) (v := undef) (fun x => KpS wo bk (ok + i * 3) (ok + i * 3) [.int .i64 ri, .int .i64 y, .int .i64 i3] [.int .i64 ri, .int .i64 y, .int .i64 i3] x) (fun _ => True) rfl (by kernel_rfl) (by kernel_rfl) (by kernel_rfl) (fun _ _ _ h => HPQ _ _ _ _ _ h) (fun _ _ _ _ _ _ => trivial) (fun _ _ _ h => h) (fun _ _ h => h) trivial (Or.inr ⟨by rfl, rfl⟩) S1.out S1.out ?_
  (try go_simp)
  refine Hr.Walk.take (i := 31) (v := undef) (fun x => KpS wo bk (ok + i * 3) (ok + i * 3) [.int .i64 ri, .int .i64 y, .int .i64 i3] [.int .i64 ri, .int .i64 y, .int .i64 i3] x) (fun _ => True) rfl (by kernel_rfl) (by kernel_rfl) (by kernel_rfl) (fun _ _ _ h => HPQ _ _ _ _ _ h) (fun _ _ _ _ _ _ => trivial) (fun _ _ _ h => h) (fun _ _ h => h) trivial (Or.inr ⟨by rfl, rfl⟩) S1.out S1.out ?_
  (try go_simp)
  refine Hr.Walk.take (i := 32) (v := undef) (fun x => KpS wo bk (ok + i * 3) (ok + i * 3) [.int .i64 ri, .int .i64 y, .int .i64 i3] [.int .i64 ri, .int .i64 y, .int .i64 i3] x) (fun _ => True) rfl (by kernel_rfl) (by kernel_rfl) (by kernel_rfl) (fun _ _ _ h => HPQ _ _ _ _ _ h) (fun _ _ _ _ _ _ => trivial) (fun _ _ _ h => h) (fun _ _ h => h) trivial (Or.inr ⟨by rfl, rfl⟩) S1.out S1.out ?_
  (try go_simp)
  refine Hr.Walk.take (i := 33) (v := undef) (fun x => KpS wo bk (ok + i * 3) (ok + i * 3) [.int .i64 ri, .int .i64 y, .int .i64 i3] [.int .i64 ri, .int .i64 y, .int .i64 i3] x) (fun _ => True) rfl (by kernel_rfl) (by kernel_rfl) (by kernel_rfl) (fun _ _ _ h => HPQ _ _ _ _ _ h) (fun _ _ _ _ _ _ => trivial) (fun _ _ _ h => h) (fun _ _ h => h) trivial (Or.inr ⟨by rfl, rfl⟩) S1.out S1.out ?_
  (try go_simp)
  refine Hr.Walk.take (i := 34) (v := undef) (fun x => KpS wo bk (ok + i * 3) (ok + i * 3) [.int .i64 ri, .int .i64 y, .int .i64 i3] [.int .i64 ri, .int .i64 y, .int .i64 i3] x) (fun _ => True) rfl (by kernel_rfl) (by kernel_rfl) (by kernel_rfl) (fun _ _ _ h => HPQ _ _ _ _ _ h) (fun _ _ _ _ _ _ => trivial) (fun _ _ _ h => h) (fun _ _ h => h) trivial (Or.inr ⟨by rfl, rfl⟩) S1.out S1.out ?_
  (try go_simp)
  refine Hr.Walk.one (i := 35) (by kernel_rfl) rfl (fun K hK => ?_)
  have hx := S1.out; have a0 : w1.cell? ⟨bk, ok + i * 3, none⟩ = _ := hx.a 0 _ rfl; have a1 := hx.a 1 _ rfl; have a2 := hx.a 2 _ rfl; clear hx
  go_simp
  refine hK.out _ _ S1.out ?_
  clear hK K
  refine Hr.Walk.one (i := 36) (by kernel_rfl) rfl (fun K hK => ?_)
  have hx := S1.out; have a0 : w1.cell? ⟨bk, ok + i * 3, none⟩ = _ := hx.a 0 _ rfl; have a1 := hx.a 1 _ rfl; have a2 := hx.a 2 _ rfl; clear hx
  go_simp
  refine hK.out _ _ S1.out ?_
  clear hK K
  refine Hr.Walk.one (i := 37) (by kernel_rfl) rfl (fun K hK => ?_)
  have hx := S1.out; have a0 : w1.cell? ⟨bk, ok + i * 3, none⟩ = _ := hx.a 0 _ rfl; have a1 := hx.a 1 _ rfl; have a2 := hx.a 2 _ rfl; clear hx
  go_simp
  refine hK.out _ _ S1.out ?_
  clear hK K
  refine Hr.Walk.one (i := 38) (by kernel_rfl) rfl (fun K hK => ?_)
  have hx := S1.out; have a0 : w1.cell? ⟨bk, ok + i * 3, none⟩ = _ := hx.a 0 _ rfl; have a1 := hx.a 1 _ rfl; have a2 := hx.a 2 _ rfl; clear hx
  go_simp
  refine hK.out _ _ S1.out ?_
  clear hK K
  refine Hr.Walk.one (i := 39) (by kernel_rfl) rfl (fun K hK => ?_)
  have hx := S1.out; have a0 : w1.cell? ⟨bk, ok + i * 3, none⟩ = _ := hx.a 0 _ rfl; have a1 := hx.a 1 _ rfl; have a2 := hx.a 2 _ rfl; clear hx
  go_simp
  refine hK.out _ _ S1.out ?_
  clear hK K
  refine Hr.Walk.one (i := 40) (by kernel_rfl) rfl (fun K hK => ?_)
  have hx := S1.out; have a0 : w1.cell? ⟨bk, ok + i * 3, none⟩ = _ := hx.a 0 _ rfl; have a1 := hx.a 1 _ rfl; have a2 := hx.a 2 _ rfl; clear hx
  go_simp
  refine hK.out _ _ S1.out ?_
  clear hK K
  refine Hr.Walk.one (i := 41) (by kernel_rfl) rfl (fun K hK => ?_)
  have hx := S1.out; have a0 : w1.cell? ⟨bk, ok + i * 3, none⟩ = _ := hx.a 0 _ rfl; have a1 := hx.a 1 _ rfl; have a2 := hx.a 2 _ rfl; clear hx
  go_simp
  refine hK.out _ _ S1.out ?_
  clear hK K
  refine Hr.Walk.take (i := 42) (v := undef) (fun x => KpS wo bk (ok + i * 3) (ok + i * 3) [.int .i64 ri, .int .i64 y, .int .i64 i3] [.int .i64 ri, .int .i64 y, .int .i64 i3] x) (fun _ => True) rfl (by kernel_rfl) (by kernel_rfl) (by kernel_rfl) (fun _ _ _ h => HPQ _ _ _ _ _ h) (fun _ _ _ _ _ _ => trivial) (fun _ _ _ h => h) (fun _ _ h => h) trivial (Or.inr ⟨by rfl, rfl⟩) S1.out S1.out ?_
  (try go_simp)
  refine Hr.Walk.take (i := 43) (v := undef) (fun x => KpS wo bk (ok + i * 3) (ok + i * 3) [.int .i64 ri, .int .i64 y, .int .i64 i3] [.int .i64 ri, .int .i64 y, .int .i64 i3] x) (fun _ => True) rfl (by kernel_rfl) (by kernel_rfl) (by kernel_rfl) (fun _ _ _ h => HPQ _ _ _ _ _ h) (fun _ _ _ _ _ _ => trivial) (fun _ _ _ h => h) (fun _ _ h => h) trivial (Or.inr ⟨by rfl, rfl⟩) S1.out S1.out ?_
  (try go_simp)
  refine Hr.Walk.take (i := 44) (v := undef) (fun x => KpS wo bk (ok + i * 3) (ok + i * 3) [.int .i64 ri, .int .i64 y, .int .i64 i3] [.int .i64 ri, .int .i64 y, .int .i64 i3] x) (fun _ => True) rfl (by kernel_rfl) (by kernel_rfl) (by kernel_rfl) (fun _ _ _ h => HPQ _ _ _ _ _ h) (fun _ _ _ _ _ _ => trivial) (fun _ _ _ h => h) (fun _ _ h => h) trivial (Or.inr ⟨by rfl, rfl⟩) S1.out S1.out ?_
  (try go_simp)
  refine Hr.Walk.take (i := 45) (v := undef) (fun x => KpS wo bk (ok + i * 3) (ok + i * 3) [.int .i64 ri, .int .i64 y, .int .i64 i3] [.int .i64 ri, .int .i64 y, .int .i64 i3] x) (fun _ => True) rfl (by kernel_rfl) (by kernel_rfl) (by kernel_rfl) (fun _ _ _ h => HPQ _ _ _ _ _ h) (fun _ _ _ _ _ _ => trivial) (fun _ _ _ h => h) (fun _ _ h => h) trivial (Or.inr ⟨by rfl, rfl⟩) S1.out S1.out ?_
  (try go_simp)
  refine Hr.Walk.take (i := 46) (v := undef) (fun x => KpS wo bk (ok + i * 3) (ok + i * 3) [.int .i64 ri, .int .i64 y, .int .i64 i3] [.int .i64 ri, .int .i64 y, .int .i64 i3] x) (fun _ => True) rfl (by kernel_rfl) (by kernel_rfl) (by kernel_rfl) (fun _ _ _ h => HPQ _ _ _ _ _ h) (fun _ _ _ _ _ _ => trivial) (fun _ _ _ h => h) (fun _ _ h => h) trivial (Or.inr ⟨by rfl, rfl⟩) S1.out S1.out ?_
  (try go_simp)
  refine Hr.Walk.take (i := 47) (v := undef) (fun x => KpS wo bk (ok + i * 3) (ok + i * 3) [.int .i64 ri, .int .i64 y, .int .i64 i3] [.int .i64 ri, .int .i64 y, .int .i64 i3] x) (fun _ => True) rfl (by kernel_rfl) (by kernel_rfl) (by kernel_rfl) (fun _ _ _ h => HPQ _ _ _ _ _ h) (fun _ _ _ _ _ _ => trivial) (fun _ _ _ h => h) (fun _ _ h => h) trivial (Or.inr ⟨by rfl, rfl⟩) S1.out S1.out ?_
  (try go_simp)
  refine Hr.Walk.one (i := 48) (by kernel_rfl) rfl (fun K hK => ?_)
  have hx := S1.out; have a0 : w1.cell? ⟨bk, ok + i * 3, none⟩ = _ := hx.a 0 _ rfl; have a1 := hx.a 1 _ rfl; have a2 := hx.a 2 _ rfl; clear hx
  go_simp
  refine hK.out _ _ S1.out ?_
  clear hK K
  refine Hr.Walk.one (i := 49) (by kernel_rfl) rfl (fun K hK => ?_)
  have hx := S1.out; have a0 : w1.cell? ⟨bk, ok + i * 3, none⟩ = _ := hx.a 0 _ rfl; have a1 := hx.a 1 _ rfl; have a2 := hx.a 2 _ rfl; clear hx
  go_simp
  refine hK.out _ _ S1.out ?_
  clear hK K
  refine Hr.Walk.one (i := 50) (by kernel_rfl) rfl (fun K hK => ?_)
  have hx := S1.out; have a0 : w1.cell? ⟨bk, ok + i * 3, none⟩ = _ := hx.a 0 _ rfl; have a1 := hx.a 1 _ rfl; have a2 := hx.a 2 _ rfl; clear hx
  go_simp
  refine hK.out _ _ S1.out ?_
  clear hK K
  refine Hr.Walk.one (i := 51) (by kernel_rfl) rfl (fun K hK => ?_)
  have hx := S1.out; have a0 : w1.cell? ⟨bk, ok + i * 3, none⟩ = _ := hx.a 0 _ rfl; have a1 := hx.a 1 _ rfl; have a2 := hx.a 2 _ rfl; clear hx
  go_simp
  refine hK.out _ _ S1.out ?_
  clear hK K
  refine Hr.Walk.one (i := 52) (by kernel_rfl) rfl (fun K hK => ?_)
  have hx := S1.out; have a0 : w1.cell? ⟨bk, ok + i * 3, none⟩ = _ := hx.a 0 _ rfl; have a1 := hx.a 1 _ rfl; have a2 := hx.a 2 _ rfl; clear hx
  go_simp
  refine hK.out _ _ S1.out ?_
  clear hK K
  refine Hr.Walk.one (i := 53) (by kernel_rfl) rfl (fun K hK => ?_)
  have hx := S1.out; have a0 : w1.cell? ⟨bk, ok + i * 3, none⟩ = _ := hx.a 0 _ rfl; have a1 := hx.a 1 _ rfl; have a2 := hx.a 2 _ rfl; clear hx
  go_simp
  refine hK.out _ _ S1.out ?_
  clear hK K
  refine Hr.Walk.one (i := 54) (by kernel_rfl) rfl (fun K hK => ?_)
  have hx := S1.out; have a0 : w1.cell? ⟨bk, ok + i * 3, none⟩ = _ := hx.a 0 _ rfl; have a1 := hx.a 1 _ rfl; have a2 := hx.a 2 _ rfl; clear hx
  go_simp
  refine hK.out _ _ S1.out ?_
  clear hK K
  refine Hr.Walk.take (i := 55) (v := undef) (fun x => KpS wo bk (ok + i * 3) (ok + i * 3) [.int .i64 ri, .int .i64 y, .int .i64 i3] [.int .i64 ri, .int .i64 y, .int .i64 i3] x) (fun _ => True) rfl (by kernel_rfl) (by kernel_rfl) (by kernel_rfl) (fun _ _ _ h => HPQ _ _ _ _ _ h) (fun _ _ _ _ _ _ => trivial) (fun _ _ _ h => h) (fun _ _ h => h) trivial (Or.inr ⟨by rfl, rfl⟩) S1.out S1.out ?_
  (try go_simp)
  refine Hr.Walk.take (i := 56) (v := undef) (fun x => KpS wo bk (ok + i * 3) (ok + i * 3) [.int .i64 ri, .int .i64 y, .int .i64 i3] [.int .i64 ri, .int .i64 y, .int .i64 i3] x) (fun _ => True) rfl (by kernel_rfl) (by kernel_rfl) (by kernel_rfl) (fun _ _ _ h => HPQ _ _ _ _ _ h) (fun _ _ _ _ _ _ => trivial) (fun _ _ _ h => h) (fun _ _ h => h) trivial (Or.inr ⟨by rfl, rfl⟩) S1.out S1.out ?_
  (try go_simp)
  refine Hr.Walk.take (i := 57) (v := undef) (fun x => KpS wo bk (ok + i * 3) (ok + i * 3) [.int .i64 ri, .int .i64 y, .int .i64 i3] [.int .i64 ri, .int .i64 y, .int .i64 i3] x) (fun _ => True) rfl (by kernel_rfl) (by kernel_rfl) (by kernel_rfl) (fun _ _ _ h => HPQ _ _ _ _ _ h) (fun _ _ _ _ _ _ => trivial) (fun _ _ _ h => h) (fun _ _ h => h) trivial (Or.inr ⟨by rfl, rfl⟩) S1.out S1.out ?_
  (try go_simp)
  refine Hr.Walk.take (i := 58) (v := undef) (fun x => KpS wo bk (ok + i * 3) (ok + i * 3) [.int .i64 ri, .int .i64 y, .int .i64 i3] [.int .i64 ri, .int .i64 y, .int .i64 i3] x) (fun _ => True) rfl (by kernel_rfl) (by kernel_rfl) (by kernel_rfl) (fun _ _ _ h => HPQ _ _ _ _ _ h) (fun _ _ _ _ _ _ => trivial) (fun _ _ _ h => h) (fun _ _ h => h) trivial (Or.inr ⟨by rfl, rfl⟩) S1.out S1.out ?_
  (try go_simp)
  refine Hr.Walk.take (i := 59) (v := undef) (fun x => KpS wo bk (ok + i * 3) (ok + i * 3) [.int .i64 ri, .int .i64 y, .int .i64 i3] [.int .i64 ri, .int .i64 y, .int .i64 i3] x) (fun _ => True) rfl (by kernel_rfl) (by kernel_rfl) (by kernel_rfl) (fun _ _ _ h => HPQ _ _ _ _ _ h) (fun _ _ _ _ _ _ => trivial) (fun _ _ _ h => h) (fun _ _ h => h) trivial (Or.inr ⟨by rfl, rfl⟩) S1.out S1.out ?_
  (try go_simp)
  refine Hr.Walk.take (i := 60) (v := undef) (fun x => KpS wo bk (ok + i * 3) (ok + i * 3) [.int .i64 ri, .int .i64 y, .int .i64 i3] [.int .i64 ri, .int .i64 y, .int .i64 i3] x) (fun _ => True) rfl (by kernel_rfl) (by kernel_rfl) (by kernel_rfl) (fun _ _ _ h => HPQ _ _ _ _ _ h) (fun _ _ _ _ _ _ => trivial) (fun _ _ _ h => h) (fun _ _ h => h) trivial (Or.inr ⟨by rfl, rfl⟩) S1.out S1.out ?_
  (try go_simp)
  refine Hr.Walk.one (i := 61) (by kernel_rfl) rfl (fun K hK => ?_)
  have hx := S1.out; have a0 : w1.cell? ⟨bk, ok + i * 3, none⟩ = _ := hx.a 0 _ rfl; have a1 := hx.a 1 _ rfl; have a2 := hx.a 2 _ rfl; clear hx
  go_simp
  refine hK.out _ _ S1.out ?_
  clear hK K
  refine Hr.Walk.one (i := 62) (by kernel_rfl) rfl (fun K hK => ?_)
  have hx := S1.out; have a0 : w1.cell? ⟨bk, ok + i * 3, none⟩ = _ := hx.a 0 _ rfl; have a1 := hx.a 1 _ rfl; have a2 := hx.a 2 _ rfl; clear hx
  go_simp
  refine hK.out _ _ S1.out ?_
  clear hK K
  refine Hr.Walk.one (i := 63) (by kernel_rfl) rfl (fun K hK => ?_)
  have hx := S1.out; have a0 : w1.cell? ⟨bk, ok + i * 3, none⟩ = _ := hx.a 0 _ rfl; have a1 := hx.a 1 _ rfl; have a2 := hx.a 2 _ rfl; clear hx
  go_simp
  refine hK.out _ _ S1.out ?_
  clear hK K
  refine Hr.Walk.one (i := 64) (by kernel_rfl) rfl (fun K hK => ?_)
  have hx := S1.out; have a0 : w1.cell? ⟨bk, ok + i * 3, none⟩ = _ := hx.a 0 _ rfl; have a1 := hx.a 1 _ rfl; have a2 := hx.a 2 _ rfl; clear hx
  go_simp
  refine hK.out _ _ S1.out ?_
  clear hK K
  refine Hr.Walk.one (i := 65) (by kernel_rfl) rfl (fun K hK => ?_)
  have hx := S1.out; have a0 : w1.cell? ⟨bk, ok + i * 3, none⟩ = _ := hx.a 0 _ rfl; have a1 := hx.a 1 _ rfl; have a2 := hx.a 2 _ rfl; clear hx
  go_simp
  refine hK.out _ _ S1.out ?_
  clear hK K
  refine Hr.Walk.one (i := 66) (by kernel_rfl) rfl (fun K hK => ?_)
  have hx := S1.out; have a0 : w1.cell? ⟨bk, ok + i * 3, none⟩ = _ := hx.a 0 _ rfl; have a1 := hx.a 1 _ rfl; have a2 := hx.a 2 _ rfl; clear hx
  go_simp
  refine hK.out _ _ S1.out ?_
  clear hK K
  refine Hr.Walk.one (i := 67) (by kernel_rfl) rfl (fun K hK => ?_)
  have hx := S1.out; have a0 : w1.cell? ⟨bk, ok + i * 3, none⟩ = _ := hx.a 0 _ rfl; have a1 := hx.a 1 _ rfl; have a2 := hx.a 2 _ rfl; clear hx
  go_simp
  refine hK.out _ _ S1.out ?_
  clear hK K
  refine Hr.Walk.one (i := 68) (by kernel_rfl) rfl (fun K hK => ?_)
  have hx := S1.out; have a0 : w1.cell? ⟨bk, ok + i * 3, none⟩ = _ := hx.a 0 _ rfl; have a1 := hx.a 1 _ rfl; have a2 := hx.a 2 _ rfl; clear hx
  go_simp
  refine hK.out _ _ S1.out ?_
  clear hK K
  refine Hr.Walk.one (i := 69) (by kernel_rfl) rfl (fun K hK => ?_)
  have hx := S1.out; have a0 : w1.cell? ⟨bk, ok + i * 3, none⟩ = _ := hx.a 0 _ rfl; have a1 := hx.a 1 _ rfl; have a2 := hx.a 2 _ rfl; clear hx
  go_simp
  refine hK.out _ _ S1.out ?_
  clear hK K
  refine Hr.Walk.one (i := 70) (by kernel_rfl) rfl (fun K hK => ?_)
  have hx := S1.out; have a0 : w1.cell? ⟨bk, ok + i * 3, none⟩ = _ := hx.a 0 _ rfl; have a1 := hx.a 1 _ rfl; have a2 := hx.a 2 _ rfl; clear hx
  go_simp
  refine hK.out _ _ S1.out ?_
  clear hK K
  refine Hr.Walk.one (i := 71) (by kernel_rfl) rfl (fun K hK => ?_)
  have hx := S1.out; have a0 : w1.cell? ⟨bk, ok + i * 3, none⟩ = _ := hx.a 0 _ rfl; have a1 := hx.a 1 _ rfl; have a2 := hx.a 2 _ rfl; clear hx
  go_simp
  refine hK.out _ _ S1.out ?_
  clear hK K
  refine Hr.Walk.done (by kernel_rfl) ?_ _
  have S1g := Lib.hid S1.out.g
  exact hQ _ _ _ _ _ _ _ _ _ _ _ _ _ _ _ _ _ _ _ _ _ _ _ _ _ _ _ _ _ _ _ _ _ _ _ _ _ _ _ _ _ _ _ _ _ _ _ _ _ _ _ _ _ _ _ _ _ _ _ _ _ _ _ _ _ _ _ _ _ _ _ _ S1g

set_option maxHeartbeats 25600000 in
set_option maxRecDepth 100000 in
theorem rr9b (Q : Exit → Act → World → Prop) (A0 : Option Addr) (N cV bk ok KN cK q ri : Nat) (y i3 p1 p2 p3 : Int) (wo : World) (S0 : Hid (KpS wo bk (ok + (q + 1) * 3) (ok + q * 3) [.int .i64 ri, .int .i64 y, .int .i64 i3] [.int .i64 p1, .int .i64 p2, .int .i64 p3] wo)) (g0 : (0 : Int) < ((q + 1 : Nat) : Int)) (hlt : q + 1 < KN) (kb : KN ≤ 2000000) (h1 : ¬ i3 < p3) (h2 : (i3 == p3) = false) (z1 z2 z3 z4 z5 z6 z8 z10 z11 z12 z13 z14 z15 z16 z17 z18 z19 z20 z21 z22 z23 z24 z25 z26 z27 z28 z29 z30 z31 z32 z33 z34 z35 z36 z37 z38 z39 z40 z41 z42 z43 z44 z45 z46 z47 z48 z49 z50 z51 z52 z53 z54 z55 z56 z57 z58 z59 z60 z61 z62 z63 z64 z65 z66 z67 z68 z69 z70 z71 z72 z73 z74 z75 z76 z77 z78 z79 z80 z81 z82 z83 z84 z85 z86 z87 z88 z89 z90 z91 z92 z93 z94 z95 z96 z97 z98 z99 z100 z101 z102 z103 z104 z105 z106 z107 z108 z109 z110 z111 z112 z113 z114 z115 z116 z117 z118 z119 z120 z121 z122 z123 z124 z125 z126 z127 z128 z129 z130 z131 z132 z133 z134 z135 z136 z137 z138 z139 z140 z141 z142 z143 z144 z145 z146 z147 z148 z149 z150 z151 z152 z153 z154 z155 z156 z157 z158 z159 z160 z161 z162 z163 z164 z165 z166 z167 z168 z169 z170 z171 z172 z173 z174 z175 z176 z177 z178 z179 z180 z181 z182 z183 z184 z185 z186 z187 z188 z189 z190 z191 z192 z193 z194 z195 z196 z197 z198 z199 z200 z201 z202 z203 z204 z205 z206 z207 z208 z209 z210 z211 z212 z213 z214 z215 z216 z217 z218 z219 z220 z221 z222 z223 z224 z225 z226 z227 z228 z229 z230 z231 z232 z233 z234 z235 z236 z237 z238 z239 z240 z241 z242 z243 z244 z245 z246 z247 z248 z249 z250 z251 z252 z253 z254 z255 z256 z257 z258 z259 z260 z261 : Value) (HPQ : ∀ c (a : Act) d (v : Value) (wz : World), Q (.panic c) (a.put d v) wz → Q (.panic c) a wz) (hQ : ∀ (y53 y54 y55 y56 y57 y58 y59 y60 y61 y62 y63 y64 y65 y66 y67 y68 y69 y70 y71 y72 y73 y74 y75 y76 y77 y78 y79 y80 y81 y82 y83 y84 y85 y86 y87 y88 y89 y90 y91 y92 y93 y94 y95 y96 y97 y98 y99 y100 y101 y102 y103 y104 y105 y106 y107 y108 y109 y110 y111 y112 y113 y114 y115 y116 y117 y118 y119 y120 y121 y122 y123 : Value) (wz : World), Hid (Below wo.heap.size wo wz) → Q .normal ⟨List.toArray (.slice A0 N cV :: z1 :: z2 :: z3 :: z4 :: z5 :: z6 :: .slice (some ⟨bk, ok, none⟩) KN cK :: z8 :: .int .i64 ((q + 1 : Nat) : Int) :: z10 :: z11 :: z12 :: z13 :: z14 :: z15 :: z16 :: z17 :: z18 :: z19 :: z20 :: z21 :: z22 :: z23 :: z24 :: z25 :: z26 :: z27 :: z28 :: z29 :: z30 :: z31 :: z32 :: z33 :: z34 :: z35 :: z36 :: z37 :: z38 :: z39 :: z40 :: z41 :: z42 :: z43 :: z44 :: z45 :: z46 :: z47 :: z48 :: z49 :: z50 :: z51 :: z52 :: y53 :: y54 :: y55 :: y56 :: y57 :: y58 :: y59 :: y60 :: y61 :: y62 :: y63 :: y64 :: y65 :: y66 :: y67 :: y68 :: y69 :: y70 :: y71 :: y72 :: y73 :: y74 :: y75 :: y76 :: y77 :: y78 :: y79 :: y80 :: y81 :: y82 :: y83 :: y84 :: y85 :: y86 :: y87 :: y88 :: y89 :: y90 :: y91 :: y92 :: y93 :: y94 :: y95 :: y96 :: y97 :: y98 :: y99 :: y100 :: y101 :: y102 :: y103 :: y104 :: y105 :: y106 :: y107 :: y108 :: y109 :: y110 :: y111 :: y112 :: y113 :: y114 :: y115 :: y116 :: y117 :: y118 :: y119 :: y120 :: y121 :: y122 :: y123 :: .bool false :: z125 :: z126 :: z127 :: z128 :: z129 :: z130 :: z131 :: z132 :: z133 :: z134 :: z135 :: z136 :: z137 :: z138 :: z139 :: z140 :: z141 :: z142 :: z143 :: z144 :: z145 :: z146 :: z147 :: z148 :: z149 :: z150 :: z151 :: z152 :: z153 :: z154 :: z155 :: z156 :: z157 :: z158 :: z159 :: z160 :: z161 :: z162 :: z163 :: z164 :: z165 :: z166 :: z167 :: z168 :: z169 :: z170 :: z171 :: z172 :: z173 :: z174 :: z175 :: z176 :: z177 :: z178 :: z179 :: z180 :: z181 :: z182 :: z183 :: z184 :: z185 :: z186 :: z187 :: z188 :: z189 :: z190 :: z191 :: z192 :: z193 :: z194 :: z195 :: z196 :: z197 :: z198 :: z199 :: z200 :: z201 :: z202 :: z203 :: z204 :: z205 :: z206 :: z207 :: z208 :: z209 :: z210 :: z211 :: z212 :: z213 :: z214 :: z215 :: z216 :: z217 :: z218 :: z219 :: z220 :: z221 :: z222 :: z223 :: z224 :: z225 :: z226 :: z227 :: z228 :: z229 :: z230 :: z231 :: z232 :: z233 :: z234 :: z235 :: z236 :: z237 :: z238 :: z239 :: z240 :: z241 :: z242 :: z243 :: z244 :: z245 :: z246 :: z247 :: z248 :: z249 :: z250 :: z251 :: z252 :: z253 :: z254 :: z255 :: z256 :: z257 :: z258 :: z259 :: z260 :: z261 :: []), []⟩ wz) : Code.wp Tryd.prog rg9C Q ⟨List.toArray (.slice A0 N cV :: z1 :: z2 :: z3 :: z4 :: z5 :: z6 :: .slice (some ⟨bk, ok, none⟩) KN cK :: z8 :: .int .i64 ((q + 1 : Nat) : Int) :: z10 :: z11 :: z12 :: z13 :: z14 :: z15 :: z16 :: z17 :: z18 :: z19 :: z20 :: z21 :: z22 :: z23 :: z24 :: z25 :: z26 :: z27 :: z28 :: z29 :: z30 :: z31 :: z32 :: z33 :: z34 :: z35 :: z36 :: z37 :: z38 :: z39 :: z40 :: z41 :: z42 :: z43 :: z44 :: z45 :: z46 :: z47 :: z48 :: z49 :: z50 :: z51 :: z52 :: z53 :: z54 :: z55 :: z56 :: z57 :: z58 :: z59 :: z60 :: z61 :: z62 :: z63 :: z64 :: z65 :: z66 :: z67 :: z68 :: z69 :: z70 :: z71 :: z72 :: z73 :: z74 :: z75 :: z76 :: z77 :: z78 :: z79 :: z80 :: z81 :: z82 :: z83 :: z84 :: z85 :: z86 :: z87 :: z88 :: z89 :: z90 :: z91 :: z92 :: z93 :: z94 :: z95 :: z96 :: z97 :: z98 :: z99 :: z100 :: z101 :: z102 :: z103 :: z104 :: z105 :: z106 :: z107 :: z108 :: z109 :: z110 :: z111 :: z112 :: z113 :: z114 :: z115 :: z116 :: z117 :: z118 :: z119 :: z120 :: z121 :: z122 :: z123 :: z124 :: z125 :: z126 :: z127 :: z128 :: z129 :: z130 :: z131 :: z132 :: z133 :: z134 :: z135 :: z136 :: z137 :: z138 :: z139 :: z140 :: z141 :: z142 :: z143 :: z144 :: z145 :: z146 :: z147 :: z148 :: z149 :: z150 :: z151 :: z152 :: z153 :: z154 :: z155 :: z156 :: z157 :: z158 :: z159 :: z160 :: z161 :: z162 :: z163 :: z164 :: z165 :: z166 :: z167 :: z168 :: z169 :: z170 :: z171 :: z172 :: z173 :: z174 :: z175 :: z176 :: z177 :: z178 :: z179 :: z180 :: z181 :: z182 :: z183 :: z184 :: z185 :: z186 :: z187 :: z188 :: z189 :: z190 :: z191 :: z192 :: z193 :: z194 :: z195 :: z196 :: z197 :: z198 :: z199 :: z200 :: z201 :: z202 :: z203 :: z204 :: z205 :: z206 :: z207 :: z208 :: z209 :: z210 :: z211 :: z212 :: z213 :: z214 :: z215 :: z216 :: z217 :: z218 :: z219 :: z220 :: z221 :: z222 :: z223 :: z224 :: z225 :: z226 :: z227 :: z228 :: z229 :: z230 :: z231 :: z232 :: z233 :: z234 :: z235 :: z236 :: z237 :: z238 :: z239 :: z240 :: z241 :: z242 :: z243 :: z244 :: z245 :: z246 :: z247 :: z248 :: z249 :: z250 :: z251 :: z252 :: z253 :: z254 :: z255 :: z256 :: z257 :: z258 :: z259 :: z260 :: z261 :: []), []⟩ wo := by
  conv => arg 2; whnf
  have w1x : IntKind.i64.wrap (((q + 1 : Nat) : Int) - 1) = (q : Int) := by rw [IntKind.wrap_i64]; omega
  have w2x : IntKind.i64.wrap (q : Int) = (q : Int) := by rw [IntKind.wrap_i64]; omega
  have hx1 : (q : Int) + 1 < (KN : Int) := by omega
  have hx0 : (0 : Int) ≤ (q : Int) + 1 := by omega
  have hx2 : (q : Int) < (KN : Int) := by omega
  refine Hr.Walk.region (R := fun _ x => KpS wo bk (ok + (q + 1) * 3) (ok + q * 3) [.int .i64 ri, .int .i64 y, .int .i64 i3] [.int .i64 p1, .int .i64 p2, .int .i64 p3] x) (by kernel_rfl) ?_
  obtain ⟨w1, hw1⟩ : ∃ z, wo.drew = z := ⟨_, rfl⟩
  have S1 : Hid (KpS wo bk (ok + (q + 1) * 3) (ok + q * 3) [.int .i64 ri, .int .i64 y, .int .i64 i3] [.int .i64 p1, .int .i64 p2, .int .i64 p3] w1) := Lib.hid (by rw [← hw1]; exact ⟨S0.out.a, S0.out.d, below_drewN S0.out.g 1⟩)
  rw [hw1]
  clear hw1
  refine Hr.Walk.one (i := 0) (by kernel_rfl) rfl (fun K hK => ?_)
  have hx := S1.out; have a0 : w1.cell? ⟨bk, ok + (q + 1) * 3, none⟩ = _ := hx.a 0 _ rfl; have a1 := hx.a 1 _ rfl; have a2 := hx.a 2 _ rfl; have d0 : w1.cell? ⟨bk, ok + q * 3, none⟩ = _ := hx.d 0 _ rfl; have d1 := hx.d 1 _ rfl; have d2 := hx.d 2 _ rfl; clear hx
  go_simp
  refine hK.out _ _ S1.out ?_
  clear hK K
  refine Hr.Walk.one (i := 1) (by kernel_rfl) rfl (fun K hK => ?_)
  have hx := S1.out; have a0 : w1.cell? ⟨bk, ok + (q + 1) * 3, none⟩ = _ := hx.a 0 _ rfl; have a1 := hx.a 1 _ rfl; have a2 := hx.a 2 _ rfl; have d0 : w1.cell? ⟨bk, ok + q * 3, none⟩ = _ := hx.d 0 _ rfl; have d1 := hx.d 1 _ rfl; have d2 := hx.d 2 _ rfl; clear hx
  go_simp
  refine hK.out _ _ S1.out ?_
  clear hK K
  refine Hr.Walk.one (i := 2) (by kernel_rfl) rfl (fun K hK => ?_)
  have hx := S1.out; have a0 : w1.cell? ⟨bk, ok + (q + 1) * 3, none⟩ = _ := hx.a 0 _ rfl; have a1 := hx.a 1 _ rfl; have a2 := hx.a 2 _ rfl; have d0 : w1.cell? ⟨bk, ok + q * 3, none⟩ = _ := hx.d 0 _ rfl; have d1 := hx.d 1 _ rfl; have d2 := hx.d 2 _ rfl; clear hx
  go_simp
  refine hK.out _ _ S1.out ?_
  clear hK K
  refine Hr.Walk.take (i := 3) (v := ?vnb3) (fun x => KpS wo bk (ok + (q + 1) * 3) (ok + q * 3) [.int .i64 ri, .int .i64 y, .int .i64 i3] [.int .i64 p1, .int .i64 p2, .int .i64 p3] x) (fun _ => True) rfl (by kernel_rfl) (by kernel_rfl) (by kernel_rfl) (fun _ _ _ h => HPQ _ _ _ _ _ h) (fun _ _ _ _ _ _ => trivial) (fun _ _ _ h => h) (fun _ _ h => h) trivial (Or.inl ⟨by rfl, ?hynb3⟩) S1.out S1.out ?restnb3
  case hynb3 => intro x hx; have a0 : x.cell? ⟨bk, ok + (q + 1) * 3, none⟩ = _ := hx.a 0 _ rfl; have a1 := hx.a 1 _ rfl; have a2 := hx.a 2 _ rfl; have d0 : x.cell? ⟨bk, ok + q * 3, none⟩ = _ := hx.d 0 _ rfl; have d1 := hx.d 1 _ rfl; have d2 := hx.d 2 _ rfl; clear hx; go_simp; try with_reducible rfl
  (try go_simp)
  refine Hr.Walk.take (i := 4) (v := ?vnb4) (fun x => KpS wo bk (ok + (q + 1) * 3) (ok + q * 3) [.int .i64 ri, .int .i64 y, .int .i64 i3] [.int .i64 p1, .int .i64 p2, .int .i64 p3] x) (fun _ => True) rfl (by kernel_rfl) (by kernel_rfl) (by kernel_rfl) (fun _ _ _ h => HPQ _ _ _ _ _ h) (fun _ _ _ _ _ _ => trivial) (fun _ _ _ h => h) (fun _ _ h => h) trivial (Or.inl ⟨by rfl, ?hynb4⟩) S1.out S1.out ?restnb4
  case hynb4 => intro x hx; have a0 : x.cell? ⟨bk, ok + (q + 1) * 3, none⟩ = _ := hx.a 0 _ rfl; have a1 := hx.a 1 _ rfl; have a2 := hx.a 2 _ rfl; have d0 : x.cell? ⟨bk, ok + q * 3, none⟩ = _ := hx.d 0 _ rfl; have d1 := hx.d 1 _ rfl; have d2 := hx.d 2 _ rfl; clear hx; go_simp; try with_reducible rfl
  (try go_simp)
  refine Hr.Walk.take (i := 5) (v := ?vnb5) (fun x => KpS wo bk (ok + (q + 1) * 3) (ok + q * 3) [.int .i64 ri, .int .i64 y, .int .i64 i3] [.int .i64 p1, .int .i64 p2, .int .i64 p3] x) (fun _ => True) rfl (by kernel_rfl) (by kernel_rfl) (by kernel_rfl) (fun _ _ _ h => HPQ _ _ _ _ _ h) (fun _ _ _ _ _ _ => trivial) (fun _ _ _ h => h) (fun _ _ h => h) trivial (Or.inl ⟨by rfl, ?hynb5⟩) S1.out S1.out ?restnb5
  case hynb5 => intro x hx; have a0 : x.cell? ⟨bk, ok + (q + 1) * 3, none⟩ = _ := hx.a 0 _ rfl; have a1 := hx.a 1 _ rfl; have a2 := hx.a 2 _ rfl; have d0 : x.cell? ⟨bk, ok + q * 3, none⟩ = _ := hx.d 0 _ rfl; have d1 := hx.d 1 _ rfl; have d2 := hx.d 2 _ rfl; clear hx; go_simp; try with_reducible rfl
  (try go_simp)
  refine Hr.Walk.take (i := 6) (v := ?vnb6) (fun x => KpS wo bk (ok + (q + 1) * 3) (ok + q * 3) [.int .i64 ri, .int .i64 y, .int .i64 i3] [.int .i64 p1, .int .i64 p2, .int .i64 p3] x) (fun _ => True) rfl (by kernel_rfl) (by kernel_rfl) (by kernel_rfl) (fun _ _ _ h => HPQ _ _ _ _ _ h) (fun _ _ _ _ _ _ => trivial) (fun _ _ _ h => h) (fun _ _ h => h) trivial (Or.inl ⟨by rfl, ?hynb6⟩) S1.out S1.out ?restnb6
  case hynb6 => intro x hx; have a0 : x.cell? ⟨bk, ok + (q + 1) * 3, none⟩ = _ := hx.a 0 _ rfl; have a1 := hx.a 1 _ rfl; have a2 := hx.a 2 _ rfl; have d0 : x.cell? ⟨bk, ok + q * 3, none⟩ = _ := hx.d 0 _ rfl; have d1 := hx.d 1 _ rfl; have d2 := hx.d 2 _ rfl; clear hx; go_simp; try with_reducible rfl
  (try go_simp)
  refine Hr.Walk.take (i := 7) (v := ?vnb7) (fun x => KpS wo bk (ok + (q + 1) * 3) (ok + q * 3) [.int .i64 ri, .int .i64 y, .int .i64 i3] [.int .i64 p1, .int .i64 p2, .int .i64 p3] x) (fun _ => True) rfl (by kernel_rfl) (by kernel_rfl) (by kernel_rfl) (fun _ _ _ h => HPQ _ _ _ _ _ h) (fun _ _ _ _ _ _ => trivial) (fun _ _ _ h => h) (fun _ _ h => h) trivial (Or.inl ⟨by rfl, ?hynb7⟩) S1.out S1.out ?restnb7
  case hynb7 => intro x hx; have a0 : x.cell? ⟨bk, ok + (q + 1) * 3, none⟩ = _ := hx.a 0 _ rfl; have a1 := hx.a 1 _ rfl; have a2 := hx.a 2 _ rfl; have d0 : x.cell? ⟨bk, ok + q * 3, none⟩ = _ := hx.d 0 _ rfl; have d1 := hx.d 1 _ rfl; have d2 := hx.d 2 _ rfl; clear hx; go_simp; try with_reducible rfl
  (try go_simp)
  refine Hr.Walk.take (i := 8) (v := ?vnb8) (fun x => KpS wo bk (ok + (q + 1) * 3) (ok + q * 3) [.int .i64 ri, .int .i64 y, .int .i64 i3] [.int .i64 p1, .int .i64 p2, .int .i64 p3] x) (fun _ => True) rfl (by kernel_rfl) (by kernel_rfl) (by kernel_rfl) (fun _ _ _ h => HPQ _ _ _ _ _ h) (fun _ _ _ _ _ _ => trivial) (fun _ _ _ h => h) (fun _ _ h => h) trivial (Or.inl ⟨by rfl, ?hynb8⟩) S1.out S1.out ?restnb8
  case hynb8 => intro x hx; have a0 : x.cell? ⟨bk, ok + (q + 1) * 3, none⟩ = _ := hx.a 0 _ rfl; have a1 := hx.a 1 _ rfl; have a2 := hx.a 2 _ rfl; have d0 : x.cell? ⟨bk, ok + q * 3, none⟩ = _ := hx.d 0 _ rfl; have d1 := hx.d 1 _ rfl; have d2 := hx.d 2 _ rfl; clear hx; go_simp; try with_reducible rfl
  (try go_simp)
  refine Hr.Walk.one (i := 9) (by kernel_rfl) rfl (fun K hK => ?_)
  have hx := S1.out; have a0 : w1.cell? ⟨bk, ok + (q + 1) * 3, none⟩ = _ := hx.a 0 _ rfl; have a1 := hx.a 1 _ rfl; have a2 := hx.a 2 _ rfl; have d0 : w1.cell? ⟨bk, ok + q * 3, none⟩ = _ := hx.d 0 _ rfl; have d1 := hx.d 1 _ rfl; have d2 := hx.d 2 _ rfl; clear hx
  go_simp
  refine hK.out _ _ S1.out ?_
  clear hK K
  refine Hr.Walk.one (i := 10) (by kernel_rfl) rfl (fun K hK => ?_)
  have hx := S1.out; have a0 : w1.cell? ⟨bk, ok + (q + 1) * 3, none⟩ = _ := hx.a 0 _ rfl; have a1 := hx.a 1 _ rfl; have a2 := hx.a 2 _ rfl; have d0 : w1.cell? ⟨bk, ok + q * 3, none⟩ = _ := hx.d 0 _ rfl; have d1 := hx.d 1 _ rfl; have d2 := hx.d 2 _ rfl; clear hx
  go_simp
  refine hK.out _ _ S1.out ?_
  clear hK K
  refine Hr.Walk.one (i := 11) (by kernel_rfl) rfl (fun K hK => ?_)
  have hx := S1.out; have a0 : w1.cell? ⟨bk, ok + (q + 1) * 3, none⟩ = _ := hx.a 0 _ rfl; have a1 := hx.a 1 _ rfl; have a2 := hx.a 2 _ rfl; have d0 : w1.cell? ⟨bk, ok + q * 3, none⟩ = _ := hx.d 0 _ rfl; have d1 := hx.d 1 _ rfl; have d2 := hx.d 2 _ rfl; clear hx
  go_simp
  refine hK.out _ _ S1.out ?_
  clear hK K
  refine Hr.Walk.one (i := 12) (by kernel_rfl) rfl (fun K hK => ?_)
  have hx := S1.out; have a0 : w1.cell? ⟨bk, ok + (q + 1) * 3, none⟩ = _ := hx.a 0 _ rfl; have a1 := hx.a 1 _ rfl; have a2 := hx.a 2 _ rfl; have d0 : w1.cell? ⟨bk, ok + q * 3, none⟩ = _ := hx.d 0 _ rfl; have d1 := hx.d 1 _ rfl; have d2 := hx.d 2 _ rfl; clear hx
  go_simp
  refine hK.out _ _ S1.out ?_
  clear hK K
  refine Hr.Walk.one (i := 13) (by kernel_rfl) rfl (fun K hK => ?_)
  have hx := S1.out; have a0 : w1.cell? ⟨bk, ok + (q + 1) * 3, none⟩ = _ := hx.a 0 _ rfl; have a1 := hx.a 1 _ rfl; have a2 := hx.a 2 _ rfl; have d0 : w1.cell? ⟨bk, ok + q * 3, none⟩ = _ := hx.d 0 _ rfl; have d1 := hx.d 1 _ rfl; have d2 := hx.d 2 _ rfl; clear hx
  go_simp
  refine hK.out _ _ S1.out ?_
  clear hK K
  refine Hr.Walk.one (i := 14) (by kernel_rfl) rfl (fun K hK => ?_)
  have hx := S1.out; have a0 : w1.cell? ⟨bk, ok + (q + 1) * 3, none⟩ = _ := hx.a 0 _ rfl; have a1 := hx.a 1 _ rfl; have a2 := hx.a 2 _ rfl; have d0 : w1.cell? ⟨bk, ok + q * 3, none⟩ = _ := hx.d 0 _ rfl; have d1 := hx.d 1 _ rfl; have d2 := hx.d 2 _ rfl; clear hx
  go_simp
  refine hK.out _ _ S1.out ?_
  clear hK K
  refine Hr.Walk.one (i := 15) (by kernel_rfl) rfl (fun K hK => ?_)
  have hx := S1.out; have a0 : w1.cell? ⟨bk, ok + (q + 1) * 3, none⟩ = _ := hx.a 0 _ rfl; have a1 := hx.a 1 _ rfl; have a2 := hx.a 2 _ rfl; have d0 : w1.cell? ⟨bk, ok + q * 3, none⟩ = _ := hx.d 0 _ rfl; have d1 := hx.d 1 _ rfl; have d2 := hx.d 2 _ rfl; clear hx
  go_simp
  refine hK.out _ _ S1.out ?_
  clear hK K
  refine Hr.Walk.take (i := 16) (v := ?vnb16) (fun x => KpS wo bk (ok + (q + 1) * 3) (ok + q * 3) [.int .i64 ri, .int .i64 y, .int .i64 i3] [.int .i64 p1, .int .i64 p2, .int .i64 p3] x) (fun _ => True) rfl (by kernel_rfl) (by kernel_rfl) (by kernel_rfl) (fun _ _ _ h => HPQ _ _ _ _ _ h) (fun _ _ _ _ _ _ => trivial) (fun _ _ _ h => h) (fun _ _ h => h) trivial (Or.inl ⟨by rfl, ?hynb16⟩) S1.out S1.out ?restnb16
  case hynb16 => intro x hx; have a0 : x.cell? ⟨bk, ok + (q + 1) * 3, none⟩ = _ := hx.a 0 _ rfl; have a1 := hx.a 1 _ rfl; have a2 := hx.a 2 _ rfl; have d0 : x.cell? ⟨bk, ok + q * 3, none⟩ = _ := hx.d 0 _ rfl; have d1 := hx.d 1 _ rfl; have d2 := hx.d 2 _ rfl; clear hx; go_simp; try with_reducible rfl
  (try go_simp)
  refine Hr.Walk.take (i := 17) (v := ?vnb17) (fun x => KpS wo bk (ok + (q + 1) * 3) (ok + q * 3) [.int .i64 ri, .int .i64 y, .int .i64 i3] [.int .i64 p1, .int .i64 p2, .int .i64 p3] x) (fun _ => True) rfl (by kernel_rfl) (by kernel_rfl) (by kernel_rfl) (fun _ _ _ h => HPQ _ _ _ _ _ h) (fun _ _ _ _ _ _ => trivial) (fun _ _ _ h => h) (fun _ _ h => h) trivial (Or.inl ⟨by rfl, ?hynb17⟩) S1.out S1.out ?restnb17
  case hynb17 => intro x hx; have a0 : x.cell? ⟨bk, ok + (q + 1) * 3, none⟩ = _ := hx.a 0 _ rfl; have a1 := hx.a 1 _ rfl; have a2 := hx.a 2 _ rfl; have d0 : x.cell? ⟨bk, ok + q * 3, none⟩ = _ := hx.d 0 _ rfl; have d1 := hx.d 1 _ rfl; have d2 := hx.d 2 _ rfl; clear hx; go_simp; try with_reducible rfl
  (try go_simp)
  refine Hr.Walk.take (i := 18) (v := ?vnb18) (fun x => KpS wo bk (ok + (q + 1) * 3) (ok + q * 3) [.int .i64 ri, .int .i64 y, .int .i64 i3] [.int .i64 p1, .int .i64 p2, .int .i64 p3] x) (fun _ => True) rfl (by kernel_rfl) (by kernel_rfl) (by kernel_rfl) (fun _ _ _ h => HPQ _ _ _ _ _ h) (fun _ _ _ _ _ _ => trivial) (fun _ _ _ h => h) (fun _ _ h => h) trivial (Or.inl ⟨by rfl, ?hynb18⟩) S1.out S1.out ?restnb18
  case hynb18 => intro x hx; have a0 : x.cell? ⟨bk, ok + (q + 1) * 3, none⟩ = _ := hx.a 0 _ rfl; have a1 := hx.a 1 _ rfl; have a2 := hx.a 2 _ rfl; have d0 : x.cell? ⟨bk, ok + q * 3, none⟩ = _ := hx.d 0 _ rfl; have d1 := hx.d 1 _ rfl; have d2 := hx.d 2 _ rfl; clear hx; go_simp; try with_reducible rfl
  (try go_simp)
  refine Hr.Walk.take (i := 19) (v := ?vnb19) (fun x => KpS wo bk (ok + (q + 1) * 3) (ok + q * 3) [.int .i64 ri, .int .i64 y, .int .i64 i3] [.int .i64 p1, .int .i64 p2, .int .i64 p3] x) (fun _ => True) rfl (by kernel_rfl) (by kernel_rfl) (by kernel_rfl) (fun _ _ _ h => HPQ _ _ _ _ _ h) (fun _ _ _ _ _ _ => trivial) (fun _ _ _ h => h) (fun _ _ h => h) trivial (Or.inl ⟨by rfl, ?hynb19⟩) S1.out S1.out ?restnb19
  case hynb19 => intro x hx; have a0 : x.cell? ⟨bk, ok + (q + 1) * 3, none⟩ = _ := hx.a 0 _ rfl; have a1 := hx.a 1 _ rfl; have a2 := hx.a 2 _ rfl; have d0 : x.cell? ⟨bk, ok + q * 3, none⟩ = _ := hx.d 0 _ rfl; have d1 := hx.d 1 _ rfl; have d2 := hx.d 2 _ rfl; clear hx; go_simp; try with_reducible rfl
  (try go_simp)
  refine Hr.Walk.take (i := 20) (v := ?vnb20) (fun x => KpS wo bk (ok + (q + 1) * 3) (ok + q * 3) [.int .i64 ri, .int .i64 y, .int .i64 i3] [.int .i64 p1, .int .i64 p2, .int .i64 p3] x) (fun _ => True) rfl (by kernel_rfl) (by kernel_rfl) (by kernel_rfl) (fun _ _ _ h => HPQ _ _ _ _ _ h) (fun _ _ _ _ _ _ => trivial) (fun _ _ _ h => h) (fun _ _ h => h) trivial (Or.inl ⟨by rfl, ?hynb20⟩) S1.out S1.out ?restnb20
  case hynb20 => intro x hx; have a0 : x.cell? ⟨bk, ok + (q + 1) * 3, none⟩ = _ := hx.a 0 _ rfl; have a1 := hx.a 1 _ rfl; have a2 := hx.a 2 _ rfl; have d0 : x.cell? ⟨bk, ok + q * 3, none⟩ = _ := hx.d 0 _ rfl; have d1 := hx.d 1 _ rfl; have d2 := hx.d 2 _ rfl; clear hx; go_simp; try with_reducible rfl
  (try go_simp)
  refine Hr.Walk.take (i := 21) (v := ?vnb21) (fun x => KpS wo bk (ok + (q + 1) * 3) (ok + q * 3) [.int .i64 ri, .int .i64 y, .int .i64 i3] [.int .i64 p1, .int .i64 p2, .int .i64 p3] x) (fun _ => True) rfl (by kernel_rfl) (by kernel_rfl) (by kernel_rfl) (fun _ _ _ h => HPQ _ _ _ _ _ h) (fun _ _ _ _ _ _ => trivial) (fun _ _ _ h => h) (fun _ _ h => h) trivial (Or.inl ⟨by rfl, ?hynb21⟩) S1.out S1.out ?restnb21
  case hynb21 => intro x hx; have a0 : x.cell? ⟨bk, ok + (q + 1) * 3, none⟩ = _ := hx.a 0 _ rfl; have a1 := hx.a 1 _ rfl; have a2 := hx.a 2 _ rfl; have d0 : x.cell? ⟨bk, ok + q * 3, none⟩ = _ := hx.d 0 _ rfl; have d1 := hx.d 1 _ rfl; have d2 := hx.d 2 _ rfl; clear hx; go_simp; try with_reducible rfl
  (try go_simp)
  refine Hr.Walk.one (i := 22) (by kernel_rfl) rfl (fun K hK => ?_)
  have hx := S1.out; have a0 : w1.cell? ⟨bk, ok + (q + 1) * 3, none⟩ = _ := hx.a 0 _ rfl; have a1 := hx.a 1 _ rfl; have a2 := hx.a 2 _ rfl; have d0 : w1.cell? ⟨bk, ok + q * 3, none⟩ = _ := hx.d 0 _ rfl; have d1 := hx.d 1 _ rfl; have d2 := hx.d 2 _ rfl; clear hx
  go_simp
  refine hK.out _ _ S1.out ?_
  clear hK K
  refine Hr.Walk.one (i := 23) (by kernel_rfl) rfl (fun K hK => ?_)
  have hx := S1.out; have a0 : w1.cell? ⟨bk, ok + (q + 1) * 3, none⟩ = _ := hx.a 0 _ rfl; have a1 := hx.a 1 _ rfl; have a2 := hx.a 2 _ rfl; have d0 : w1.cell? ⟨bk, ok + q * 3, none⟩ = _ := hx.d 0 _ rfl; have d1 := hx.d 1 _ rfl; have d2 := hx.d 2 _ rfl; clear hx
  go_simp
  refine hK.out _ _ S1.out ?_
  clear hK K
  refine Hr.Walk.one (i := 24) (by kernel_rfl) rfl (fun K hK => ?_)
  have hx := S1.out; have a0 : w1.cell? ⟨bk, ok + (q + 1) * 3, none⟩ = _ := hx.a 0 _ rfl; have a1 := hx.a 1 _ rfl; have a2 := hx.a 2 _ rfl; have d0 : w1.cell? ⟨bk, ok + q * 3, none⟩ = _ := hx.d 0 _ rfl; have d1 := hx.d 1 _ rfl; have d2 := hx.d 2 _ rfl; clear hx
  go_simp
  refine hK.out _ _ S1.out ?_
  clear hK K
  refine Hr.Walk.one (i := 25) (by kernel_rfl) rfl (fun K hK => ?_)
  have hx := S1.out; have a0 : w1.cell? ⟨bk, ok + (q + 1) * 3, none⟩ = _ := hx.a 0 _ rfl; have a1 := hx.a 1 _ rfl; have a2 := hx.a 2 _ rfl; have d0 : w1.cell? ⟨bk, ok + q * 3, none⟩ = _ := hx.d 0 _ rfl; have d1 := hx.d 1 _ rfl; have d2 := hx.d 2 _ rfl; clear hx
  go_simp
  refine hK.out _ _ S1.out ?_
  clear hK K
  refine Hr.Walk.one (i := 26) (by kernel_rfl) rfl (fun K hK => ?_)
  have hx := S1.out; have a0 : w1.cell? ⟨bk, ok + (q + 1) * 3, none⟩ = _ := hx.a 0 _ rfl; have a1 := hx.a 1 _ rfl; have a2 := hx.a 2 _ rfl; have d0 : w1.cell? ⟨bk, ok + q * 3, none⟩ = _ := hx.d 0 _ rfl; have d1 := hx.d 1 _ rfl; have d2 := hx.d 2 _ rfl; clear hx
  go_simp
  refine hK.out _ _ S1.out ?_
  clear hK K
  refine Hr.Walk.one (i := 27) (by kernel_rfl) rfl (fun K hK => ?_)
  have hx := S1.out; have a0 : w1.cell? ⟨bk, ok + (q + 1) * 3, none⟩ = _ := hx.a 0 _ rfl; have a1 := hx.a 1 _ rfl; have a2 := hx.a 2 _ rfl; have d0 : w1.cell? ⟨bk, ok + q * 3, none⟩ = _ := hx.d 0 _ rfl; have d1 := hx.d 1 _ rfl; have d2 := hx.d 2 _ rfl; clear hx
  go_simp
  refine hK.out _ _ S1.out ?_
  clear hK K
  refine Hr.Walk.one (i := 28) (by kernel_rfl) rfl (fun K hK => ?_)
  have hx := S1.out; have a0 : w1.cell? ⟨bk, ok + (q + 1) * 3, none⟩ = _ := hx.a 0 _ rfl; have a1 := hx.a 1 _ rfl; have a2 := hx.a 2 _ rfl; have d0 : w1.cell? ⟨bk, ok + q * 3, none⟩ = _ := hx.d 0 _ rfl; have d1 := hx.d 1 _ rfl; have d2 := hx.d 2 _ rfl; clear hx
  go_simp
  refine hK.out _ _ S1.out ?_
  clear hK K
  refine Hr.Walk.take (i := 29) (v := undef) (fun x => KpS wo bk (ok + (q + 1) * 3) (ok + q * 3) [.int .i64 ri, .int .i64 y, .int .i64 i3] [.int .i64 p1, .int .i64 p2, .int .i64 p3] x) (fun _ => True) rfl (by kernel_rfl) (by kernel_rfl) (by kernel_rfl) (fun _ _ _ h => HPQ _ _ _ _ _ h) (fun _ _ _ _ _ _ => trivial) (fun _ _ _ h => h) (fun _ _ h => h) trivial (Or.inr ⟨by rfl, rfl⟩) S1.out S1.out ?_
  (try go_simp)
  refine Hr.Walk.take (i := 30) (v := undef) (fun x => KpS wo bk (ok + (q + 1) * 3) (ok + q * 3) [.int .i64 ri, .int .i64 y, .int .i64 i3] [.int .i64 p1, .int .i64 p2, .int .i64 p3] x) (fun _ => True) rfl (by kernel_rfl) (by kernel_rfl) (by kernel_rfl) (fun _ _ _ h => HPQ _ _ _ _ _ h) (fun _ _ _ _ _ _ => trivial) (fun _ _ _ h => h) (fun _ _ h => h) trivial (Or.inr ⟨by rfl, rfl⟩) S1.out S1.out ?_
  (try go_simp)
  refine Hr.Walk.take (i := 31) (v := undef) (fun x => KpS wo bk (ok + (q + 1) * 3) (ok + q * 3) [.int .i64 ri, .int .i64 y, .int .i64 i3] [.int .i64 p1, .int .i64 p2, .int .i64 p3] x) (fun _ => True) rfl (by kernel_rfl) (by kernel_rfl) (by kernel_rfl) (fun _ _ _ h => HPQ _ _ _ _ _ h) (fun _ _ _ _ _ _ => trivial) (fun _ _ _ h => h) (fun _ _ h => h) trivial (Or.inr ⟨by rfl, rfl⟩) S1.out S1.out ?_
  (try go_simp)
  refine Hr.Walk.take (i := 32) (v := undef) (fun x => KpS wo bk (ok + (q + 1) * 3) (ok + q * 3) [.int .i64 ri, .int .i64 y, .int .i64 i3] [.int .i64 p1, .int .i64 p2, .int .i64 p3] x) (fun _ => True) rfl (by kernel_rfl) (by kernel_rfl) (by kernel_rfl) (fun _ _ _ h => HPQ _ _ _ _ _ h) (fun _ _ _ _ _ _ => trivial) (fun _ _ _ h => h) (fun _ _ h => h) trivial (Or.inr ⟨by rfl, rfl⟩) S1.out S1.out ?_
  (try go_simp)
  refine Hr.Walk.take (i := 33) (v := undef) (fun x => KpS wo bk (ok + (q + 1) * 3) (ok + q * 3) [.int .i64 ri, .int .i64 y, .int .i64 i3] [.int .i64 p1, .int .i64 p2, .int .i64 p3] x) (fun _ => True) rfl (by kernel_rfl) (by kernel_rfl) (by kernel_rfl) (fun _ _ _ h => HPQ _ _ _ _ _ h) (fun _ _ _ _ _ _ => trivial) (fun _ _ _ h => h) (fun _ _ h => h) trivial (Or.inr ⟨by rfl, rfl⟩) S1.out S1.out ?_
  (try go_simp)
  refine Hr.Walk.take (i := 34) (v := undef) (fun x => KpS wo bk (ok + (q + 1) * 3) (ok + q * 3) [.int .i64 ri, .int .i64 y, .int .i64 i3] [.int .i64 p1, .int .i64 p2, .int .i64 p3] x) (fun _ => True) rfl (by kernel_rfl) (by kernel_rfl) (by kernel_rfl) (fun _ _ _ h => HPQ _ _ _ _ _ h) (fun _ _ _ _ _ _ => trivial) (fun _ _ _ h => h) (fun _ _ h => h) trivial (Or.inr ⟨by rfl, rfl⟩) S1.out S1.out ?_
  (try go_simp)
  refine Hr.Walk.one (i := 35) (by kernel_rfl) rfl (fun K hK => ?_)
  have hx := S1.out; have a0 : w1.cell? ⟨bk, ok + (q + 1) * 3, none⟩ = _ := hx.a 0 _ rfl; have a1 := hx.a 1 _ rfl; have a2 := hx.a 2 _ rfl; have d0 : w1.cell? ⟨bk, ok + q * 3, none⟩ = _ := hx.d 0 _ rfl; have d1 := hx.d 1 _ rfl; have d2 := hx.d 2 _ rfl; clear hx
  go_simp
  refine hK.out _ _ S1.out ?_
  clear hK K
  refine Hr.Walk.one (i := 36) (by kernel_rfl) rfl (fun K hK => ?_)
  have hx := S1.out; have a0 : w1.cell? ⟨bk, ok + (q + 1) * 3, none⟩ = _ := hx.a 0 _ rfl; have a1 := hx.a 1 _ rfl; have a2 := hx.a 2 _ rfl; have d0 : w1.cell? ⟨bk, ok + q * 3, none⟩ = _ := hx.d 0 _ rfl; have d1 := hx.d 1 _ rfl; have d2 := hx.d 2 _ rfl; clear hx
  go_simp
  refine hK.out _ _ S1.out ?_
  clear hK K
  refine Hr.Walk.one (i := 37) (by kernel_rfl) rfl (fun K hK => ?_)
  have hx := S1.out; have a0 : w1.cell? ⟨bk, ok + (q + 1) * 3, none⟩ = _ := hx.a 0 _ rfl; have a1 := hx.a 1 _ rfl; have a2 := hx.a 2 _ rfl; have d0 : w1.cell? ⟨bk, ok + q * 3, none⟩ = _ := hx.d 0 _ rfl; have d1 := hx.d 1 _ rfl; have d2 := hx.d 2 _ rfl; clear hx
  go_simp
  refine hK.out _ _ S1.out ?_
  clear hK K
  refine Hr.Walk.one (i := 38) (by kernel_rfl) rfl (fun K hK => ?_)
  have hx := S1.out; have a0 : w1.cell? ⟨bk, ok + (q + 1) * 3, none⟩ = _ := hx.a 0 _ rfl; have a1 := hx.a 1 _ rfl; have a2 := hx.a 2 _ rfl; have d0 : w1.cell? ⟨bk, ok + q * 3, none⟩ = _ := hx.d 0 _ rfl; have d1 := hx.d 1 _ rfl; have d2 := hx.d 2 _ rfl; clear hx
  go_simp
  refine hK.out _ _ S1.out ?_
  clear hK K
  refine Hr.Walk.one (i := 39) (by kernel_rfl) rfl (fun K hK => ?_)
  have hx := S1.out; have a0 : w1.cell? ⟨bk, ok + (q + 1) * 3, none⟩ = _ := hx.a 0 _ rfl; have a1 := hx.a 1 _ rfl; have a2 := hx.a 2 _ rfl; have d0 : w1.cell? ⟨bk, ok + q * 3, none⟩ = _ := hx.d 0 _ rfl; have d1 := hx.d 1 _ rfl; have d2 := hx.d 2 _ rfl; clear hx
  go_simp
  refine hK.out _ _ S1.out ?_
  clear hK K
  refine Hr.Walk.one (i := 40) (by kernel_rfl) rfl (fun K hK => ?_)
  have hx := S1.out; have a0 : w1.cell? ⟨bk, ok + (q + 1) * 3, none⟩ = _ := hx.a 0 _ rfl; have a1 := hx.a 1 _ rfl; have a2 := hx.a 2 _ rfl; have d0 : w1.cell? ⟨bk, ok + q * 3, none⟩ = _ := hx.d 0 _ rfl; have d1 := hx.d 1 _ rfl; have d2 := hx.d 2 _ rfl; clear hx
  go_simp
  refine hK.out _ _ S1.out ?_
  clear hK K
  refine Hr.Walk.one (i := 41) (by kernel_rfl) rfl (fun K hK => ?_)
  have hx := S1.out; have a0 : w1.cell? ⟨bk, ok + (q + 1) * 3, none⟩ = _ := hx.a 0 _ rfl; have a1 := hx.a 1 _ rfl; have a2 := hx.a 2 _ rfl; have d0 : w1.cell? ⟨bk, ok + q * 3, none⟩ = _ := hx.d 0 _ rfl; have d1 := hx.d 1 _ rfl; have d2 := hx.d 2 _ rfl; clear hx
  go_simp
  refine hK.out _ _ S1.out ?_
  clear hK K
  refine Hr.Walk.take (i := 42) (v := undef) (fun x => KpS wo bk (ok + (q + 1) * 3) (ok + q * 3) [.int .i64 ri, .int .i64 y, .int .i64 i3] [.int .i64 p1, .int .i64 p2, .int .i64 p3] x) (fun _ => True) rfl (by kernel_rfl) (by kernel_rfl) (by kernel_rfl) (fun _ _ _ h => HPQ _ _ _ _ _ h) (fun _ _ _ _ _ _ => trivial) (fun _ _ _ h => h) (fun _ _ h => h) trivial (Or.inr ⟨by rfl, rfl⟩) S1.out S1.out ?_
  (try go_simp)
  refine Hr.Walk.take (i := 43) (v := undef) (fun x => KpS wo bk (ok + (q + 1) * 3) (ok + q * 3) [.int .i64 ri, .int .i64 y, .int .i64 i3] [.int .i64 p1, .int .i64 p2, .int .i64 p3] x) (fun _ => True) rfl (by kernel_rfl) (by kernel_rfl) (by kernel_rfl) (fun _ _ _ h => HPQ _ _ _ _ _ h) (fun _ _ _ _ _ _ => trivial) (fun _ _ _ h => h) (fun _ _ h => h) trivial (Or.inr ⟨by rfl, rfl⟩) S1.out S1.out ?_
  (try go_simp)
  refine Hr.Walk.take (i := 44) (v := undef) (fun x => KpS wo bk (ok + (q + 1) * 3) (ok + q * 3) [.int .i64 ri, .int .i64 y, .int .i64 i3] [.int .i64 p1, .int .i64 p2, .int .i64 p3] x) (fun _ => True) rfl (by kernel_rfl) (by kernel_rfl) (by kernel_rfl) (fun _ _ _ h => HPQ _ _ _ _ _ h) (fun _ _ _ _ _ _ => trivial) (fun _ _ _ h => h) (fun _ _ h => h) trivial (Or.inr ⟨by rfl, rfl⟩) S1.out S1.out ?_
  (try go_simp)
  refine Hr.Walk.take (i := 45) (v := undef) (fun x => KpS wo bk (ok + (q + 1) * 3) (ok + q * 3) [.int .i64 ri, .int .i64 y, .int .i64 i3] [.int .i64 p1, .int .i64 p2, .int .i64 p3] x) (fun _ => True) rfl (by kernel_rfl) (by kernel_rfl) (by kernel_rfl) (fun _ _ _ h => HPQ _ _ _ _ _ h) (fun _ _ _ _ _ _ => trivial) (fun _ _ _ h => h) (fun _ _ h => h) trivial (Or.inr ⟨by rfl, rfl⟩) S1.out S1.out ?_
  (try go_simp)
  refine Hr.Walk.take (i := 46) (v := undef) (fun x => KpS wo bk (ok + (q + 1) * 3) (ok + q * 3) [.int .i64 ri, .int .i64 y, .int .i64 i3] [.int .i64 p1, .int .i64 p2, .int .i64 p3] x) (fun _ => True) rfl (by kernel_rfl) (by kernel_rfl) (by kernel_rfl) (fun _ _ _ h => HPQ _ _ _ _ _ h) (fun _ _ _ _ _ _ => trivial) (fun _ _ _ h => h) (fun _ _ h => h) trivial (Or.inr ⟨by rfl, rfl⟩) S1.out S1.out ?_
  (try go_simp)
  refine Hr.Walk.take (i := 47) (v := undef) (fun x => KpS wo bk (ok + (q + 1) * 3) (ok + q * 3) [.int .i64 ri, .int .i64 y, .int .i64 i3] [.int .i64 p1, .int .i64 p2, .int .i64 p3] x) (fun _ => True) rfl (by kernel_rfl) (by kernel_rfl) (by kernel_rfl) (fun _ _ _ h => HPQ _ _ _ _ _ h) (fun _ _ _ _ _ _ => trivial) (fun _ _ _ h => h) (fun _ _ h => h) trivial (Or.inr ⟨by rfl, rfl⟩) S1.out S1.out ?_
  (try go_simp)
  refine Hr.Walk.one (i := 48) (by kernel_rfl) rfl (fun K hK => ?_)
  have hx := S1.out; have a0 : w1.cell? ⟨bk, ok + (q + 1) * 3, none⟩ = _ := hx.a 0 _ rfl; have a1 := hx.a 1 _ rfl; have a2 := hx.a 2 _ rfl; have d0 : w1.cell? ⟨bk, ok + q * 3, none⟩ = _ := hx.d 0 _ rfl; have d1 := hx.d 1 _ rfl; have d2 := hx.d 2 _ rfl; clear hx
  go_simp
  refine hK.out _ _ S1.out ?_
  clear hK K
  refine Hr.Walk.one (i := 49) (by kernel_rfl) rfl (fun K hK => ?_)
  have hx := S1.out; have a0 : w1.cell? ⟨bk, ok + (q + 1) * 3, none⟩ = _ := hx.a 0 _ rfl; have a1 := hx.a 1 _ rfl; have a2 := hx.a 2 _ rfl; have d0 : w1.cell? ⟨bk, ok + q * 3, none⟩ = _ := hx.d 0 _ rfl; have d1 := hx.d 1 _ rfl; have d2 := hx.d 2 _ rfl; clear hx
  go_simp
  refine hK.out _ _ S1.out ?_
  clear hK K
  refine Hr.Walk.one (i := 50) (by kernel_rfl) rfl (fun K hK => ?_)
  have hx := S1.out; have a0 : w1.cell? ⟨bk, ok + (q + 1) * 3, none⟩ = _ := hx.a 0 _ rfl; have a1 := hx.a 1 _ rfl; have a2 := hx.a 2 _ rfl; have d0 : w1.cell? ⟨bk, ok + q * 3, none⟩ = _ := hx.d 0 _ rfl; have d1 := hx.d 1 _ rfl; have d2 := hx.d 2 _ rfl; clear hx
  go_simp
  refine hK.out _ _ S1.out ?_
  clear hK K
  refine Hr.Walk.one (i := 51) (by kernel_rfl) rfl (fun K hK => ?_)
  have hx := S1.out; have a0 : w1.cell? ⟨bk, ok + (q + 1) * 3, none⟩ = _ := hx.a 0 _ rfl; have a1 := hx.a 1 _ rfl; have a2 := hx.a 2 _ rfl; have d0 : w1.cell? ⟨bk, ok + q * 3, none⟩ = _ := hx.d 0 _ rfl; have d1 := hx.d 1 _ rfl; have d2 := hx.d 2 _ rfl; clear hx
  go_simp
  refine hK.out _ _ S1.out ?_
  clear hK K
  refine Hr.Walk.one (i := 52) (by kernel_rfl) rfl (fun K hK => ?_)
  have hx := S1.out; have a0 : w1.cell? ⟨bk, ok + (q + 1) * 3, none⟩ = _ := hx.a 0 _ rfl; have a1 := hx.a 1 _ rfl; have a2 := hx.a 2 _ rfl; have d0 : w1.cell? ⟨bk, ok + q * 3, none⟩ = _ := hx.d 0 _ rfl; have d1 := hx.d 1 _ rfl; have d2 := hx.d 2 _ rfl; clear hx
  go_simp
  refine hK.out _ _ S1.out ?_
  clear hK K
  refine Hr.Walk.one (i := 53) (by kernel_rfl) rfl (fun K hK => ?_)
  have hx := S1.out; have a0 : w1.cell? ⟨bk, ok + (q + 1) * 3, none⟩ = _ := hx.a 0 _ rfl; have a1 := hx.a 1 _ rfl; have a2 := hx.a 2 _ rfl; have d0 : w1.cell? ⟨bk, ok + q * 3, none⟩ = _ := hx.d 0 _ rfl; have d1 := hx.d 1 _ rfl; have d2 := hx.d 2 _ rfl; clear hx
  go_simp
  refine hK.out _ _ S1.out ?_
  clear hK K
  refine Hr.Walk.one (i := 54) (by kernel_rfl) rfl (fun K hK => ?_)
  have hx := S1.out; have a0 : w1.cell? ⟨bk, ok + (q + 1) * 3, none⟩ = _ := hx.a 0 _ rfl; have a1 := hx.a 1 _ rfl; have a2 := hx.a 2 _ rfl; have d0 : w1.cell? ⟨bk, ok + q * 3, none⟩ = _ := hx.d 0 _ rfl; have d1 := hx.d 1 _ rfl; have d2 := hx.d 2 _ rfl; clear hx
  go_simp
  refine hK.out _ _ S1.out ?_
  clear hK K
  refine Hr.Walk.take (i := 55) (v := undef) (fun x => KpS wo bk (ok + (q + 1) * 3) (ok + q * 3) [.int .i64 ri, .int .i64 y, .int .i64 i3] [.int .i64 p1, .int .i64 p2, .int .i64 p3] x) (fun _ => True) rfl (by kernel_rfl) (by kernel_rfl) (by kernel_rfl) (fun _ _ _ h => HPQ _ _ _ _ _ h) (fun _ _ _ _ _ _ => trivial) (fun _ _ _ h => h) (fun _ _ h => h) trivial (Or.inr ⟨by rfl, rfl⟩) S1.out S1.out ?_
  (try go_simp)
  refine Hr.Walk.take (i := 56) (v := undef) (fun x => KpS wo bk (ok + (q + 1) * 3) (ok + q * 3) [.int .i64 ri, .int .i64 y, .int .i64 i3] [.int .i64 p1, .int .i64 p2, .int .i64 p3] x) (fun _ => True) rfl (by kernel_rfl) (by kernel_rfl) (by kernel_rfl) (fun _ _ _ h => HPQ _ _ _ _ _ h) (fun _ _ _ _ _ _ => trivial) (fun _ _ _ h => h) (fun _ _ h => h) trivial (Or.inr ⟨by rfl, rfl⟩) S1.out S1.out ?_
  (try go_simp)
  refine Hr.Walk.take (i := 57) (v := undef) (fun x => KpS wo bk (ok + (q + 1) * 3) (ok + q * 3) [.int .i64 ri, .int .i64 y, .int .i64 i3] [.int .i64 p1, .int .i64 p2, .int .i64 p3] x) (fun _ => True) rfl (by kernel_rfl) (by kernel_rfl) (by kernel_rfl) (fun _ _ _ h => HPQ _ _ _ _ _ h) (fun _ _ _ _ _ _ => trivial) (fun _ _ _ h => h) (fun _ _ h => h) trivial (Or.inr ⟨by rfl, rfl⟩) S1.out S1.out ?_
  (try go_simp)
  refine Hr.Walk.take (i := 58) (v := undef) (fun x => KpS wo bk (ok + (q + 1) * 3) (ok + q * 3) [.int .i64 ri, .int .i64 y, .int .i64 i3] [.int .i64 p1, .int .i64 p2, .int .i64 p3] x) (fun _ => True) rfl (by kernel_rfl) (by kernel_rfl) (by kernel_rfl) (fun _ _ _ h => HPQ _ _ _ _ _ h) (fun _ _ _ _ _ _ => trivial) (fun _ _ _ h => h) (fun _ _ h => h) trivial (Or.inr ⟨by rfl, rfl⟩) S1.out S1.out ?_
  (try go_simp)
  refine Hr.Walk.take (i := 59) (v := undef) (fun x => KpS wo bk (ok + (q + 1) * 3) (ok + q * 3) [.int .i64 ri, .int .i64 y, .int .i64 i3] [.int .i64 p1, .int .i64 p2, .int .i64 p3] x) (fun _ => True) rfl (by kernel_rfl) (by kernel_rfl) (by kernel_rfl) (fun _ _ _ h => HPQ _ _ _ _ _ h) (fun _ _ _ _ _ _ => trivial) (fun _ _ _ h => h) (fun _ _ h => h) trivial (Or.inr ⟨by rfl, rfl⟩) S1.out S1.out ?_
  (try go_simp)
  refine Hr.Walk.take (i := 60) (v := undef) (fun x => KpS wo bk (ok + (q + 1) * 3) (ok + q * 3) [.int .i64 ri, .int .i64 y, .int .i64 i3] [.int .i64 p1, .int .i64 p2, .int .i64 p3] x) (fun _ => True) rfl (by kernel_rfl) (by kernel_rfl) (by kernel_rfl) (fun _ _ _ h => HPQ _ _ _ _ _ h) (fun _ _ _ _ _ _ => trivial) (fun _ _ _ h => h) (fun _ _ h => h) trivial (Or.inr ⟨by rfl, rfl⟩) S1.out S1.out ?_
  (try go_simp)
  refine Hr.Walk.one (i := 61) (by kernel_rfl) rfl (fun K hK => ?_)
  have hx := S1.out; have a0 : w1.cell? ⟨bk, ok + (q + 1) * 3, none⟩ = _ := hx.a 0 _ rfl; have a1 := hx.a 1 _ rfl; have a2 := hx.a 2 _ rfl; have d0 : w1.cell? ⟨bk, ok + q * 3, none⟩ = _ := hx.d 0 _ rfl; have d1 := hx.d 1 _ rfl; have d2 := hx.d 2 _ rfl; clear hx
  go_simp
  refine hK.out _ _ S1.out ?_
  clear hK K
  refine Hr.Walk.one (i := 62) (by kernel_rfl) rfl (fun K hK => ?_)
  have hx := S1.out; have a0 : w1.cell? ⟨bk, ok + (q + 1) * 3, none⟩ = _ := hx.a 0 _ rfl; have a1 := hx.a 1 _ rfl; have a2 := hx.a 2 _ rfl; have d0 : w1.cell? ⟨bk, ok + q * 3, none⟩ = _ := hx.d 0 _ rfl; have d1 := hx.d 1 _ rfl; have d2 := hx.d 2 _ rfl; clear hx
  go_simp
  refine hK.out _ _ S1.out ?_
  clear hK K
  refine Hr.Walk.one (i := 63) (by kernel_rfl) rfl (fun K hK => ?_)
  have hx := S1.out; have a0 : w1.cell? ⟨bk, ok + (q + 1) * 3, none⟩ = _ := hx.a 0 _ rfl; have a1 := hx.a 1 _ rfl; have a2 := hx.a 2 _ rfl; have d0 : w1.cell? ⟨bk, ok + q * 3, none⟩ = _ := hx.d 0 _ rfl; have d1 := hx.d 1 _ rfl; have d2 := hx.d 2 _ rfl; clear hx
  go_simp
  refine hK.out _ _ S1.out ?_
  clear hK K
  refine Hr.Walk.one (i := 64) (by kernel_rfl) rfl (fun K hK => ?_)
  have hx := S1.out; have a0 : w1.cell? ⟨bk, ok + (q + 1) * 3, none⟩ = _ := hx.a 0 _ rfl; have a1 := hx.a 1 _ rfl; have a2 := hx.a 2 _ rfl; have d0 : w1.cell? ⟨bk, ok + q * 3, none⟩ = _ := hx.d 0 _ rfl; have d1 := hx.d 1 _ rfl; have d2 := hx.d 2 _ rfl; clear hx
  go_simp
  refine hK.out _ _ S1.out ?_
  clear hK K
  refine Hr.Walk.one (i := 65) (by kernel_rfl) rfl (fun K hK => ?_)
  have hx := S1.out; have a0 : w1.cell? ⟨bk, ok + (q + 1) * 3, none⟩ = _ := hx.a 0 _ rfl; have a1 := hx.a 1 _ rfl; have a2 := hx.a 2 _ rfl; have d0 : w1.cell? ⟨bk, ok + q * 3, none⟩ = _ := hx.d 0 _ rfl; have d1 := hx.d 1 _ rfl; have d2 := hx.d 2 _ rfl; clear hx
  go_simp
  refine hK.out _ _ S1.out ?_
  clear hK K
  refine Hr.Walk.one (i := 66) (by kernel_rfl) rfl (fun K hK => ?_)
  have hx := S1.out; have a0 : w1.cell? ⟨bk, ok + (q + 1) * 3, none⟩ = _ := hx.a 0 _ rfl; have a1 := hx.a 1 _ rfl; have a2 := hx.a 2 _ rfl; have d0 : w1.cell? ⟨bk, ok + q * 3, none⟩ = _ := hx.d 0 _ rfl; have d1 := hx.d 1 _ rfl; have d2 := hx.d 2 _ rfl; clear hx
  go_simp
  refine hK.out _ _ S1.out ?_
  clear hK K
  refine Hr.Walk.one (i := 67) (by kernel_rfl) rfl (fun K hK => ?_)
  have hx := S1.out; have a0 : w1.cell? ⟨bk, ok + (q + 1) * 3, none⟩ = _ := hx.a 0 _ rfl; have a1 := hx.a 1 _ rfl; have a2 := hx.a 2 _ rfl; have d0 : w1.cell? ⟨bk, ok + q * 3, none⟩ = _ := hx.d 0 _ rfl; have d1 := hx.d 1 _ rfl; have d2 := hx.d 2 _ rfl; clear hx
  go_simp
  refine hK.out _ _ S1.out ?_
  clear hK K
  refine Hr.Walk.one (i := 68) (by kernel_rfl) rfl (fun K hK => ?_)
  have hx := S1.out; have a0 : w1.cell? ⟨bk, ok + (q + 1) * 3, none⟩ = _ := hx.a 0 _ rfl; have a1 := hx.a 1 _ rfl; have a2 := hx.a 2 _ rfl; have d0 : w1.cell? ⟨bk, ok + q * 3, none⟩ = _ := hx.d 0 _ rfl; have d1 := hx.d 1 _ rfl; have d2 := hx.d 2 _ rfl; clear hx
  go_simp
  refine hK.out _ _ S1.out ?_
  clear hK K
  refine Hr.Walk.one (i := 69) (by kernel_rfl) rfl (fun K hK => ?_)
  have hx := S1.out; have a0 : w1.cell? ⟨bk, ok + (q + 1) * 3, none⟩ = _ := hx.a 0 _ rfl; have a1 := hx.a 1 _ rfl; have a2 := hx.a 2 _ rfl; have d0 : w1.cell? ⟨bk, ok + q * 3, none⟩ = _ := hx.d 0 _ rfl; have d1 := hx.d 1 _ rfl; have d2 := hx.d 2 _ rfl; clear hx
  go_simp
  refine hK.out _ _ S1.out ?_
  clear hK K
  refine Hr.Walk.one (i := 70) (by kernel_rfl) rfl (fun K hK => ?_)
  have hx := S1.out; have a0 : w1.cell? ⟨bk, ok + (q + 1) * 3, none⟩ = _ := hx.a 0 _ rfl; have a1 := hx.a 1 _ rfl; have a2 := hx.a 2 _ rfl; have d0 : w1.cell? ⟨bk, ok + q * 3, none⟩ = _ := hx.d 0 _ rfl; have d1 := hx.d 1 _ rfl; have d2 := hx.d 2 _ rfl; clear hx
  go_simp
  refine hK.out _ _ S1.out ?_
  clear hK K
  refine Hr.Walk.one (i := 71) (by kernel_rfl) rfl (fun K hK => ?_)
  have hx := S1.out; have a0 : w1.cell? ⟨bk, ok + (q + 1) * 3, none⟩ = _ := hx.a 0 _ rfl; have a1 := hx.a 1 _ rfl; have a2 := hx.a 2 _ rfl; have d0 : w1.cell? ⟨bk, ok + q * 3, none⟩ = _ := hx.d 0 _ rfl; have d1 := hx.d 1 _ rfl; have d2 := hx.d 2 _ rfl; clear hx
  go_simp
  refine hK.out _ _ S1.out ?_
  clear hK K
  refine Hr.Walk.done (by kernel_rfl) ?_ _
  have S1g := Lib.hid S1.out.g
  exact hQ _ _ _ _ _ _ _ _ _ _ _ _ _ _ _ _ _ _ _ _ _ _ _ _ _ _ _ _ _ _ _ _ _ _ _ _ _ _ _ _ _ _ _ _ _ _ _ _ _ _ _ _ _ _ _ _ _ _ _ _ _ _ _ _ _ _ _ _ _ _ _ _ S1g

set_option maxHeartbeats 25600000 in
set_option maxRecDepth 100000 in
theorem rr9c (Q : Exit → Act → World → Prop) (A0 : Option Addr) (N cV bk ok KN cK q ri : Nat) (y p1 p2 p3 : Int) (wo : World) (S0 : Hid (KpS wo bk (ok + (q + 1) * 3) (ok + q * 3) [.int .i64 ri, .int .i64 y, .int .i64 p3] [.int .i64 p1, .int .i64 p2, .int .i64 p3] wo)) (g0 : (0 : Int) < ((q + 1 : Nat) : Int)) (hlt : q + 1 < KN) (kb : KN ≤ 2000000) (h3 : ¬ (ri : Int) < p1) (h4 : ((ri : Int) == p1) = false) (z1 z2 z3 z4 z5 z6 z8 z10 z11 z12 z13 z14 z15 z16 z17 z18 z19 z20 z21 z22 z23 z24 z25 z26 z27 z28 z29 z30 z31 z32 z33 z34 z35 z36 z37 z38 z39 z40 z41 z42 z43 z44 z45 z46 z47 z48 z49 z50 z51 z52 z53 z54 z55 z56 z57 z58 z59 z60 z61 z62 z63 z64 z65 z66 z67 z68 z69 z70 z71 z72 z73 z74 z75 z76 z77 z78 z79 z80 z81 z82 z83 z84 z85 z86 z87 z88 z89 z90 z91 z92 z93 z94 z95 z96 z97 z98 z99 z100 z101 z102 z103 z104 z105 z106 z107 z108 z109 z110 z111 z112 z113 z114 z115 z116 z117 z118 z119 z120 z121 z122 z123 z124 z125 z126 z127 z128 z129 z130 z131 z132 z133 z134 z135 z136 z137 z138 z139 z140 z141 z142 z143 z144 z145 z146 z147 z148 z149 z150 z151 z152 z153 z154 z155 z156 z157 z158 z159 z160 z161 z162 z163 z164 z165 z166 z167 z168 z169 z170 z171 z172 z173 z174 z175 z176 z177 z178 z179 z180 z181 z182 z183 z184 z185 z186 z187 z188 z189 z190 z191 z192 z193 z194 z195 z196 z197 z198 z199 z200 z201 z202 z203 z204 z205 z206 z207 z208 z209 z210 z211 z212 z213 z214 z215 z216 z217 z218 z219 z220 z221 z222 z223 z224 z225 z226 z227 z228 z229 z230 z231 z232 z233 z234 z235 z236 z237 z238 z239 z240 z241 z242 z243 z244 z245 z246 z247 z248 z249 z250 z251 z252 z253 z254 z255 z256 z257 z258 z259 z260 z261 : Value) (HPQ : ∀ c (a : Act) d (v : Value) (wz : World), Q (.panic c) (a.put d v) wz → Q (.panic c) a wz) (hQ : ∀ (y53 y54 y55 y56 y57 y58 y59 y60 y61 y62 y63 y64 y65 y66 y67 y68 y69 y70 y71 y72 y73 y74 y75 y76 y77 y78 y79 y80 y81 y82 y83 y84 y85 y86 y87 y88 y89 y90 y91 y92 y93 y94 y95 y96 y97 y98 y99 y100 y101 y102 y103 y104 y105 y106 y107 y108 y109 y110 y111 y112 y113 y114 y115 y116 y117 y118 y119 y120 y121 y122 y123 : Value) (wz : World), Hid (Below wo.heap.size wo wz) → Q .normal ⟨List.toArray (.slice A0 N cV :: z1 :: z2 :: z3 :: z4 :: z5 :: z6 :: .slice (some ⟨bk, ok, none⟩) KN cK :: z8 :: .int .i64 ((q + 1 : Nat) : Int) :: z10 :: z11 :: z12 :: z13 :: z14 :: z15 :: z16 :: z17 :: z18 :: z19 :: z20 :: z21 :: z22 :: z23 :: z24 :: z25 :: z26 :: z27 :: z28 :: z29 :: z30 :: z31 :: z32 :: z33 :: z34 :: z35 :: z36 :: z37 :: z38 :: z39 :: z40 :: z41 :: z42 :: z43 :: z44 :: z45 :: z46 :: z47 :: z48 :: z49 :: z50 :: z51 :: z52 :: y53 :: y54 :: y55 :: y56 :: y57 :: y58 :: y59 :: y60 :: y61 :: y62 :: y63 :: y64 :: y65 :: y66 :: y67 :: y68 :: y69 :: y70 :: y71 :: y72 :: y73 :: y74 :: y75 :: y76 :: y77 :: y78 :: y79 :: y80 :: y81 :: y82 :: y83 :: y84 :: y85 :: y86 :: y87 :: y88 :: y89 :: y90 :: y91 :: y92 :: y93 :: y94 :: y95 :: y96 :: y97 :: y98 :: y99 :: y100 :: y101 :: y102 :: y103 :: y104 :: y105 :: y106 :: y107 :: y108 :: y109 :: y110 :: y111 :: y112 :: y113 :: y114 :: y115 :: y116 :: y117 :: y118 :: y119 :: y120 :: y121 :: y122 :: y123 :: .bool false :: z125 :: z126 :: z127 :: z128 :: z129 :: z130 :: z131 :: z132 :: z133 :: z134 :: z135 :: z136 :: z137 :: z138 :: z139 :: z140 :: z141 :: z142 :: z143 :: z144 :: z145 :: z146 :: z147 :: z148 :: z149 :: z150 :: z151 :: z152 :: z153 :: z154 :: z155 :: z156 :: z157 :: z158 :: z159 :: z160 :: z161 :: z162 :: z163 :: z164 :: z165 :: z166 :: z167 :: z168 :: z169 :: z170 :: z171 :: z172 :: z173 :: z174 :: z175 :: z176 :: z177 :: z178 :: z179 :: z180 :: z181 :: z182 :: z183 :: z184 :: z185 :: z186 :: z187 :: z188 :: z189 :: z190 :: z191 :: z192 :: z193 :: z194 :: z195 :: z196 :: z197 :: z198 :: z199 :: z200 :: z201 :: z202 :: z203 :: z204 :: z205 :: z206 :: z207 :: z208 :: z209 :: z210 :: z211 :: z212 :: z213 :: z214 :: z215 :: z216 :: z217 :: z218 :: z219 :: z220 :: z221 :: z222 :: z223 :: z224 :: z225 :: z226 :: z227 :: z228 :: z229 :: z230 :: z231 :: z232 :: z233 :: z234 :: z235 :: z236 :: z237 :: z238 :: z239 :: z240 :: z241 :: z242 :: z243 :: z244 :: z245 :: z246 :: z247 :: z248 :: z249 :: z250 :: z251 :: z252 :: z253 :: z254 :: z255 :: z256 :: z257 :: z258 :: z259 :: z260 :: z261 :: []), []⟩ wz) : Code.wp Tryd.prog rg9C Q ⟨List.toArray (.slice A0 N cV :: z1 :: z2 :: z3 :: z4 :: z5 :: z6 :: .slice (some ⟨bk, ok, none⟩) KN cK :: z8 :: .int .i64 ((q + 1 : Nat) : Int) :: z10 :: z11 :: z12 :: z13 :: z14 :: z15 :: z16 :: z17 :: z18 :: z19 :: z20 :: z21 :: z22 :: z23 :: z24 :: z25 :: z26 :: z27 :: z28 :: z29 :: z30 :: z31 :: z32 :: z33 :: z34 :: z35 :: z36 :: z37 :: z38 :: z39 :: z40 :: z41 :: z42 :: z43 :: z44 :: z45 :: z46 :: z47 :: z48 :: z49 :: z50 :: z51 :: z52 :: z53 :: z54 :: z55 :: z56 :: z57 :: z58 :: z59 :: z60 :: z61 :: z62 :: z63 :: z64 :: z65 :: z66 :: z67 :: z68 :: z69 :: z70 :: z71 :: z72 :: z73 :: z74 :: z75 :: z76 :: z77 :: z78 :: z79 :: z80 :: z81 :: z82 :: z83 :: z84 :: z85 :: z86 :: z87 :: z88 :: z89 :: z90 :: z91 :: z92 :: z93 :: z94 :: z95 :: z96 :: z97 :: z98 :: z99 :: z100 :: z101 :: z102 :: z103 :: z104 :: z105 :: z106 :: z107 :: z108 :: z109 :: z110 :: z111 :: z112 :: z113 :: z114 :: z115 :: z116 :: z117 :: z118 :: z119 :: z120 :: z121 :: z122 :: z123 :: z124 :: z125 :: z126 :: z127 :: z128 :: z129 :: z130 :: z131 :: z132 :: z133 :: z134 :: z135 :: z136 :: z137 :: z138 :: z139 :: z140 :: z141 :: z142 :: z143 :: z144 :: z145 :: z146 :: z147 :: z148 :: z149 :: z150 :: z151 :: z152 :: z153 :: z154 :: z155 :: z156 :: z157 :: z158 :: z159 :: z160 :: z161 :: z162 :: z163 :: z164 :: z165 :: z166 :: z167 :: z168 :: z169 :: z170 :: z171 :: z172 :: z173 :: z174 :: z175 :: z176 :: z177 :: z178 :: z179 :: z180 :: z181 :: z182 :: z183 :: z184 :: z185 :: z186 :: z187 :: z188 :: z189 :: z190 :: z191 :: z192 :: z193 :: z194 :: z195 :: z196 :: z197 :: z198 :: z199 :: z200 :: z201 :: z202 :: z203 :: z204 :: z205 :: z206 :: z207 :: z208 :: z209 :: z210 :: z211 :: z212 :: z213 :: z214 :: z215 :: z216 :: z217 :: z218 :: z219 :: z220 :: z221 :: z222 :: z223 :: z224 :: z225 :: z226 :: z227 :: z228 :: z229 :: z230 :: z231 :: z232 :: z233 :: z234 :: z235 :: z236 :: z237 :: z238 :: z239 :: z240 :: z241 :: z242 :: z243 :: z244 :: z245 :: z246 :: z247 :: z248 :: z249 :: z250 :: z251 :: z252 :: z253 :: z254 :: z255 :: z256 :: z257 :: z258 :: z259 :: z260 :: z261 :: []), []⟩ wo := by
  conv => arg 2; whnf
  have w1x : IntKind.i64.wrap (((q + 1 : Nat) : Int) - 1) = (q : Int) := by rw [IntKind.wrap_i64]; omega
  have w2x : IntKind.i64.wrap (q : Int) = (q : Int) := by rw [IntKind.wrap_i64]; omega
  have hx1 : (q : Int) + 1 < (KN : Int) := by omega
  have hx0 : (0 : Int) ≤ (q : Int) + 1 := by omega
  have hx2 : (q : Int) < (KN : Int) := by omega
  have h1 : ¬ p3 < p3 := by omega
  refine Hr.Walk.region (R := fun _ x => KpS wo bk (ok + (q + 1) * 3) (ok + q * 3) [.int .i64 ri, .int .i64 y, .int .i64 p3] [.int .i64 p1, .int .i64 p2, .int .i64 p3] x) (by kernel_rfl) ?_
  obtain ⟨w1, hw1⟩ : ∃ z, wo.drew = z := ⟨_, rfl⟩
  have S1 : Hid (KpS wo bk (ok + (q + 1) * 3) (ok + q * 3) [.int .i64 ri, .int .i64 y, .int .i64 p3] [.int .i64 p1, .int .i64 p2, .int .i64 p3] w1) := Lib.hid (by rw [← hw1]; exact ⟨S0.out.a, S0.out.d, below_drewN S0.out.g 1⟩)
  rw [hw1]
  clear hw1
  refine Hr.Walk.one (i := 0) (by kernel_rfl) rfl (fun K hK => ?_)
  have hx := S1.out; have a0 : w1.cell? ⟨bk, ok + (q + 1) * 3, none⟩ = _ := hx.a 0 _ rfl; have a1 := hx.a 1 _ rfl; have a2 := hx.a 2 _ rfl; have d0 : w1.cell? ⟨bk, ok + q * 3, none⟩ = _ := hx.d 0 _ rfl; have d1 := hx.d 1 _ rfl; have d2 := hx.d 2 _ rfl; clear hx
  go_simp
  refine hK.out _ _ S1.out ?_
  clear hK K
  refine Hr.Walk.one (i := 1) (by kernel_rfl) rfl (fun K hK => ?_)
  have hx := S1.out; have a0 : w1.cell? ⟨bk, ok + (q + 1) * 3, none⟩ = _ := hx.a 0 _ rfl; have a1 := hx.a 1 _ rfl; have a2 := hx.a 2 _ rfl; have d0 : w1.cell? ⟨bk, ok + q * 3, none⟩ = _ := hx.d 0 _ rfl; have d1 := hx.d 1 _ rfl; have d2 := hx.d 2 _ rfl; clear hx
  go_simp
  refine hK.out _ _ S1.out ?_
  clear hK K
  refine Hr.Walk.one (i := 2) (by kernel_rfl) rfl (fun K hK => ?_)
  have hx := S1.out; have a0 : w1.cell? ⟨bk, ok + (q + 1) * 3, none⟩ = _ := hx.a 0 _ rfl; have a1 := hx.a 1 _ rfl; have a2 := hx.a 2 _ rfl; have d0 : w1.cell? ⟨bk, ok + q * 3, none⟩ = _ := hx.d 0 _ rfl; have d1 := hx.d 1 _ rfl; have d2 := hx.d 2 _ rfl; clear hx
  go_simp
  refine hK.out _ _ S1.out ?_
  clear hK K
  refine Hr.Walk.take (i := 3) (v := ?vnc3) (fun x => KpS wo bk (ok + (q + 1) * 3) (ok + q * 3) [.int .i64 ri, .int .i64 y, .int .i64 p3] [.int .i64 p1, .int .i64 p2, .int .i64 p3] x) (fun _ => True) rfl (by kernel_rfl) (by kernel_rfl) (by kernel_rfl) (fun _ _ _ h => HPQ _ _ _ _ _ h) (fun _ _ _ _ _ _ => trivial) (fun _ _ _ h => h) (fun _ _ h => h) trivial (Or.inl ⟨by rfl, ?hync3⟩) S1.out S1.out ?restnc3
  case hync3 => intro x hx; have a0 : x.cell? ⟨bk, ok + (q + 1) * 3, none⟩ = _ := hx.a 0 _ rfl; have a1 := hx.a 1 _ rfl; have a2 := hx.a 2 _ rfl; have d0 : x.cell? ⟨bk, ok + q * 3, none⟩ = _ := hx.d 0 _ rfl; have d1 := hx.d 1 _ rfl; have d2 := hx.d 2 _ rfl; clear hx; go_simp; try with_reducible rfl
  (try go_simp)
  refine Hr.Walk.take (i := 4) (v := ?vnc4) (fun x => KpS wo bk (ok + (q + 1) * 3) (ok + q * 3) [.int .i64 ri, .int .i64 y, .int .i64 p3] [.int .i64 p1, .int .i64 p2, .int .i64 p3] x) (fun _ => True) rfl (by kernel_rfl) (by kernel_rfl) (by kernel_rfl) (fun _ _ _ h => HPQ _ _ _ _ _ h) (fun _ _ _ _ _ _ => trivial) (fun _ _ _ h => h) (fun _ _ h => h) trivial (Or.inl ⟨by rfl, ?hync4⟩) S1.out S1.out ?restnc4
  case hync4 => intro x hx; have a0 : x.cell? ⟨bk, ok + (q + 1) * 3, none⟩ = _ := hx.a 0 _ rfl; have a1 := hx.a 1 _ rfl; have a2 := hx.a 2 _ rfl; have d0 : x.cell? ⟨bk, ok + q * 3, none⟩ = _ := hx.d 0 _ rfl; have d1 := hx.d 1 _ rfl; have d2 := hx.d 2 _ rfl; clear hx; go_simp; try with_reducible rfl
  (try go_simp)
  refine Hr.Walk.take (i := 5) (v := ?vnc5) (fun x => KpS wo bk (ok + (q + 1) * 3) (ok + q * 3) [.int .i64 ri, .int .i64 y, .int .i64 p3] [.int .i64 p1, .int .i64 p2, .int .i64 p3] x) (fun _ => True) rfl (by kernel_rfl) (by kernel_rfl) (by kernel_rfl) (fun _ _ _ h => HPQ _ _ _ _ _ h) (fun _ _ _ _ _ _ => trivial) (fun _ _ _ h => h) (fun _ _ h => h) trivial (Or.inl ⟨by rfl, ?hync5⟩) S1.out S1.out ?restnc5
  case hync5 => intro x hx; have a0 : x.cell? ⟨bk, ok + (q + 1) * 3, none⟩ = _ := hx.a 0 _ rfl; have a1 := hx.a 1 _ rfl; have a2 := hx.a 2 _ rfl; have d0 : x.cell? ⟨bk, ok + q * 3, none⟩ = _ := hx.d 0 _ rfl; have d1 := hx.d 1 _ rfl; have d2 := hx.d 2 _ rfl; clear hx; go_simp; try with_reducible rfl
  (try go_simp)
  refine Hr.Walk.take (i := 6) (v := ?vnc6) (fun x => KpS wo bk (ok + (q + 1) * 3) (ok + q * 3) [.int .i64 ri, .int .i64 y, .int .i64 p3] [.int .i64 p1, .int .i64 p2, .int .i64 p3] x) (fun _ => True) rfl (by kernel_rfl) (by kernel_rfl) (by kernel_rfl) (fun _ _ _ h => HPQ _ _ _ _ _ h) (fun _ _ _ _ _ _ => trivial) (fun _ _ _ h => h) (fun _ _ h => h) trivial (Or.inl ⟨by rfl, ?hync6⟩) S1.out S1.out ?restnc6
  case hync6 => intro x hx; have a0 : x.cell? ⟨bk, ok + (q + 1) * 3, none⟩ = _ := hx.a 0 _ rfl; have a1 := hx.a 1 _ rfl; have a2 := hx.a 2 _ rfl; have d0 : x.cell? ⟨bk, ok + q * 3, none⟩ = _ := hx.d 0 _ rfl; have d1 := hx.d 1 _ rfl; have d2 := hx.d 2 _ rfl; clear hx; go_simp; try with_reducible rfl
  (try go_simp)
  refine Hr.Walk.take (i := 7) (v := ?vnc7) (fun x => KpS wo bk (ok + (q + 1) * 3) (ok + q * 3) [.int .i64 ri, .int .i64 y, .int .i64 p3] [.int .i64 p1, .int .i64 p2, .int .i64 p3] x) (fun _ => True) rfl (by kernel_rfl) (by kernel_rfl) (by kernel_rfl) (fun _ _ _ h => HPQ _ _ _ _ _ h) (fun _ _ _ _ _ _ => trivial) (fun _ _ _ h => h) (fun _ _ h => h) trivial (Or.inl ⟨by rfl, ?hync7⟩) S1.out S1.out ?restnc7
  case hync7 => intro x hx; have a0 : x.cell? ⟨bk, ok + (q + 1) * 3, none⟩ = _ := hx.a 0 _ rfl; have a1 := hx.a 1 _ rfl; have a2 := hx.a 2 _ rfl; have d0 : x.cell? ⟨bk, ok + q * 3, none⟩ = _ := hx.d 0 _ rfl; have d1 := hx.d 1 _ rfl; have d2 := hx.d 2 _ rfl; clear hx; go_simp; try with_reducible rfl
  (try go_simp)
  refine Hr.Walk.take (i := 8) (v := ?vnc8) (fun x => KpS wo bk (ok + (q + 1) * 3) (ok + q * 3) [.int .i64 ri, .int .i64 y, .int .i64 p3] [.int .i64 p1, .int .i64 p2, .int .i64 p3] x) (fun _ => True) rfl (by kernel_rfl) (by kernel_rfl) (by kernel_rfl) (fun _ _ _ h => HPQ _ _ _ _ _ h) (fun _ _ _ _ _ _ => trivial) (fun _ _ _ h => h) (fun _ _ h => h) trivial (Or.inl ⟨by rfl, ?hync8⟩) S1.out S1.out ?restnc8
  case hync8 => intro x hx; have a0 : x.cell? ⟨bk, ok + (q + 1) * 3, none⟩ = _ := hx.a 0 _ rfl; have a1 := hx.a 1 _ rfl; have a2 := hx.a 2 _ rfl; have d0 : x.cell? ⟨bk, ok + q * 3, none⟩ = _ := hx.d 0 _ rfl; have d1 := hx.d 1 _ rfl; have d2 := hx.d 2 _ rfl; clear hx; go_simp; try with_reducible rfl
  (try go_simp)
  refine Hr.Walk.one (i := 9) (by kernel_rfl) rfl (fun K hK => ?_)
  have hx := S1.out; have a0 : w1.cell? ⟨bk, ok + (q + 1) * 3, none⟩ = _ := hx.a 0 _ rfl; have a1 := hx.a 1 _ rfl; have a2 := hx.a 2 _ rfl; have d0 : w1.cell? ⟨bk, ok + q * 3, none⟩ = _ := hx.d 0 _ rfl; have d1 := hx.d 1 _ rfl; have d2 := hx.d 2 _ rfl; clear hx
  go_simp
  refine hK.out _ _ S1.out ?_
  clear hK K
  refine Hr.Walk.one (i := 10) (by kernel_rfl) rfl (fun K hK => ?_)
  have hx := S1.out; have a0 : w1.cell? ⟨bk, ok + (q + 1) * 3, none⟩ = _ := hx.a 0 _ rfl; have a1 := hx.a 1 _ rfl; have a2 := hx.a 2 _ rfl; have d0 : w1.cell? ⟨bk, ok + q * 3, none⟩ = _ := hx.d 0 _ rfl; have d1 := hx.d 1 _ rfl; have d2 := hx.d 2 _ rfl; clear hx
  go_simp
  refine hK.out _ _ S1.out ?_
  clear hK K
  refine Hr.Walk.one (i := 11) (by kernel_rfl) rfl (fun K hK => ?_)
  have hx := S1.out; have a0 : w1.cell? ⟨bk, ok + (q + 1) * 3, none⟩ = _ := hx.a 0 _ rfl; have a1 := hx.a 1 _ rfl; have a2 := hx.a 2 _ rfl; have d0 : w1.cell? ⟨bk, ok + q * 3, none⟩ = _ := hx.d 0 _ rfl; have d1 := hx.d 1 _ rfl; have d2 := hx.d 2 _ rfl; clear hx
  go_simp
  refine hK.out _ _ S1.out ?_
  clear hK K
  refine Hr.Walk.one (i := 12) (by kernel_rfl) rfl (fun K hK => ?_)
  have hx := S1.out; have a0 : w1.cell? ⟨bk, ok + (q + 1) * 3, none⟩ = _ := hx.a 0 _ rfl; have a1 := hx.a 1 _ rfl; have a2 := hx.a 2 _ rfl; have d0 : w1.cell? ⟨bk, ok + q * 3, none⟩ = _ := hx.d 0 _ rfl; have d1 := hx.d 1 _ rfl; have d2 := hx.d 2 _ rfl; clear hx
  go_simp
  refine hK.out _ _ S1.out ?_
  clear hK K
  refine Hr.Walk.one (i := 13) (by kernel_rfl) rfl (fun K hK => ?_)
  have hx := S1.out; have a0 : w1.cell? ⟨bk, ok + (q + 1) * 3, none⟩ = _ := hx.a 0 _ rfl; have a1 := hx.a 1 _ rfl; have a2 := hx.a 2 _ rfl; have d0 : w1.cell? ⟨bk, ok + q * 3, none⟩ = _ := hx.d 0 _ rfl; have d1 := hx.d 1 _ rfl; have d2 := hx.d 2 _ rfl; clear hx
  go_simp
  refine hK.out _ _ S1.out ?_
  clear hK K
  refine Hr.Walk.one (i := 14) (by kernel_rfl) rfl (fun K hK => ?_)
  have hx := S1.out; have a0 : w1.cell? ⟨bk, ok + (q + 1) * 3, none⟩ = _ := hx.a 0 _ rfl; have a1 := hx.a 1 _ rfl; have a2 := hx.a 2 _ rfl; have d0 : w1.cell? ⟨bk, ok + q * 3, none⟩ = _ := hx.d 0 _ rfl; have d1 := hx.d 1 _ rfl; have d2 := hx.d 2 _ rfl; clear hx
  go_simp
  refine hK.out _ _ S1.out ?_
  clear hK K
  refine Hr.Walk.one (i := 15) (by kernel_rfl) rfl (fun K hK => ?_)
  have hx := S1.out; have a0 : w1.cell? ⟨bk, ok + (q + 1) * 3, none⟩ = _ := hx.a 0 _ rfl; have a1 := hx.a 1 _ rfl; have a2 := hx.a 2 _ rfl; have d0 : w1.cell? ⟨bk, ok + q * 3, none⟩ = _ := hx.d 0 _ rfl; have d1 := hx.d 1 _ rfl; have d2 := hx.d 2 _ rfl; clear hx
  go_simp
  refine hK.out _ _ S1.out ?_
  clear hK K
  refine Hr.Walk.take (i := 16) (v := ?vnc16) (fun x => KpS wo bk (ok + (q + 1) * 3) (ok + q * 3) [.int .i64 ri, .int .i64 y, .int .i64 p3] [.int .i64 p1, .int .i64 p2, .int .i64 p3] x) (fun _ => True) rfl (by kernel_rfl) (by kernel_rfl) (by kernel_rfl) (fun _ _ _ h => HPQ _ _ _ _ _ h) (fun _ _ _ _ _ _ => trivial) (fun _ _ _ h => h) (fun _ _ h => h) trivial (Or.inl ⟨by rfl, ?hync16⟩) S1.out S1.out ?restnc16
  case hync16 => intro x hx; have a0 : x.cell? ⟨bk, ok + (q + 1) * 3, none⟩ = _ := hx.a 0 _ rfl; have a1 := hx.a 1 _ rfl; have a2 := hx.a 2 _ rfl; have d0 : x.cell? ⟨bk, ok + q * 3, none⟩ = _ := hx.d 0 _ rfl; have d1 := hx.d 1 _ rfl; have d2 := hx.d 2 _ rfl; clear hx; go_simp; try with_reducible rfl
  (try go_simp)
  refine Hr.Walk.take (i := 17) (v := ?vnc17) (fun x => KpS wo bk (ok + (q + 1) * 3) (ok + q * 3) [.int .i64 ri, .int .i64 y, .int .i64 p3] [.int .i64 p1, .int .i64 p2, .int .i64 p3] x) (fun _ => True) rfl (by kernel_rfl) (by kernel_rfl) (by kernel_rfl) (fun _ _ _ h => HPQ _ _ _ _ _ h) (fun _ _ _ _ _ _ => trivial) (fun _ _ _ h => h) (fun _ _ h => h) trivial (Or.inl ⟨by rfl, ?hync17⟩) S1.out S1.out ?restnc17
  case hync17 => intro x hx; have a0 : x.cell? ⟨bk, ok + (q + 1) * 3, none⟩ = _ := hx.a 0 _ rfl; have a1 := hx.a 1 _ rfl; have a2 := hx.a 2 _ rfl; have d0 : x.cell? ⟨bk, ok + q * 3, none⟩ = _ := hx.d 0 _ rfl; have d1 := hx.d 1 _ rfl; have d2 := hx.d 2 _ rfl; clear hx; go_simp; try with_reducible rfl
  (try go_simp)
  refine Hr.Walk.take (i := 18) (v := ?vnc18) (fun x => KpS wo bk (ok + (q + 1) * 3) (ok + q * 3) [.int .i64 ri, .int .i64 y, .int .i64 p3] [.int .i64 p1, .int .i64 p2, .int .i64 p3] x) (fun _ => True) rfl (by kernel_rfl) (by kernel_rfl) (by kernel_rfl) (fun _ _ _ h => HPQ _ _ _ _ _ h) (fun _ _ _ _ _ _ => trivial) (fun _ _ _ h => h) (fun _ _ h => h) trivial (Or.inl ⟨by rfl, ?hync18⟩) S1.out S1.out ?restnc18
  case hync18 => intro x hx; have a0 : x.cell? ⟨bk, ok + (q + 1) * 3, none⟩ = _ := hx.a 0 _ rfl; have a1 := hx.a 1 _ rfl; have a2 := hx.a 2 _ rfl; have d0 : x.cell? ⟨bk, ok + q * 3, none⟩ = _ := hx.d 0 _ rfl; have d1 := hx.d 1 _ rfl; have d2 := hx.d 2 _ rfl; clear hx; go_simp; try with_reducible rfl
  (try go_simp)
  refine Hr.Walk.take (i := 19) (v := ?vnc19) (fun x => KpS wo bk (ok + (q + 1) * 3) (ok + q * 3) [.int .i64 ri, .int .i64 y, .int .i64 p3] [.int .i64 p1, .int .i64 p2, .int .i64 p3] x) (fun _ => True) rfl (by kernel_rfl) (by kernel_rfl) (by kernel_rfl) (fun _ _ _ h => HPQ _ _ _ _ _ h) (fun _ _ _ _ _ _ => trivial) (fun _ _ _ h => h) (fun _ _ h => h) trivial (Or.inl ⟨by rfl, ?hync19⟩) S1.out S1.out ?restnc19
  case hync19 => intro x hx; have a0 : x.cell? ⟨bk, ok + (q + 1) * 3, none⟩ = _ := hx.a 0 _ rfl; have a1 := hx.a 1 _ rfl; have a2 := hx.a 2 _ rfl; have d0 : x.cell? ⟨bk, ok + q * 3, none⟩ = _ := hx.d 0 _ rfl; have d1 := hx.d 1 _ rfl; have d2 := hx.d 2 _ rfl; clear hx; go_simp; try with_reducible rfl
  (try go_simp)
  refine Hr.Walk.take (i := 20) (v := ?vnc20) (fun x => KpS wo bk (ok + (q + 1) * 3) (ok + q * 3) [.int .i64 ri, .int .i64 y, .int .i64 p3] [.int .i64 p1, .int .i64 p2, .int .i64 p3] x) (fun _ => True) rfl (by kernel_rfl) (by kernel_rfl) (by kernel_rfl) (fun _ _ _ h => HPQ _ _ _ _ _ h) (fun _ _ _ _ _ _ => trivial) (fun _ _ _ h => h) (fun _ _ h => h) trivial (Or.inl ⟨by rfl, ?hync20⟩) S1.out S1.out ?restnc20
  case hync20 => intro x hx; have a0 : x.cell? ⟨bk, ok + (q + 1) * 3, none⟩ = _ := hx.a 0 _ rfl; have a1 := hx.a 1 _ rfl; have a2 := hx.a 2 _ rfl; have d0 : x.cell? ⟨bk, ok + q * 3, none⟩ = _ := hx.d 0 _ rfl; have d1 := hx.d 1 _ rfl; have d2 := hx.d 2 _ rfl; clear hx; go_simp; try with_reducible rfl
  (try go_simp)
  refine Hr.Walk.take (i := 21) (v := ?vnc21) (fun x => KpS wo bk (ok + (q + 1) * 3) (ok + q * 3) [.int .i64 ri, .int .i64 y, .int .i64 p3] [.int .i64 p1, .int .i64 p2, .int .i64 p3] x) (fun _ => True) rfl (by kernel_rfl) (by kernel_rfl) (by kernel_rfl) (fun _ _ _ h => HPQ _ _ _ _ _ h) (fun _ _ _ _ _ _ => trivial) (fun _ _ _ h => h) (fun _ _ h => h) trivial (Or.inl ⟨by rfl, ?hync21⟩) S1.out S1.out ?restnc21
  case hync21 => intro x hx; have a0 : x.cell? ⟨bk, ok + (q + 1) * 3, none⟩ = _ := hx.a 0 _ rfl; have a1 := hx.a 1 _ rfl; have a2 := hx.a 2 _ rfl; have d0 : x.cell? ⟨bk, ok + q * 3, none⟩ = _ := hx.d 0 _ rfl; have d1 := hx.d 1 _ rfl; have d2 := hx.d 2 _ rfl; clear hx; go_simp; try with_reducible rfl
  (try go_simp)
  refine Hr.Walk.one (i := 22) (by kernel_rfl) rfl (fun K hK => ?_)
  have hx := S1.out; have a0 : w1.cell? ⟨bk, ok + (q + 1) * 3, none⟩ = _ := hx.a 0 _ rfl; have a1 := hx.a 1 _ rfl; have a2 := hx.a 2 _ rfl; have d0 : w1.cell? ⟨bk, ok + q * 3, none⟩ = _ := hx.d 0 _ rfl; have d1 := hx.d 1 _ rfl; have d2 := hx.d 2 _ rfl; clear hx
  go_simp
  refine hK.out _ _ S1.out ?_
  clear hK K
  refine Hr.Walk.one (i := 23) (by kernel_rfl) rfl (fun K hK => ?_)
  have hx := S1.out; have a0 : w1.cell? ⟨bk, ok + (q + 1) * 3, none⟩ = _ := hx.a 0 _ rfl; have a1 := hx.a 1 _ rfl; have a2 := hx.a 2 _ rfl; have d0 : w1.cell? ⟨bk, ok + q * 3, none⟩ = _ := hx.d 0 _ rfl; have d1 := hx.d 1 _ rfl; have d2 := hx.d 2 _ rfl; clear hx
  go_simp
  refine hK.out _ _ S1.out ?_
  clear hK K
  refine Hr.Walk.one (i := 24) (by kernel_rfl) rfl (fun K hK => ?_)
  have hx := S1.out; have a0 : w1.cell? ⟨bk, ok + (q + 1) * 3, none⟩ = _ := hx.a 0 _ rfl; have a1 := hx.a 1 _ rfl; have a2 := hx.a 2 _ rfl; have d0 : w1.cell? ⟨bk, ok + q * 3, none⟩ = _ := hx.d 0 _ rfl; have d1 := hx.d 1 _ rfl; have d2 := hx.d 2 _ rfl; clear hx
  go_simp
  refine hK.out _ _ S1.out ?_
  clear hK K
  refine Hr.Walk.one (i := 25) (by kernel_rfl) rfl (fun K hK => ?_)
  have hx := S1.out; have a0 : w1.cell? ⟨bk, ok + (q + 1) * 3, none⟩ = _ := hx.a 0 _ rfl; have a1 := hx.a 1 _ rfl; have a2 := hx.a 2 _ rfl; have d0 : w1.cell? ⟨bk, ok + q * 3, none⟩ = _ := hx.d 0 _ rfl; have d1 := hx.d 1 _ rfl; have d2 := hx.d 2 _ rfl; clear hx
  go_simp
  refine hK.out _ _ S1.out ?_
  clear hK K
  refine Hr.Walk.one (i := 26) (by kernel_rfl) rfl (fun K hK => ?_)
  have hx := S1.out; have a0 : w1.cell? ⟨bk, ok + (q + 1) * 3, none⟩ = _ := hx.a 0 _ rfl; have a1 := hx.a 1 _ rfl; have a2 := hx.a 2 _ rfl; have d0 : w1.cell? ⟨bk, ok + q * 3, none⟩ = _ := hx.d 0 _ rfl; have d1 := hx.d 1 _ rfl; have d2 := hx.d 2 _ rfl; clear hx
  go_simp
  refine hK.out _ _ S1.out ?_
  clear hK K
  refine Hr.Walk.one (i := 27) (by kernel_rfl) rfl (fun K hK => ?_)
  have hx := S1.out; have a0 : w1.cell? ⟨bk, ok + (q + 1) * 3, none⟩ = _ := hx.a 0 _ rfl; have a1 := hx.a 1 _ rfl; have a2 := hx.a 2 _ rfl; have d0 : w1.cell? ⟨bk, ok + q * 3, none⟩ = _ := hx.d 0 _ rfl; have d1 := hx.d 1 _ rfl; have d2 := hx.d 2 _ rfl; clear hx
  go_simp
  refine hK.out _ _ S1.out ?_
  clear hK K
  refine Hr.Walk.one (i := 28) (by kernel_rfl) rfl (fun K hK => ?_)
  have hx := S1.out; have a0 : w1.cell? ⟨bk, ok + (q + 1) * 3, none⟩ = _ := hx.a 0 _ rfl; have a1 := hx.a 1 _ rfl; have a2 := hx.a 2 _ rfl; have d0 : w1.cell? ⟨bk, ok + q * 3, none⟩ = _ := hx.d 0 _ rfl; have d1 := hx.d 1 _ rfl; have d2 := hx.d 2 _ rfl; clear hx
  go_simp
  refine hK.out _ _ S1.out ?_
  clear hK K
  refine Hr.Walk.take (i := 29) (v := ?vnc29) (fun x => KpS wo bk (ok + (q + 1) * 3) (ok + q * 3) [.int .i64 ri, .int .i64 y, .int .i64 p3] [.int .i64 p1, .int .i64 p2, .int .i64 p3] x) (fun _ => True) rfl (by kernel_rfl) (by kernel_rfl) (by kernel_rfl) (fun _ _ _ h => HPQ _ _ _ _ _ h) (fun _ _ _ _ _ _ => trivial) (fun _ _ _ h => h) (fun _ _ h => h) trivial (Or.inl ⟨by rfl, ?hync29⟩) S1.out S1.out ?restnc29
  case hync29 => intro x hx; have a0 : x.cell? ⟨bk, ok + (q + 1) * 3, none⟩ = _ := hx.a 0 _ rfl; have a1 := hx.a 1 _ rfl; have a2 := hx.a 2 _ rfl; have d0 : x.cell? ⟨bk, ok + q * 3, none⟩ = _ := hx.d 0 _ rfl; have d1 := hx.d 1 _ rfl; have d2 := hx.d 2 _ rfl; clear hx; go_simp; try with_reducible rfl
  (try go_simp)
  refine Hr.Walk.take (i := 30) (v := ?vnc30) (fun x => KpS wo bk (ok + (q + 1) * 3) (ok + q * 3) [.int .i64 ri, .int .i64 y, .int .i64 p3] [.int .i64 p1, .int .i64 p2, .int .i64 p3] x) (fun _ => True) rfl (by kernel_rfl) (by kernel_rfl) (by kernel_rfl) (fun _ _ _ h => HPQ _ _ _ _ _ h) (fun _ _ _ _ _ _ => trivial) (fun _ _ _ h => h) (fun _ _ h => h) trivial (Or.inl ⟨by rfl, ?hync30⟩) S1.out S1.out ?restnc30
  case hync30 => intro x hx; have a0 : x.cell? ⟨bk, ok + (q + 1) * 3, none⟩ = _ := hx.a 0 _ rfl; have a1 := hx.a 1 _ rfl; have a2 := hx.a 2 _ rfl; have d0 : x.cell? ⟨bk, ok + q * 3, none⟩ = _ := hx.d 0 _ rfl; have d1 := hx.d 1 _ rfl; have d2 := hx.d 2 _ rfl; clear hx; go_simp; try with_reducible rfl
  (try go_simp)
  refine Hr.Walk.take (i := 31) (v := ?vnc31) (fun x => KpS wo bk (ok + (q + 1) * 3) (ok + q * 3) [.int .i64 ri, .int .i64 y, .int .i64 p3] [.int .i64 p1, .int .i64 p2, .int .i64 p3] x) (fun _ => True) rfl (by kernel_rfl) (by kernel_rfl) (by kernel_rfl) (fun _ _ _ h => HPQ _ _ _ _ _ h) (fun _ _ _ _ _ _ => trivial) (fun _ _ _ h => h) (fun _ _ h => h) trivial (Or.inl ⟨by rfl, ?hync31⟩) S1.out S1.out ?restnc31
  case hync31 => intro x hx; have a0 : x.cell? ⟨bk, ok + (q + 1) * 3, none⟩ = _ := hx.a 0 _ rfl; have a1 := hx.a 1 _ rfl; have a2 := hx.a 2 _ rfl; have d0 : x.cell? ⟨bk, ok + q * 3, none⟩ = _ := hx.d 0 _ rfl; have d1 := hx.d 1 _ rfl; have d2 := hx.d 2 _ rfl; clear hx; go_simp; try with_reducible rfl
  (try go_simp)
  refine Hr.Walk.take (i := 32) (v := ?vnc32) (fun x => KpS wo bk (ok + (q + 1) * 3) (ok + q * 3) [.int .i64 ri, .int .i64 y, .int .i64 p3] [.int .i64 p1, .int .i64 p2, .int .i64 p3] x) (fun _ => True) rfl (by kernel_rfl) (by kernel_rfl) (by kernel_rfl) (fun _ _ _ h => HPQ _ _ _ _ _ h) (fun _ _ _ _ _ _ => trivial) (fun _ _ _ h => h) (fun _ _ h => h) trivial (Or.inl ⟨by rfl, ?hync32⟩) S1.out S1.out ?restnc32
  case hync32 => intro x hx; have a0 : x.cell? ⟨bk, ok + (q + 1) * 3, none⟩ = _ := hx.a 0 _ rfl; have a1 := hx.a 1 _ rfl; have a2 := hx.a 2 _ rfl; have d0 : x.cell? ⟨bk, ok + q * 3, none⟩ = _ := hx.d 0 _ rfl; have d1 := hx.d 1 _ rfl; have d2 := hx.d 2 _ rfl; clear hx; go_simp; try with_reducible rfl
  (try go_simp)
  refine Hr.Walk.take (i := 33) (v := ?vnc33) (fun x => KpS wo bk (ok + (q + 1) * 3) (ok + q * 3) [.int .i64 ri, .int .i64 y, .int .i64 p3] [.int .i64 p1, .int .i64 p2, .int .i64 p3] x) (fun _ => True) rfl (by kernel_rfl) (by kernel_rfl) (by kernel_rfl) (fun _ _ _ h => HPQ _ _ _ _ _ h) (fun _ _ _ _ _ _ => trivial) (fun _ _ _ h => h) (fun _ _ h => h) trivial (Or.inl ⟨by rfl, ?hync33⟩) S1.out S1.out ?restnc33
  case hync33 => intro x hx; have a0 : x.cell? ⟨bk, ok + (q + 1) * 3, none⟩ = _ := hx.a 0 _ rfl; have a1 := hx.a 1 _ rfl; have a2 := hx.a 2 _ rfl; have d0 : x.cell? ⟨bk, ok + q * 3, none⟩ = _ := hx.d 0 _ rfl; have d1 := hx.d 1 _ rfl; have d2 := hx.d 2 _ rfl; clear hx; go_simp; try with_reducible rfl
  (try go_simp)
  refine Hr.Walk.take (i := 34) (v := ?vnc34) (fun x => KpS wo bk (ok + (q + 1) * 3) (ok + q * 3) [.int .i64 ri, .int .i64 y, .int .i64 p3] [.int .i64 p1, .int .i64 p2, .int .i64 p3] x) (fun _ => True) rfl (by kernel_rfl) (by kernel_rfl) (by kernel_rfl) (fun _ _ _ h => HPQ _ _ _ _ _ h) (fun _ _ _ _ _ _ => trivial) (fun _ _ _ h => h) (fun _ _ h => h) trivial (Or.inl ⟨by rfl, ?hync34⟩) S1.out S1.out ?restnc34
  case hync34 => intro x hx; have a0 : x.cell? ⟨bk, ok + (q + 1) * 3, none⟩ = _ := hx.a 0 _ rfl; have a1 := hx.a 1 _ rfl; have a2 := hx.a 2 _ rfl; have d0 : x.cell? ⟨bk, ok + q * 3, none⟩ = _ := hx.d 0 _ rfl; have d1 := hx.d 1 _ rfl; have d2 := hx.d 2 _ rfl; clear hx; go_simp; try with_reducible rfl
  (try go_simp)
  refine Hr.Walk.one (i := 35) (by kernel_rfl) rfl (fun K hK => ?_)
  have hx := S1.out; have a0 : w1.cell? ⟨bk, ok + (q + 1) * 3, none⟩ = _ := hx.a 0 _ rfl; have a1 := hx.a 1 _ rfl; have a2 := hx.a 2 _ rfl; have d0 : w1.cell? ⟨bk, ok + q * 3, none⟩ = _ := hx.d 0 _ rfl; have d1 := hx.d 1 _ rfl; have d2 := hx.d 2 _ rfl; clear hx
  go_simp
  refine hK.out _ _ S1.out ?_
  clear hK K
  refine Hr.Walk.one (i := 36) (by kernel_rfl) rfl (fun K hK => ?_)
  have hx := S1.out; have a0 : w1.cell? ⟨bk, ok + (q + 1) * 3, none⟩ = _ := hx.a 0 _ rfl; have a1 := hx.a 1 _ rfl; have a2 := hx.a 2 _ rfl; have d0 : w1.cell? ⟨bk, ok + q * 3, none⟩ = _ := hx.d 0 _ rfl; have d1 := hx.d 1 _ rfl; have d2 := hx.d 2 _ rfl; clear hx
  go_simp
  refine hK.out _ _ S1.out ?_
  clear hK K
  refine Hr.Walk.one (i := 37) (by kernel_rfl) rfl (fun K hK => ?_)
  have hx := S1.out; have a0 : w1.cell? ⟨bk, ok + (q + 1) * 3, none⟩ = _ := hx.a 0 _ rfl; have a1 := hx.a 1 _ rfl; have a2 := hx.a 2 _ rfl; have d0 : w1.cell? ⟨bk, ok + q * 3, none⟩ = _ := hx.d 0 _ rfl; have d1 := hx.d 1 _ rfl; have d2 := hx.d 2 _ rfl; clear hx
  go_simp
  refine hK.out _ _ S1.out ?_
  clear hK K
  refine Hr.Walk.one (i := 38) (by kernel_rfl) rfl (fun K hK => ?_)
  have hx := S1.out; have a0 : w1.cell? ⟨bk, ok + (q + 1) * 3, none⟩ = _ := hx.a 0 _ rfl; have a1 := hx.a 1 _ rfl; have a2 := hx.a 2 _ rfl; have d0 : w1.cell? ⟨bk, ok + q * 3, none⟩ = _ := hx.d 0 _ rfl; have d1 := hx.d 1 _ rfl; have d2 := hx.d 2 _ rfl; clear hx
  go_simp
  refine hK.out _ _ S1.out ?_
  clear hK K
  refine Hr.Walk.one (i := 39) (by kernel_rfl) rfl (fun K hK => ?_)
  have hx := S1.out; have a0 : w1.cell? ⟨bk, ok + (q + 1) * 3, none⟩ = _ := hx.a 0 _ rfl; have a1 := hx.a 1 _ rfl; have a2 := hx.a 2 _ rfl; have d0 : w1.cell? ⟨bk, ok + q * 3, none⟩ = _ := hx.d 0 _ rfl; have d1 := hx.d 1 _ rfl; have d2 := hx.d 2 _ rfl; clear hx
  go_simp
  refine hK.out _ _ S1.out ?_
  clear hK K
  refine Hr.Walk.one (i := 40) (by kernel_rfl) rfl (fun K hK => ?_)
  have hx := S1.out; have a0 : w1.cell? ⟨bk, ok + (q + 1) * 3, none⟩ = _ := hx.a 0 _ rfl; have a1 := hx.a 1 _ rfl; have a2 := hx.a 2 _ rfl; have d0 : w1.cell? ⟨bk, ok + q * 3, none⟩ = _ := hx.d 0 _ rfl; have d1 := hx.d 1 _ rfl; have d2 := hx.d 2 _ rfl; clear hx
  go_simp
  refine hK.out _ _ S1.out ?_
  clear hK K
  refine Hr.Walk.one (i := 41) (by kernel_rfl) rfl (fun K hK => ?_)
  have hx := S1.out; have a0 : w1.cell? ⟨bk, ok + (q + 1) * 3, none⟩ = _ := hx.a 0 _ rfl; have a1 := hx.a 1 _ rfl; have a2 := hx.a 2 _ rfl; have d0 : w1.cell? ⟨bk, ok + q * 3, none⟩ = _ := hx.d 0 _ rfl; have d1 := hx.d 1 _ rfl; have d2 := hx.d 2 _ rfl; clear hx
  go_simp
  refine hK.out _ _ S1.out ?_
  clear hK K
  refine Hr.Walk.take (i := 42) (v := ?vnc42) (fun x => KpS wo bk (ok + (q + 1) * 3) (ok + q * 3) [.int .i64 ri, .int .i64 y, .int .i64 p3] [.int .i64 p1, .int .i64 p2, .int .i64 p3] x) (fun _ => True) rfl (by kernel_rfl) (by kernel_rfl) (by kernel_rfl) (fun _ _ _ h => HPQ _ _ _ _ _ h) (fun _ _ _ _ _ _ => trivial) (fun _ _ _ h => h) (fun _ _ h => h) trivial (Or.inl ⟨by rfl, ?hync42⟩) S1.out S1.out ?restnc42
  case hync42 => intro x hx; have a0 : x.cell? ⟨bk, ok + (q + 1) * 3, none⟩ = _ := hx.a 0 _ rfl; have a1 := hx.a 1 _ rfl; have a2 := hx.a 2 _ rfl; have d0 : x.cell? ⟨bk, ok + q * 3, none⟩ = _ := hx.d 0 _ rfl; have d1 := hx.d 1 _ rfl; have d2 := hx.d 2 _ rfl; clear hx; go_simp; try with_reducible rfl
  (try go_simp)
  refine Hr.Walk.take (i := 43) (v := ?vnc43) (fun x => KpS wo bk (ok + (q + 1) * 3) (ok + q * 3) [.int .i64 ri, .int .i64 y, .int .i64 p3] [.int .i64 p1, .int .i64 p2, .int .i64 p3] x) (fun _ => True) rfl (by kernel_rfl) (by kernel_rfl) (by kernel_rfl) (fun _ _ _ h => HPQ _ _ _ _ _ h) (fun _ _ _ _ _ _ => trivial) (fun _ _ _ h => h) (fun _ _ h => h) trivial (Or.inl ⟨by rfl, ?hync43⟩) S1.out S1.out ?restnc43
  case hync43 => intro x hx; have a0 : x.cell? ⟨bk, ok + (q + 1) * 3, none⟩ = _ := hx.a 0 _ rfl; have a1 := hx.a 1 _ rfl; have a2 := hx.a 2 _ rfl; have d0 : x.cell? ⟨bk, ok + q * 3, none⟩ = _ := hx.d 0 _ rfl; have d1 := hx.d 1 _ rfl; have d2 := hx.d 2 _ rfl; clear hx; go_simp; try with_reducible rfl
  (try go_simp)
  refine Hr.Walk.take (i := 44) (v := ?vnc44) (fun x => KpS wo bk (ok + (q + 1) * 3) (ok + q * 3) [.int .i64 ri, .int .i64 y, .int .i64 p3] [.int .i64 p1, .int .i64 p2, .int .i64 p3] x) (fun _ => True) rfl (by kernel_rfl) (by kernel_rfl) (by kernel_rfl) (fun _ _ _ h => HPQ _ _ _ _ _ h) (fun _ _ _ _ _ _ => trivial) (fun _ _ _ h => h) (fun _ _ h => h) trivial (Or.inl ⟨by rfl, ?hync44⟩) S1.out S1.out ?restnc44
  case hync44 => intro x hx; have a0 : x.cell? ⟨bk, ok + (q + 1) * 3, none⟩ = _ := hx.a 0 _ rfl; have a1 := hx.a 1 _ rfl; have a2 := hx.a 2 _ rfl; have d0 : x.cell? ⟨bk, ok + q * 3, none⟩ = _ := hx.d 0 _ rfl; have d1 := hx.d 1 _ rfl; have d2 := hx.d 2 _ rfl; clear hx; go_simp; try with_reducible rfl
  (try go_simp)
  refine Hr.Walk.take (i := 45) (v := ?vnc45) (fun x => KpS wo bk (ok + (q + 1) * 3) (ok + q * 3) [.int .i64 ri, .int .i64 y, .int .i64 p3] [.int .i64 p1, .int .i64 p2, .int .i64 p3] x) (fun _ => True) rfl (by kernel_rfl) (by kernel_rfl) (by kernel_rfl) (fun _ _ _ h => HPQ _ _ _ _ _ h) (fun _ _ _ _ _ _ => trivial) (fun _ _ _ h => h) (fun _ _ h => h) trivial (Or.inl ⟨by rfl, ?hync45⟩) S1.out S1.out ?restnc45
  case hync45 => intro x hx; have a0 : x.cell? ⟨bk, ok + (q + 1) * 3, none⟩ = _ := hx.a 0 _ rfl; have a1 := hx.a 1 _ rfl; have a2 := hx.a 2 _ rfl; have d0 : x.cell? ⟨bk, ok + q * 3, none⟩ = _ := hx.d 0 _ rfl; have d1 := hx.d 1 _ rfl; have d2 := hx.d 2 _ rfl; clear hx; go_simp; try with_reducible rfl
  (try go_simp)
  refine Hr.Walk.take (i := 46) (v := ?vnc46) (fun x => KpS wo bk (ok + (q + 1) * 3) (ok + q * 3) [.int .i64 ri, .int .i64 y, .int .i64 p3] [.int .i64 p1, .int .i64 p2, .int .i64 p3] x) (fun _ => True) rfl (by kernel_rfl) (by kernel_rfl) (by kernel_rfl) (fun _ _ _ h => HPQ _ _ _ _ _ h) (fun _ _ _ _ _ _ => trivial) (fun _ _ _ h => h) (fun _ _ h => h) trivial (Or.inl ⟨by rfl, ?hync46⟩) S1.out S1.out ?restnc46
  case hync46 => intro x hx; have a0 : x.cell? ⟨bk, ok + (q + 1) * 3, none⟩ = _ := hx.a 0 _ rfl; have a1 := hx.a 1 _ rfl; have a2 := hx.a 2 _ rfl; have d0 : x.cell? ⟨bk, ok + q * 3, none⟩ = _ := hx.d 0 _ rfl; have d1 := hx.d 1 _ rfl; have d2 := hx.d 2 _ rfl; clear hx; go_simp; try with_reducible rfl
  (try go_simp)
  refine Hr.Walk.take (i := 47) (v := ?vnc47) (fun x => KpS wo bk (ok + (q + 1) * 3) (ok + q * 3) [.int .i64 ri, .int .i64 y, .int .i64 p3] [.int .i64 p1, .int .i64 p2, .int .i64 p3] x) (fun _ => True) rfl (by kernel_rfl) (by kernel_rfl) (by kernel_rfl) (fun _ _ _ h => HPQ _ _ _ _ _ h) (fun _ _ _ _ _ _ => trivial) (fun _ _ _ h => h) (fun _ _ h => h) trivial (Or.inl ⟨by rfl, ?hync47⟩) S1.out S1.out ?restnc47
  case hync47 => intro x hx; have a0 : x.cell? ⟨bk, ok + (q + 1) * 3, none⟩ = _ := hx.a 0 _ rfl; have a1 := hx.a 1 _ rfl; have a2 := hx.a 2 _ rfl; have d0 : x.cell? ⟨bk, ok + q * 3, none⟩ = _ := hx.d 0 _ rfl; have d1 := hx.d 1 _ rfl; have d2 := hx.d 2 _ rfl; clear hx; go_simp; try with_reducible rfl
  (try go_simp)
  refine Hr.Walk.one (i := 48) (by kernel_rfl) rfl (fun K hK => ?_)
  have hx := S1.out; have a0 : w1.cell? ⟨bk, ok + (q + 1) * 3, none⟩ = _ := hx.a 0 _ rfl; have a1 := hx.a 1 _ rfl; have a2 := hx.a 2 _ rfl; have d0 : w1.cell? ⟨bk, ok + q * 3, none⟩ = _ := hx.d 0 _ rfl; have d1 := hx.d 1 _ rfl; have d2 := hx.d 2 _ rfl; clear hx
  go_simp
  refine hK.out _ _ S1.out ?_
  clear hK K
  refine Hr.Walk.one (i := 49) (by kernel_rfl) rfl (fun K hK => ?_)
  have hx := S1.out; have a0 : w1.cell? ⟨bk, ok + (q + 1) * 3, none⟩ = _ := hx.a 0 _ rfl; have a1 := hx.a 1 _ rfl; have a2 := hx.a 2 _ rfl; have d0 : w1.cell? ⟨bk, ok + q * 3, none⟩ = _ := hx.d 0 _ rfl; have d1 := hx.d 1 _ rfl; have d2 := hx.d 2 _ rfl; clear hx
  go_simp
  refine hK.out _ _ S1.out ?_
  clear hK K
  refine Hr.Walk.one (i := 50) (by kernel_rfl) rfl (fun K hK => ?_)
  have hx := S1.out; have a0 : w1.cell? ⟨bk, ok + (q + 1) * 3, none⟩ = _ := hx.a 0 _ rfl; have a1 := hx.a 1 _ rfl; have a2 := hx.a 2 _ rfl; have d0 : w1.cell? ⟨bk, ok + q * 3, none⟩ = _ := hx.d 0 _ rfl; have d1 := hx.d 1 _ rfl; have d2 := hx.d 2 _ rfl; clear hx
  go_simp
  refine hK.out _ _ S1.out ?_
  clear hK K
  refine Hr.Walk.one (i := 51) (by kernel_rfl) rfl (fun K hK => ?_)
  have hx := S1.out; have a0 : w1.cell? ⟨bk, ok + (q + 1) * 3, none⟩ = _ := hx.a 0 _ rfl; have a1 := hx.a 1 _ rfl; have a2 := hx.a 2 _ rfl; have d0 : w1.cell? ⟨bk, ok + q * 3, none⟩ = _ := hx.d 0 _ rfl; have d1 := hx.d 1 _ rfl; have d2 := hx.d 2 _ rfl; clear hx
  go_simp
  refine hK.out _ _ S1.out ?_
  clear hK K
  refine Hr.Walk.one (i := 52) (by kernel_rfl) rfl (fun K hK => ?_)
  have hx := S1.out; have a0 : w1.cell? ⟨bk, ok + (q + 1) * 3, none⟩ = _ := hx.a 0 _ rfl; have a1 := hx.a 1 _ rfl; have a2 := hx.a 2 _ rfl; have d0 : w1.cell? ⟨bk, ok + q * 3, none⟩ = _ := hx.d 0 _ rfl; have d1 := hx.d 1 _ rfl; have d2 := hx.d 2 _ rfl; clear hx
  go_simp
  refine hK.out _ _ S1.out ?_
  clear hK K
  refine Hr.Walk.one (i := 53) (by kernel_rfl) rfl (fun K hK => ?_)
  have hx := S1.out; have a0 : w1.cell? ⟨bk, ok + (q + 1) * 3, none⟩ = _ := hx.a 0 _ rfl; have a1 := hx.a 1 _ rfl; have a2 := hx.a 2 _ rfl; have d0 : w1.cell? ⟨bk, ok + q * 3, none⟩ = _ := hx.d 0 _ rfl; have d1 := hx.d 1 _ rfl; have d2 := hx.d 2 _ rfl; clear hx
  go_simp
  refine hK.out _ _ S1.out ?_
  clear hK K
  refine Hr.Walk.one (i := 54) (by kernel_rfl) rfl (fun K hK => ?_)
  have hx := S1.out; have a0 : w1.cell? ⟨bk, ok + (q + 1) * 3, none⟩ = _ := hx.a 0 _ rfl; have a1 := hx.a 1 _ rfl; have a2 := hx.a 2 _ rfl; have d0 : w1.cell? ⟨bk, ok + q * 3, none⟩ = _ := hx.d 0 _ rfl; have d1 := hx.d 1 _ rfl; have d2 := hx.d 2 _ rfl; clear hx
  go_simp
  refine hK.out _ _ S1.out ?_
  clear hK K
  refine Hr.Walk.take (i := 55) (v := undef) (fun x => KpS wo bk (ok + (q + 1) * 3) (ok + q * 3) [.int .i64 ri, .int .i64 y, .int .i64 p3] [.int .i64 p1, .int .i64 p2, .int .i64 p3] x) (fun _ => True) rfl (by kernel_rfl) (by kernel_rfl) (by kernel_rfl) (fun _ _ _ h => HPQ _ _ _ _ _ h) (fun _ _ _ _ _ _ => trivial) (fun _ _ _ h => h) (fun _ _ h => h) trivial (Or.inr ⟨by rfl, rfl⟩) S1.out S1.out ?_
  (try go_simp)
  refine Hr.Walk.take (i := 56) (v := undef) (fun x => KpS wo bk (ok + (q + 1) * 3) (ok + q * 3) [.int .i64 ri, .int .i64 y, .int .i64 p3] [.int .i64 p1, .int .i64 p2, .int .i64 p3] x) (fun _ => True) rfl (by kernel_rfl) (by kernel_rfl) (by kernel_rfl) (fun _ _ _ h => HPQ _ _ _ _ _ h) (fun _ _ _ _ _ _ => trivial) (fun _ _ _ h => h) (fun _ _ h => h) trivial (Or.inr ⟨by rfl, rfl⟩) S1.out S1.out ?_
  (try go_simp)
  refine Hr.Walk.take (i := 57) (v := undef) (fun x => KpS wo bk (ok + (q + 1) * 3) (ok + q * 3) [.int .i64 ri, .int .i64 y, .int .i64 p3] [.int .i64 p1, .int .i64 p2, .int .i64 p3] x) (fun _ => True) rfl (by kernel_rfl) (by kernel_rfl) (by kernel_rfl) (fun _ _ _ h => HPQ _ _ _ _ _ h) (fun _ _ _ _ _ _ => trivial) (fun _ _ _ h => h) (fun _ _ h => h) trivial (Or.inr ⟨by rfl, rfl⟩) S1.out S1.out ?_
  (try go_simp)
  refine Hr.Walk.take (i := 58) (v := undef) (fun x => KpS wo bk (ok + (q + 1) * 3) (ok + q * 3) [.int .i64 ri, .int .i64 y, .int .i64 p3] [.int .i64 p1, .int .i64 p2, .int .i64 p3] x) (fun _ => True) rfl (by kernel_rfl) (by kernel_rfl) (by kernel_rfl) (fun _ _ _ h => HPQ _ _ _ _ _ h) (fun _ _ _ _ _ _ => trivial) (fun _ _ _ h => h) (fun _ _ h => h) trivial (Or.inr ⟨by rfl, rfl⟩) S1.out S1.out ?_
  (try go_simp)
  refine Hr.Walk.take (i := 59) (v := undef) (fun x => KpS wo bk (ok + (q + 1) * 3) (ok + q * 3) [.int .i64 ri, .int .i64 y, .int .i64 p3] [.int .i64 p1, .int .i64 p2, .int .i64 p3] x) (fun _ => True) rfl (by kernel_rfl) (by kernel_rfl) (by kernel_rfl) (fun _ _ _ h => HPQ _ _ _ _ _ h) (fun _ _ _ _ _ _ => trivial) (fun _ _ _ h => h) (fun _ _ h => h) trivial (Or.inr ⟨by rfl, rfl⟩) S1.out S1.out ?_
  (try go_simp)
  refine Hr.Walk.take (i := 60) (v := undef) (fun x => KpS wo bk (ok + (q + 1) * 3) (ok + q * 3) [.int .i64 ri, .int .i64 y, .int .i64 p3] [.int .i64 p1, .int .i64 p2, .int .i64 p3] x) (fun _ => True) rfl (by kernel_rfl) (by kernel_rfl) (by kernel_rfl) (fun _ _ _ h => HPQ _ _ _ _ _ h) (fun _ _ _ _ _ _ => trivial) (fun _ _ _ h => h) (fun _ _ h => h) trivial (Or.inr ⟨by rfl, rfl⟩) S1.out S1.out ?_
  (try go_simp)
  refine Hr.Walk.one (i := 61) (by kernel_rfl) rfl (fun K hK => ?_)
  have hx := S1.out; have a0 : w1.cell? ⟨bk, ok + (q + 1) * 3, none⟩ = _ := hx.a 0 _ rfl; have a1 := hx.a 1 _ rfl; have a2 := hx.a 2 _ rfl; have d0 : w1.cell? ⟨bk, ok + q * 3, none⟩ = _ := hx.d 0 _ rfl; have d1 := hx.d 1 _ rfl; have d2 := hx.d 2 _ rfl; clear hx
  go_simp
  refine hK.out _ _ S1.out ?_
  clear hK K
  refine Hr.Walk.one (i := 62) (by kernel_rfl) rfl (fun K hK => ?_)
  have hx := S1.out; have a0 : w1.cell? ⟨bk, ok + (q + 1) * 3, none⟩ = _ := hx.a 0 _ rfl; have a1 := hx.a 1 _ rfl; have a2 := hx.a 2 _ rfl; have d0 : w1.cell? ⟨bk, ok + q * 3, none⟩ = _ := hx.d 0 _ rfl; have d1 := hx.d 1 _ rfl; have d2 := hx.d 2 _ rfl; clear hx
  go_simp
  refine hK.out _ _ S1.out ?_
  clear hK K
  refine Hr.Walk.one (i := 63) (by kernel_rfl) rfl (fun K hK => ?_)
  have hx := S1.out; have a0 : w1.cell? ⟨bk, ok + (q + 1) * 3, none⟩ = _ := hx.a 0 _ rfl; have a1 := hx.a 1 _ rfl; have a2 := hx.a 2 _ rfl; have d0 : w1.cell? ⟨bk, ok + q * 3, none⟩ = _ := hx.d 0 _ rfl; have d1 := hx.d 1 _ rfl; have d2 := hx.d 2 _ rfl; clear hx
  go_simp
  refine hK.out _ _ S1.out ?_
  clear hK K
  refine Hr.Walk.one (i := 64) (by kernel_rfl) rfl (fun K hK => ?_)
  have hx := S1.out; have a0 : w1.cell? ⟨bk, ok + (q + 1) * 3, none⟩ = _ := hx.a 0 _ rfl; have a1 := hx.a 1 _ rfl; have a2 := hx.a 2 _ rfl; have d0 : w1.cell? ⟨bk, ok + q * 3, none⟩ = _ := hx.d 0 _ rfl; have d1 := hx.d 1 _ rfl; have d2 := hx.d 2 _ rfl; clear hx
  go_simp
  refine hK.out _ _ S1.out ?_
  clear hK K
  refine Hr.Walk.one (i := 65) (by kernel_rfl) rfl (fun K hK => ?_)
  have hx := S1.out; have a0 : w1.cell? ⟨bk, ok + (q + 1) * 3, none⟩ = _ := hx.a 0 _ rfl; have a1 := hx.a 1 _ rfl; have a2 := hx.a 2 _ rfl; have d0 : w1.cell? ⟨bk, ok + q * 3, none⟩ = _ := hx.d 0 _ rfl; have d1 := hx.d 1 _ rfl; have d2 := hx.d 2 _ rfl; clear hx
  go_simp
  refine hK.out _ _ S1.out ?_
  clear hK K
  refine Hr.Walk.one (i := 66) (by kernel_rfl) rfl (fun K hK => ?_)
  have hx := S1.out; have a0 : w1.cell? ⟨bk, ok + (q + 1) * 3, none⟩ = _ := hx.a 0 _ rfl; have a1 := hx.a 1 _ rfl; have a2 := hx.a 2 _ rfl; have d0 : w1.cell? ⟨bk, ok + q * 3, none⟩ = _ := hx.d 0 _ rfl; have d1 := hx.d 1 _ rfl; have d2 := hx.d 2 _ rfl; clear hx
  go_simp
  refine hK.out _ _ S1.out ?_
  clear hK K
  refine Hr.Walk.one (i := 67) (by kernel_rfl) rfl (fun K hK => ?_)
  have hx := S1.out; have a0 : w1.cell? ⟨bk, ok + (q + 1) * 3, none⟩ = _ := hx.a 0 _ rfl; have a1 := hx.a 1 _ rfl; have a2 := hx.a 2 _ rfl; have d0 : w1.cell? ⟨bk, ok + q * 3, none⟩ = _ := hx.d 0 _ rfl; have d1 := hx.d 1 _ rfl; have d2 := hx.d 2 _ rfl; clear hx
  go_simp
  refine hK.out _ _ S1.out ?_
  clear hK K
  refine Hr.Walk.one (i := 68) (by kernel_rfl) rfl (fun K hK => ?_)
  have hx := S1.out; have a0 : w1.cell? ⟨bk, ok + (q + 1) * 3, none⟩ = _ := hx.a 0 _ rfl; have a1 := hx.a 1 _ rfl; have a2 := hx.a 2 _ rfl; have d0 : w1.cell? ⟨bk, ok + q * 3, none⟩ = _ := hx.d 0 _ rfl; have d1 := hx.d 1 _ rfl; have d2 := hx.d 2 _ rfl; clear hx
  go_simp
  refine hK.out _ _ S1.out ?_
  clear hK K
  refine Hr.Walk.one (i := 69) (by kernel_rfl) rfl (fun K hK => ?_)
  have hx := S1.out; have a0 : w1.cell? ⟨bk, ok + (q + 1) * 3, none⟩ = _ := hx.a 0 _ rfl; have a1 := hx.a 1 _ rfl; have a2 := hx.a 2 _ rfl; have d0 : w1.cell? ⟨bk, ok + q * 3, none⟩ = _ := hx.d 0 _ rfl; have d1 := hx.d 1 _ rfl; have d2 := hx.d 2 _ rfl; clear hx
  go_simp
  refine hK.out _ _ S1.out ?_
  clear hK K
  refine Hr.Walk.one (i := 70) (by kernel_rfl) rfl (fun K hK => ?_)
  have hx := S1.out; have a0 : w1.cell? ⟨bk, ok + (q + 1) * 3, none⟩ = _ := hx.a 0 _ rfl; have a1 := hx.a 1 _ rfl; have a2 := hx.a 2 _ rfl; have d0 : w1.cell? ⟨bk, ok + q * 3, none⟩ = _ := hx.d 0 _ rfl; have d1 := hx.d 1 _ rfl; have d2 := hx.d 2 _ rfl; clear hx
  go_simp
  refine hK.out _ _ S1.out ?_
  clear hK K
  refine Hr.Walk.one (i := 71) (by kernel_rfl) rfl (fun K hK => ?_)
  have hx := S1.out; have a0 : w1.cell? ⟨bk, ok + (q + 1) * 3, none⟩ = _ := hx.a 0 _ rfl; have a1 := hx.a 1 _ rfl; have a2 := hx.a 2 _ rfl; have d0 : w1.cell? ⟨bk, ok + q * 3, none⟩ = _ := hx.d 0 _ rfl; have d1 := hx.d 1 _ rfl; have d2 := hx.d 2 _ rfl; clear hx
  go_simp
  refine hK.out _ _ S1.out ?_
  clear hK K
  refine Hr.Walk.done (by kernel_rfl) ?_ _
  have S1g := Lib.hid S1.out.g
  exact hQ _ _ _ _ _ _ _ _ _ _ _ _ _ _ _ _ _ _ _ _ _ _ _ _ _ _ _ _ _ _ _ _ _ _ _ _ _ _ _ _ _ _ _ _ _ _ _ _ _ _ _ _ _ _ _ _ _ _ _ _ _ _ _ _ _ _ _ _ _ _ _ _ S1g

set_option maxHeartbeats 25600000 in
set_option maxRecDepth 100000 in
theorem rr9d (Q : Exit → Act → World → Prop) (A0 : Option Addr) (N cV bk ok KN cK q ri : Nat) (y p2 p3 : Int) (wo : World) (S0 : Hid (KpS wo bk (ok + (q + 1) * 3) (ok + q * 3) [.int .i64 ri, .int .i64 y, .int .i64 p3] [.int .i64 ri, .int .i64 p2, .int .i64 p3] wo)) (g0 : (0 : Int) < ((q + 1 : Nat) : Int)) (hlt : q + 1 < KN) (kb : KN ≤ 2000000) (h5 : ¬ y ≤ p2) (z1 z2 z3 z4 z5 z6 z8 z10 z11 z12 z13 z14 z15 z16 z17 z18 z19 z20 z21 z22 z23 z24 z25 z26 z27 z28 z29 z30 z31 z32 z33 z34 z35 z36 z37 z38 z39 z40 z41 z42 z43 z44 z45 z46 z47 z48 z49 z50 z51 z52 z53 z54 z55 z56 z57 z58 z59 z60 z61 z62 z63 z64 z65 z66 z67 z68 z69 z70 z71 z72 z73 z74 z75 z76 z77 z78 z79 z80 z81 z82 z83 z84 z85 z86 z87 z88 z89 z90 z91 z92 z93 z94 z95 z96 z97 z98 z99 z100 z101 z102 z103 z104 z105 z106 z107 z108 z109 z110 z111 z112 z113 z114 z115 z116 z117 z118 z119 z120 z121 z122 z123 z124 z125 z126 z127 z128 z129 z130 z131 z132 z133 z134 z135 z136 z137 z138 z139 z140 z141 z142 z143 z144 z145 z146 z147 z148 z149 z150 z151 z152 z153 z154 z155 z156 z157 z158 z159 z160 z161 z162 z163 z164 z165 z166 z167 z168 z169 z170 z171 z172 z173 z174 z175 z176 z177 z178 z179 z180 z181 z182 z183 z184 z185 z186 z187 z188 z189 z190 z191 z192 z193 z194 z195 z196 z197 z198 z199 z200 z201 z202 z203 z204 z205 z206 z207 z208 z209 z210 z211 z212 z213 z214 z215 z216 z217 z218 z219 z220 z221 z222 z223 z224 z225 z226 z227 z228 z229 z230 z231 z232 z233 z234 z235 z236 z237 z238 z239 z240 z241 z242 z243 z244 z245 z246 z247 z248 z249 z250 z251 z252 z253 z254 z255 z256 z257 z258 z259 z260 z261 : Value) (HPQ : ∀ c (a : Act) d (v : Value) (wz : World), Q (.panic c) (a.put d v) wz → Q (.panic c) a wz) (hQ : ∀ (y53 y54 y55 y56 y57 y58 y59 y60 y61 y62 y63 y64 y65 y66 y67 y68 y69 y70 y71 y72 y73 y74 y75 y76 y77 y78 y79 y80 y81 y82 y83 y84 y85 y86 y87 y88 y89 y90 y91 y92 y93 y94 y95 y96 y97 y98 y99 y100 y101 y102 y103 y104 y105 y106 y107 y108 y109 y110 y111 y112 y113 y114 y115 y116 y117 y118 y119 y120 y121 y122 y123 : Value) (wz : World), Hid (Below wo.heap.size wo wz) → Q .normal ⟨List.toArray (.slice A0 N cV :: z1 :: z2 :: z3 :: z4 :: z5 :: z6 :: .slice (some ⟨bk, ok, none⟩) KN cK :: z8 :: .int .i64 ((q + 1 : Nat) : Int) :: z10 :: z11 :: z12 :: z13 :: z14 :: z15 :: z16 :: z17 :: z18 :: z19 :: z20 :: z21 :: z22 :: z23 :: z24 :: z25 :: z26 :: z27 :: z28 :: z29 :: z30 :: z31 :: z32 :: z33 :: z34 :: z35 :: z36 :: z37 :: z38 :: z39 :: z40 :: z41 :: z42 :: z43 :: z44 :: z45 :: z46 :: z47 :: z48 :: z49 :: z50 :: z51 :: z52 :: y53 :: y54 :: y55 :: y56 :: y57 :: y58 :: y59 :: y60 :: y61 :: y62 :: y63 :: y64 :: y65 :: y66 :: y67 :: y68 :: y69 :: y70 :: y71 :: y72 :: y73 :: y74 :: y75 :: y76 :: y77 :: y78 :: y79 :: y80 :: y81 :: y82 :: y83 :: y84 :: y85 :: y86 :: y87 :: y88 :: y89 :: y90 :: y91 :: y92 :: y93 :: y94 :: y95 :: y96 :: y97 :: y98 :: y99 :: y100 :: y101 :: y102 :: y103 :: y104 :: y105 :: y106 :: y107 :: y108 :: y109 :: y110 :: y111 :: y112 :: y113 :: y114 :: y115 :: y116 :: y117 :: y118 :: y119 :: y120 :: y121 :: y122 :: y123 :: .bool false :: z125 :: z126 :: z127 :: z128 :: z129 :: z130 :: z131 :: z132 :: z133 :: z134 :: z135 :: z136 :: z137 :: z138 :: z139 :: z140 :: z141 :: z142 :: z143 :: z144 :: z145 :: z146 :: z147 :: z148 :: z149 :: z150 :: z151 :: z152 :: z153 :: z154 :: z155 :: z156 :: z157 :: z158 :: z159 :: z160 :: z161 :: z162 :: z163 :: z164 :: z165 :: z166 :: z167 :: z168 :: z169 :: z170 :: z171 :: z172 :: z173 :: z174 :: z175 :: z176 :: z177 :: z178 :: z179 :: z180 :: z181 :: z182 :: z183 :: z184 :: z185 :: z186 :: z187 :: z188 :: z189 :: z190 :: z191 :: z192 :: z193 :: z194 :: z195 :: z196 :: z197 :: z198 :: z199 :: z200 :: z201 :: z202 :: z203 :: z204 :: z205 :: z206 :: z207 :: z208 :: z209 :: z210 :: z211 :: z212 :: z213 :: z214 :: z215 :: z216 :: z217 :: z218 :: z219 :: z220 :: z221 :: z222 :: z223 :: z224 :: z225 :: z226 :: z227 :: z228 :: z229 :: z230 :: z231 :: z232 :: z233 :: z234 :: z235 :: z236 :: z237 :: z238 :: z239 :: z240 :: z241 :: z242 :: z243 :: z244 :: z245 :: z246 :: z247 :: z248 :: z249 :: z250 :: z251 :: z252 :: z253 :: z254 :: z255 :: z256 :: z257 :: z258 :: z259 :: z260 :: z261 :: []), []⟩ wz) : Code.wp Tryd.prog rg9C Q ⟨List.toArray (.slice A0 N cV :: z1 :: z2 :: z3 :: z4 :: z5 :: z6 :: .slice (some ⟨bk, ok, none⟩) KN cK :: z8 :: .int .i64 ((q + 1 : Nat) : Int) :: z10 :: z11 :: z12 :: z13 :: z14 :: z15 :: z16 :: z17 :: z18 :: z19 :: z20 :: z21 :: z22 :: z23 :: z24 :: z25 :: z26 :: z27 :: z28 :: z29 :: z30 :: z31 :: z32 :: z33 :: z34 :: z35 :: z36 :: z37 :: z38 :: z39 :: z40 :: z41 :: z42 :: z43 :: z44 :: z45 :: z46 :: z47 :: z48 :: z49 :: z50 :: z51 :: z52 :: z53 :: z54 :: z55 :: z56 :: z57 :: z58 :: z59 :: z60 :: z61 :: z62 :: z63 :: z64 :: z65 :: z66 :: z67 :: z68 :: z69 :: z70 :: z71 :: z72 :: z73 :: z74 :: z75 :: z76 :: z77 :: z78 :: z79 :: z80 :: z81 :: z82 :: z83 :: z84 :: z85 :: z86 :: z87 :: z88 :: z89 :: z90 :: z91 :: z92 :: z93 :: z94 :: z95 :: z96 :: z97 :: z98 :: z99 :: z100 :: z101 :: z102 :: z103 :: z104 :: z105 :: z106 :: z107 :: z108 :: z109 :: z110 :: z111 :: z112 :: z113 :: z114 :: z115 :: z116 :: z117 :: z118 :: z119 :: z120 :: z121 :: z122 :: z123 :: z124 :: z125 :: z126 :: z127 :: z128 :: z129 :: z130 :: z131 :: z132 :: z133 :: z134 :: z135 :: z136 :: z137 :: z138 :: z139 :: z140 :: z141 :: z142 :: z143 :: z144 :: z145 :: z146 :: z147 :: z148 :: z149 :: z150 :: z151 :: z152 :: z153 :: z154 :: z155 :: z156 :: z157 :: z158 :: z159 :: z160 :: z161 :: z162 :: z163 :: z164 :: z165 :: z166 :: z167 :: z168 :: z169 :: z170 :: z171 :: z172 :: z173 :: z174 :: z175 :: z176 :: z177 :: z178 :: z179 :: z180 :: z181 :: z182 :: z183 :: z184 :: z185 :: z186 :: z187 :: z188 :: z189 :: z190 :: z191 :: z192 :: z193 :: z194 :: z195 :: z196 :: z197 :: z198 :: z199 :: z200 :: z201 :: z202 :: z203 :: z204 :: z205 :: z206 :: z207 :: z208 :: z209 :: z210 :: z211 :: z212 :: z213 :: z214 :: z215 :: z216 :: z217 :: z218 :: z219 :: z220 :: z221 :: z222 :: z223 :: z224 :: z225 :: z226 :: z227 :: z228 :: z229 :: z230 :: z231 :: z232 :: z233 :: z234 :: z235 :: z236 :: z237 :: z238 :: z239 :: z240 :: z241 :: z242 :: z243 :: z244 :: z245 :: z246 :: z247 :: z248 :: z249 :: z250 :: z251 :: z252 :: z253 :: z254 :: z255 :: z256 :: z257 :: z258 :: z259 :: z260 :: z261 :: []), []⟩ wo := by
  conv => arg 2; whnf
  have w1x : IntKind.i64.wrap (((q + 1 : Nat) : Int) - 1) = (q : Int) := by rw [IntKind.wrap_i64]; omega
  have w2x : IntKind.i64.wrap (q : Int) = (q : Int) := by rw [IntKind.wrap_i64]; omega
  have hx1 : (q : Int) + 1 < (KN : Int) := by omega
  have hx0 : (0 : Int) ≤ (q : Int) + 1 := by omega
  have hx2 : (q : Int) < (KN : Int) := by omega
  have h1 : ¬ p3 < p3 := by omega
  have h6 : ¬ (ri : Int) < (ri : Int) := by omega
  refine Hr.Walk.region (R := fun _ x => KpS wo bk (ok + (q + 1) * 3) (ok + q * 3) [.int .i64 ri, .int .i64 y, .int .i64 p3] [.int .i64 ri, .int .i64 p2, .int .i64 p3] x) (by kernel_rfl) ?_
  obtain ⟨w1, hw1⟩ : ∃ z, wo.drew = z := ⟨_, rfl⟩
  have S1 : Hid (KpS wo bk (ok + (q + 1) * 3) (ok + q * 3) [.int .i64 ri, .int .i64 y, .int .i64 p3] [.int .i64 ri, .int .i64 p2, .int .i64 p3] w1) := Lib.hid (by rw [← hw1]; exact ⟨S0.out.a, S0.out.d, below_drewN S0.out.g 1⟩)
  rw [hw1]
  clear hw1
  refine Hr.Walk.one (i := 0) (by kernel_rfl) rfl (fun K hK => ?_)
  have hx := S1.out; have a0 : w1.cell? ⟨bk, ok + (q + 1) * 3, none⟩ = _ := hx.a 0 _ rfl; have a1 := hx.a 1 _ rfl; have a2 := hx.a 2 _ rfl; have d0 : w1.cell? ⟨bk, ok + q * 3, none⟩ = _ := hx.d 0 _ rfl; have d1 := hx.d 1 _ rfl; have d2 := hx.d 2 _ rfl; clear hx
  go_simp
  refine hK.out _ _ S1.out ?_
  clear hK K
  refine Hr.Walk.one (i := 1) (by kernel_rfl) rfl (fun K hK => ?_)
  have hx := S1.out; have a0 : w1.cell? ⟨bk, ok + (q + 1) * 3, none⟩ = _ := hx.a 0 _ rfl; have a1 := hx.a 1 _ rfl; have a2 := hx.a 2 _ rfl; have d0 : w1.cell? ⟨bk, ok + q * 3, none⟩ = _ := hx.d 0 _ rfl; have d1 := hx.d 1 _ rfl; have d2 := hx.d 2 _ rfl; clear hx
  go_simp
  refine hK.out _ _ S1.out ?_
  clear hK K
  refine Hr.Walk.one (i := 2) (by kernel_rfl) rfl (fun K hK => ?_)
  have hx := S1.out; have a0 : w1.cell? ⟨bk, ok + (q + 1) * 3, none⟩ = _ := hx.a 0 _ rfl; have a1 := hx.a 1 _ rfl; have a2 := hx.a 2 _ rfl; have d0 : w1.cell? ⟨bk, ok + q * 3, none⟩ = _ := hx.d 0 _ rfl; have d1 := hx.d 1 _ rfl; have d2 := hx.d 2 _ rfl; clear hx
  go_simp
  refine hK.out _ _ S1.out ?_
  clear hK K
  refine Hr.Walk.take (i := 3) (v := ?vnd3) (fun x => KpS wo bk (ok + (q + 1) * 3) (ok + q * 3) [.int .i64 ri, .int .i64 y, .int .i64 p3] [.int .i64 ri, .int .i64 p2, .int .i64 p3] x) (fun _ => True) rfl (by kernel_rfl) (by kernel_rfl) (by kernel_rfl) (fun _ _ _ h => HPQ _ _ _ _ _ h) (fun _ _ _ _ _ _ => trivial) (fun _ _ _ h => h) (fun _ _ h => h) trivial (Or.inl ⟨by rfl, ?hynd3⟩) S1.out S1.out ?restnd3
  case hynd3 => intro x hx; have a0 : x.cell? ⟨bk, ok + (q + 1) * 3, none⟩ = _ := hx.a 0 _ rfl; have a1 := hx.a 1 _ rfl; have a2 := hx.a 2 _ rfl; have d0 : x.cell? ⟨bk, ok + q * 3, none⟩ = _ := hx.d 0 _ rfl; have d1 := hx.d 1 _ rfl; have d2 := hx.d 2 _ rfl; clear hx; go_simp; try with_reducible rfl
  (try go_simp)
  refine Hr.Walk.take (i := 4) (v := ?vnd4) (fun x => KpS wo bk (ok + (q + 1) * 3) (ok + q * 3) [.int .i64 ri, .int .i64 y, .int .i64 p3] [.int .i64 ri, .int .i64 p2, .int .i64 p3] x) (fun _ => True) rfl (by kernel_rfl) (by kernel_rfl) (by kernel_rfl) (fun _ _ _ h => HPQ _ _ _ _ _ h) (fun _ _ _ _ _ _ => trivial) (fun _ _ _ h => h) (fun _ _ h => h) trivial (Or.inl ⟨by rfl, ?hynd4⟩) S1.out S1.out ?restnd4
  case hynd4 => intro x hx; have a0 : x.cell? ⟨bk, ok + (q + 1) * 3, none⟩ = _ := hx.a 0 _ rfl; have a1 := hx.a 1 _ rfl; have a2 := hx.a 2 _ rfl; have d0 : x.cell? ⟨bk, ok + q * 3, none⟩ = _ := hx.d 0 _ rfl; have d1 := hx.d 1 _ rfl; have d2 := hx.d 2 _ rfl; clear hx; go_simp; try with_reducible rfl
  (try go_simp)
  refine Hr.Walk.take (i := 5) (v := ?vnd5) (fun x => KpS wo bk (ok + (q + 1) * 3) (ok + q * 3) [.int .i64 ri, .int .i64 y, .int .i64 p3] [.int .i64 ri, .int .i64 p2, .int .i64 p3] x) (fun _ => True) rfl (by kernel_rfl) (by kernel_rfl) (by kernel_rfl) (fun _ _ _ h => HPQ _ _ _ _ _ h) (fun _ _ _ _ _ _ => trivial) (fun _ _ _ h => h) (fun _ _ h => h) trivial (Or.inl ⟨by rfl, ?hynd5⟩) S1.out S1.out ?restnd5
  case hynd5 => intro x hx; have a0 : x.cell? ⟨bk, ok + (q + 1) * 3, none⟩ = _ := hx.a 0 _ rfl; have a1 := hx.a 1 _ rfl; have a2 := hx.a 2 _ rfl; have d0 : x.cell? ⟨bk, ok + q * 3, none⟩ = _ := hx.d 0 _ rfl; have d1 := hx.d 1 _ rfl; have d2 := hx.d 2 _ rfl; clear hx; go_simp; try with_reducible rfl
  (try go_simp)
  refine Hr.Walk.take (i := 6) (v := ?vnd6) (fun x => KpS wo bk (ok + (q + 1) * 3) (ok + q * 3) [.int .i64 ri, .int .i64 y, .int .i64 p3] [.int .i64 ri, .int .i64 p2, .int .i64 p3] x) (fun _ => True) rfl (by kernel_rfl) (by kernel_rfl) (by kernel_rfl) (fun _ _ _ h => HPQ _ _ _ _ _ h) (fun _ _ _ _ _ _ => trivial) (fun _ _ _ h => h) (fun _ _ h => h) trivial (Or.inl ⟨by rfl, ?hynd6⟩) S1.out S1.out ?restnd6
  case hynd6 => intro x hx; have a0 : x.cell? ⟨bk, ok + (q + 1) * 3, none⟩ = _ := hx.a 0 _ rfl; have a1 := hx.a 1 _ rfl; have a2 := hx.a 2 _ rfl; have d0 : x.cell? ⟨bk, ok + q * 3, none⟩ = _ := hx.d 0 _ rfl; have d1 := hx.d 1 _ rfl; have d2 := hx.d 2 _ rfl; clear hx; go_simp; try with_reducible rfl
  (try go_simp)
  refine Hr.Walk.take (i := 7) (v := ?vnd7) (fun x => KpS wo bk (ok + (q + 1) * 3) (ok + q * 3) [.int .i64 ri, .int .i64 y, .int .i64 p3] [.int .i64 ri, .int .i64 p2, .int .i64 p3] x) (fun _ => True) rfl (by kernel_rfl) (by kernel_rfl) (by kernel_rfl) (fun _ _ _ h => HPQ _ _ _ _ _ h) (fun _ _ _ _ _ _ => trivial) (fun _ _ _ h => h) (fun _ _ h => h) trivial (Or.inl ⟨by rfl, ?hynd7⟩) S1.out S1.out ?restnd7
  case hynd7 => intro x hx; have a0 : x.cell? ⟨bk, ok + (q + 1) * 3, none⟩ = _ := hx.a 0 _ rfl; have a1 := hx.a 1 _ rfl; have a2 := hx.a 2 _ rfl; have d0 : x.cell? ⟨bk, ok + q * 3, none⟩ = _ := hx.d 0 _ rfl; have d1 := hx.d 1 _ rfl; have d2 := hx.d 2 _ rfl; clear hx; go_simp; try with_reducible rfl
  (try go_simp)
  refine Hr.Walk.take (i := 8) (v := ?vnd8) (fun x => KpS wo bk (ok + (q + 1) * 3) (ok + q * 3) [.int .i64 ri, .int .i64 y, .int .i64 p3] [.int .i64 ri, .int .i64 p2, .int .i64 p3] x) (fun _ => True) rfl (by kernel_rfl) (by kernel_rfl) (by kernel_rfl) (fun _ _ _ h => HPQ _ _ _ _ _ h) (fun _ _ _ _ _ _ => trivial) (fun _ _ _ h => h) (fun _ _ h => h) trivial (Or.inl ⟨by rfl, ?hynd8⟩) S1.out S1.out ?restnd8
  case hynd8 => intro x hx; have a0 : x.cell? ⟨bk, ok + (q + 1) * 3, none⟩ = _ := hx.a 0 _ rfl; have a1 := hx.a 1 _ rfl; have a2 := hx.a 2 _ rfl; have d0 : x.cell? ⟨bk, ok + q * 3, none⟩ = _ := hx.d 0 _ rfl; have d1 := hx.d 1 _ rfl; have d2 := hx.d 2 _ rfl; clear hx; go_simp; try with_reducible rfl
  (try go_simp)
  refine Hr.Walk.one (i := 9) (by kernel_rfl) rfl (fun K hK => ?_)
  have hx := S1.out; have a0 : w1.cell? ⟨bk, ok + (q + 1) * 3, none⟩ = _ := hx.a 0 _ rfl; have a1 := hx.a 1 _ rfl; have a2 := hx.a 2 _ rfl; have d0 : w1.cell? ⟨bk, ok + q * 3, none⟩ = _ := hx.d 0 _ rfl; have d1 := hx.d 1 _ rfl; have d2 := hx.d 2 _ rfl; clear hx
  go_simp
  refine hK.out _ _ S1.out ?_
  clear hK K
  refine Hr.Walk.one (i := 10) (by kernel_rfl) rfl (fun K hK => ?_)
  have hx := S1.out; have a0 : w1.cell? ⟨bk, ok + (q + 1) * 3, none⟩ = _ := hx.a 0 _ rfl; have a1 := hx.a 1 _ rfl; have a2 := hx.a 2 _ rfl; have d0 : w1.cell? ⟨bk, ok + q * 3, none⟩ = _ := hx.d 0 _ rfl; have d1 := hx.d 1 _ rfl; have d2 := hx.d 2 _ rfl; clear hx
  go_simp
  refine hK.out _ _ S1.out ?_
  clear hK K
  refine Hr.Walk.one (i := 11) (by kernel_rfl) rfl (fun K hK => ?_)
  have hx := S1.out; have a0 : w1.cell? ⟨bk, ok + (q + 1) * 3, none⟩ = _ := hx.a 0 _ rfl; have a1 := hx.a 1 _ rfl; have a2 := hx.a 2 _ rfl; have d0 : w1.cell? ⟨bk, ok + q * 3, none⟩ = _ := hx.d 0 _ rfl; have d1 := hx.d 1 _ rfl; have d2 := hx.d 2 _ rfl; clear hx
  go_simp
  refine hK.out _ _ S1.out ?_
  clear hK K
  refine Hr.Walk.one (i := 12) (by kernel_rfl) rfl (fun K hK => ?_)
  have hx := S1.out; have a0 : w1.cell? ⟨bk, ok + (q + 1) * 3, none⟩ = _ := hx.a 0 _ rfl; have a1 := hx.a 1 _ rfl; have a2 := hx.a 2 _ rfl; have d0 : w1.cell? ⟨bk, ok + q * 3, none⟩ = _ := hx.d 0 _ rfl; have d1 := hx.d 1 _ rfl; have d2 := hx.d 2 _ rfl; clear hx
  go_simp
  refine hK.out _ _ S1.out ?_
  clear hK K
  refine Hr.Walk.one (i := 13) (by kernel_rfl) rfl (fun K hK => ?_)
  have hx := S1.out; have a0 : w1.cell? ⟨bk, ok + (q + 1) * 3, none⟩ = _ := hx.a 0 _ rfl; have a1 := hx.a 1 _ rfl; have a2 := hx.a 2 _ rfl; have d0 : w1.cell? ⟨bk, ok + q * 3, none⟩ = _ := hx.d 0 _ rfl; have d1 := hx.d 1 _ rfl; have d2 := hx.d 2 _ rfl; clear hx
  go_simp
  refine hK.out _ _ S1.out ?_
  clear hK K
  refine Hr.Walk.one (i := 14) (by kernel_rfl) rfl (fun K hK => ?_)
  have hx := S1.out; have a0 : w1.cell? ⟨bk, ok + (q + 1) * 3, none⟩ = _ := hx.a 0 _ rfl; have a1 := hx.a 1 _ rfl; have a2 := hx.a 2 _ rfl; have d0 : w1.cell? ⟨bk, ok + q * 3, none⟩ = _ := hx.d 0 _ rfl; have d1 := hx.d 1 _ rfl; have d2 := hx.d 2 _ rfl; clear hx
  go_simp
  refine hK.out _ _ S1.out ?_
  clear hK K
  refine Hr.Walk.one (i := 15) (by kernel_rfl) rfl (fun K hK => ?_)
  have hx := S1.out; have a0 : w1.cell? ⟨bk, ok + (q + 1) * 3, none⟩ = _ := hx.a 0 _ rfl; have a1 := hx.a 1 _ rfl; have a2 := hx.a 2 _ rfl; have d0 : w1.cell? ⟨bk, ok + q * 3, none⟩ = _ := hx.d 0 _ rfl; have d1 := hx.d 1 _ rfl; have d2 := hx.d 2 _ rfl; clear hx
  go_simp
  refine hK.out _ _ S1.out ?_
  clear hK K
  refine Hr.Walk.take (i := 16) (v := ?vnd16) (fun x => KpS wo bk (ok + (q + 1) * 3) (ok + q * 3) [.int .i64 ri, .int .i64 y, .int .i64 p3] [.int .i64 ri, .int .i64 p2, .int .i64 p3] x) (fun _ => True) rfl (by kernel_rfl) (by kernel_rfl) (by kernel_rfl) (fun _ _ _ h => HPQ _ _ _ _ _ h) (fun _ _ _ _ _ _ => trivial) (fun _ _ _ h => h) (fun _ _ h => h) trivial (Or.inl ⟨by rfl, ?hynd16⟩) S1.out S1.out ?restnd16
  case hynd16 => intro x hx; have a0 : x.cell? ⟨bk, ok + (q + 1) * 3, none⟩ = _ := hx.a 0 _ rfl; have a1 := hx.a 1 _ rfl; have a2 := hx.a 2 _ rfl; have d0 : x.cell? ⟨bk, ok + q * 3, none⟩ = _ := hx.d 0 _ rfl; have d1 := hx.d 1 _ rfl; have d2 := hx.d 2 _ rfl; clear hx; go_simp; try with_reducible rfl
  (try go_simp)
  refine Hr.Walk.take (i := 17) (v := ?vnd17) (fun x => KpS wo bk (ok + (q + 1) * 3) (ok + q * 3) [.int .i64 ri, .int .i64 y, .int .i64 p3] [.int .i64 ri, .int .i64 p2, .int .i64 p3] x) (fun _ => True) rfl (by kernel_rfl) (by kernel_rfl) (by kernel_rfl) (fun _ _ _ h => HPQ _ _ _ _ _ h) (fun _ _ _ _ _ _ => trivial) (fun _ _ _ h => h) (fun _ _ h => h) trivial (Or.inl ⟨by rfl, ?hynd17⟩) S1.out S1.out ?restnd17
  case hynd17 => intro x hx; have a0 : x.cell? ⟨bk, ok + (q + 1) * 3, none⟩ = _ := hx.a 0 _ rfl; have a1 := hx.a 1 _ rfl; have a2 := hx.a 2 _ rfl; have d0 : x.cell? ⟨bk, ok + q * 3, none⟩ = _ := hx.d 0 _ rfl; have d1 := hx.d 1 _ rfl; have d2 := hx.d 2 _ rfl; clear hx; go_simp; try with_reducible rfl
  (try go_simp)
  refine Hr.Walk.take (i := 18) (v := ?vnd18) (fun x => KpS wo bk (ok + (q + 1) * 3) (ok + q * 3) [.int .i64 ri, .int .i64 y, .int .i64 p3] [.int .i64 ri, .int .i64 p2, .int .i64 p3] x) (fun _ => True) rfl (by kernel_rfl) (by kernel_rfl) (by kernel_rfl) (fun _ _ _ h => HPQ _ _ _ _ _ h) (fun _ _ _ _ _ _ => trivial) (fun _ _ _ h => h) (fun _ _ h => h) trivial (Or.inl ⟨by rfl, ?hynd18⟩) S1.out S1.out ?restnd18
  case hynd18 => intro x hx; have a0 : x.cell? ⟨bk, ok + (q + 1) * 3, none⟩ = _ := hx.a 0 _ rfl; have a1 := hx.a 1 _ rfl; have a2 := hx.a 2 _ rfl; have d0 : x.cell? ⟨bk, ok + q * 3, none⟩ = _ := hx.d 0 _ rfl; have d1 := hx.d 1 _ rfl; have d2 := hx.d 2 _ rfl; clear hx; go_simp; try with_reducible rfl
  (try go_simp)
  refine Hr.Walk.take (i := 19) (v := ?vnd19) (fun x => KpS wo bk (ok + (q + 1) * 3) (ok + q * 3) [.int .i64 ri, .int .i64 y, .int .i64 p3] [.int .i64 ri, .int .i64 p2, .int .i64 p3] x) (fun _ => True) rfl (by kernel_rfl) (by kernel_rfl) (by kernel_rfl) (fun _ _ _ h => HPQ _ _ _ _ _ h) (fun _ _ _ _ _ _ => trivial) (fun _ _ _ h => h) (fun _ _ h => h) trivial (Or.inl ⟨by rfl, ?hynd19⟩) S1.out S1.out ?restnd19
  case hynd19 => intro x hx; have a0 : x.cell? ⟨bk, ok + (q + 1) * 3, none⟩ = _ := hx.a 0 _ rfl; have a1 := hx.a 1 _ rfl; have a2 := hx.a 2 _ rfl; have d0 : x.cell? ⟨bk, ok + q * 3, none⟩ = _ := hx.d 0 _ rfl; have d1 := hx.d 1 _ rfl; have d2 := hx.d 2 _ rfl; clear hx; go_simp; try with_reducible rfl
  (try go_simp)
  refine Hr.Walk.take (i := 20) (v := ?vnd20) (fun x => KpS wo bk (ok + (q + 1) * 3) (ok + q * 3) [.int .i64 ri, .int .i64 y, .int .i64 p3] [.int .i64 ri, .int .i64 p2, .int .i64 p3] x) (fun _ => True) rfl (by kernel_rfl) (by kernel_rfl) (by kernel_rfl) (fun _ _ _ h => HPQ _ _ _ _ _ h) (fun _ _ _ _ _ _ => trivial) (fun _ _ _ h => h) (fun _ _ h => h) trivial (Or.inl ⟨by rfl, ?hynd20⟩) S1.out S1.out ?restnd20
  case hynd20 => intro x hx; have a0 : x.cell? ⟨bk, ok + (q + 1) * 3, none⟩ = _ := hx.a 0 _ rfl; have a1 := hx.a 1 _ rfl; have a2 := hx.a 2 _ rfl; have d0 : x.cell? ⟨bk, ok + q * 3, none⟩ = _ := hx.d 0 _ rfl; have d1 := hx.d 1 _ rfl; have d2 := hx.d 2 _ rfl; clear hx; go_simp; try with_reducible rfl
  (try go_simp)
  refine Hr.Walk.take (i := 21) (v := ?vnd21) (fun x => KpS wo bk (ok + (q + 1) * 3) (ok + q * 3) [.int .i64 ri, .int .i64 y, .int .i64 p3] [.int .i64 ri, .int .i64 p2, .int .i64 p3] x) (fun _ => True) rfl (by kernel_rfl) (by kernel_rfl) (by kernel_rfl) (fun _ _ _ h => HPQ _ _ _ _ _ h) (fun _ _ _ _ _ _ => trivial) (fun _ _ _ h => h) (fun _ _ h => h) trivial (Or.inl ⟨by rfl, ?hynd21⟩) S1.out S1.out ?restnd21
  case hynd21 => intro x hx; have a0 : x.cell? ⟨bk, ok + (q + 1) * 3, none⟩ = _ := hx.a 0 _ rfl; have a1 := hx.a 1 _ rfl; have a2 := hx.a 2 _ rfl; have d0 : x.cell? ⟨bk, ok + q * 3, none⟩ = _ := hx.d 0 _ rfl; have d1 := hx.d 1 _ rfl; have d2 := hx.d 2 _ rfl; clear hx; go_simp; try with_reducible rfl
  (try go_simp)
  refine Hr.Walk.one (i := 22) (by kernel_rfl) rfl (fun K hK => ?_)
  have hx := S1.out; have a0 : w1.cell? ⟨bk, ok + (q + 1) * 3, none⟩ = _ := hx.a 0 _ rfl; have a1 := hx.a 1 _ rfl; have a2 := hx.a 2 _ rfl; have d0 : w1.cell? ⟨bk, ok + q * 3, none⟩ = _ := hx.d 0 _ rfl; have d1 := hx.d 1 _ rfl; have d2 := hx.d 2 _ rfl; clear hx
  go_simp
  refine hK.out _ _ S1.out ?_
  clear hK K
  refine Hr.Walk.one (i := 23) (by kernel_rfl) rfl (fun K hK => ?_)
  have hx := S1.out; have a0 : w1.cell? ⟨bk, ok + (q + 1) * 3, none⟩ = _ := hx.a 0 _ rfl; have a1 := hx.a 1 _ rfl; have a2 := hx.a 2 _ rfl; have d0 : w1.cell? ⟨bk, ok + q * 3, none⟩ = _ := hx.d 0 _ rfl; have d1 := hx.d 1 _ rfl; have d2 := hx.d 2 _ rfl; clear hx
  go_simp
  refine hK.out _ _ S1.out ?_
  clear hK K
  refine Hr.Walk.one (i := 24) (by kernel_rfl) rfl (fun K hK => ?_)
  have hx := S1.out; have a0 : w1.cell? ⟨bk, ok + (q + 1) * 3, none⟩ = _ := hx.a 0 _ rfl; have a1 := hx.a 1 _ rfl; have a2 := hx.a 2 _ rfl; have d0 : w1.cell? ⟨bk, ok + q * 3, none⟩ = _ := hx.d 0 _ rfl; have d1 := hx.d 1 _ rfl; have d2 := hx.d 2 _ rfl; clear hx
  go_simp
  refine hK.out _ _ S1.out ?_
  clear hK K
  refine Hr.Walk.one (i := 25) (by kernel_rfl) rfl (fun K hK => ?_)
  have hx := S1.out; have a0 : w1.cell? ⟨bk, ok + (q + 1) * 3, none⟩ = _ := hx.a 0 _ rfl; have a1 := hx.a 1 _ rfl; have a2 := hx.a 2 _ rfl; have d0 : w1.cell? ⟨bk, ok + q * 3, none⟩ = _ := hx.d 0 _ rfl; have d1 := hx.d 1 _ rfl; have d2 := hx.d 2 _ rfl; clear hx
  go_simp
  refine hK.out _ _ S1.out ?_
  clear hK K
  refine Hr.Walk.one (i := 26) (by kernel_rfl) rfl (fun K hK => ?_)
  have hx := S1.out; have a0 : w1.cell? ⟨bk, ok + (q + 1) * 3, none⟩ = _ := hx.a 0 _ rfl; have a1 := hx.a 1 _ rfl; have a2 := hx.a 2 _ rfl; have d0 : w1.cell? ⟨bk, ok + q * 3, none⟩ = _ := hx.d 0 _ rfl; have d1 := hx.d 1 _ rfl; have d2 := hx.d 2 _ rfl; clear hx
  go_simp
  refine hK.out _ _ S1.out ?_
  clear hK K
  refine Hr.Walk.one (i := 27) (by kernel_rfl) rfl (fun K hK => ?_)
  have hx := S1.out; have a0 : w1.cell? ⟨bk, ok + (q + 1) * 3, none⟩ = _ := hx.a 0 _ rfl; have a1 := hx.a 1 _ rfl; have a2 := hx.a 2 _ rfl; have d0 : w1.cell? ⟨bk, ok + q * 3, none⟩ = _ := hx.d 0 _ rfl; have d1 := hx.d 1 _ rfl; have d2 := hx.d 2 _ rfl; clear hx
  go_simp
  refine hK.out _ _ S1.out ?_
  clear hK K
  refine Hr.Walk.one (i := 28) (by kernel_rfl) rfl (fun K hK => ?_)
  have hx := S1.out; have a0 : w1.cell? ⟨bk, ok + (q + 1) * 3, none⟩ = _ := hx.a 0 _ rfl; have a1 := hx.a 1 _ rfl; have a2 := hx.a 2 _ rfl; have d0 : w1.cell? ⟨bk, ok + q * 3, none⟩ = _ := hx.d 0 _ rfl; have d1 := hx.d 1 _ rfl; have d2 := hx.d 2 _ rfl; clear hx
  go_simp
  refine hK.out _ _ S1.out ?_
  clear hK K
  refine Hr.Walk.take (i := 29) (v := ?vnd29) (fun x => KpS wo bk (ok + (q + 1) * 3) (ok + q * 3) [.int .i64 ri, .int .i64 y, .int .i64 p3] [.int .i64 ri, .int .i64 p2, .int .i64 p3] x) (fun _ => True) rfl (by kernel_rfl) (by kernel_rfl) (by kernel_rfl) (fun _ _ _ h => HPQ _ _ _ _ _ h) (fun _ _ _ _ _ _ => trivial) (fun _ _ _ h => h) (fun _ _ h => h) trivial (Or.inl ⟨by rfl, ?hynd29⟩) S1.out S1.out ?restnd29
  case hynd29 => intro x hx; have a0 : x.cell? ⟨bk, ok + (q + 1) * 3, none⟩ = _ := hx.a 0 _ rfl; have a1 := hx.a 1 _ rfl; have a2 := hx.a 2 _ rfl; have d0 : x.cell? ⟨bk, ok + q * 3, none⟩ = _ := hx.d 0 _ rfl; have d1 := hx.d 1 _ rfl; have d2 := hx.d 2 _ rfl; clear hx; go_simp; try with_reducible rfl
  (try go_simp)
  refine Hr.Walk.take (i := 30) (v := ?vnd30) (fun x => KpS wo bk (ok + (q + 1) * 3) (ok + q * 3) [.int .i64 ri, .int .i64 y, .int .i64 p3] [.int .i64 ri, .int .i64 p2, .int .i64 p3] x) (fun _ => True) rfl (by kernel_rfl) (by kernel_rfl) (by kernel_rfl) (fun _ _ _ h => HPQ _ _ _ _ _ h) (fun _ _ _ _ _ _ => trivial) (fun _ _ _ h => h) (fun _ _ h => h) trivial (Or.inl ⟨by rfl, ?hynd30⟩) S1.out S1.out ?restnd30
  case hynd30 => intro x hx; have a0 : x.cell? ⟨bk, ok + (q + 1) * 3, none⟩ = _ := hx.a 0 _ rfl; have a1 := hx.a 1 _ rfl; have a2 := hx.a 2 _ rfl; have d0 : x.cell? ⟨bk, ok + q * 3, none⟩ = _ := hx.d 0 _ rfl; have d1 := hx.d 1 _ rfl; have d2 := hx.d 2 _ rfl; clear hx; go_simp; try with_reducible rfl
  (try go_simp)
  refine Hr.Walk.take (i := 31) (v := ?vnd31) (fun x => KpS wo bk (ok + (q + 1) * 3) (ok + q * 3) [.int .i64 ri, .int .i64 y, .int .i64 p3] [.int .i64 ri, .int .i64 p2, .int .i64 p3] x) (fun _ => True) rfl (by kernel_rfl) (by kernel_rfl) (by kernel_rfl) (fun _ _ _ h => HPQ _ _ _ _ _ h) (fun _ _ _ _ _ _ => trivial) (fun _ _ _ h => h) (fun _ _ h => h) trivial (Or.inl ⟨by rfl, ?hynd31⟩) S1.out S1.out ?restnd31
  case hynd31 => intro x hx; have a0 : x.cell? ⟨bk, ok + (q + 1) * 3, none⟩ = _ := hx.a 0 _ rfl; have a1 := hx.a 1 _ rfl; have a2 := hx.a 2 _ rfl; have d0 : x.cell? ⟨bk, ok + q * 3, none⟩ = _ := hx.d 0 _ rfl; have d1 := hx.d 1 _ rfl; have d2 := hx.d 2 _ rfl; clear hx; go_simp; try with_reducible rfl
  (try go_simp)
  refine Hr.Walk.take (i := 32) (v := ?vnd32) (fun x => KpS wo bk (ok + (q + 1) * 3) (ok + q * 3) [.int .i64 ri, .int .i64 y, .int .i64 p3] [.int .i64 ri, .int .i64 p2, .int .i64 p3] x) (fun _ => True) rfl (by kernel_rfl) (by kernel_rfl) (by kernel_rfl) (fun _ _ _ h => HPQ _ _ _ _ _ h) (fun _ _ _ _ _ _ => trivial) (fun _ _ _ h => h) (fun _ _ h => h) trivial (Or.inl ⟨by rfl, ?hynd32⟩) S1.out S1.out ?restnd32
  case hynd32 => intro x hx; have a0 : x.cell? ⟨bk, ok + (q + 1) * 3, none⟩ = _ := hx.a 0 _ rfl; have a1 := hx.a 1 _ rfl; have a2 := hx.a 2 _ rfl; have d0 : x.cell? ⟨bk, ok + q * 3, none⟩ = _ := hx.d 0 _ rfl; have d1 := hx.d 1 _ rfl; have d2 := hx.d 2 _ rfl; clear hx; go_simp; try with_reducible rfl
  (try go_simp)
  refine Hr.Walk.take (i := 33) (v := ?vnd33) (fun x => KpS wo bk (ok + (q + 1) * 3) (ok + q * 3) [.int .i64 ri, .int .i64 y, .int .i64 p3] [.int .i64 ri, .int .i64 p2, .int .i64 p3] x) (fun _ => True) rfl (by kernel_rfl) (by kernel_rfl) (by kernel_rfl) (fun _ _ _ h => HPQ _ _ _ _ _ h) (fun _ _ _ _ _ _ => trivial) (fun _ _ _ h => h) (fun _ _ h => h) trivial (Or.inl ⟨by rfl, ?hynd33⟩) S1.out S1.out ?restnd33
  case hynd33 => intro x hx; have a0 : x.cell? ⟨bk, ok + (q + 1) * 3, none⟩ = _ := hx.a 0 _ rfl; have a1 := hx.a 1 _ rfl; have a2 := hx.a 2 _ rfl; have d0 : x.cell? ⟨bk, ok + q * 3, none⟩ = _ := hx.d 0 _ rfl; have d1 := hx.d 1 _ rfl; have d2 := hx.d 2 _ rfl; clear hx; go_simp; try with_reducible rfl
  (try go_simp)
  refine Hr.Walk.take (i := 34) (v := ?vnd34) (fun x => KpS wo bk (ok + (q + 1) * 3) (ok + q * 3) [.int .i64 ri, .int .i64 y, .int .i64 p3] [.int .i64 ri, .int .i64 p2, .int .i64 p3] x) (fun _ => True) rfl (by kernel_rfl) (by kernel_rfl) (by kernel_rfl) (fun _ _ _ h => HPQ _ _ _ _ _ h) (fun _ _ _ _ _ _ => trivial) (fun _ _ _ h => h) (fun _ _ h => h) trivial (Or.inl ⟨by rfl, ?hynd34⟩) S1.out S1.out ?restnd34
  case hynd34 => intro x hx; have a0 : x.cell? ⟨bk, ok + (q + 1) * 3, none⟩ = _ := hx.a 0 _ rfl; have a1 := hx.a 1 _ rfl; have a2 := hx.a 2 _ rfl; have d0 : x.cell? ⟨bk, ok + q * 3, none⟩ = _ := hx.d 0 _ rfl; have d1 := hx.d 1 _ rfl; have d2 := hx.d 2 _ rfl; clear hx; go_simp; try with_reducible rfl
  (try go_simp)
  refine Hr.Walk.one (i := 35) (by kernel_rfl) rfl (fun K hK => ?_)
  have hx := S1.out; have a0 : w1.cell? ⟨bk, ok + (q + 1) * 3, none⟩ = _ := hx.a 0 _ rfl; have a1 := hx.a 1 _ rfl; have a2 := hx.a 2 _ rfl; have d0 : w1.cell? ⟨bk, ok + q * 3, none⟩ = _ := hx.d 0 _ rfl; have d1 := hx.d 1 _ rfl; have d2 := hx.d 2 _ rfl; clear hx
  go_simp
  refine hK.out _ _ S1.out ?_
  clear hK K
  refine Hr.Walk.one (i := 36) (by kernel_rfl) rfl (fun K hK => ?_)
  have hx := S1.out; have a0 : w1.cell? ⟨bk, ok + (q + 1) * 3, none⟩ = _ := hx.a 0 _ rfl; have a1 := hx.a 1 _ rfl; have a2 := hx.a 2 _ rfl; have d0 : w1.cell? ⟨bk, ok + q * 3, none⟩ = _ := hx.d 0 _ rfl; have d1 := hx.d 1 _ rfl; have d2 := hx.d 2 _ rfl; clear hx
  go_simp
  refine hK.out _ _ S1.out ?_
  clear hK K
  refine Hr.Walk.one (i := 37) (by kernel_rfl) rfl (fun K hK => ?_)
  have hx := S1.out; have a0 : w1.cell? ⟨bk, ok + (q + 1) * 3, none⟩ = _ := hx.a 0 _ rfl; have a1 := hx.a 1 _ rfl; have a2 := hx.a 2 _ rfl; have d0 : w1.cell? ⟨bk, ok + q * 3, none⟩ = _ := hx.d 0 _ rfl; have d1 := hx.d 1 _ rfl; have d2 := hx.d 2 _ rfl; clear hx
  go_simp
  refine hK.out _ _ S1.out ?_
  clear hK K
  refine Hr.Walk.one (i := 38) (by kernel_rfl) rfl (fun K hK => ?_)
  have hx := S1.out; have a0 : w1.cell? ⟨bk, ok + (q + 1) * 3, none⟩ = _ := hx.a 0 _ rfl; have a1 := hx.a 1 _ rfl; have a2 := hx.a 2 _ rfl; have d0 : w1.cell? ⟨bk, ok + q * 3, none⟩ = _ := hx.d 0 _ rfl; have d1 := hx.d 1 _ rfl; have d2 := hx.d 2 _ rfl; clear hx
  go_simp
  refine hK.out _ _ S1.out ?_
  clear hK K
  refine Hr.Walk.one (i := 39) (by kernel_rfl) rfl (fun K hK => ?_)
  have hx := S1.out; have a0 : w1.cell? ⟨bk, ok + (q + 1) * 3, none⟩ = _ := hx.a 0 _ rfl; have a1 := hx.a 1 _ rfl; have a2 := hx.a 2 _ rfl; have d0 : w1.cell? ⟨bk, ok + q * 3, none⟩ = _ := hx.d 0 _ rfl; have d1 := hx.d 1 _ rfl; have d2 := hx.d 2 _ rfl; clear hx
  go_simp
  refine hK.out _ _ S1.out ?_
  clear hK K
  refine Hr.Walk.one (i := 40) (by kernel_rfl) rfl (fun K hK => ?_)
  have hx := S1.out; have a0 : w1.cell? ⟨bk, ok + (q + 1) * 3, none⟩ = _ := hx.a 0 _ rfl; have a1 := hx.a 1 _ rfl; have a2 := hx.a 2 _ rfl; have d0 : w1.cell? ⟨bk, ok + q * 3, none⟩ = _ := hx.d 0 _ rfl; have d1 := hx.d 1 _ rfl; have d2 := hx.d 2 _ rfl; clear hx
  go_simp
  refine hK.out _ _ S1.out ?_
  clear hK K
  refine Hr.Walk.one (i := 41) (by kernel_rfl) rfl (fun K hK => ?_)
  have hx := S1.out; have a0 : w1.cell? ⟨bk, ok + (q + 1) * 3, none⟩ = _ := hx.a 0 _ rfl; have a1 := hx.a 1 _ rfl; have a2 := hx.a 2 _ rfl; have d0 : w1.cell? ⟨bk, ok + q * 3, none⟩ = _ := hx.d 0 _ rfl; have d1 := hx.d 1 _ rfl; have d2 := hx.d 2 _ rfl; clear hx
  go_simp
  refine hK.out _ _ S1.out ?_
  clear hK K
  refine Hr.Walk.take (i := 42) (v := ?vnd42) (fun x => KpS wo bk (ok + (q + 1) * 3) (ok + q * 3) [.int .i64 ri, .int .i64 y, .int .i64 p3] [.int .i64 ri, .int .i64 p2, .int .i64 p3] x) (fun _ => True) rfl (by kernel_rfl) (by kernel_rfl) (by kernel_rfl) (fun _ _ _ h => HPQ _ _ _ _ _ h) (fun _ _ _ _ _ _ => trivial) (fun _ _ _ h => h) (fun _ _ h => h) trivial (Or.inl ⟨by rfl, ?hynd42⟩) S1.out S1.out ?restnd42
  case hynd42 => intro x hx; have a0 : x.cell? ⟨bk, ok + (q + 1) * 3, none⟩ = _ := hx.a 0 _ rfl; have a1 := hx.a 1 _ rfl; have a2 := hx.a 2 _ rfl; have d0 : x.cell? ⟨bk, ok + q * 3, none⟩ = _ := hx.d 0 _ rfl; have d1 := hx.d 1 _ rfl; have d2 := hx.d 2 _ rfl; clear hx; go_simp; try with_reducible rfl
  (try go_simp)
  refine Hr.Walk.take (i := 43) (v := ?vnd43) (fun x => KpS wo bk (ok + (q + 1) * 3) (ok + q * 3) [.int .i64 ri, .int .i64 y, .int .i64 p3] [.int .i64 ri, .int .i64 p2, .int .i64 p3] x) (fun _ => True) rfl (by kernel_rfl) (by kernel_rfl) (by kernel_rfl) (fun _ _ _ h => HPQ _ _ _ _ _ h) (fun _ _ _ _ _ _ => trivial) (fun _ _ _ h => h) (fun _ _ h => h) trivial (Or.inl ⟨by rfl, ?hynd43⟩) S1.out S1.out ?restnd43
  case hynd43 => intro x hx; have a0 : x.cell? ⟨bk, ok + (q + 1) * 3, none⟩ = _ := hx.a 0 _ rfl; have a1 := hx.a 1 _ rfl; have a2 := hx.a 2 _ rfl; have d0 : x.cell? ⟨bk, ok + q * 3, none⟩ = _ := hx.d 0 _ rfl; have d1 := hx.d 1 _ rfl; have d2 := hx.d 2 _ rfl; clear hx; go_simp; try with_reducible rfl
  (try go_simp)
  refine Hr.Walk.take (i := 44) (v := ?vnd44) (fun x => KpS wo bk (ok + (q + 1) * 3) (ok + q * 3) [.int .i64 ri, .int .i64 y, .int .i64 p3] [.int .i64 ri, .int .i64 p2, .int .i64 p3] x) (fun _ => True) rfl (by kernel_rfl) (by kernel_rfl) (by kernel_rfl) (fun _ _ _ h => HPQ _ _ _ _ _ h) (fun _ _ _ _ _ _ => trivial) (fun _ _ _ h => h) (fun _ _ h => h) trivial (Or.inl ⟨by rfl, ?hynd44⟩) S1.out S1.out ?restnd44
  case hynd44 => intro x hx; have a0 : x.cell? ⟨bk, ok + (q + 1) * 3, none⟩ = _ := hx.a 0 _ rfl; have a1 := hx.a 1 _ rfl; have a2 := hx.a 2 _ rfl; have d0 : x.cell? ⟨bk, ok + q * 3, none⟩ = _ := hx.d 0 _ rfl; have d1 := hx.d 1 _ rfl; have d2 := hx.d 2 _ rfl; clear hx; go_simp; try with_reducible rfl
  (try go_simp)
  refine Hr.Walk.take (i := 45) (v := ?vnd45) (fun x => KpS wo bk (ok + (q + 1) * 3) (ok + q * 3) [.int .i64 ri, .int .i64 y, .int .i64 p3] [.int .i64 ri, .int .i64 p2, .int .i64 p3] x) (fun _ => True) rfl (by kernel_rfl) (by kernel_rfl) (by kernel_rfl) (fun _ _ _ h => HPQ _ _ _ _ _ h) (fun _ _ _ _ _ _ => trivial) (fun _ _ _ h => h) (fun _ _ h => h) trivial (Or.inl ⟨by rfl, ?hynd45⟩) S1.out S1.out ?restnd45
  case hynd45 => intro x hx; have a0 : x.cell? ⟨bk, ok + (q + 1) * 3, none⟩ = _ := hx.a 0 _ rfl; have a1 := hx.a 1 _ rfl; have a2 := hx.a 2 _ rfl; have d0 : x.cell? ⟨bk, ok + q * 3, none⟩ = _ := hx.d 0 _ rfl; have d1 := hx.d 1 _ rfl; have d2 := hx.d 2 _ rfl; clear hx; go_simp; try with_reducible rfl
  (try go_simp)
  refine Hr.Walk.take (i := 46) (v := ?vnd46) (fun x => KpS wo bk (ok + (q + 1) * 3) (ok + q * 3) [.int .i64 ri, .int .i64 y, .int .i64 p3] [.int .i64 ri, .int .i64 p2, .int .i64 p3] x) (fun _ => True) rfl (by kernel_rfl) (by kernel_rfl) (by kernel_rfl) (fun _ _ _ h => HPQ _ _ _ _ _ h) (fun _ _ _ _ _ _ => trivial) (fun _ _ _ h => h) (fun _ _ h => h) trivial (Or.inl ⟨by rfl, ?hynd46⟩) S1.out S1.out ?restnd46
  case hynd46 => intro x hx; have a0 : x.cell? ⟨bk, ok + (q + 1) * 3, none⟩ = _ := hx.a 0 _ rfl; have a1 := hx.a 1 _ rfl; have a2 := hx.a 2 _ rfl; have d0 : x.cell? ⟨bk, ok + q * 3, none⟩ = _ := hx.d 0 _ rfl; have d1 := hx.d 1 _ rfl; have d2 := hx.d 2 _ rfl; clear hx; go_simp; try with_reducible rfl
  (try go_simp)
  refine Hr.Walk.take (i := 47) (v := ?vnd47) (fun x => KpS wo bk (ok + (q + 1) * 3) (ok + q * 3) [.int .i64 ri, .int .i64 y, .int .i64 p3] [.int .i64 ri, .int .i64 p2, .int .i64 p3] x) (fun _ => True) rfl (by kernel_rfl) (by kernel_rfl) (by kernel_rfl) (fun _ _ _ h => HPQ _ _ _ _ _ h) (fun _ _ _ _ _ _ => trivial) (fun _ _ _ h => h) (fun _ _ h => h) trivial (Or.inl ⟨by rfl, ?hynd47⟩) S1.out S1.out ?restnd47
  case hynd47 => intro x hx; have a0 : x.cell? ⟨bk, ok + (q + 1) * 3, none⟩ = _ := hx.a 0 _ rfl; have a1 := hx.a 1 _ rfl; have a2 := hx.a 2 _ rfl; have d0 : x.cell? ⟨bk, ok + q * 3, none⟩ = _ := hx.d 0 _ rfl; have d1 := hx.d 1 _ rfl; have d2 := hx.d 2 _ rfl; clear hx; go_simp; try with_reducible rfl
  (try go_simp)
  refine Hr.Walk.one (i := 48) (by kernel_rfl) rfl (fun K hK => ?_)
  have hx := S1.out; have a0 : w1.cell? ⟨bk, ok + (q + 1) * 3, none⟩ = _ := hx.a 0 _ rfl; have a1 := hx.a 1 _ rfl; have a2 := hx.a 2 _ rfl; have d0 : w1.cell? ⟨bk, ok + q * 3, none⟩ = _ := hx.d 0 _ rfl; have d1 := hx.d 1 _ rfl; have d2 := hx.d 2 _ rfl; clear hx
  go_simp
  refine hK.out _ _ S1.out ?_
  clear hK K
  refine Hr.Walk.one (i := 49) (by kernel_rfl) rfl (fun K hK => ?_)
  have hx := S1.out; have a0 : w1.cell? ⟨bk, ok + (q + 1) * 3, none⟩ = _ := hx.a 0 _ rfl; have a1 := hx.a 1 _ rfl; have a2 := hx.a 2 _ rfl; have d0 : w1.cell? ⟨bk, ok + q * 3, none⟩ = _ := hx.d 0 _ rfl; have d1 := hx.d 1 _ rfl; have d2 := hx.d 2 _ rfl; clear hx
  go_simp
  refine hK.out _ _ S1.out ?_
  clear hK K
  refine Hr.Walk.one (i := 50) (by kernel_rfl) rfl (fun K hK => ?_)
  have hx := S1.out; have a0 : w1.cell? ⟨bk, ok + (q + 1) * 3, none⟩ = _ := hx.a 0 _ rfl; have a1 := hx.a 1 _ rfl; have a2 := hx.a 2 _ rfl; have d0 : w1.cell? ⟨bk, ok + q * 3, none⟩ = _ := hx.d 0 _ rfl; have d1 := hx.d 1 _ rfl; have d2 := hx.d 2 _ rfl; clear hx
  go_simp
  refine hK.out _ _ S1.out ?_
  clear hK K
  refine Hr.Walk.one (i := 51) (by kernel_rfl) rfl (fun K hK => ?_)
  have hx := S1.out; have a0 : w1.cell? ⟨bk, ok + (q + 1) * 3, none⟩ = _ := hx.a 0 _ rfl; have a1 := hx.a 1 _ rfl; have a2 := hx.a 2 _ rfl; have d0 : w1.cell? ⟨bk, ok + q * 3, none⟩ = _ := hx.d 0 _ rfl; have d1 := hx.d 1 _ rfl; have d2 := hx.d 2 _ rfl; clear hx
  go_simp
  refine hK.out _ _ S1.out ?_
  clear hK K
  refine Hr.Walk.one (i := 52) (by kernel_rfl) rfl (fun K hK => ?_)
  have hx := S1.out; have a0 : w1.cell? ⟨bk, ok + (q + 1) * 3, none⟩ = _ := hx.a 0 _ rfl; have a1 := hx.a 1 _ rfl; have a2 := hx.a 2 _ rfl; have d0 : w1.cell? ⟨bk, ok + q * 3, none⟩ = _ := hx.d 0 _ rfl; have d1 := hx.d 1 _ rfl; have d2 := hx.d 2 _ rfl; clear hx
  go_simp
  refine hK.out _ _ S1.out ?_
  clear hK K
  refine Hr.Walk.one (i := 53) (by kernel_rfl) rfl (fun K hK => ?_)
  have hx := S1.out; have a0 : w1.cell? ⟨bk, ok + (q + 1) * 3, none⟩ = _ := hx.a 0 _ rfl; have a1 := hx.a 1 _ rfl; have a2 := hx.a 2 _ rfl; have d0 : w1.cell? ⟨bk, ok + q * 3, none⟩ = _ := hx.d 0 _ rfl; have d1 := hx.d 1 _ rfl; have d2 := hx.d 2 _ rfl; clear hx
  go_simp
  refine hK.out _ _ S1.out ?_
  clear hK K
  refine Hr.Walk.one (i := 54) (by kernel_rfl) rfl (fun K hK => ?_)
  have hx := S1.out; have a0 : w1.cell? ⟨bk, ok + (q + 1) * 3, none⟩ = _ := hx.a 0 _ rfl; have a1 := hx.a 1 _ rfl; have a2 := hx.a 2 _ rfl; have d0 : w1.cell? ⟨bk, ok + q * 3, none⟩ = _ := hx.d 0 _ rfl; have d1 := hx.d 1 _ rfl; have d2 := hx.d 2 _ rfl; clear hx
  go_simp
  refine hK.out _ _ S1.out ?_
  clear hK K
  refine Hr.Walk.take (i := 55) (v := ?vnd55) (fun x => KpS wo bk (ok + (q + 1) * 3) (ok + q * 3) [.int .i64 ri, .int .i64 y, .int .i64 p3] [.int .i64 ri, .int .i64 p2, .int .i64 p3] x) (fun _ => True) rfl (by kernel_rfl) (by kernel_rfl) (by kernel_rfl) (fun _ _ _ h => HPQ _ _ _ _ _ h) (fun _ _ _ _ _ _ => trivial) (fun _ _ _ h => h) (fun _ _ h => h) trivial (Or.inl ⟨by rfl, ?hynd55⟩) S1.out S1.out ?restnd55
  case hynd55 => intro x hx; have a0 : x.cell? ⟨bk, ok + (q + 1) * 3, none⟩ = _ := hx.a 0 _ rfl; have a1 := hx.a 1 _ rfl; have a2 := hx.a 2 _ rfl; have d0 : x.cell? ⟨bk, ok + q * 3, none⟩ = _ := hx.d 0 _ rfl; have d1 := hx.d 1 _ rfl; have d2 := hx.d 2 _ rfl; clear hx; go_simp; try with_reducible rfl
  (try go_simp)
  refine Hr.Walk.take (i := 56) (v := ?vnd56) (fun x => KpS wo bk (ok + (q + 1) * 3) (ok + q * 3) [.int .i64 ri, .int .i64 y, .int .i64 p3] [.int .i64 ri, .int .i64 p2, .int .i64 p3] x) (fun _ => True) rfl (by kernel_rfl) (by kernel_rfl) (by kernel_rfl) (fun _ _ _ h => HPQ _ _ _ _ _ h) (fun _ _ _ _ _ _ => trivial) (fun _ _ _ h => h) (fun _ _ h => h) trivial (Or.inl ⟨by rfl, ?hynd56⟩) S1.out S1.out ?restnd56
  case hynd56 => intro x hx; have a0 : x.cell? ⟨bk, ok + (q + 1) * 3, none⟩ = _ := hx.a 0 _ rfl; have a1 := hx.a 1 _ rfl; have a2 := hx.a 2 _ rfl; have d0 : x.cell? ⟨bk, ok + q * 3, none⟩ = _ := hx.d 0 _ rfl; have d1 := hx.d 1 _ rfl; have d2 := hx.d 2 _ rfl; clear hx; go_simp; try with_reducible rfl
  (try go_simp)
  refine Hr.Walk.take (i := 57) (v := ?vnd57) (fun x => KpS wo bk (ok + (q + 1) * 3) (ok + q * 3) [.int .i64 ri, .int .i64 y, .int .i64 p3] [.int .i64 ri, .int .i64 p2, .int .i64 p3] x) (fun _ => True) rfl (by kernel_rfl) (by kernel_rfl) (by kernel_rfl) (fun _ _ _ h => HPQ _ _ _ _ _ h) (fun _ _ _ _ _ _ => trivial) (fun _ _ _ h => h) (fun _ _ h => h) trivial (Or.inl ⟨by rfl, ?hynd57⟩) S1.out S1.out ?restnd57
  case hynd57 => intro x hx; have a0 : x.cell? ⟨bk, ok + (q + 1) * 3, none⟩ = _ := hx.a 0 _ rfl; have a1 := hx.a 1 _ rfl; have a2 := hx.a 2 _ rfl; have d0 : x.cell? ⟨bk, ok + q * 3, none⟩ = _ := hx.d 0 _ rfl; have d1 := hx.d 1 _ rfl; have d2 := hx.d 2 _ rfl; clear hx; go_simp; try with_reducible rfl
  (try go_simp)
  refine Hr.Walk.take (i := 58) (v := ?vnd58) (fun x => KpS wo bk (ok + (q + 1) * 3) (ok + q * 3) [.int .i64 ri, .int .i64 y, .int .i64 p3] [.int .i64 ri, .int .i64 p2, .int .i64 p3] x) (fun _ => True) rfl (by kernel_rfl) (by kernel_rfl) (by kernel_rfl) (fun _ _ _ h => HPQ _ _ _ _ _ h) (fun _ _ _ _ _ _ => trivial) (fun _ _ _ h => h) (fun _ _ h => h) trivial (Or.inl ⟨by rfl, ?hynd58⟩) S1.out S1.out ?restnd58
  case hynd58 => intro x hx; have a0 : x.cell? ⟨bk, ok + (q + 1) * 3, none⟩ = _ := hx.a 0 _ rfl; have a1 := hx.a 1 _ rfl; have a2 := hx.a 2 _ rfl; have d0 : x.cell? ⟨bk, ok + q * 3, none⟩ = _ := hx.d 0 _ rfl; have d1 := hx.d 1 _ rfl; have d2 := hx.d 2 _ rfl; clear hx; go_simp; try with_reducible rfl
  (try go_simp)
  refine Hr.Walk.take (i := 59) (v := ?vnd59) (fun x => KpS wo bk (ok + (q + 1) * 3) (ok + q * 3) [.int .i64 ri, .int .i64 y, .int .i64 p3] [.int .i64 ri, .int .i64 p2, .int .i64 p3] x) (fun _ => True) rfl (by kernel_rfl) (by kernel_rfl) (by kernel_rfl) (fun _ _ _ h => HPQ _ _ _ _ _ h) (fun _ _ _ _ _ _ => trivial) (fun _ _ _ h => h) (fun _ _ h => h) trivial (Or.inl ⟨by rfl, ?hynd59⟩) S1.out S1.out ?restnd59
  case hynd59 => intro x hx; have a0 : x.cell? ⟨bk, ok + (q + 1) * 3, none⟩ = _ := hx.a 0 _ rfl; have a1 := hx.a 1 _ rfl; have a2 := hx.a 2 _ rfl; have d0 : x.cell? ⟨bk, ok + q * 3, none⟩ = _ := hx.d 0 _ rfl; have d1 := hx.d 1 _ rfl; have d2 := hx.d 2 _ rfl; clear hx; go_simp; try with_reducible rfl
  (try go_simp)
  refine Hr.Walk.take (i := 60) (v := ?vnd60) (fun x => KpS wo bk (ok + (q + 1) * 3) (ok + q * 3) [.int .i64 ri, .int .i64 y, .int .i64 p3] [.int .i64 ri, .int .i64 p2, .int .i64 p3] x) (fun _ => True) rfl (by kernel_rfl) (by kernel_rfl) (by kernel_rfl) (fun _ _ _ h => HPQ _ _ _ _ _ h) (fun _ _ _ _ _ _ => trivial) (fun _ _ _ h => h) (fun _ _ h => h) trivial (Or.inl ⟨by rfl, ?hynd60⟩) S1.out S1.out ?restnd60
  case hynd60 => intro x hx; have a0 : x.cell? ⟨bk, ok + (q + 1) * 3, none⟩ = _ := hx.a 0 _ rfl; have a1 := hx.a 1 _ rfl; have a2 := hx.a 2 _ rfl; have d0 : x.cell? ⟨bk, ok + q * 3, none⟩ = _ := hx.d 0 _ rfl; have d1 := hx.d 1 _ rfl; have d2 := hx.d 2 _ rfl; clear hx; go_simp; try with_reducible rfl
  (try go_simp)
  refine Hr.Walk.one (i := 61) (by kernel_rfl) rfl (fun K hK => ?_)
  have hx := S1.out; have a0 : w1.cell? ⟨bk, ok + (q + 1) * 3, none⟩ = _ := hx.a 0 _ rfl; have a1 := hx.a 1 _ rfl; have a2 := hx.a 2 _ rfl; have d0 : w1.cell? ⟨bk, ok + q * 3, none⟩ = _ := hx.d 0 _ rfl; have d1 := hx.d 1 _ rfl; have d2 := hx.d 2 _ rfl; clear hx
  go_simp
  refine hK.out _ _ S1.out ?_
  clear hK K
  refine Hr.Walk.one (i := 62) (by kernel_rfl) rfl (fun K hK => ?_)
  have hx := S1.out; have a0 : w1.cell? ⟨bk, ok + (q + 1) * 3, none⟩ = _ := hx.a 0 _ rfl; have a1 := hx.a 1 _ rfl; have a2 := hx.a 2 _ rfl; have d0 : w1.cell? ⟨bk, ok + q * 3, none⟩ = _ := hx.d 0 _ rfl; have d1 := hx.d 1 _ rfl; have d2 := hx.d 2 _ rfl; clear hx
  go_simp
  refine hK.out _ _ S1.out ?_
  clear hK K
  refine Hr.Walk.one (i := 63) (by kernel_rfl) rfl (fun K hK => ?_)
  have hx := S1.out; have a0 : w1.cell? ⟨bk, ok + (q + 1) * 3, none⟩ = _ := hx.a 0 _ rfl; have a1 := hx.a 1 _ rfl; have a2 := hx.a 2 _ rfl; have d0 : w1.cell? ⟨bk, ok + q * 3, none⟩ = _ := hx.d 0 _ rfl; have d1 := hx.d 1 _ rfl; have d2 := hx.d 2 _ rfl; clear hx
  go_simp
  refine hK.out _ _ S1.out ?_
  clear hK K
  refine Hr.Walk.one (i := 64) (by kernel_rfl) rfl (fun K hK => ?_)
  have hx := S1.out; have a0 : w1.cell? ⟨bk, ok + (q + 1) * 3, none⟩ = _ := hx.a 0 _ rfl; have a1 := hx.a 1 _ rfl; have a2 := hx.a 2 _ rfl; have d0 : w1.cell? ⟨bk, ok + q * 3, none⟩ = _ := hx.d 0 _ rfl; have d1 := hx.d 1 _ rfl; have d2 := hx.d 2 _ rfl; clear hx
  go_simp
  refine hK.out _ _ S1.out ?_
  clear hK K
  refine Hr.Walk.one (i := 65) (by kernel_rfl) rfl (fun K hK => ?_)
  have hx := S1.out; have a0 : w1.cell? ⟨bk, ok + (q + 1) * 3, none⟩ = _ := hx.a 0 _ rfl; have a1 := hx.a 1 _ rfl; have a2 := hx.a 2 _ rfl; have d0 : w1.cell? ⟨bk, ok + q * 3, none⟩ = _ := hx.d 0 _ rfl; have d1 := hx.d 1 _ rfl; have d2 := hx.d 2 _ rfl; clear hx
  go_simp
  refine hK.out _ _ S1.out ?_
  clear hK K
  refine Hr.Walk.one (i := 66) (by kernel_rfl) rfl (fun K hK => ?_)
  have hx := S1.out; have a0 : w1.cell? ⟨bk, ok + (q + 1) * 3, none⟩ = _ := hx.a 0 _ rfl; have a1 := hx.a 1 _ rfl; have a2 := hx.a 2 _ rfl; have d0 : w1.cell? ⟨bk, ok + q * 3, none⟩ = _ := hx.d 0 _ rfl; have d1 := hx.d 1 _ rfl; have d2 := hx.d 2 _ rfl; clear hx
  go_simp
  refine hK.out _ _ S1.out ?_
  clear hK K
  refine Hr.Walk.one (i := 67) (by kernel_rfl) rfl (fun K hK => ?_)
  have hx := S1.out; have a0 : w1.cell? ⟨bk, ok + (q + 1) * 3, none⟩ = _ := hx.a 0 _ rfl; have a1 := hx.a 1 _ rfl; have a2 := hx.a 2 _ rfl; have d0 : w1.cell? ⟨bk, ok + q * 3, none⟩ = _ := hx.d 0 _ rfl; have d1 := hx.d 1 _ rfl; have d2 := hx.d 2 _ rfl; clear hx
  go_simp
  refine hK.out _ _ S1.out ?_
  clear hK K
  refine Hr.Walk.one (i := 68) (by kernel_rfl) rfl (fun K hK => ?_)
  have hx := S1.out; have a0 : w1.cell? ⟨bk, ok + (q + 1) * 3, none⟩ = _ := hx.a 0 _ rfl; have a1 := hx.a 1 _ rfl; have a2 := hx.a 2 _ rfl; have d0 : w1.cell? ⟨bk, ok + q * 3, none⟩ = _ := hx.d 0 _ rfl; have d1 := hx.d 1 _ rfl; have d2 := hx.d 2 _ rfl; clear hx
  go_simp
  refine hK.out _ _ S1.out ?_
  clear hK K
  refine Hr.Walk.one (i := 69) (by kernel_rfl) rfl (fun K hK => ?_)
  have hx := S1.out; have a0 : w1.cell? ⟨bk, ok + (q + 1) * 3, none⟩ = _ := hx.a 0 _ rfl; have a1 := hx.a 1 _ rfl; have a2 := hx.a 2 _ rfl; have d0 : w1.cell? ⟨bk, ok + q * 3, none⟩ = _ := hx.d 0 _ rfl; have d1 := hx.d 1 _ rfl; have d2 := hx.d 2 _ rfl; clear hx
  go_simp
  refine hK.out _ _ S1.out ?_
  clear hK K
  refine Hr.Walk.one (i := 70) (by kernel_rfl) rfl (fun K hK => ?_)
  have hx := S1.out; have a0 : w1.cell? ⟨bk, ok + (q + 1) * 3, none⟩ = _ := hx.a 0 _ rfl; have a1 := hx.a 1 _ rfl; have a2 := hx.a 2 _ rfl; have d0 : w1.cell? ⟨bk, ok + q * 3, none⟩ = _ := hx.d 0 _ rfl; have d1 := hx.d 1 _ rfl; have d2 := hx.d 2 _ rfl; clear hx
  go_simp
  refine hK.out _ _ S1.out ?_
  clear hK K
  refine Hr.Walk.one (i := 71) (by kernel_rfl) rfl (fun K hK => ?_)
  have hx := S1.out; have a0 : w1.cell? ⟨bk, ok + (q + 1) * 3, none⟩ = _ := hx.a 0 _ rfl; have a1 := hx.a 1 _ rfl; have a2 := hx.a 2 _ rfl; have d0 : w1.cell? ⟨bk, ok + q * 3, none⟩ = _ := hx.d 0 _ rfl; have d1 := hx.d 1 _ rfl; have d2 := hx.d 2 _ rfl; clear hx
  go_simp
  refine hK.out _ _ S1.out ?_
  clear hK K
  refine Hr.Walk.done (by kernel_rfl) ?_ _
  have S1g := Lib.hid S1.out.g
  exact hQ _ _ _ _ _ _ _ _ _ _ _ _ _ _ _ _ _ _ _ _ _ _ _ _ _ _ _ _ _ _ _ _ _ _ _ _ _ _ _ _ _ _ _ _ _ _ _ _ _ _ _ _ _ _ _ _ _ _ _ _ _ _ _ _ _ _ _ _ _ _ _ _ S1g

end Ons
end Go.Proofs.YthefgagmjamdkaaDoor
