/-
  OnsetRises, from its region 17 on: as many as there are. (Written by gen/gen_onsu.py.)
-/
import Derived.Test.YthefgagmjamdkaaDoorOnsL
import Derived.Test.YthefgagmjamdkaaDoorBdFf
namespace Go.Proofs.YthefgagmjamdkaaDoor
open Go.RowKit
namespace Ons
open Rul Rs Cel
structure HwS (w : World) (b o : Nat) (vs : List Value) (x : World) : Prop where
  r : x.rangeAt b o vs
  l : b < x.heap.size
  g : Below w.heap.size w x
theorem HwS.below {w : World} {b o : Nat} {vs : List Value} {x y : World} (h : HwS w b o vs x) (k : Below x.heap.size x y) : HwS w b o vs y := ⟨range_below h.l h.r k, Nat.lt_of_lt_of_le h.l k.size, bstep h.g k⟩
theorem HwS.drew {w : World} {b o : Nat} {vs : List Value} {x : World} (h : HwS w b o vs x) : HwS w b o vs x.drew := ⟨h.r, h.l, below_drewN h.g 1⟩
theorem rres_to (y m k v d : Int) (N : Int) (ok : Bool) (w : World) (ho : Wk.onOk k v d = true) (y1 : 1 ≤ y) (y2 : y ≤ 9999) (h : Hid (Wk.rsV y m k v d = N ∧ decide (Wk.resE y m k v d = 0) = ok)) :
    Calls Tryd.prog 17 #[.int .i64 y, .int .i64 m, .agg #[.int .i64 k, .int .i64 v, .int .i64 d]] w fun e w' => e = .returned (.tuple #[.int .i64 N, .bool ok]) ∧ Below w.heap.size w w' :=
  (Wk.rres_any y m k v d w ho y1 y2).mono fun _ _ ⟨he, hw⟩ => ⟨by
    rw [he, h.out.1, ← h.out.2, Wk.rsB]
    have e : Wk.resE y m k v d = Civ.numE y m (Wk.rday y m k d) := by rw [Wk.resE, if_pos ho, if_pos ⟨y1, y2⟩]
    rw [e], hw⟩
theorem onR_no {nm : List UInt8} {last i : Int} {r : RV} (h : r.nm ≠ nm) : onR nm last i r = [] := by rw [onR, if_neg h]
theorem chk_on {nm lt : List UInt8} {fr tu mo kk vv dd nn cc sv : Int} (h : chkB ⟨nm, fr, tu, mo, kk, vv, dd, nn, cc, sv, lt⟩ = true) : Wk.onOk kk vv dd = true := (chk_parts h).2.2.2.2.2.2.2.1

noncomputable def rsT17C : Code := (Tryd.f4.body.bind (Tl.from_ 17)).getD .skip
set_option maxHeartbeats 25600000 in
set_option maxRecDepth 100000 in
theorem rsT17 (AV : Option Addr) (N cV : Nat) (NM : List UInt8) (last : Int) (AK : Option Addr) (KN cK : Nat) (L : List RV) (w w2 : World) (HA : Hid (Civ.Ahead w)) (V : Hid (RulV w2 (.slice AV N cV) L)) (HN : Hid (L.length = N)) (LT : Hid (Light L)) (RB : Hid (L.all chkB = true)) (lb : 1 ≤ last) (lb2 : last ≤ 9999) (B : Hid (Below w.heap.size w w2)) (KL : Hid ((onG NM last L L.length).length = KN)) (z3 z4 z5 z6 z8 z9 z10 z11 z12 z13 z14 z15 z16 z17 z18 z19 z20 z21 z22 z23 z24 z25 z26 z27 z28 z29 z30 z31 z32 z33 z34 z35 z36 z37 z38 z39 z40 z41 z42 z43 z44 z45 z46 z47 z48 z49 z50 z51 z52 z53 z54 z55 z56 z57 z58 z59 z60 z61 z62 z63 z64 z65 z66 z67 z68 z69 z70 z71 z72 z73 z74 z75 z76 z77 z78 z79 z80 z81 z82 z83 z84 z85 z86 z87 z88 z89 z90 z91 z92 z93 z94 z95 z96 z97 z98 z99 z100 z101 z102 z103 z104 z105 z106 z107 z108 z109 z110 z111 z112 z113 z114 z115 z116 z117 z118 z119 z120 z121 z122 z123 z124 z125 z126 z127 z128 z129 z130 z131 z132 z133 z134 z135 z136 z137 z138 z139 z140 z141 z142 z143 z144 z145 z146 z147 z148 z149 z150 z151 z152 z153 z154 z155 z156 z157 z158 z159 z160 z161 z162 z163 z164 z165 z166 z167 z168 z169 z170 z171 z172 z173 z174 z175 z176 z177 z178 z179 z180 z181 z182 z183 z184 z185 z186 z187 z188 z189 z190 z191 z192 z193 z194 z195 z196 z197 z198 z199 z200 z201 z202 z203 z204 z205 z206 z207 z208 z209 z210 z211 z212 z213 z214 z215 z216 z217 z218 z219 z220 z221 z222 z223 z224 z225 z226 z227 z228 z229 z230 z231 z232 z233 z234 z235 z236 z237 z238 z239 z240 z241 z242 z243 z244 z245 z246 z247 z248 z249 z250 z251 z252 z253 z254 z255 z256 z257 z258 z259 z260 z261 : Value) : Code.wp Tryd.prog rsT17C (bodyPost Tryd.prog Tryd.f4 (fun e w' => e = .returned (.bool true) ∧ Below w.heap.size w w')) ⟨List.toArray (.slice AV N cV :: .string ⟨NM.toArray⟩ :: .int .i64 last :: z3 :: z4 :: z5 :: z6 :: .slice AK KN cK :: z8 :: z9 :: z10 :: z11 :: z12 :: z13 :: z14 :: z15 :: z16 :: z17 :: z18 :: z19 :: z20 :: z21 :: z22 :: z23 :: z24 :: z25 :: z26 :: z27 :: z28 :: z29 :: z30 :: z31 :: z32 :: z33 :: z34 :: z35 :: z36 :: z37 :: z38 :: z39 :: z40 :: z41 :: z42 :: z43 :: z44 :: z45 :: z46 :: z47 :: z48 :: z49 :: z50 :: z51 :: z52 :: z53 :: z54 :: z55 :: z56 :: z57 :: z58 :: z59 :: z60 :: z61 :: z62 :: z63 :: z64 :: z65 :: z66 :: z67 :: z68 :: z69 :: z70 :: z71 :: z72 :: z73 :: z74 :: z75 :: z76 :: z77 :: z78 :: z79 :: z80 :: z81 :: z82 :: z83 :: z84 :: z85 :: z86 :: z87 :: z88 :: z89 :: z90 :: z91 :: z92 :: z93 :: z94 :: z95 :: z96 :: z97 :: z98 :: z99 :: z100 :: z101 :: z102 :: z103 :: z104 :: z105 :: z106 :: z107 :: z108 :: z109 :: z110 :: z111 :: z112 :: z113 :: z114 :: z115 :: z116 :: z117 :: z118 :: z119 :: z120 :: z121 :: z122 :: z123 :: z124 :: z125 :: z126 :: z127 :: z128 :: z129 :: z130 :: z131 :: z132 :: z133 :: z134 :: z135 :: z136 :: z137 :: z138 :: z139 :: z140 :: z141 :: z142 :: z143 :: z144 :: z145 :: z146 :: z147 :: z148 :: z149 :: z150 :: z151 :: z152 :: z153 :: z154 :: z155 :: z156 :: z157 :: z158 :: z159 :: z160 :: z161 :: z162 :: z163 :: z164 :: z165 :: z166 :: z167 :: z168 :: z169 :: z170 :: z171 :: z172 :: z173 :: z174 :: z175 :: z176 :: z177 :: z178 :: z179 :: z180 :: z181 :: z182 :: z183 :: z184 :: z185 :: z186 :: z187 :: z188 :: z189 :: z190 :: z191 :: z192 :: z193 :: z194 :: z195 :: z196 :: z197 :: z198 :: z199 :: z200 :: z201 :: z202 :: z203 :: z204 :: z205 :: z206 :: z207 :: z208 :: z209 :: z210 :: z211 :: z212 :: z213 :: z214 :: z215 :: z216 :: z217 :: z218 :: z219 :: z220 :: z221 :: z222 :: z223 :: z224 :: z225 :: z226 :: z227 :: z228 :: z229 :: z230 :: z231 :: z232 :: z233 :: z234 :: z235 :: z236 :: z237 :: z238 :: z239 :: z240 :: z241 :: z242 :: z243 :: z244 :: z245 :: z246 :: z247 :: z248 :: z249 :: z250 :: z251 :: z252 :: z253 :: z254 :: z255 :: z256 :: z257 :: z258 :: z259 :: z260 :: z261 :: []), []⟩ w2 := by
  conv => arg 2; whnf
  have hn3 : N ≤ 300 := by have := LT.out.1; have := HN.out; omega
  have YR : ∀ r ∈ L, 1 ≤ r.fr ∧ r.tu ≤ 9999 := fun r hr => by
    obtain ⟨nm, fr, tu, mo, kk, vv, dd, nn, cc, sv, lt⟩ := r
    obtain ⟨f1, f2, f3, _, _⟩ := chk_n (List.all_eq_true.1 RB.out _ hr)
    exact ⟨f1, f3⟩
  have HLN : Hid (∀ k : Nat, k ≤ L.length → (onG NM last L k).length ≤ k * 9999) := Lib.hid (fun k hk => onG_len YR k hk)
  have SMN : Hid (∀ r ∈ L, r.nm.length ≤ 200) := Lib.hid (fun r hr => (LT.out.2 r hr).1)
  clear YR
  go_wp2_with fail
  go_loopw [13, 14] (fun nv iv wr => ∃ k : Nat, k ≤ N ∧ nv = .int .i64 ((onG NM last L k).length : Int) ∧ iv = .int .i64 k ∧ Hid (Below w2.heap.size w2 wr)) (fun _ i _ => N - (intOf i).toNat)
  case atStart => exact ⟨0, Nat.zero_le _, rfl, rfl, Lib.hid (Below.refl _ _)⟩
  case round =>
    obtain ⟨k, hk, rfl, rfl, HB⟩ := hrel
    obtain ⟨wo, rfl⟩ : ∃ wo : World, wo = wr := ⟨_, rfl⟩
    obtain ⟨G, hG⟩ : ∃ G, (onG NM last L k).length = G := ⟨_, rfl⟩
    have HGL : Hid (G ≤ 2999700) := Lib.hid (by have := HLN.out k (by have := HN.out; omega); omega)
    rw [hG]
    have HG := Lib.hid hG
    clear hG
    by_cases hlt : k < N
    · have hkp : k < L.length := by rw [HN.out]; exact hlt
      obtain ⟨b, off, c2, e1, hb, hrow⟩ := RowV.form V.out (by omega)
      rw [HN.out] at e1
      injection e1 with e1 e2 e3
      subst e1 e3
      have r0 := range_below hb (hrow k hkp) HB.out
      have hbo := Nat.lt_of_lt_of_le hb HB.out.size
      obtain ⟨r, hr⟩ : ∃ r, L[k]'hkp = r := ⟨_, rfl⟩
      rw [hr] at r0
      have HX : Hid (onG NM last L (k + 1) = onG NM last L k ++ onR NM last k r) := Lib.hid (by rw [onG_succ hkp, hr])
      have hck : chkB r = true := by rw [← hr]; exact all_at RB.out hkp
      have hns := SMN.out r (hr ▸ List.getElem_mem hkp)
      clear hr hkp hrow e2
      obtain ⟨nm, fr, tu, mo, kk, vv, dd, nn, cc, sv, lt⟩ := r
      obtain ⟨f1, f2, f3, f4, f5⟩ := chk_n hck
      have ON := Lib.hid (chk_on hck)
      have hns : nm.length ≤ 200 := hns
      have hns2 := hns
      have S0 : Hid (HwS w b (off + k * 11) [.string ⟨nm.toArray⟩, .int .i64 fr, .int .i64 tu, .int .i64 mo, .int .i64 kk, .int .i64 vv, .int .i64 dd, .int .i64 nn, .int .i64 cc, .int .i64 sv, .string ⟨lt.toArray⟩] wo) := Lib.hid ⟨r0, hbo, bstep B.out HB.out⟩
      clear r0 hck hbo
      have c0 : wo.cell? ⟨b, off + k * 11, none⟩ = some (.string ⟨nm.toArray⟩) := S0.out.r 0 _ rfl
      have c1 := S0.out.r 1 _ rfl
      have c2' := S0.out.r 2 _ rfl
      by_cases e1 : NM = nm
      · subst e1
        have HY : Hid (onG NM last L (k + 1) = onG NM last L k ++ onY k ⟨NM, fr, tu, mo, kk, vv, dd, nn, cc, sv, lt⟩ (yrN ⟨NM, fr, tu, mo, kk, vv, dd, nn, cc, sv, lt⟩ last)) := Lib.hid (by rw [HX.out, onR, if_pos rfl])
        have YN : Hid (yrN ⟨NM, fr, tu, mo, kk, vv, dd, nn, cc, sv, lt⟩ last = (min tu last + 1 - fr).toNat) := Lib.hid rfl
        clear HX
        by_cases hle : tu ≤ last
        · go_wp2_with fail
          go_loopw [13, 15] (fun nv yv wr => ∃ j : Nat, nv = .int .i64 ((G + (onY k ⟨NM, fr, tu, mo, kk, vv, dd, nn, cc, sv, lt⟩ j).length : Nat) : Int) ∧ yv = .int .i64 (fr + j) ∧ j ≤ (min tu last + 1 - fr).toNat ∧ Hid (HwS w b (off + k * 11) [.string ⟨NM.toArray⟩, .int .i64 fr, .int .i64 tu, .int .i64 mo, .int .i64 kk, .int .i64 vv, .int .i64 dd, .int .i64 nn, .int .i64 cc, .int .i64 sv, .string ⟨lt.toArray⟩] wr) ∧ Hid (Below w2.heap.size w2 wr)) (fun _ y _ => (10001 - intOf y).toNat)
          case atStart => exact ⟨0, rfl, by simp, Nat.zero_le _, S0, HB⟩
          case round =>
            obtain ⟨j, rfl, rfl, hj, HS, HB2⟩ := hrel
            obtain ⟨wi, rfl⟩ : ∃ wi : World, wi = wr := ⟨_, rfl⟩
            clear c0 c1 c2' S0 HB
            have c0 : wi.cell? ⟨b, off + k * 11, none⟩ = some (.string ⟨NM.toArray⟩) := HS.out.r 0 _ rfl
            have c2' := HS.out.r 2 _ rfl
            obtain ⟨J, hJ⟩ : ∃ J, (onY k ⟨NM, fr, tu, mo, kk, vv, dd, nn, cc, sv, lt⟩ j).length = J := ⟨_, rfl⟩
            have hJ9 : J ≤ 9999 := by have := onY_len k ⟨NM, fr, tu, mo, kk, vv, dd, nn, cc, sv, lt⟩ j; omega
            have HJ := Lib.hid hJ
            rw [hJ]
            clear hJ
            have hg9 := HGL.out
            by_cases hl2 : fr + (j : Int) ≤ min tu last
            · obtain ⟨y, hy⟩ : ∃ y, fr + (j : Int) = y := ⟨_, rfl⟩
              rw [hy] at hl2 ⊢
              have HY2 := Lib.hid hy
              have y1 : 1 ≤ y := by omega
              have y9 : y ≤ 9999 := by omega
              clear hy
              obtain ⟨D, hD⟩ : ∃ D, Wk.rsV y mo kk vv dd = D := ⟨_, rfl⟩
              obtain ⟨ok, hok⟩ : ∃ ok, decide (Wk.resE y mo kk vv dd = 0) = ok := ⟨_, rfl⟩
              have HD := Lib.hid (And.intro hD hok)
              have HJ2 : Hid ((onY k ⟨NM, fr, tu, mo, kk, vv, dd, nn, cc, sv, lt⟩ (j + 1)).length = J + (if ok = true then 1 else 0)) := Lib.hid (by
                rw [onY_succ, List.length_append, HJ.out, onO]
                show J + (if Wk.resE (fr + j) mo kk vv dd = 0 then _ else _ : List OV).length = _
                rw [HY2.out, ← hok]
                by_cases q : Wk.resE y mo kk vv dd = 0
                · rw [if_pos q, if_pos (decide_eq_true q)]; rfl
                · rw [if_neg q, if_neg (by rw [decide_eq_false q]; decide)]; rfl)
              have HJB : Hid (j + 1 ≤ (min tu last + 1 - fr).toNat) := Lib.hid (by have := HY2.out; omega)
              have HYB : Hid (1 ≤ y ∧ y ≤ 9999) := Lib.hid ⟨y1, y9⟩
              clear hD hok
              go_upto_region 24 with fail
              clear c0 c2'
              refine Hr.Walk.region (R := fun _ x => HwS w b (off + k * 11) [.string ⟨NM.toArray⟩, .int .i64 fr, .int .i64 tu, .int .i64 mo, .int .i64 kk, .int .i64 vv, .int .i64 dd, .int .i64 nn, .int .i64 cc, .int .i64 sv, .string ⟨lt.toArray⟩] x) (by kernel_rfl) ?_
              obtain ⟨w1, hw1⟩ : ∃ z, wi.drew = z := ⟨_, rfl⟩
              have S1 : Hid (HwS w b (off + k * 11) [.string ⟨NM.toArray⟩, .int .i64 fr, .int .i64 tu, .int .i64 mo, .int .i64 kk, .int .i64 vv, .int .i64 dd, .int .i64 nn, .int .i64 cc, .int .i64 sv, .string ⟨lt.toArray⟩] w1) := Lib.hid (by rw [← hw1]; exact HS.out.drew)
              have D1 : Hid (Below w2.heap.size w2 w1) := Lib.hid (by rw [← hw1]; exact below_drewN HB2.out 1)
              rw [hw1]
              clear hw1 HS HB2
              refine Hr.Walk.take (i := 0) (v := ?vu0) (fun x => HwS w b (off + k * 11) [.string ⟨NM.toArray⟩, .int .i64 fr, .int .i64 tu, .int .i64 mo, .int .i64 kk, .int .i64 vv, .int .i64 dd, .int .i64 nn, .int .i64 cc, .int .i64 sv, .string ⟨lt.toArray⟩] x) (fun _ => True) rfl (by kernel_rfl) (by kernel_rfl) (by kernel_rfl) (fun _ _ _ h => h) (fun _ _ _ _ _ _ => trivial) (fun _ _ _ h => h) (fun _ _ h => h) trivial (Or.inl ⟨by rfl, ?hyu0⟩) S1.out S1.out ?restu0
              case hyu0 => intro x hx; have e3 := hx.r 3 _ rfl; have e4 := hx.r 4 _ rfl; have e5 := hx.r 5 _ rfl; have e6 := hx.r 6 _ rfl; clear hx; go_simp; try with_reducible rfl
              (try go_simp)
              refine Hr.Walk.take (i := 1) (v := ?vu1) (fun x => HwS w b (off + k * 11) [.string ⟨NM.toArray⟩, .int .i64 fr, .int .i64 tu, .int .i64 mo, .int .i64 kk, .int .i64 vv, .int .i64 dd, .int .i64 nn, .int .i64 cc, .int .i64 sv, .string ⟨lt.toArray⟩] x) (fun _ => True) rfl (by kernel_rfl) (by kernel_rfl) (by kernel_rfl) (fun _ _ _ h => h) (fun _ _ _ _ _ _ => trivial) (fun _ _ _ h => h) (fun _ _ h => h) trivial (Or.inl ⟨by rfl, ?hyu1⟩) S1.out S1.out ?restu1
              case hyu1 => intro x hx; have e3 := hx.r 3 _ rfl; have e4 := hx.r 4 _ rfl; have e5 := hx.r 5 _ rfl; have e6 := hx.r 6 _ rfl; clear hx; go_simp; try with_reducible rfl
              (try go_simp)
              refine Hr.Walk.take (i := 2) (v := ?vu2) (fun x => HwS w b (off + k * 11) [.string ⟨NM.toArray⟩, .int .i64 fr, .int .i64 tu, .int .i64 mo, .int .i64 kk, .int .i64 vv, .int .i64 dd, .int .i64 nn, .int .i64 cc, .int .i64 sv, .string ⟨lt.toArray⟩] x) (fun _ => True) rfl (by kernel_rfl) (by kernel_rfl) (by kernel_rfl) (fun _ _ _ h => h) (fun _ _ _ _ _ _ => trivial) (fun _ _ _ h => h) (fun _ _ h => h) trivial (Or.inl ⟨by rfl, ?hyu2⟩) S1.out S1.out ?restu2
              case hyu2 => intro x hx; have e3 := hx.r 3 _ rfl; have e4 := hx.r 4 _ rfl; have e5 := hx.r 5 _ rfl; have e6 := hx.r 6 _ rfl; clear hx; go_simp; try with_reducible rfl
              (try go_simp)
              refine Hr.Walk.take (i := 3) (v := ?vu3) (fun x => HwS w b (off + k * 11) [.string ⟨NM.toArray⟩, .int .i64 fr, .int .i64 tu, .int .i64 mo, .int .i64 kk, .int .i64 vv, .int .i64 dd, .int .i64 nn, .int .i64 cc, .int .i64 sv, .string ⟨lt.toArray⟩] x) (fun _ => True) rfl (by kernel_rfl) (by kernel_rfl) (by kernel_rfl) (fun _ _ _ h => h) (fun _ _ _ _ _ _ => trivial) (fun _ _ _ h => h) (fun _ _ h => h) trivial (Or.inl ⟨by rfl, ?hyu3⟩) S1.out S1.out ?restu3
              case hyu3 => intro x hx; have e3 := hx.r 3 _ rfl; have e4 := hx.r 4 _ rfl; have e5 := hx.r 5 _ rfl; have e6 := hx.r 6 _ rfl; clear hx; go_simp; try with_reducible rfl
              (try go_simp)
              refine Hr.Walk.take (i := 4) (v := ?vu4) (fun x => HwS w b (off + k * 11) [.string ⟨NM.toArray⟩, .int .i64 fr, .int .i64 tu, .int .i64 mo, .int .i64 kk, .int .i64 vv, .int .i64 dd, .int .i64 nn, .int .i64 cc, .int .i64 sv, .string ⟨lt.toArray⟩] x) (fun _ => True) rfl (by kernel_rfl) (by kernel_rfl) (by kernel_rfl) (fun _ _ _ h => h) (fun _ _ _ _ _ _ => trivial) (fun _ _ _ h => h) (fun _ _ h => h) trivial (Or.inl ⟨by rfl, ?hyu4⟩) S1.out S1.out ?restu4
              case hyu4 => intro x hx; have e3 := hx.r 3 _ rfl; have e4 := hx.r 4 _ rfl; have e5 := hx.r 5 _ rfl; have e6 := hx.r 6 _ rfl; clear hx; go_simp; try with_reducible rfl
              (try go_simp)
              refine Hr.Walk.take (i := 5) (v := ?vu5) (fun x => HwS w b (off + k * 11) [.string ⟨NM.toArray⟩, .int .i64 fr, .int .i64 tu, .int .i64 mo, .int .i64 kk, .int .i64 vv, .int .i64 dd, .int .i64 nn, .int .i64 cc, .int .i64 sv, .string ⟨lt.toArray⟩] x) (fun _ => True) rfl (by kernel_rfl) (by kernel_rfl) (by kernel_rfl) (fun _ _ _ h => h) (fun _ _ _ _ _ _ => trivial) (fun _ _ _ h => h) (fun _ _ h => h) trivial (Or.inl ⟨by rfl, ?hyu5⟩) S1.out S1.out ?restu5
              case hyu5 => intro x hx; have e3 := hx.r 3 _ rfl; have e4 := hx.r 4 _ rfl; have e5 := hx.r 5 _ rfl; have e6 := hx.r 6 _ rfl; clear hx; go_simp; try with_reducible rfl
              (try go_simp)
              refine Hr.Walk.take (i := 6) (v := ?vu6) (fun x => HwS w b (off + k * 11) [.string ⟨NM.toArray⟩, .int .i64 fr, .int .i64 tu, .int .i64 mo, .int .i64 kk, .int .i64 vv, .int .i64 dd, .int .i64 nn, .int .i64 cc, .int .i64 sv, .string ⟨lt.toArray⟩] x) (fun _ => True) rfl (by kernel_rfl) (by kernel_rfl) (by kernel_rfl) (fun _ _ _ h => h) (fun _ _ _ _ _ _ => trivial) (fun _ _ _ h => h) (fun _ _ h => h) trivial (Or.inl ⟨by rfl, ?hyu6⟩) S1.out S1.out ?restu6
              case hyu6 => intro x hx; have e3 := hx.r 3 _ rfl; have e4 := hx.r 4 _ rfl; have e5 := hx.r 5 _ rfl; have e6 := hx.r 6 _ rfl; clear hx; go_simp; try with_reducible rfl
              (try go_simp)
              refine Hr.Walk.one (i := 7) (by kernel_rfl) rfl (fun K hK => ?_)
              have hx := S1.out; have e3 := hx.r 3 _ rfl; have e4 := hx.r 4 _ rfl; have e5 := hx.r 5 _ rfl; have e6 := hx.r 6 _ rfl; clear hx
              go_simp
              refine hK.out _ _ S1.out ?_
              clear hK K
              refine Hr.Walk.one (i := 8) (by kernel_rfl) rfl (fun K hK => ?_)
              have hx := S1.out; have e3 := hx.r 3 _ rfl; have e4 := hx.r 4 _ rfl; have e5 := hx.r 5 _ rfl; have e6 := hx.r 6 _ rfl; clear hx
              go_simp
              refine hK.out _ _ S1.out ?_
              clear hK K
              refine Hr.Walk.one (i := 9) (by kernel_rfl) rfl (fun K hK => ?_)
              have hx := S1.out; have e3 := hx.r 3 _ rfl; have e4 := hx.r 4 _ rfl; have e5 := hx.r 5 _ rfl; have e6 := hx.r 6 _ rfl; clear hx
              go_simp
              refine hK.out _ _ S1.out ?_
              clear hK K
              refine Hr.Walk.one (i := 10) (by kernel_rfl) rfl (fun K hK => ?_)
              have hx := S1.out; have e3 := hx.r 3 _ rfl; have e4 := hx.r 4 _ rfl; have e5 := hx.r 5 _ rfl; have e6 := hx.r 6 _ rfl; clear hx
              go_simp
              refine hK.out _ _ S1.out ?_
              clear hK K
              refine Hr.Walk.one (i := 11) (by kernel_rfl) rfl (fun K hK => ?_)
              go_simp
              refine (rres_to y mo kk vv dd D ok _ ON.out y1 y9 HD).mono ?_
              rintro e w5 ⟨rfl, k5⟩
              have D2 := Lib.hid (bstep D1.out k5)
              have S2 := Lib.hid (S1.out.below k5)
              clear k5
              go_simp
              refine hK.out _ _ S2.out ?_
              clear hK K
              refine Hr.Walk.one (i := 12) (by kernel_rfl) rfl (fun K hK => ?_)
              skip
              go_simp
              refine hK.out _ _ S2.out ?_
              clear hK K
              refine Hr.Walk.take (i := 13) (v := ?vu13) (fun x => HwS w b (off + k * 11) [.string ⟨NM.toArray⟩, .int .i64 fr, .int .i64 tu, .int .i64 mo, .int .i64 kk, .int .i64 vv, .int .i64 dd, .int .i64 nn, .int .i64 cc, .int .i64 sv, .string ⟨lt.toArray⟩] x) (fun _ => True) rfl (by kernel_rfl) (by kernel_rfl) (by kernel_rfl) (fun _ _ _ h => h) (fun _ _ _ _ _ _ => trivial) (fun _ _ _ h => h) (fun _ _ h => h) trivial (Or.inl ⟨by rfl, ?hyu13⟩) S2.out S2.out ?restu13
              case hyu13 => intro x hx; have e3 := hx.r 3 _ rfl; have e4 := hx.r 4 _ rfl; have e5 := hx.r 5 _ rfl; have e6 := hx.r 6 _ rfl; clear hx; go_simp; try with_reducible rfl
              (try go_simp)
              refine Hr.Walk.take (i := 14) (v := ?vu14) (fun x => HwS w b (off + k * 11) [.string ⟨NM.toArray⟩, .int .i64 fr, .int .i64 tu, .int .i64 mo, .int .i64 kk, .int .i64 vv, .int .i64 dd, .int .i64 nn, .int .i64 cc, .int .i64 sv, .string ⟨lt.toArray⟩] x) (fun _ => True) rfl (by kernel_rfl) (by kernel_rfl) (by kernel_rfl) (fun _ _ _ h => h) (fun _ _ _ _ _ _ => trivial) (fun _ _ _ h => h) (fun _ _ h => h) trivial (Or.inl ⟨by rfl, ?hyu14⟩) S2.out S2.out ?restu14
              case hyu14 => intro x hx; have e3 := hx.r 3 _ rfl; have e4 := hx.r 4 _ rfl; have e5 := hx.r 5 _ rfl; have e6 := hx.r 6 _ rfl; clear hx; go_simp; try with_reducible rfl
              (try go_simp)
              refine Hr.Walk.one (i := 15) (by kernel_rfl) rfl (fun K hK => ?_)
              skip
              go_simp
              refine hK.out _ _ S2.out ?_
              clear hK K
              refine Hr.Walk.one (i := 16) (by kernel_rfl) rfl (fun K hK => ?_)
              skip
              go_simp
              refine hK.out _ _ S2.out ?_
              clear hK K
              refine Hr.Walk.done (by kernel_rfl) ?_ _
              clear hj hl2 hle f1 f2 f3 f4 f5
              cases ok with
              | true =>
                have HJ3 : Hid ((onY k ⟨NM, fr, tu, mo, kk, vv, dd, nn, cc, sv, lt⟩ (j + 1)).length = J + 1) := HJ2
                go_wp2
                go_roundw
                case rel => exact ⟨j + 1, by rw [HJ3.out]; go_num, by have := HY2.out; go_num, HJB.out, S2, D2⟩
                case measure => simp [intOf]; have := HYB.out; have := HY2.out; omega
              | false =>
                have HJ3 : Hid ((onY k ⟨NM, fr, tu, mo, kk, vv, dd, nn, cc, sv, lt⟩ (j + 1)).length = J) := HJ2
                go_wp2
                go_roundw
                case rel => exact ⟨j + 1, by rw [HJ3.out]; first | rfl | (simp; done), by have := HY2.out; go_num, HJB.out, S2, D2⟩
                case measure => simp [intOf]; have := HYB.out; have := HY2.out; omega
            · have hje : j = (min tu last + 1 - fr).toNat := by omega
              have HGX : Hid ((onG NM last L (k + 1)).length = G + J) := Lib.hid (by rw [HY.out, YN.out, ← hje, List.length_append, HG.out, HJ.out])
              clear hje
              go_wp2
              go_roundw
              case rel => exact ⟨k + 1, by omega, by rw [HGX.out], by go_num, HB2⟩
              case measure => simp [intOf]; omega
        · go_wp2_with fail
          go_loopw [13, 15] (fun nv yv wr => ∃ j : Nat, nv = .int .i64 ((G + (onY k ⟨NM, fr, tu, mo, kk, vv, dd, nn, cc, sv, lt⟩ j).length : Nat) : Int) ∧ yv = .int .i64 (fr + j) ∧ j ≤ (min tu last + 1 - fr).toNat ∧ Hid (HwS w b (off + k * 11) [.string ⟨NM.toArray⟩, .int .i64 fr, .int .i64 tu, .int .i64 mo, .int .i64 kk, .int .i64 vv, .int .i64 dd, .int .i64 nn, .int .i64 cc, .int .i64 sv, .string ⟨lt.toArray⟩] wr) ∧ Hid (Below w2.heap.size w2 wr)) (fun _ y _ => (10001 - intOf y).toNat)
          case atStart => exact ⟨0, rfl, by simp, Nat.zero_le _, S0, HB⟩
          case round =>
            obtain ⟨j, rfl, rfl, hj, HS, HB2⟩ := hrel
            obtain ⟨wi, rfl⟩ : ∃ wi : World, wi = wr := ⟨_, rfl⟩
            clear c0 c1 c2' S0 HB
            have c0 : wi.cell? ⟨b, off + k * 11, none⟩ = some (.string ⟨NM.toArray⟩) := HS.out.r 0 _ rfl
            have c2' := HS.out.r 2 _ rfl
            obtain ⟨J, hJ⟩ : ∃ J, (onY k ⟨NM, fr, tu, mo, kk, vv, dd, nn, cc, sv, lt⟩ j).length = J := ⟨_, rfl⟩
            have hJ9 : J ≤ 9999 := by have := onY_len k ⟨NM, fr, tu, mo, kk, vv, dd, nn, cc, sv, lt⟩ j; omega
            have HJ := Lib.hid hJ
            rw [hJ]
            clear hJ
            have hg9 := HGL.out
            by_cases hl2 : fr + (j : Int) ≤ min tu last
            · obtain ⟨y, hy⟩ : ∃ y, fr + (j : Int) = y := ⟨_, rfl⟩
              rw [hy] at hl2 ⊢
              have HY2 := Lib.hid hy
              have y1 : 1 ≤ y := by omega
              have y9 : y ≤ 9999 := by omega
              clear hy
              obtain ⟨D, hD⟩ : ∃ D, Wk.rsV y mo kk vv dd = D := ⟨_, rfl⟩
              obtain ⟨ok, hok⟩ : ∃ ok, decide (Wk.resE y mo kk vv dd = 0) = ok := ⟨_, rfl⟩
              have HD := Lib.hid (And.intro hD hok)
              have HJ2 : Hid ((onY k ⟨NM, fr, tu, mo, kk, vv, dd, nn, cc, sv, lt⟩ (j + 1)).length = J + (if ok = true then 1 else 0)) := Lib.hid (by
                rw [onY_succ, List.length_append, HJ.out, onO]
                show J + (if Wk.resE (fr + j) mo kk vv dd = 0 then _ else _ : List OV).length = _
                rw [HY2.out, ← hok]
                by_cases q : Wk.resE y mo kk vv dd = 0
                · rw [if_pos q, if_pos (decide_eq_true q)]; rfl
                · rw [if_neg q, if_neg (by rw [decide_eq_false q]; decide)]; rfl)
              have HJB : Hid (j + 1 ≤ (min tu last + 1 - fr).toNat) := Lib.hid (by have := HY2.out; omega)
              have HYB : Hid (1 ≤ y ∧ y ≤ 9999) := Lib.hid ⟨y1, y9⟩
              clear hD hok
              go_upto_region 24 with fail
              clear c0 c2'
              refine Hr.Walk.region (R := fun _ x => HwS w b (off + k * 11) [.string ⟨NM.toArray⟩, .int .i64 fr, .int .i64 tu, .int .i64 mo, .int .i64 kk, .int .i64 vv, .int .i64 dd, .int .i64 nn, .int .i64 cc, .int .i64 sv, .string ⟨lt.toArray⟩] x) (by kernel_rfl) ?_
              obtain ⟨w1, hw1⟩ : ∃ z, wi.drew = z := ⟨_, rfl⟩
              have S1 : Hid (HwS w b (off + k * 11) [.string ⟨NM.toArray⟩, .int .i64 fr, .int .i64 tu, .int .i64 mo, .int .i64 kk, .int .i64 vv, .int .i64 dd, .int .i64 nn, .int .i64 cc, .int .i64 sv, .string ⟨lt.toArray⟩] w1) := Lib.hid (by rw [← hw1]; exact HS.out.drew)
              have D1 : Hid (Below w2.heap.size w2 w1) := Lib.hid (by rw [← hw1]; exact below_drewN HB2.out 1)
              rw [hw1]
              clear hw1 HS HB2
              refine Hr.Walk.take (i := 0) (v := ?vw0) (fun x => HwS w b (off + k * 11) [.string ⟨NM.toArray⟩, .int .i64 fr, .int .i64 tu, .int .i64 mo, .int .i64 kk, .int .i64 vv, .int .i64 dd, .int .i64 nn, .int .i64 cc, .int .i64 sv, .string ⟨lt.toArray⟩] x) (fun _ => True) rfl (by kernel_rfl) (by kernel_rfl) (by kernel_rfl) (fun _ _ _ h => h) (fun _ _ _ _ _ _ => trivial) (fun _ _ _ h => h) (fun _ _ h => h) trivial (Or.inl ⟨by rfl, ?hyw0⟩) S1.out S1.out ?restw0
              case hyw0 => intro x hx; have e3 := hx.r 3 _ rfl; have e4 := hx.r 4 _ rfl; have e5 := hx.r 5 _ rfl; have e6 := hx.r 6 _ rfl; clear hx; go_simp; try with_reducible rfl
              (try go_simp)
              refine Hr.Walk.take (i := 1) (v := ?vw1) (fun x => HwS w b (off + k * 11) [.string ⟨NM.toArray⟩, .int .i64 fr, .int .i64 tu, .int .i64 mo, .int .i64 kk, .int .i64 vv, .int .i64 dd, .int .i64 nn, .int .i64 cc, .int .i64 sv, .string ⟨lt.toArray⟩] x) (fun _ => True) rfl (by kernel_rfl) (by kernel_rfl) (by kernel_rfl) (fun _ _ _ h => h) (fun _ _ _ _ _ _ => trivial) (fun _ _ _ h => h) (fun _ _ h => h) trivial (Or.inl ⟨by rfl, ?hyw1⟩) S1.out S1.out ?restw1
              case hyw1 => intro x hx; have e3 := hx.r 3 _ rfl; have e4 := hx.r 4 _ rfl; have e5 := hx.r 5 _ rfl; have e6 := hx.r 6 _ rfl; clear hx; go_simp; try with_reducible rfl
              (try go_simp)
              refine Hr.Walk.take (i := 2) (v := ?vw2) (fun x => HwS w b (off + k * 11) [.string ⟨NM.toArray⟩, .int .i64 fr, .int .i64 tu, .int .i64 mo, .int .i64 kk, .int .i64 vv, .int .i64 dd, .int .i64 nn, .int .i64 cc, .int .i64 sv, .string ⟨lt.toArray⟩] x) (fun _ => True) rfl (by kernel_rfl) (by kernel_rfl) (by kernel_rfl) (fun _ _ _ h => h) (fun _ _ _ _ _ _ => trivial) (fun _ _ _ h => h) (fun _ _ h => h) trivial (Or.inl ⟨by rfl, ?hyw2⟩) S1.out S1.out ?restw2
              case hyw2 => intro x hx; have e3 := hx.r 3 _ rfl; have e4 := hx.r 4 _ rfl; have e5 := hx.r 5 _ rfl; have e6 := hx.r 6 _ rfl; clear hx; go_simp; try with_reducible rfl
              (try go_simp)
              refine Hr.Walk.take (i := 3) (v := ?vw3) (fun x => HwS w b (off + k * 11) [.string ⟨NM.toArray⟩, .int .i64 fr, .int .i64 tu, .int .i64 mo, .int .i64 kk, .int .i64 vv, .int .i64 dd, .int .i64 nn, .int .i64 cc, .int .i64 sv, .string ⟨lt.toArray⟩] x) (fun _ => True) rfl (by kernel_rfl) (by kernel_rfl) (by kernel_rfl) (fun _ _ _ h => h) (fun _ _ _ _ _ _ => trivial) (fun _ _ _ h => h) (fun _ _ h => h) trivial (Or.inl ⟨by rfl, ?hyw3⟩) S1.out S1.out ?restw3
              case hyw3 => intro x hx; have e3 := hx.r 3 _ rfl; have e4 := hx.r 4 _ rfl; have e5 := hx.r 5 _ rfl; have e6 := hx.r 6 _ rfl; clear hx; go_simp; try with_reducible rfl
              (try go_simp)
              refine Hr.Walk.take (i := 4) (v := ?vw4) (fun x => HwS w b (off + k * 11) [.string ⟨NM.toArray⟩, .int .i64 fr, .int .i64 tu, .int .i64 mo, .int .i64 kk, .int .i64 vv, .int .i64 dd, .int .i64 nn, .int .i64 cc, .int .i64 sv, .string ⟨lt.toArray⟩] x) (fun _ => True) rfl (by kernel_rfl) (by kernel_rfl) (by kernel_rfl) (fun _ _ _ h => h) (fun _ _ _ _ _ _ => trivial) (fun _ _ _ h => h) (fun _ _ h => h) trivial (Or.inl ⟨by rfl, ?hyw4⟩) S1.out S1.out ?restw4
              case hyw4 => intro x hx; have e3 := hx.r 3 _ rfl; have e4 := hx.r 4 _ rfl; have e5 := hx.r 5 _ rfl; have e6 := hx.r 6 _ rfl; clear hx; go_simp; try with_reducible rfl
              (try go_simp)
              refine Hr.Walk.take (i := 5) (v := ?vw5) (fun x => HwS w b (off + k * 11) [.string ⟨NM.toArray⟩, .int .i64 fr, .int .i64 tu, .int .i64 mo, .int .i64 kk, .int .i64 vv, .int .i64 dd, .int .i64 nn, .int .i64 cc, .int .i64 sv, .string ⟨lt.toArray⟩] x) (fun _ => True) rfl (by kernel_rfl) (by kernel_rfl) (by kernel_rfl) (fun _ _ _ h => h) (fun _ _ _ _ _ _ => trivial) (fun _ _ _ h => h) (fun _ _ h => h) trivial (Or.inl ⟨by rfl, ?hyw5⟩) S1.out S1.out ?restw5
              case hyw5 => intro x hx; have e3 := hx.r 3 _ rfl; have e4 := hx.r 4 _ rfl; have e5 := hx.r 5 _ rfl; have e6 := hx.r 6 _ rfl; clear hx; go_simp; try with_reducible rfl
              (try go_simp)
              refine Hr.Walk.take (i := 6) (v := ?vw6) (fun x => HwS w b (off + k * 11) [.string ⟨NM.toArray⟩, .int .i64 fr, .int .i64 tu, .int .i64 mo, .int .i64 kk, .int .i64 vv, .int .i64 dd, .int .i64 nn, .int .i64 cc, .int .i64 sv, .string ⟨lt.toArray⟩] x) (fun _ => True) rfl (by kernel_rfl) (by kernel_rfl) (by kernel_rfl) (fun _ _ _ h => h) (fun _ _ _ _ _ _ => trivial) (fun _ _ _ h => h) (fun _ _ h => h) trivial (Or.inl ⟨by rfl, ?hyw6⟩) S1.out S1.out ?restw6
              case hyw6 => intro x hx; have e3 := hx.r 3 _ rfl; have e4 := hx.r 4 _ rfl; have e5 := hx.r 5 _ rfl; have e6 := hx.r 6 _ rfl; clear hx; go_simp; try with_reducible rfl
              (try go_simp)
              refine Hr.Walk.one (i := 7) (by kernel_rfl) rfl (fun K hK => ?_)
              have hx := S1.out; have e3 := hx.r 3 _ rfl; have e4 := hx.r 4 _ rfl; have e5 := hx.r 5 _ rfl; have e6 := hx.r 6 _ rfl; clear hx
              go_simp
              refine hK.out _ _ S1.out ?_
              clear hK K
              refine Hr.Walk.one (i := 8) (by kernel_rfl) rfl (fun K hK => ?_)
              have hx := S1.out; have e3 := hx.r 3 _ rfl; have e4 := hx.r 4 _ rfl; have e5 := hx.r 5 _ rfl; have e6 := hx.r 6 _ rfl; clear hx
              go_simp
              refine hK.out _ _ S1.out ?_
              clear hK K
              refine Hr.Walk.one (i := 9) (by kernel_rfl) rfl (fun K hK => ?_)
              have hx := S1.out; have e3 := hx.r 3 _ rfl; have e4 := hx.r 4 _ rfl; have e5 := hx.r 5 _ rfl; have e6 := hx.r 6 _ rfl; clear hx
              go_simp
              refine hK.out _ _ S1.out ?_
              clear hK K
              refine Hr.Walk.one (i := 10) (by kernel_rfl) rfl (fun K hK => ?_)
              have hx := S1.out; have e3 := hx.r 3 _ rfl; have e4 := hx.r 4 _ rfl; have e5 := hx.r 5 _ rfl; have e6 := hx.r 6 _ rfl; clear hx
              go_simp
              refine hK.out _ _ S1.out ?_
              clear hK K
              refine Hr.Walk.one (i := 11) (by kernel_rfl) rfl (fun K hK => ?_)
              go_simp
              refine (rres_to y mo kk vv dd D ok _ ON.out y1 y9 HD).mono ?_
              rintro e w5 ⟨rfl, k5⟩
              have D2 := Lib.hid (bstep D1.out k5)
              have S2 := Lib.hid (S1.out.below k5)
              clear k5
              go_simp
              refine hK.out _ _ S2.out ?_
              clear hK K
              refine Hr.Walk.one (i := 12) (by kernel_rfl) rfl (fun K hK => ?_)
              skip
              go_simp
              refine hK.out _ _ S2.out ?_
              clear hK K
              refine Hr.Walk.take (i := 13) (v := ?vw13) (fun x => HwS w b (off + k * 11) [.string ⟨NM.toArray⟩, .int .i64 fr, .int .i64 tu, .int .i64 mo, .int .i64 kk, .int .i64 vv, .int .i64 dd, .int .i64 nn, .int .i64 cc, .int .i64 sv, .string ⟨lt.toArray⟩] x) (fun _ => True) rfl (by kernel_rfl) (by kernel_rfl) (by kernel_rfl) (fun _ _ _ h => h) (fun _ _ _ _ _ _ => trivial) (fun _ _ _ h => h) (fun _ _ h => h) trivial (Or.inl ⟨by rfl, ?hyw13⟩) S2.out S2.out ?restw13
              case hyw13 => intro x hx; have e3 := hx.r 3 _ rfl; have e4 := hx.r 4 _ rfl; have e5 := hx.r 5 _ rfl; have e6 := hx.r 6 _ rfl; clear hx; go_simp; try with_reducible rfl
              (try go_simp)
              refine Hr.Walk.take (i := 14) (v := ?vw14) (fun x => HwS w b (off + k * 11) [.string ⟨NM.toArray⟩, .int .i64 fr, .int .i64 tu, .int .i64 mo, .int .i64 kk, .int .i64 vv, .int .i64 dd, .int .i64 nn, .int .i64 cc, .int .i64 sv, .string ⟨lt.toArray⟩] x) (fun _ => True) rfl (by kernel_rfl) (by kernel_rfl) (by kernel_rfl) (fun _ _ _ h => h) (fun _ _ _ _ _ _ => trivial) (fun _ _ _ h => h) (fun _ _ h => h) trivial (Or.inl ⟨by rfl, ?hyw14⟩) S2.out S2.out ?restw14
              case hyw14 => intro x hx; have e3 := hx.r 3 _ rfl; have e4 := hx.r 4 _ rfl; have e5 := hx.r 5 _ rfl; have e6 := hx.r 6 _ rfl; clear hx; go_simp; try with_reducible rfl
              (try go_simp)
              refine Hr.Walk.one (i := 15) (by kernel_rfl) rfl (fun K hK => ?_)
              skip
              go_simp
              refine hK.out _ _ S2.out ?_
              clear hK K
              refine Hr.Walk.one (i := 16) (by kernel_rfl) rfl (fun K hK => ?_)
              skip
              go_simp
              refine hK.out _ _ S2.out ?_
              clear hK K
              refine Hr.Walk.done (by kernel_rfl) ?_ _
              clear hj hl2 hle f1 f2 f3 f4 f5
              cases ok with
              | true =>
                have HJ3 : Hid ((onY k ⟨NM, fr, tu, mo, kk, vv, dd, nn, cc, sv, lt⟩ (j + 1)).length = J + 1) := HJ2
                go_wp2
                go_roundw
                case rel => exact ⟨j + 1, by rw [HJ3.out]; go_num, by have := HY2.out; go_num, HJB.out, S2, D2⟩
                case measure => simp [intOf]; have := HYB.out; have := HY2.out; omega
              | false =>
                have HJ3 : Hid ((onY k ⟨NM, fr, tu, mo, kk, vv, dd, nn, cc, sv, lt⟩ (j + 1)).length = J) := HJ2
                go_wp2
                go_roundw
                case rel => exact ⟨j + 1, by rw [HJ3.out]; first | rfl | (simp; done), by have := HY2.out; go_num, HJB.out, S2, D2⟩
                case measure => simp [intOf]; have := HYB.out; have := HY2.out; omega
            · have hje : j = (min tu last + 1 - fr).toNat := by omega
              have HGX : Hid ((onG NM last L (k + 1)).length = G + J) := Lib.hid (by rw [HY.out, YN.out, ← hje, List.length_append, HG.out, HJ.out])
              clear hje
              go_wp2
              go_roundw
              case rel => exact ⟨k + 1, by omega, by rw [HGX.out], by go_num, HB2⟩
              case measure => simp [intOf]; omega
      · have HGX : Hid ((onG NM last L (k + 1)).length = G) := Lib.hid (by rw [HX.out, onR_no (fun q => e1 q.symm), List.append_nil, HG.out])
        have e1' : ¬ nm = NM := fun q => e1 q.symm
        have e2' : (nm == NM) = false := beq_eq_false_iff_ne.2 e1'
        clear HX
        go_wp2_with fail
        go_loopw [13, 15] (fun nv yv wr => nv = .int .i64 (G : Int) ∧ yv = .int .i64 fr ∧ wr = wo) (fun _ _ _ => 0)
        case atStart => exact ⟨rfl, rfl, rfl⟩
        case round =>
          obtain ⟨rfl, rfl, rfl⟩ := hrel
          go_wp2
          go_roundw
          case rel => exact ⟨k + 1, by omega, by rw [HGX.out], by go_num, HB⟩
          case measure => simp [intOf]; omega
    · have hke : k = L.length := by have := HN.out; omega
      have HGN : Hid ((G : Int) = (KN : Int)) := Lib.hid (by rw [← KL.out, ← HG.out, hke])
      have q1 : ((G : Int) == (KN : Int)) = true := beq_iff_eq.2 HGN.out
      have B3 := Lib.hid (bstep B.out HB.out)
      clear hke HB
      go_wp2_with fail
      refine (wakes13_any _ (HA.out.stays B3.out)).mono ?_
      rintro e w7 ⟨rfl, k7⟩
      have B7 := Lib.hid (bstep B3.out k7)
      clear k7
      go_wp2
      go_ret
      exact ⟨rfl, B7.out⟩

end Ons
end Go.Proofs.YthefgagmjamdkaaDoor
