/-
  Contracts of the reference's calls on the calendar, third part: Date, YearDay.
-/
import Derived.Test.YtklanblifjgppaaDoorRefCiv2
namespace Go.Proofs.YtklanblifjgppaaDoor
open Go.RowKit
namespace Civ
theorem below_block {w : World} {o : Obj} {wr : World} (h : Below (w.alloc o).heap.size (w.alloc o) wr) : Below w.heap.size w wr :=
  ((Below.refl _ _).alloc (Nat.le_refl _) o).trans (h.mono (by simp))
theorem guess366 {n : Int} (h0 : -719528 ≤ n) : 0 ≤ (n + 719528) / 366 ∧ Cal.ny ((n + 719528) / 366) ≤ n := by
  have k : 366 * ((n + 719528) / 366) ≤ n + 719528 := by omega
  have k0 : 0 ≤ (n + 719528) / 366 := by omega
  generalize (n + 719528) / 366 = g at *
  unfold Cal.ny; omega
/-- What holds at the head of the walk over the months: the month reached, and either the first of it with what is left, or the day. -/
def RD (y r : Int) (m dd l : Int) : Prop := (dd = 1 ∧ l = r - Cal.cum y m ∧ 0 ≤ l ∧ 1 ≤ m ∧ m ≤ 12 ∧ m ≤ Cal.mon y r) ∨ (l = 0 ∧ m = Cal.mon y r ∧ dd = r - Cal.cum y m + 1)
theorem rd_next {y r m dd l : Int} (r0 : 0 ≤ r) (r1 : r < 365 + Cal.lp y) (h : RD y r m dd l) (hl : 0 < l) (hc : Cal.mlen y m ≤ l) : RD y r (m + 1) dd (l - Cal.mlen y m) ∧ m ≤ 11 := by
  rcases h with ⟨e1, e2, e3, e4, e5, e6⟩ | ⟨e1, _⟩
  · obtain ⟨s1, s2, s3, s4⟩ := Cal.mon_spec (y := y) (r := r) r0 r1
    have hlt : m < Cal.mon y r := by
      rcases Int.lt_or_le m (Cal.mon y r) with k | k
      · exact k
      · have e : m = Cal.mon y r := by omega
        rw [← e] at s4; omega
    have hs := Cal.cum_succ (y := y) (m := m) e4 (by omega)
    exact ⟨Or.inl ⟨e1, by omega, by omega, by omega, by omega, by omega⟩, by omega⟩
  · omega
theorem rd_last {y r m dd l : Int} (h : RD y r m dd l) (hl : 0 < l) (hc : ¬ Cal.mlen y m ≤ l) : RD y r m (l + 1) 0 := by
  rcases h with ⟨e1, e2, e3, e4, e5, e6⟩ | ⟨e1, _⟩
  · have hm : Cal.mon y r = m := Cal.mon_of e4 e5 (by omega) (by omega)
    exact Or.inr ⟨rfl, hm.symm, by omega⟩
  · omega
theorem rd_end {y r m dd l : Int} (h : RD y r m dd l) (hl : ¬ 0 < l) : m = Cal.mon y r ∧ dd = r - Cal.cum y (Cal.mon y r) + 1 := by
  rcases h with ⟨e1, e2, e3, e4, e5, e6⟩ | ⟨e1, e2, e3⟩
  · have l28 := Cal.mlen_28 (y := y) e4 e5
    have hm : Cal.mon y r = m := Cal.mon_of e4 e5 (by omega) (by omega)
    exact ⟨hm.symm, by rw [hm]; omega⟩
  · exact ⟨e2, by rw [e3, e2]⟩
theorem rd_bd {y r m dd l : Int} (r0 : 0 ≤ r) (r1 : r < 365 + Cal.lp y) (h : RD y r m dd l) : 0 ≤ l ∧ l ≤ 366 ∧ 1 ≤ m ∧ m ≤ 12 := by
  have lp := Cal.lp_01 y
  obtain ⟨s1, s2, s3, s4⟩ := Cal.mon_spec (y := y) (r := r) r0 r1
  rcases h with ⟨e1, e2, e3, e4, e5, e6⟩ | ⟨e1, e2, e3⟩
  · have c := Cal.cum_bd (y := y) e4 e5
    exact ⟨e3, by omega, e4, e5⟩
  · omega
theorem rd_start {y r : Int} (r0 : 0 ≤ r) (r1 : r < 365 + Cal.lp y) : RD y r 1 1 r := by
  obtain ⟨s1, s2, s3, s4⟩ := Cal.mon_spec (y := y) (r := r) r0 r1
  exact Or.inl ⟨rfl, by rw [Cal.cum_1]; omega, r0, by omega, by omega, s1⟩
/-- The cells of a date that may be written. -/
def DC (a : Nat) (y m d : Int) (w : World) : Prop := w.cell? ⟨a, 0, none⟩ = some (.int .i64 y) ∧ w.cell? ⟨a, 1, none⟩ = some (.int .i64 m) ∧ w.cell? ⟨a, 2, none⟩ = some (.int .i64 d) ∧
  w.frozen? ⟨a, 0, none⟩ = false ∧ w.frozen? ⟨a, 1, none⟩ = false ∧ w.frozen? ⟨a, 2, none⟩ = false ∧ a < w.heap.size

set_option maxHeartbeats 3200000 in
theorem rdate_any (n : Int) (w : World) (h0 : -719528 ≤ n) (h1 : n ≤ 2933262) :
    Calls Tryd.prog 16 #[.int .i64 n] w fun e w' => e = .returned (.agg #[.int .i64 (dY n), .int .i64 (dM n), .int .i64 (dD n)]) ∧ Below w.heap.size w w' := by
  have K := Lib.hid (dd_yes (n := n) ⟨h0, h1⟩)
  obtain ⟨s1, s2, s3, s4⟩ := Cal.yr_spec h0 h1
  have HU := Lib.hid (fun y => Cal.yr_le (y := y) h0 h1)
  obtain ⟨g0, g1⟩ := guess366 h0
  have g2 := HU.out _ g1
  have ns := Cal.ny_succ (Cal.yr n)
  obtain ⟨Y, hY⟩ : ∃ y, y = Cal.yr n := ⟨_, rfl⟩
  rw [← hY] at K HU s1 s2 s3 s4 g2 ns
  have HI := Lib.hid (fun y (a : n < Cal.ny (y + 1)) (b : y ≤ Y) => show y = Y from Int.le_antisymm b (by
    rcases Int.lt_or_le y Y with k | k
    · have := Cal.ny_mono (a := y + 1) (b := Y) (by omega); omega
    · exact k))
  obtain ⟨n1, n2⟩ := Cal.ny_bd (y := Y) s3 (by omega)
  have lp := Cal.lp_01 Y
  have N1 := Lib.hid (fun y => show Cal.num y 1 1 = Cal.ny y by unfold Cal.num; rw [Cal.cum_1]; omega)
  have r0 : 0 ≤ n - Cal.ny Y := by omega
  have r1 : n - Cal.ny Y < 365 + Cal.lp Y := by omega
  have HN := Lib.hid ns
  clear ns hY g1
  go_enter Tryd.func16, Tryd.ntmps16
  go_wp2
  go_loopw [3] (fun t wr => ∃ y : Int, 0 ≤ y ∧ y ≤ Y ∧ t = .int .i64 y ∧ Below (w.alloc (Obj.cells #[.int .i64 0, .int .i64 0, .int .i64 0] 47)).heap.size (w.alloc (Obj.cells #[.int .i64 0, .int .i64 0, .int .i64 0] 47)) wr) (fun t _ => (10000 - intOf t).toNat)
  case atStart => exact ⟨_, g0, g2, rfl, Below.refl _ _⟩
  case round =>
    obtain ⟨y, y0, y1, rfl, hbr⟩ := hrel
    obtain ⟨hc, hf⟩ := bcell hbr
    have hz : w.heap.size < wr.heap.size := by have := hbr.size; simp at this; omega
    obtain ⟨b1, b2⟩ := Cal.ny_bd (y := y + 1) (by omega) (by omega)
    by_cases hy : y < 10000
    · by_cases hn : Cal.ny (y + 1) ≤ n
      · have k := HU.out _ hn
        go_wp2_with fail
        refine (rnum_any _ _ _ _ (by omega) (by omega) (by omega) (by omega) (by omega) (by omega)).mono ?_
        rintro e w1 ⟨rfl, hb1⟩
        rw [N1.out]
        go_wp2
        go_roundw
        case rel => exact ⟨y + 1, by omega, k, rfl, hbr.trans (hb1.mono hbr.size)⟩
        case measure => simp [intOf]; omega
      · have hY := HI.out y (by omega) y1
        subst hY
        go_wp2_with fail
        refine (rnum_any _ _ _ _ (by omega) (by omega) (by omega) (by omega) (by omega) (by omega)).mono ?_
        rintro e w1 ⟨rfl, hb1⟩
        rw [N1.out]
        have hbx := hbr.trans (hb1.mono hbr.size)
        have hzx : w.heap.size < w1.heap.size := by have := hbx.size; simp at this; omega
        clear hb1 hbr hz
        have hz := hzx
        clear hc hf
        go_wp2_with fail
        refine (rnum_any _ _ _ _ (by omega) (by omega) (by omega) (by omega) (by omega) (by omega)).mono ?_
        rintro e w2 ⟨rfl, hb2⟩
        rw [N1.out]
        have D0 : DC w1.heap.size y 1 1 w2 := ⟨(hb2.cell (p := ⟨w1.heap.size, 0, none⟩) (by simp)).trans (by go_simp), (hb2.cell (p := ⟨w1.heap.size, 1, none⟩) (by simp)).trans (by go_simp), (hb2.cell (p := ⟨w1.heap.size, 2, none⟩) (by simp)).trans (by go_simp), (hb2.frozen (p := ⟨w1.heap.size, 0, none⟩) (by simp)).trans (by go_simp), (hb2.frozen (p := ⟨w1.heap.size, 1, none⟩) (by simp)).trans (by go_simp), (hb2.frozen (p := ⟨w1.heap.size, 2, none⟩) (by simp)).trans (by go_simp), by have := hb2.size; simp at this; omega⟩
        have hbz := (hbx.alloc hbx.size _).trans (hb2.mono (by have := hbx.size; simp at this; simp; omega))
        clear hb2 hbx
        go_wp2_with fail
        go_loopw [5] (fun t wq => ∃ m dd l : Int, t = .int .i64 l ∧ Hid (RD y (n - Cal.ny y) m dd l) ∧ DC w1.heap.size y m dd wq ∧ Below (w.alloc (Obj.cells #[.int .i64 0, .int .i64 0, .int .i64 0] 47)).heap.size (w.alloc (Obj.cells #[.int .i64 0, .int .i64 0, .int .i64 0] 47)) wq) (fun t _ => (intOf t).toNat)
        case atStart => exact ⟨1, 1, _, rfl, Lib.hid (rd_start r0 r1), D0, hbz⟩
        case round =>
          clear D0 hbz
          obtain ⟨m, dd, l, rfl, HR, ⟨d0, d1, d2, f0, f1, f2, dz⟩, hbq⟩ := hrel
          obtain ⟨l0, l1, m0, m1⟩ := rd_bd r0 r1 HR.out
          have mb := Cal.mlen_bd y m
          have m28 := Cal.mlen_28 (y := y) m0 m1
          by_cases hl : 0 < l
          · by_cases hm : Cal.mlen y m ≤ l
            · have HX := Lib.hid (rd_next r0 r1 HR.out hl hm)
              go_wp2_with fail
              refine (rlen_any _ _ _ (by omega) (by omega)).mono ?_
              rintro e w4 ⟨rfl, q, rfl⟩
              go_wp2
              go_roundw
              case rel => exact ⟨m + 1, dd, _, rfl, Lib.hid HX.out.1, ⟨by go_simp, by go_simp, by go_simp, by go_simp, by go_simp, by go_simp, by simp; omega⟩, by repeat (first | exact hbq | refine Below.setCell ?_ (by have := hz; simp; omega) _ | refine below_drewN ?_ _)⟩
              case measure => simp [intOf]; omega
            · have HX := Lib.hid (rd_last HR.out hl hm)
              go_wp2_with fail
              refine (rlen_any _ _ _ (by omega) (by omega)).mono ?_
              rintro e w4 ⟨rfl, q, rfl⟩
              go_wp2
              go_roundw
              case rel => exact ⟨m, l + 1, 0, rfl, HX, ⟨by go_simp, by go_simp, by go_simp, by go_simp, by go_simp, by go_simp, by simp; omega⟩, by repeat (first | exact hbq | refine Below.setCell ?_ (by have := hz; simp; omega) _ | refine below_drewN ?_ _)⟩
              case measure => simp [intOf]; omega
          · have HX := Lib.hid (rd_end HR.out hl)
            have c0 : wr.cell? ⟨w.heap.size, 0, none⟩ = some (.int .i64 0) := (hbq.cell (p := ⟨w.heap.size, 0, none⟩) (by simp)).trans (by simp [World.cell?_alloc_new])
            have c1 : wr.cell? ⟨w.heap.size, 1, none⟩ = some (.int .i64 0) := (hbq.cell (p := ⟨w.heap.size, 1, none⟩) (by simp)).trans (by simp [World.cell?_alloc_new])
            have c2 : wr.cell? ⟨w.heap.size, 2, none⟩ = some (.int .i64 0) := (hbq.cell (p := ⟨w.heap.size, 2, none⟩) (by simp)).trans (by simp [World.cell?_alloc_new])
            have e0 : wr.frozen? ⟨w.heap.size, 0, none⟩ = false := (hbq.frozen (p := ⟨w.heap.size, 0, none⟩) (by simp)).trans (by go_simp)
            have e1 : wr.frozen? ⟨w.heap.size, 1, none⟩ = false := (hbq.frozen (p := ⟨w.heap.size, 1, none⟩) (by simp)).trans (by go_simp)
            have e2 : wr.frozen? ⟨w.heap.size, 2, none⟩ = false := (hbq.frozen (p := ⟨w.heap.size, 2, none⟩) (by simp)).trans (by go_simp)

            have hzq := hbq.size
            simp at hzq
            go_wp2
            refine bodyPost_ret (v := .agg #[.int .i64 y, .int .i64 m, .int .i64 dd]) (by simp [results, Tryd.results16, go_sem, c0, c1, c2]) rfl ⟨by rw [K.out.1, K.out.2.1, K.out.2.2, HX.out.1, HX.out.2], ?_⟩
            exact (((below_block hbq).setCell (by simp) _).setCell (by simp) _).setCell (by simp) _
    · have hY : y = Y := by omega
      subst hY
      have hbx := hbr
      clear hbr
      clear hc hf
      go_wp2_with fail
      refine (rnum_any _ _ _ _ (by omega) (by omega) (by omega) (by omega) (by omega) (by omega)).mono ?_
      rintro e w2 ⟨rfl, hb2⟩
      rw [N1.out]
      have D0 : DC wr.heap.size y 1 1 w2 := ⟨(hb2.cell (p := ⟨wr.heap.size, 0, none⟩) (by simp)).trans (by go_simp), (hb2.cell (p := ⟨wr.heap.size, 1, none⟩) (by simp)).trans (by go_simp), (hb2.cell (p := ⟨wr.heap.size, 2, none⟩) (by simp)).trans (by go_simp), (hb2.frozen (p := ⟨wr.heap.size, 0, none⟩) (by simp)).trans (by go_simp), (hb2.frozen (p := ⟨wr.heap.size, 1, none⟩) (by simp)).trans (by go_simp), (hb2.frozen (p := ⟨wr.heap.size, 2, none⟩) (by simp)).trans (by go_simp), by have := hb2.size; simp at this; omega⟩
      have hbz := (hbx.alloc hbx.size _).trans (hb2.mono (by have := hbx.size; simp at this; simp; omega))
      clear hb2 hbx
      go_wp2_with fail
      go_loopw [5] (fun t wq => ∃ m dd l : Int, t = .int .i64 l ∧ Hid (RD y (n - Cal.ny y) m dd l) ∧ DC wr.heap.size y m dd wq ∧ Below (w.alloc (Obj.cells #[.int .i64 0, .int .i64 0, .int .i64 0] 47)).heap.size (w.alloc (Obj.cells #[.int .i64 0, .int .i64 0, .int .i64 0] 47)) wq) (fun t _ => (intOf t).toNat)
      case atStart => exact ⟨1, 1, _, rfl, Lib.hid (rd_start r0 r1), D0, hbz⟩
      case round =>
        clear D0 hbz
        obtain ⟨m, dd, l, rfl, HR, ⟨d0, d1, d2, f0, f1, f2, dz⟩, hbq⟩ := hrel
        obtain ⟨l0, l1, m0, m1⟩ := rd_bd r0 r1 HR.out
        have mb := Cal.mlen_bd y m
        have m28 := Cal.mlen_28 (y := y) m0 m1
        by_cases hl : 0 < l
        · by_cases hm : Cal.mlen y m ≤ l
          · have HX := Lib.hid (rd_next r0 r1 HR.out hl hm)
            go_wp2_with fail
            refine (rlen_any _ _ _ (by omega) (by omega)).mono ?_
            rintro e w4 ⟨rfl, q, rfl⟩
            go_wp2
            go_roundw
            case rel => exact ⟨m + 1, dd, _, rfl, Lib.hid HX.out.1, ⟨by go_simp, by go_simp, by go_simp, by go_simp, by go_simp, by go_simp, by simp; omega⟩, by repeat (first | exact hbq | refine Below.setCell ?_ (by have := hz; simp; omega) _ | refine below_drewN ?_ _)⟩
            case measure => simp [intOf]; omega
          · have HX := Lib.hid (rd_last HR.out hl hm)
            go_wp2_with fail
            refine (rlen_any _ _ _ (by omega) (by omega)).mono ?_
            rintro e w4 ⟨rfl, q, rfl⟩
            go_wp2
            go_roundw
            case rel => exact ⟨m, l + 1, 0, rfl, HX, ⟨by go_simp, by go_simp, by go_simp, by go_simp, by go_simp, by go_simp, by simp; omega⟩, by repeat (first | exact hbq | refine Below.setCell ?_ (by have := hz; simp; omega) _ | refine below_drewN ?_ _)⟩
            case measure => simp [intOf]; omega
        · have HX := Lib.hid (rd_end HR.out hl)
          have c0 : wr.cell? ⟨w.heap.size, 0, none⟩ = some (.int .i64 0) := (hbq.cell (p := ⟨w.heap.size, 0, none⟩) (by simp)).trans (by simp [World.cell?_alloc_new])
          have c1 : wr.cell? ⟨w.heap.size, 1, none⟩ = some (.int .i64 0) := (hbq.cell (p := ⟨w.heap.size, 1, none⟩) (by simp)).trans (by simp [World.cell?_alloc_new])
          have c2 : wr.cell? ⟨w.heap.size, 2, none⟩ = some (.int .i64 0) := (hbq.cell (p := ⟨w.heap.size, 2, none⟩) (by simp)).trans (by simp [World.cell?_alloc_new])
          have e0 : wr.frozen? ⟨w.heap.size, 0, none⟩ = false := (hbq.frozen (p := ⟨w.heap.size, 0, none⟩) (by simp)).trans (by go_simp)
          have e1 : wr.frozen? ⟨w.heap.size, 1, none⟩ = false := (hbq.frozen (p := ⟨w.heap.size, 1, none⟩) (by simp)).trans (by go_simp)
          have e2 : wr.frozen? ⟨w.heap.size, 2, none⟩ = false := (hbq.frozen (p := ⟨w.heap.size, 2, none⟩) (by simp)).trans (by go_simp)

          have hzq := hbq.size
          simp at hzq
          go_wp2
          refine bodyPost_ret (v := .agg #[.int .i64 y, .int .i64 m, .int .i64 dd]) (by simp [results, Tryd.results16, go_sem, c0, c1, c2]) rfl ⟨by rw [K.out.1, K.out.2.1, K.out.2.2, HX.out.1, HX.out.2], ?_⟩
          exact (((below_block hbq).setCell (by simp) _).setCell (by simp) _).setCell (by simp) _

end Civ
end Go.Proofs.YtklanblifjgppaaDoor
