/-
  Small facts that the laws of the calendar and of the week share: worlds that grow, numbers of dates and back.
-/
import Derived.Test.YtpcnpacllkiieaaGreatDoorCiv2
namespace Go.Proofs.YtpcnpacllkiieaaGreatDoor
open Go.RowKit
namespace Civ
theorem u64_nn (n : Int) : 0 ≤ IntKind.u64.wrap n := by
  rw [IntKind.wrap_u64]; omega
theorem bcell {W w1 : World} (hb : Below W.heap.size W w1) : (∀ b o, b < W.heap.size → w1.cell? ⟨b, o, none⟩ = W.cell? ⟨b, o, none⟩) ∧ (∀ b o, b < W.heap.size → w1.frozen? ⟨b, o, none⟩ = W.frozen? ⟨b, o, none⟩) :=
  ⟨fun b o h => hb.cell (p := ⟨b, o, none⟩) h, fun b o h => hb.frozen (p := ⟨b, o, none⟩) h⟩
theorem below_chain {w w1 X w2 : World} (h1 : Below w.heap.size w w1) (h2 : Below w1.heap.size w1 X) (h3 : Below X.heap.size X w2) : Below w.heap.size w w2 :=
  (h1.trans (h2.mono h1.size)).trans (h3.mono (Nat.le_trans h1.size h2.size))
theorem num_bd {Y M D : Int} (h0 : 0 ≤ Y) (h1 : Y ≤ 10000) (m1 : 1 ≤ M) (m2 : M ≤ 12) (d1 : 1 ≤ D) (d2 : D ≤ Cal.mlen Y M) :
    numE Y M D = 0 ∧ numV Y M D = Cal.num Y M D ∧ Cal.ny Y ≤ Cal.num Y M D ∧ Cal.num Y M D < Cal.ny (Y + 1) ∧ -719528 ≤ Cal.num Y M D ∧ Cal.num Y M D ≤ 2933262 := by
  obtain ⟨k1, k2⟩ := numE_yes (y := Y) (m := M) (d := D) ⟨h0, h1, d1, d2⟩
  obtain ⟨n1, n2⟩ := Cal.ny_bd (y := Y) h0 (by omega)
  obtain ⟨n3, n4⟩ := Cal.ny_bd (y := Y + 1) (by omega) (by omega)
  obtain ⟨p1, p2⟩ := Cal.cum_bd (y := Y) m1 m2
  have s := Cal.ny_succ Y
  refine ⟨k1, k2, ?_, ?_, ?_, ?_⟩ <;> unfold Cal.num <;> omega
theorem yd_of {Y n : Int} (h1 : Cal.ny Y ≤ n) (h2 : n < Cal.ny (Y + 1)) (h3 : -719528 ≤ n) (h4 : n ≤ 2933262) : dnE n = 0 ∧ ydV n = n - Cal.ny Y + 1 := by
  obtain ⟨a, b⟩ := dn_yes (n := n) ⟨h3, h4⟩
  exact ⟨a, by rw [b, Cal.yr_of h1 h2 h3 h4]⟩
end Civ
end Go.Proofs.YtpcnpacllkiieaaGreatDoor
