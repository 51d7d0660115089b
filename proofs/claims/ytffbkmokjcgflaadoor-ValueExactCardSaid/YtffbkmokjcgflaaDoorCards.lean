/-
  DERIVED. GIVEN WITH THE SEED: THE CARDS: each row of YtffbkmokjcgflaaDoorRows.lean that lists a variable, with what it lists TIED to the program's text (the seventh form; the later family's looks); each row that meets fmt, with fmt's text TOLD by the authors' own Lean function (tested against real Go, not proved from fmt's source: count such statements apart). THE CARD IS WHAT COUNTS. Prove the row's statement (the work); the ties are given (YtffbkmokjcgflaaDoorTie.lean); close each card by the builder's one call (the guide's Derived/Test/ToyasCard.lean, 'card_holds'). Laid BY PROGRAM, IN A SANDBOX (cutbox-door.mjs). By AI agents, Wed Nov 11 2026. No macro, syntax, notation, axiom, sorry.
-/
import Derived.Test.YtffbkmokjcgflaaDoorRows
import GoSem.ClaimSeven
namespace Go.Proofs.YtffbkmokjcgflaaDoor
namespace Rows

/-- THE TIED CARD OF 'solsticelaw20.ValueExact'. -/
def valueExactCard : Claim7 := { stood := { row := valueExactRow, standIns := [], harness := (true, "edc7aa26f5118d8a2a00a1b74c5c1b05f0c9617cde4235eac8a6c525dcf12c6b"), looks := false }, kinds := [], alts := [], laidByText := true, laidKinds := [.data, .data, .data, .data, .data, .pinned], laidTests := true, laidLooks := .later }
def ValueExactCardSaid : Prop := Claim7.holds Tryd.pinned (.plain (OpenSpec.ofChange valueExactSpec)) valueExactCard

/-- THE SECOND FORM's CARD OF 'solsticelaw20.ValueExact'. -/
def valueExactUptoCard : Claim7 := { stood := { row := valueExactUptoRow, standIns := [], harness := (true, "edc7aa26f5118d8a2a00a1b74c5c1b05f0c9617cde4235eac8a6c525dcf12c6b"), looks := false }, kinds := [], alts := [], laidByText := true, laidKinds := [.data, .data, .data, .data, .data, .pinned], laidTests := true, laidLooks := .later }
def ValueExactUptoCardSaid : Prop := Claim7.holds Tryd.pinned (.plain (OpenSpec.upto valueExactSpec)) valueExactUptoCard
end Rows
end Go.Proofs.YtffbkmokjcgflaaDoor
