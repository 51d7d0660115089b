/-
  DERIVED. GIVEN WITH THE SEED: THE CARDS: each row of YtklanblifjgppaaDoorRows.lean that lists a variable, with what it lists TIED to the program's text (the seventh form; the later family's looks); each row that meets fmt, with fmt's text TOLD by the authors' own Lean function (tested against real Go, not proved from fmt's source: count such statements apart). THE CARD IS WHAT COUNTS. Prove the row's statement (the work); the ties are given (YtklanblifjgppaaDoorTie.lean); close each card by the builder's one call (the guide's Derived/Test/ToyasCard.lean, 'card_holds'). Laid BY PROGRAM, IN A SANDBOX (cutbox-door.mjs). By AI agents, Wed Nov 11 2026. No macro, syntax, notation, axiom, sorry.
-/
import Derived.Test.YtklanblifjgppaaDoorRows
import GoSem.ClaimSeven
namespace Go.Proofs.YtklanblifjgppaaDoor
namespace Rows

/-- THE TIED CARD OF 'solsticelaw20.ValueBack'. -/
def valueBackCard : Claim7 := { stood := { row := valueBackRow, standIns := [], harness := (true, "c22995001279f48a087a5065ff856a1f516d4c43a05e5cabfb20b6b824e01b2f"), looks := false }, kinds := [], alts := [], laidByText := true, laidKinds := [.data, .data, .data, .data, .data, .pinned], laidTests := true, laidLooks := .later }
def ValueBackCardSaid : Prop := Claim7.holds Tryd.pinned (.plain (OpenSpec.ofChange valueBackSpec)) valueBackCard

/-- THE TIED CARD OF 'solsticelaw20.ValueBad'. -/
def valueBadCard : Claim7 := { stood := { row := valueBadRow, standIns := [], harness := (true, "c22995001279f48a087a5065ff856a1f516d4c43a05e5cabfb20b6b824e01b2f"), looks := false }, kinds := [], alts := [], laidByText := true, laidKinds := [.data, .data, .data, .data, .data, .pinned], laidTests := true, laidLooks := .later }
def ValueBadCardSaid : Prop := Claim7.holds Tryd.pinned (.plain (OpenSpec.ofChange valueBadSpec)) valueBadCard

/-- THE TIED CARD OF 'solsticelaw24.EncodeSame'. -/
def encodeSameCard : Claim7 := { stood := { row := encodeSameRow, standIns := [], harness := (true, "c22995001279f48a087a5065ff856a1f516d4c43a05e5cabfb20b6b824e01b2f"), looks := false }, kinds := [], alts := [], laidByText := true, laidKinds := [.data], laidTests := true, laidLooks := .later }
def EncodeSameCardSaid : Prop := Claim7.holds Tryd.pinned (.plain (OpenSpec.ofChange encodeSameSpec)) encodeSameCard

/-- THE SECOND FORM's CARD OF 'solsticelaw20.ValueBack'. -/
def valueBackUptoCard : Claim7 := { stood := { row := valueBackUptoRow, standIns := [], harness := (true, "c22995001279f48a087a5065ff856a1f516d4c43a05e5cabfb20b6b824e01b2f"), looks := false }, kinds := [], alts := [], laidByText := true, laidKinds := [.data, .data, .data, .data, .data, .pinned], laidTests := true, laidLooks := .later }
def ValueBackUptoCardSaid : Prop := Claim7.holds Tryd.pinned (.plain (OpenSpec.upto valueBackSpec)) valueBackUptoCard

/-- THE SECOND FORM's CARD OF 'solsticelaw20.ValueBad'. -/
def valueBadUptoCard : Claim7 := { stood := { row := valueBadUptoRow, standIns := [], harness := (true, "c22995001279f48a087a5065ff856a1f516d4c43a05e5cabfb20b6b824e01b2f"), looks := false }, kinds := [], alts := [], laidByText := true, laidKinds := [.data, .data, .data, .data, .data, .pinned], laidTests := true, laidLooks := .later }
def ValueBadUptoCardSaid : Prop := Claim7.holds Tryd.pinned (.plain (OpenSpec.upto valueBadSpec)) valueBadUptoCard

/-- THE SECOND FORM's CARD OF 'solsticelaw24.EncodeSame'. -/
def encodeSameUptoCard : Claim7 := { stood := { row := encodeSameUptoRow, standIns := [], harness := (true, "c22995001279f48a087a5065ff856a1f516d4c43a05e5cabfb20b6b824e01b2f"), looks := false }, kinds := [], alts := [], laidByText := true, laidKinds := [.data], laidTests := true, laidLooks := .later }
def EncodeSameUptoCardSaid : Prop := Claim7.holds Tryd.pinned (.plain (OpenSpec.upto encodeSameSpec)) encodeSameUptoCard
end Rows
end Go.Proofs.YtklanblifjgppaaDoor
