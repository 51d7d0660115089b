/-
  DERIVED. GIVEN WITH THE SEED: THE CARDS: each row of YtikjlnkpcjjigaaDoorRows.lean that lists a variable, with what it lists TIED to the program's text (the seventh form; the later family's looks); each row that meets fmt, with fmt's text TOLD by the authors' own Lean function (tested against real Go, not proved from fmt's source: count such statements apart). THE CARD IS WHAT COUNTS. Prove the row's statement (the work); the ties are given (YtikjlnkpcjjigaaDoorTie.lean); close each card by the builder's one call (the guide's Derived/Test/ToyasCard.lean, 'card_holds'). Laid BY PROGRAM, IN A SANDBOX (cutbox-door.mjs). By AI agents, Wed Nov 11 2026. No macro, syntax, notation, axiom, sorry.
-/
import Derived.Test.YtikjlnkpcjjigaaDoorRows
import GoSem.ClaimSeven
namespace Go.Proofs.YtikjlnkpcjjigaaDoor
namespace Rows

/-- THE TIED CARD OF 'solsticelaw07.OnExact'. -/
def onExactCard : Claim7 := { stood := { row := onExactRow, standIns := [], harness := (true, "93f7a834665957539e5c5afec19b9da8b56129d5757cac1f8cb4b1a8fc478970"), looks := false }, kinds := [], alts := [], laidByText := true, laidKinds := [.data, .data, .data], laidTests := true, laidLooks := .later }
def OnExactCardSaid : Prop := Claim7.holds Tryd.pinned (.plain (OpenSpec.ofChange onExactSpec)) onExactCard

/-- THE TIED CARD OF 'solsticelaw07.OnBack'. -/
def onBackCard : Claim7 := { stood := { row := onBackRow, standIns := [], harness := (true, "93f7a834665957539e5c5afec19b9da8b56129d5757cac1f8cb4b1a8fc478970"), looks := false }, kinds := [], alts := [], laidByText := true, laidKinds := [.data, .data, .data], laidTests := true, laidLooks := .later }
def OnBackCardSaid : Prop := Claim7.holds Tryd.pinned (.plain (OpenSpec.ofChange onBackSpec)) onBackCard

/-- THE TIED CARD OF 'solsticelaw07.OnBad'. -/
def onBadCard : Claim7 := { stood := { row := onBadRow, standIns := [], harness := (true, "93f7a834665957539e5c5afec19b9da8b56129d5757cac1f8cb4b1a8fc478970"), looks := false }, kinds := [], alts := [], laidByText := true, laidKinds := [.data, .data, .data], laidTests := true, laidLooks := .later }
def OnBadCardSaid : Prop := Claim7.holds Tryd.pinned (.plain (OpenSpec.ofChange onBadSpec)) onBadCard

/-- THE TIED CARD OF 'solsticelaw08.AtExact'. -/
def atExactCard : Claim7 := { stood := { row := atExactRow, standIns := [], harness := (true, "93f7a834665957539e5c5afec19b9da8b56129d5757cac1f8cb4b1a8fc478970"), looks := false }, kinds := [], alts := [], laidByText := true, laidKinds := [.data, .data, .data], laidTests := true, laidLooks := .later }
def AtExactCardSaid : Prop := Claim7.holds Tryd.pinned (.plain (OpenSpec.ofChange atExactSpec)) atExactCard

/-- THE TIED CARD OF 'solsticelaw08.AtBack'. -/
def atBackCard : Claim7 := { stood := { row := atBackRow, standIns := [], harness := (true, "93f7a834665957539e5c5afec19b9da8b56129d5757cac1f8cb4b1a8fc478970"), looks := false }, kinds := [], alts := [], laidByText := true, laidKinds := [.data, .data, .data], laidTests := true, laidLooks := .later }
def AtBackCardSaid : Prop := Claim7.holds Tryd.pinned (.plain (OpenSpec.ofChange atBackSpec)) atBackCard

/-- THE TIED CARD OF 'solsticelaw08.AtUtcs'. -/
def atUtcsCard : Claim7 := { stood := { row := atUtcsRow, standIns := [], harness := (true, "93f7a834665957539e5c5afec19b9da8b56129d5757cac1f8cb4b1a8fc478970"), looks := false }, kinds := [], alts := [], laidByText := true, laidKinds := [.data, .data, .data], laidTests := true, laidLooks := .later }
def AtUtcsCardSaid : Prop := Claim7.holds Tryd.pinned (.plain (OpenSpec.ofChange atUtcsSpec)) atUtcsCard

/-- THE SECOND FORM's CARD OF 'solsticelaw07.OnExact'. -/
def onExactUptoCard : Claim7 := { stood := { row := onExactUptoRow, standIns := [], harness := (true, "93f7a834665957539e5c5afec19b9da8b56129d5757cac1f8cb4b1a8fc478970"), looks := false }, kinds := [], alts := [], laidByText := true, laidKinds := [.data, .data, .data], laidTests := true, laidLooks := .later }
def OnExactUptoCardSaid : Prop := Claim7.holds Tryd.pinned (.plain (OpenSpec.upto onExactSpec)) onExactUptoCard

/-- THE SECOND FORM's CARD OF 'solsticelaw07.OnBack'. -/
def onBackUptoCard : Claim7 := { stood := { row := onBackUptoRow, standIns := [], harness := (true, "93f7a834665957539e5c5afec19b9da8b56129d5757cac1f8cb4b1a8fc478970"), looks := false }, kinds := [], alts := [], laidByText := true, laidKinds := [.data, .data, .data], laidTests := true, laidLooks := .later }
def OnBackUptoCardSaid : Prop := Claim7.holds Tryd.pinned (.plain (OpenSpec.upto onBackSpec)) onBackUptoCard

/-- THE SECOND FORM's CARD OF 'solsticelaw07.OnBad'. -/
def onBadUptoCard : Claim7 := { stood := { row := onBadUptoRow, standIns := [], harness := (true, "93f7a834665957539e5c5afec19b9da8b56129d5757cac1f8cb4b1a8fc478970"), looks := false }, kinds := [], alts := [], laidByText := true, laidKinds := [.data, .data, .data], laidTests := true, laidLooks := .later }
def OnBadUptoCardSaid : Prop := Claim7.holds Tryd.pinned (.plain (OpenSpec.upto onBadSpec)) onBadUptoCard

/-- THE SECOND FORM's CARD OF 'solsticelaw08.AtExact'. -/
def atExactUptoCard : Claim7 := { stood := { row := atExactUptoRow, standIns := [], harness := (true, "93f7a834665957539e5c5afec19b9da8b56129d5757cac1f8cb4b1a8fc478970"), looks := false }, kinds := [], alts := [], laidByText := true, laidKinds := [.data, .data, .data], laidTests := true, laidLooks := .later }
def AtExactUptoCardSaid : Prop := Claim7.holds Tryd.pinned (.plain (OpenSpec.upto atExactSpec)) atExactUptoCard

/-- THE SECOND FORM's CARD OF 'solsticelaw08.AtBack'. -/
def atBackUptoCard : Claim7 := { stood := { row := atBackUptoRow, standIns := [], harness := (true, "93f7a834665957539e5c5afec19b9da8b56129d5757cac1f8cb4b1a8fc478970"), looks := false }, kinds := [], alts := [], laidByText := true, laidKinds := [.data, .data, .data], laidTests := true, laidLooks := .later }
def AtBackUptoCardSaid : Prop := Claim7.holds Tryd.pinned (.plain (OpenSpec.upto atBackSpec)) atBackUptoCard

/-- THE SECOND FORM's CARD OF 'solsticelaw08.AtUtcs'. -/
def atUtcsUptoCard : Claim7 := { stood := { row := atUtcsUptoRow, standIns := [], harness := (true, "93f7a834665957539e5c5afec19b9da8b56129d5757cac1f8cb4b1a8fc478970"), looks := false }, kinds := [], alts := [], laidByText := true, laidKinds := [.data, .data, .data], laidTests := true, laidLooks := .later }
def AtUtcsUptoCardSaid : Prop := Claim7.holds Tryd.pinned (.plain (OpenSpec.upto atUtcsSpec)) atUtcsUptoCard
end Rows
end Go.Proofs.YtikjlnkpcjjigaaDoor
