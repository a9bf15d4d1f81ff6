/-
  DERIVED. GIVEN WITH THE SEED: THE CARDS: each row of YtbokjgmndokifaaDoorRows.lean that lists a variable, with what it lists TIED to the program's text (the seventh form; the later family's looks); each row that meets fmt, with fmt's text TOLD by the authors' own Lean function (tested against real Go, not proved from fmt's source: count such statements apart). THE CARD IS WHAT COUNTS. Prove the row's statement (the work); the ties are given (YtbokjgmndokifaaDoorTie.lean); close each card by the builder's one call (the guide's Derived/Test/ToyasCard.lean, 'card_holds'). Laid BY PROGRAM, IN A SANDBOX (cutbox-door.mjs). By AI agents, Wed Nov 11 2026. No macro, syntax, notation, axiom, sorry.
-/
import Derived.Test.YtbokjgmndokifaaDoorRows
import GoSem.ClaimSeven
namespace Go.Proofs.YtbokjgmndokifaaDoor
namespace Rows

/-- THE TIED CARD OF 'forebaylaw03.InsNames'. -/
def insNamesCard : Claim7 := { stood := { row := insNamesRow, standIns := [], harness := (true, "23d442f2252e6dc3dfd55b5b0cfd655970e47b70699901d2e3f71512e2e24007"), looks := false }, kinds := [], alts := [], laidByText := true, laidKinds := [.data], laidTests := true, laidLooks := .later }
def InsNamesCardSaid : Prop := Claim7.holds Tryd.pinned (.plain (OpenSpec.ofChange insNamesSpec)) insNamesCard

/-- THE TIED CARD OF 'forebaylaw03.InsPuts'. -/
def insPutsCard : Claim7 := { stood := { row := insPutsRow, standIns := [], harness := (true, "23d442f2252e6dc3dfd55b5b0cfd655970e47b70699901d2e3f71512e2e24007"), looks := false }, kinds := [], alts := [], laidByText := true, laidKinds := [.data], laidTests := true, laidLooks := .later }
def InsPutsCardSaid : Prop := Claim7.holds Tryd.pinned (.plain (OpenSpec.ofChange insPutsSpec)) insPutsCard

/-- THE TIED CARD OF 'forebaylaw03.InsGets'. -/
def insGetsCard : Claim7 := { stood := { row := insGetsRow, standIns := [], harness := (true, "23d442f2252e6dc3dfd55b5b0cfd655970e47b70699901d2e3f71512e2e24007"), looks := false }, kinds := [], alts := [], laidByText := true, laidKinds := [.data], laidTests := true, laidLooks := .later }
def InsGetsCardSaid : Prop := Claim7.holds Tryd.pinned (.plain (OpenSpec.ofChange insGetsSpec)) insGetsCard

/-- THE TIED CARD OF 'forebaylaw03.InsOnce'. -/
def insOnceCard : Claim7 := { stood := { row := insOnceRow, standIns := [], harness := (true, "23d442f2252e6dc3dfd55b5b0cfd655970e47b70699901d2e3f71512e2e24007"), looks := false }, kinds := [], alts := [], laidByText := true, laidKinds := [.data], laidTests := true, laidLooks := .later }
def InsOnceCardSaid : Prop := Claim7.holds Tryd.pinned (.plain (OpenSpec.ofChange insOnceSpec)) insOnceCard

/-- THE SECOND FORM's CARD OF 'forebaylaw03.InsNames'. -/
def insNamesUptoCard : Claim7 := { stood := { row := insNamesUptoRow, standIns := [], harness := (true, "23d442f2252e6dc3dfd55b5b0cfd655970e47b70699901d2e3f71512e2e24007"), looks := false }, kinds := [], alts := [], laidByText := true, laidKinds := [.data], laidTests := true, laidLooks := .later }
def InsNamesUptoCardSaid : Prop := Claim7.holds Tryd.pinned (.plain (OpenSpec.upto insNamesSpec)) insNamesUptoCard

/-- THE SECOND FORM's CARD OF 'forebaylaw03.InsPuts'. -/
def insPutsUptoCard : Claim7 := { stood := { row := insPutsUptoRow, standIns := [], harness := (true, "23d442f2252e6dc3dfd55b5b0cfd655970e47b70699901d2e3f71512e2e24007"), looks := false }, kinds := [], alts := [], laidByText := true, laidKinds := [.data], laidTests := true, laidLooks := .later }
def InsPutsUptoCardSaid : Prop := Claim7.holds Tryd.pinned (.plain (OpenSpec.upto insPutsSpec)) insPutsUptoCard

/-- THE SECOND FORM's CARD OF 'forebaylaw03.InsGets'. -/
def insGetsUptoCard : Claim7 := { stood := { row := insGetsUptoRow, standIns := [], harness := (true, "23d442f2252e6dc3dfd55b5b0cfd655970e47b70699901d2e3f71512e2e24007"), looks := false }, kinds := [], alts := [], laidByText := true, laidKinds := [.data], laidTests := true, laidLooks := .later }
def InsGetsUptoCardSaid : Prop := Claim7.holds Tryd.pinned (.plain (OpenSpec.upto insGetsSpec)) insGetsUptoCard

/-- THE SECOND FORM's CARD OF 'forebaylaw03.InsOnce'. -/
def insOnceUptoCard : Claim7 := { stood := { row := insOnceUptoRow, standIns := [], harness := (true, "23d442f2252e6dc3dfd55b5b0cfd655970e47b70699901d2e3f71512e2e24007"), looks := false }, kinds := [], alts := [], laidByText := true, laidKinds := [.data], laidTests := true, laidLooks := .later }
def InsOnceUptoCardSaid : Prop := Claim7.holds Tryd.pinned (.plain (OpenSpec.upto insOnceSpec)) insOnceUptoCard
end Rows
end Go.Proofs.YtbokjgmndokifaaDoor
