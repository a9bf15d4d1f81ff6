/-
  DERIVED. GIVEN WITH THE SEED: THE CARDS: each row of YtdgjlniciehjbaaDoorRows.lean that lists a variable, with what it lists TIED to the program's text (the seventh form; the later family's looks); each row that meets fmt, with fmt's text TOLD by the authors' own Lean function (tested against real Go, not proved from fmt's source: count such statements apart). THE CARD IS WHAT COUNTS. Prove the row's statement (the work); the ties are given (YtdgjlniciehjbaaDoorTie.lean); close each card by the builder's one call (the guide's Derived/Test/ToyasCard.lean, 'card_holds'). Laid BY PROGRAM, IN A SANDBOX (cutbox-door.mjs). By AI agents, Wed Nov 11 2026. No macro, syntax, notation, axiom, sorry.
-/
import Derived.Test.YtdgjlniciehjbaaDoorRows
import GoSem.ClaimSeven
namespace Go.Proofs.YtdgjlniciehjbaaDoor
namespace Rows

/-- THE TIED CARD OF 'forebaylaw38.PictureTexts'. -/
def pictureTextsCard : Claim7 := { stood := { row := pictureTextsRow, standIns := [], harness := (true, "2c2808ae24f8fca65e1d2847bb074b21ff8bb3a4749575cddc6c3c8f7f6866a8"), looks := true }, kinds := [], alts := [], laidByText := true, laidKinds := [.data, .data, .data, .data, .sentinel, .sentinel, .pinned], laidTests := true, laidLooks := .later }
def PictureTextsCardSaid : Prop := Claim7.holds Tryd.pinned (.plain (OpenSpec.ofChange pictureTextsSpec)) pictureTextsCard

/-- THE TIED CARD OF 'forebaylaw38.PictureReads'. -/
def pictureReadsCard : Claim7 := { stood := { row := pictureReadsRow, standIns := [], harness := (true, "2c2808ae24f8fca65e1d2847bb074b21ff8bb3a4749575cddc6c3c8f7f6866a8"), looks := true }, kinds := [], alts := [], laidByText := true, laidKinds := [.data, .data, .data, .data, .sentinel, .sentinel, .pinned], laidTests := true, laidLooks := .later }
def PictureReadsCardSaid : Prop := Claim7.holds Tryd.pinned (.plain (OpenSpec.ofChange pictureReadsSpec)) pictureReadsCard

/-- THE TIED CARD OF 'forebaylaw38.PictureSizes'. -/
def pictureSizesCard : Claim7 := { stood := { row := pictureSizesRow, standIns := [], harness := (true, "2c2808ae24f8fca65e1d2847bb074b21ff8bb3a4749575cddc6c3c8f7f6866a8"), looks := true }, kinds := [], alts := [], laidByText := true, laidKinds := [.data, .data, .data, .data, .sentinel, .sentinel, .pinned], laidTests := true, laidLooks := .later }
def PictureSizesCardSaid : Prop := Claim7.holds Tryd.pinned (.plain (OpenSpec.ofChange pictureSizesSpec)) pictureSizesCard

/-- THE SECOND FORM's CARD OF 'forebaylaw38.PictureTexts'. -/
def pictureTextsUptoCard : Claim7 := { stood := { row := pictureTextsUptoRow, standIns := [], harness := (true, "2c2808ae24f8fca65e1d2847bb074b21ff8bb3a4749575cddc6c3c8f7f6866a8"), looks := true }, kinds := [], alts := [], laidByText := true, laidKinds := [.data, .data, .data, .data, .sentinel, .sentinel, .pinned], laidTests := true, laidLooks := .later }
def PictureTextsUptoCardSaid : Prop := Claim7.holds Tryd.pinned (.plain (OpenSpec.upto pictureTextsSpec)) pictureTextsUptoCard

/-- THE SECOND FORM's CARD OF 'forebaylaw38.PictureReads'. -/
def pictureReadsUptoCard : Claim7 := { stood := { row := pictureReadsUptoRow, standIns := [], harness := (true, "2c2808ae24f8fca65e1d2847bb074b21ff8bb3a4749575cddc6c3c8f7f6866a8"), looks := true }, kinds := [], alts := [], laidByText := true, laidKinds := [.data, .data, .data, .data, .sentinel, .sentinel, .pinned], laidTests := true, laidLooks := .later }
def PictureReadsUptoCardSaid : Prop := Claim7.holds Tryd.pinned (.plain (OpenSpec.upto pictureReadsSpec)) pictureReadsUptoCard

/-- THE SECOND FORM's CARD OF 'forebaylaw38.PictureSizes'. -/
def pictureSizesUptoCard : Claim7 := { stood := { row := pictureSizesUptoRow, standIns := [], harness := (true, "2c2808ae24f8fca65e1d2847bb074b21ff8bb3a4749575cddc6c3c8f7f6866a8"), looks := true }, kinds := [], alts := [], laidByText := true, laidKinds := [.data, .data, .data, .data, .sentinel, .sentinel, .pinned], laidTests := true, laidLooks := .later }
def PictureSizesUptoCardSaid : Prop := Claim7.holds Tryd.pinned (.plain (OpenSpec.upto pictureSizesSpec)) pictureSizesUptoCard
end Rows
end Go.Proofs.YtdgjlniciehjbaaDoor
