/-
  DERIVED. GIVEN WITH THE SEED: THE CARDS: each row of YtcjcbhdildcceaaGreatDoorRows.lean that lists a variable, with what it lists TIED to the program's text (the seventh form; the later family's looks); each row that meets fmt, with fmt's text TOLD by the authors' own Lean function (tested against real Go, not proved from fmt's source: count such statements apart). THE CARD IS WHAT COUNTS. Prove the row's statement (the work); the ties are given (YtcjcbhdildcceaaGreatDoorTie.lean); close each card by the builder's one call (the guide's Derived/Test/ToyasCard.lean, 'card_holds'). Laid BY PROGRAM, IN A SANDBOX (cutbox-door.mjs). By AI agents, Wed Nov 11 2026. No macro, syntax, notation, axiom, sorry.
-/
import Derived.Test.YtcjcbhdildcceaaGreatDoorRows
import GoSem.ClaimSeven
namespace Go.Proofs.YtcjcbhdildcceaaGreatDoor
namespace Rows

/-- THE TIED CARD OF 'proteuslaw01.LexDivides'. -/
def lexDividesCard : Claim7 := { stood := { row := lexDividesRow, standIns := [], harness := (true, "206eafc877ccf848cefc802aeae0afcbd57c324cbc729b466ea534288f2b729c"), looks := true }, kinds := [], alts := [], laidByText := true, laidKinds := [.data, .pinned], laidTests := true, laidLooks := .later }
def LexDividesCardSaid : Prop := Claim7.holds Tryz.pinned (.plain (OpenSpec.ofChange lexDividesSpec)) lexDividesCard

/-- THE TIED CARD OF 'proteuslaw01.LexTokens'. -/
def lexTokensCard : Claim7 := { stood := { row := lexTokensRow, standIns := [], harness := (true, "206eafc877ccf848cefc802aeae0afcbd57c324cbc729b466ea534288f2b729c"), looks := true }, kinds := [], alts := [], laidByText := true, laidKinds := [.data, .pinned], laidTests := true, laidLooks := .later }
def LexTokensCardSaid : Prop := Claim7.holds Tryz.pinned (.plain (OpenSpec.ofChange lexTokensSpec)) lexTokensCard

/-- THE SECOND FORM's CARD OF 'proteuslaw01.LexDivides'. -/
def lexDividesUptoCard : Claim7 := { stood := { row := lexDividesUptoRow, standIns := [], harness := (true, "206eafc877ccf848cefc802aeae0afcbd57c324cbc729b466ea534288f2b729c"), looks := true }, kinds := [], alts := [], laidByText := true, laidKinds := [.data, .pinned], laidTests := true, laidLooks := .later }
def LexDividesUptoCardSaid : Prop := Claim7.holds Tryz.pinned (.plain (OpenSpec.upto lexDividesSpec)) lexDividesUptoCard

/-- THE SECOND FORM's CARD OF 'proteuslaw01.LexTokens'. -/
def lexTokensUptoCard : Claim7 := { stood := { row := lexTokensUptoRow, standIns := [], harness := (true, "206eafc877ccf848cefc802aeae0afcbd57c324cbc729b466ea534288f2b729c"), looks := true }, kinds := [], alts := [], laidByText := true, laidKinds := [.data, .pinned], laidTests := true, laidLooks := .later }
def LexTokensUptoCardSaid : Prop := Claim7.holds Tryz.pinned (.plain (OpenSpec.upto lexTokensSpec)) lexTokensUptoCard
end Rows
end Go.Proofs.YtcjcbhdildcceaaGreatDoor
