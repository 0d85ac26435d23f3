/-
  DERIVED. GIVEN WITH THE SEED: THE CARDS: each row of YtnmapehbcccbhadDoorRows.lean that lists a variable, with what it lists TIED to the program's text (the seventh form; the later family's looks); each row that meets fmt, with fmt's text TOLD by the authors' own Lean function (tested against real Go, not proved from fmt's source: count such statements apart). THE CARD IS WHAT COUNTS. Prove the row's statement (the work); the ties are given (YtnmapehbcccbhadDoorTie.lean); close each card by the builder's one call (the guide's Derived/Test/ToyasCard.lean, 'card_holds'). Laid BY PROGRAM, IN A SANDBOX (cutbox-door.mjs). By AI agents, Wed Nov 11 2026. No macro, syntax, notation, axiom, sorry.
-/
import Derived.Test.YtnmapehbcccbhadDoorRows
import GoSem.ClaimSeven
namespace Go.Proofs.YtnmapehbcccbhadDoor
namespace Rows

/-- THE TIED CARD OF 'carillonlaw.DiskKeeps'. -/
def diskKeepsCard : Claim7 := { stood := { row := diskKeepsRow, standIns := [], harness := (true, "5c2ec7436895a54b1f7d1e0ad9691ddef13b337acb56cb963fe9da361c5d580d"), looks := true }, kinds := [], alts := [], laidByText := true, laidKinds := [.data, .data, .data, .sentinel, .sentinel, .data, .data], laidTests := true, laidLooks := .later }
def DiskKeepsCardSaid : Prop := Claim7.holds Tryd.pinned (.plain (OpenSpec.ofChange diskKeepsSpec)) diskKeepsCard

/-- THE TIED CARD OF 'carillonlaw.UnitOnce'. -/
def unitOnceCard : Claim7 := { stood := { row := unitOnceRow, standIns := [], harness := (true, "5c2ec7436895a54b1f7d1e0ad9691ddef13b337acb56cb963fe9da361c5d580d"), looks := true }, kinds := [], alts := [], laidByText := true, laidKinds := [.data, .data, .data, .sentinel, .sentinel, .data, .data], laidTests := true, laidLooks := .later }
def UnitOnceCardSaid : Prop := Claim7.holds Tryd.pinned (.plain (OpenSpec.ofChange unitOnceSpec)) unitOnceCard

/-- THE SECOND FORM's CARD OF 'carillonlaw.DiskKeeps'. -/
def diskKeepsUptoCard : Claim7 := { stood := { row := diskKeepsUptoRow, standIns := [], harness := (true, "5c2ec7436895a54b1f7d1e0ad9691ddef13b337acb56cb963fe9da361c5d580d"), looks := true }, kinds := [], alts := [], laidByText := true, laidKinds := [.data, .data, .data, .sentinel, .sentinel, .data, .data], laidTests := true, laidLooks := .later }
def DiskKeepsUptoCardSaid : Prop := Claim7.holds Tryd.pinned (.plain (OpenSpec.upto diskKeepsSpec)) diskKeepsUptoCard

/-- THE SECOND FORM's CARD OF 'carillonlaw.UnitOnce'. -/
def unitOnceUptoCard : Claim7 := { stood := { row := unitOnceUptoRow, standIns := [], harness := (true, "5c2ec7436895a54b1f7d1e0ad9691ddef13b337acb56cb963fe9da361c5d580d"), looks := true }, kinds := [], alts := [], laidByText := true, laidKinds := [.data, .data, .data, .sentinel, .sentinel, .data, .data], laidTests := true, laidLooks := .later }
def UnitOnceUptoCardSaid : Prop := Claim7.holds Tryd.pinned (.plain (OpenSpec.upto unitOnceSpec)) unitOnceUptoCard
end Rows
end Go.Proofs.YtnmapehbcccbhadDoor
