/-
  DERIVED. GIVEN WITH THE SEED: THE CARDS: each row of YtjjhabblnhecnabDoorRows.lean that lists a variable, with what it lists TIED to the program's text (the seventh form; the later family's looks); each row that meets fmt, with fmt's text TOLD by the authors' own Lean function (tested against real Go, not proved from fmt's source: count such statements apart). THE CARD IS WHAT COUNTS. Prove the row's statement (the work); the ties are given (YtjjhabblnhecnabDoorTie.lean); close each card by the builder's one call (the guide's Derived/Test/ToyasCard.lean, 'card_holds'). Laid BY PROGRAM, IN A SANDBOX (cutbox-door.mjs). By AI agents, Wed Nov 11 2026. No macro, syntax, notation, axiom, sorry.
-/
import Derived.Test.YtjjhabblnhecnabDoorRows
import GoSem.ClaimSeven
namespace Go.Proofs.YtjjhabblnhecnabDoor
namespace Rows

/-- THE TIED CARD OF 'laws.FnExactNetAddrText'. -/
def fnExactNetAddrTextCard : Claim7 := { stood := { row := fnExactNetAddrTextRow, standIns := [], harness := (true, "85617646fdd01cf3b3c0d2875fb88b0938b578a0bf3f8496f685fec849d38cda"), looks := true }, kinds := [], alts := [], laidByText := true, laidKinds := [.data, .data, .data], laidTests := true, laidLooks := .later }
def FnExactNetAddrTextCardSaid : Prop := Claim7.holds Tryd.pinned (.plain (OpenSpec.ofChange fnExactNetAddrTextSpec)) fnExactNetAddrTextCard

/-- THE TIED CARD OF 'laws.FnExactNetAddr'. -/
def fnExactNetAddrCard : Claim7 := { stood := { row := fnExactNetAddrRow, standIns := [], harness := (true, "85617646fdd01cf3b3c0d2875fb88b0938b578a0bf3f8496f685fec849d38cda"), looks := true }, kinds := [], alts := [], laidByText := true, laidKinds := [.handle], laidTests := true, laidLooks := .later }
def FnExactNetAddrCardSaid : Prop := Claim7.holds Tryd.pinned (.plain (OpenSpec.ofChange fnExactNetAddrSpec)) fnExactNetAddrCard

/-- THE SECOND FORM's CARD OF 'laws.FnExactNetAddrText'. -/
def fnExactNetAddrTextUptoCard : Claim7 := { stood := { row := fnExactNetAddrTextUptoRow, standIns := [], harness := (true, "85617646fdd01cf3b3c0d2875fb88b0938b578a0bf3f8496f685fec849d38cda"), looks := true }, kinds := [], alts := [], laidByText := true, laidKinds := [.data, .data, .data], laidTests := true, laidLooks := .later }
def FnExactNetAddrTextUptoCardSaid : Prop := Claim7.holds Tryd.pinned (.plain (OpenSpec.upto fnExactNetAddrTextSpec)) fnExactNetAddrTextUptoCard

/-- THE SECOND FORM's CARD OF 'laws.FnExactNetAddr'. -/
def fnExactNetAddrUptoCard : Claim7 := { stood := { row := fnExactNetAddrUptoRow, standIns := [], harness := (true, "85617646fdd01cf3b3c0d2875fb88b0938b578a0bf3f8496f685fec849d38cda"), looks := true }, kinds := [], alts := [], laidByText := true, laidKinds := [.handle], laidTests := true, laidLooks := .later }
def FnExactNetAddrUptoCardSaid : Prop := Claim7.holds Tryd.pinned (.plain (OpenSpec.upto fnExactNetAddrSpec)) fnExactNetAddrUptoCard
end Rows
end Go.Proofs.YtjjhabblnhecnabDoor
