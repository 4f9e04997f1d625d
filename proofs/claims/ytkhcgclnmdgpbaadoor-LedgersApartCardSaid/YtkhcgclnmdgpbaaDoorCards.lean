/-
  DERIVED. GIVEN WITH THE SEED: THE CARDS: each row of YtkhcgclnmdgpbaaDoorRows.lean that lists a variable, with what it lists TIED to the program's text (the seventh form; the later family's looks); each row that meets fmt, with fmt's text TOLD by the authors' own Lean function (tested against real Go, not proved from fmt's source: count such statements apart). THE CARD IS WHAT COUNTS. Prove the row's statement (the work); the ties are given (YtkhcgclnmdgpbaaDoorTie.lean); close each card by the builder's one call (the guide's Derived/Test/ToyasCard.lean, 'card_holds'). Laid BY PROGRAM, IN A SANDBOX (cutbox-door.mjs). By AI agents, Wed Nov 11 2026. No macro, syntax, notation, axiom, sorry.
-/
import Derived.Test.YtkhcgclnmdgpbaaDoorRows
import GoSem.ClaimSeven
namespace Go.Proofs.YtkhcgclnmdgpbaaDoor
namespace Rows

/-- THE TIED CARD OF 'ferryhouselaw16.LedgersApart'. -/
def ledgersApartCard : Claim7 := { stood := { row := ledgersApartRow, standIns := [], harness := (true, "a11031de1112b085e61a660a19025006b26bb1e494b24161a8ac18ec7778f217"), looks := true }, kinds := [], alts := [], laidByText := true, laidKinds := [.handle], laidTests := true, laidLooks := .later }
def LedgersApartCardSaid : Prop := Claim7.holds Tryd.pinned (.plain (OpenSpec.ofChange ledgersApartSpec)) ledgersApartCard

/-- THE SECOND FORM's CARD OF 'ferryhouselaw16.LedgersApart'. -/
def ledgersApartUptoCard : Claim7 := { stood := { row := ledgersApartUptoRow, standIns := [], harness := (true, "a11031de1112b085e61a660a19025006b26bb1e494b24161a8ac18ec7778f217"), looks := true }, kinds := [], alts := [], laidByText := true, laidKinds := [.handle], laidTests := true, laidLooks := .later }
def LedgersApartUptoCardSaid : Prop := Claim7.holds Tryd.pinned (.plain (OpenSpec.upto ledgersApartSpec)) ledgersApartUptoCard
end Rows
end Go.Proofs.YtkhcgclnmdgpbaaDoor
