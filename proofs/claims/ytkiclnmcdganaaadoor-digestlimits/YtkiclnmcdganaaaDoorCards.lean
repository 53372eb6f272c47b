/-
  DERIVED. GIVEN WITH THE SEED: THE CARDS: each row of YtkiclnmcdganaaaDoorRows.lean that lists a variable, with what it lists TIED to the program's text (the seventh form; the later family's looks); each row that meets fmt, with fmt's text TOLD by the authors' own Lean function (tested against real Go, not proved from fmt's source: count such statements apart). THE CARD IS WHAT COUNTS. Prove the row's statement (the work); the ties are given (YtkiclnmcdganaaaDoorTie.lean); close each card by the builder's one call (the guide's Derived/Test/ToyasCard.lean, 'card_holds'). Laid BY PROGRAM, IN A SANDBOX (cutbox-door.mjs). By AI agents, Wed Nov 11 2026. No macro, syntax, notation, axiom, sorry.
-/
import Derived.Test.YtkiclnmcdganaaaDoorRows
import GoSem.ClaimSeven
namespace Go.Proofs.YtkiclnmcdganaaaDoor
namespace Rows

/-- THE TIED CARD OF 'cofferlaw01.DigestPrefixes'. -/
def digestPrefixesCard : Claim7 := { stood := { row := digestPrefixesRow, standIns := [], harness := (true, "3692917bca8cdd75079da0c979b2a2d198c7e75b247c26861310668f7622228c"), looks := false }, kinds := [], alts := [], laidByText := true, laidKinds := [.data, .data], laidTests := true, laidLooks := .later }
def DigestPrefixesCardSaid : Prop := Claim7.holds Tryd.pinned (.plain (OpenSpec.ofChange digestPrefixesSpec)) digestPrefixesCard

/-- THE TIED CARD OF 'cofferlaw01.DigestKeys'. -/
def digestKeysCard : Claim7 := { stood := { row := digestKeysRow, standIns := [], harness := (true, "3692917bca8cdd75079da0c979b2a2d198c7e75b247c26861310668f7622228c"), looks := false }, kinds := [], alts := [], laidByText := true, laidKinds := [.data, .data], laidTests := true, laidLooks := .later }
def DigestKeysCardSaid : Prop := Claim7.holds Tryd.pinned (.plain (OpenSpec.ofChange digestKeysSpec)) digestKeysCard

/-- THE TIED CARD OF 'cofferlaw01.DigestCuts'. -/
def digestCutsCard : Claim7 := { stood := { row := digestCutsRow, standIns := [], harness := (true, "3692917bca8cdd75079da0c979b2a2d198c7e75b247c26861310668f7622228c"), looks := false }, kinds := [], alts := [], laidByText := true, laidKinds := [.data, .data], laidTests := true, laidLooks := .later }
def DigestCutsCardSaid : Prop := Claim7.holds Tryd.pinned (.plain (OpenSpec.ofChange digestCutsSpec)) digestCutsCard

/-- THE TIED CARD OF 'cofferlaw01.DigestLimits'. -/
def digestLimitsCard : Claim7 := { stood := { row := digestLimitsRow, standIns := [], harness := (true, "3692917bca8cdd75079da0c979b2a2d198c7e75b247c26861310668f7622228c"), looks := false }, kinds := [], alts := [], laidByText := true, laidKinds := [.data, .data], laidTests := true, laidLooks := .later }
def DigestLimitsCardSaid : Prop := Claim7.holds Tryd.pinned (.plain (OpenSpec.ofChange digestLimitsSpec)) digestLimitsCard

/-- THE TIED CARD OF 'cofferlaw01.DigestFull'. -/
def digestFullCard : Claim7 := { stood := { row := digestFullRow, standIns := [], harness := (true, "3692917bca8cdd75079da0c979b2a2d198c7e75b247c26861310668f7622228c"), looks := false }, kinds := [], alts := [], laidByText := true, laidKinds := [.data, .data], laidTests := true, laidLooks := .later }
def DigestFullCardSaid : Prop := Claim7.holds Tryd.pinned (.plain (OpenSpec.ofChange digestFullSpec)) digestFullCard

/-- THE TIED CARD OF 'cofferlaw01.DigestSums'. -/
def digestSumsCard : Claim7 := { stood := { row := digestSumsRow, standIns := [], harness := (true, "3692917bca8cdd75079da0c979b2a2d198c7e75b247c26861310668f7622228c"), looks := false }, kinds := [], alts := [], laidByText := true, laidKinds := [.data, .data, .data, .data], laidTests := true, laidLooks := .later }
def DigestSumsCardSaid : Prop := Claim7.holds Tryd.pinned (.plain (OpenSpec.ofChange digestSumsSpec)) digestSumsCard

/-- THE SECOND FORM's CARD OF 'cofferlaw01.DigestPrefixes'. -/
def digestPrefixesUptoCard : Claim7 := { stood := { row := digestPrefixesUptoRow, standIns := [], harness := (true, "3692917bca8cdd75079da0c979b2a2d198c7e75b247c26861310668f7622228c"), looks := false }, kinds := [], alts := [], laidByText := true, laidKinds := [.data, .data], laidTests := true, laidLooks := .later }
def DigestPrefixesUptoCardSaid : Prop := Claim7.holds Tryd.pinned (.plain (OpenSpec.upto digestPrefixesSpec)) digestPrefixesUptoCard

/-- THE SECOND FORM's CARD OF 'cofferlaw01.DigestKeys'. -/
def digestKeysUptoCard : Claim7 := { stood := { row := digestKeysUptoRow, standIns := [], harness := (true, "3692917bca8cdd75079da0c979b2a2d198c7e75b247c26861310668f7622228c"), looks := false }, kinds := [], alts := [], laidByText := true, laidKinds := [.data, .data], laidTests := true, laidLooks := .later }
def DigestKeysUptoCardSaid : Prop := Claim7.holds Tryd.pinned (.plain (OpenSpec.upto digestKeysSpec)) digestKeysUptoCard

/-- THE SECOND FORM's CARD OF 'cofferlaw01.DigestCuts'. -/
def digestCutsUptoCard : Claim7 := { stood := { row := digestCutsUptoRow, standIns := [], harness := (true, "3692917bca8cdd75079da0c979b2a2d198c7e75b247c26861310668f7622228c"), looks := false }, kinds := [], alts := [], laidByText := true, laidKinds := [.data, .data], laidTests := true, laidLooks := .later }
def DigestCutsUptoCardSaid : Prop := Claim7.holds Tryd.pinned (.plain (OpenSpec.upto digestCutsSpec)) digestCutsUptoCard

/-- THE SECOND FORM's CARD OF 'cofferlaw01.DigestLimits'. -/
def digestLimitsUptoCard : Claim7 := { stood := { row := digestLimitsUptoRow, standIns := [], harness := (true, "3692917bca8cdd75079da0c979b2a2d198c7e75b247c26861310668f7622228c"), looks := false }, kinds := [], alts := [], laidByText := true, laidKinds := [.data, .data], laidTests := true, laidLooks := .later }
def DigestLimitsUptoCardSaid : Prop := Claim7.holds Tryd.pinned (.plain (OpenSpec.upto digestLimitsSpec)) digestLimitsUptoCard

/-- THE SECOND FORM's CARD OF 'cofferlaw01.DigestFull'. -/
def digestFullUptoCard : Claim7 := { stood := { row := digestFullUptoRow, standIns := [], harness := (true, "3692917bca8cdd75079da0c979b2a2d198c7e75b247c26861310668f7622228c"), looks := false }, kinds := [], alts := [], laidByText := true, laidKinds := [.data, .data], laidTests := true, laidLooks := .later }
def DigestFullUptoCardSaid : Prop := Claim7.holds Tryd.pinned (.plain (OpenSpec.upto digestFullSpec)) digestFullUptoCard

/-- THE SECOND FORM's CARD OF 'cofferlaw01.DigestSums'. -/
def digestSumsUptoCard : Claim7 := { stood := { row := digestSumsUptoRow, standIns := [], harness := (true, "3692917bca8cdd75079da0c979b2a2d198c7e75b247c26861310668f7622228c"), looks := false }, kinds := [], alts := [], laidByText := true, laidKinds := [.data, .data, .data, .data], laidTests := true, laidLooks := .later }
def DigestSumsUptoCardSaid : Prop := Claim7.holds Tryd.pinned (.plain (OpenSpec.upto digestSumsSpec)) digestSumsUptoCard
end Rows
end Go.Proofs.YtkiclnmcdganaaaDoor
