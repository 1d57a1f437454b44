/-
  DERIVED. GIVEN WITH THE SEED: THE CARDS: each row of YtfkjobiapjhacaaGreatDoorRows.lean that lists a variable, with what it lists TIED to the program's text (the seventh form; the later family's looks); each row that meets fmt, with fmt's text TOLD by the authors' own Lean function (tested against real Go, not proved from fmt's source: count such statements apart). THE CARD IS WHAT COUNTS. Prove the row's statement (the work); the ties are given (YtfkjobiapjhacaaGreatDoorTie.lean); close each card by the builder's one call (the guide's Derived/Test/ToyasCard.lean, 'card_holds'). Laid BY PROGRAM, IN A SANDBOX (cutbox-door.mjs). By AI agents, Wed Nov 11 2026. No macro, syntax, notation, axiom, sorry.
-/
import Derived.Test.YtfkjobiapjhacaaGreatDoorRows
import GoSem.ClaimSeven
namespace Go.Proofs.YtfkjobiapjhacaaGreatDoor
namespace Rows

/-- THE TIED CARD OF 'gatewaylaw.News'. -/
def newsCard : Claim7 := { stood := { row := newsRow, standIns := [], harness := (true, "d9180f3233f25d25ccda0fccb5f13aee47a5b6a76b640877b96a9fbfdd15743c"), looks := false }, kinds := [], alts := [], laidByText := true, laidKinds := [.data, .data, .data], laidTests := true, laidLooks := .later }
def NewsCardSaid : Prop := Claim7.holds Tryz.pinned (.plain (OpenSpec.ofChange newsSpec)) newsCard

/-- THE TIED CARD OF 'gatewaylaw.Mails'. -/
def mailsCard : Claim7 := { stood := { row := mailsRow, standIns := [], harness := (true, "d9180f3233f25d25ccda0fccb5f13aee47a5b6a76b640877b96a9fbfdd15743c"), looks := false }, kinds := [], alts := [], laidByText := true, laidKinds := [.data, .data, .data], laidTests := true, laidLooks := .later }
def MailsCardSaid : Prop := Claim7.holds Tryz.pinned (.plain (OpenSpec.ofChange mailsSpec)) mailsCard

/-- THE TIED CARD OF 'gatewaylaw.Times'. -/
def timesCard : Claim7 := { stood := { row := timesRow, standIns := [], harness := (true, "d9180f3233f25d25ccda0fccb5f13aee47a5b6a76b640877b96a9fbfdd15743c"), looks := false }, kinds := [], alts := [], laidByText := true, laidKinds := [.data, .data, .data], laidTests := true, laidLooks := .later }
def TimesCardSaid : Prop := Claim7.holds Tryz.pinned (.plain (OpenSpec.ofChange timesSpec)) timesCard

/-- THE TIED CARD OF 'gatewaylaw.Told'. -/
def toldCard : Claim7 := { stood := { row := toldRow, standIns := [], harness := (true, "d9180f3233f25d25ccda0fccb5f13aee47a5b6a76b640877b96a9fbfdd15743c"), looks := false }, kinds := [], alts := [], laidByText := true, laidKinds := [.data, .data, .data], laidTests := true, laidLooks := .later }
def ToldCardSaid : Prop := Claim7.holds Tryz.pinned (.plain (OpenSpec.ofChange toldSpec)) toldCard

/-- THE TIED CARD OF 'gatewaylaw.Controls'. -/
def controlsCard : Claim7 := { stood := { row := controlsRow, standIns := [], harness := (true, "d9180f3233f25d25ccda0fccb5f13aee47a5b6a76b640877b96a9fbfdd15743c"), looks := false }, kinds := [], alts := [], laidByText := true, laidKinds := [.data, .data, .data], laidTests := true, laidLooks := .later }
def ControlsCardSaid : Prop := Claim7.holds Tryz.pinned (.plain (OpenSpec.ofChange controlsSpec)) controlsCard

/-- THE SECOND FORM's CARD OF 'gatewaylaw.News'. -/
def newsUptoCard : Claim7 := { stood := { row := newsUptoRow, standIns := [], harness := (true, "d9180f3233f25d25ccda0fccb5f13aee47a5b6a76b640877b96a9fbfdd15743c"), looks := false }, kinds := [], alts := [], laidByText := true, laidKinds := [.data, .data, .data], laidTests := true, laidLooks := .later }
def NewsUptoCardSaid : Prop := Claim7.holds Tryz.pinned (.plain (OpenSpec.upto newsSpec)) newsUptoCard

/-- THE SECOND FORM's CARD OF 'gatewaylaw.Mails'. -/
def mailsUptoCard : Claim7 := { stood := { row := mailsUptoRow, standIns := [], harness := (true, "d9180f3233f25d25ccda0fccb5f13aee47a5b6a76b640877b96a9fbfdd15743c"), looks := false }, kinds := [], alts := [], laidByText := true, laidKinds := [.data, .data, .data], laidTests := true, laidLooks := .later }
def MailsUptoCardSaid : Prop := Claim7.holds Tryz.pinned (.plain (OpenSpec.upto mailsSpec)) mailsUptoCard

/-- THE SECOND FORM's CARD OF 'gatewaylaw.Times'. -/
def timesUptoCard : Claim7 := { stood := { row := timesUptoRow, standIns := [], harness := (true, "d9180f3233f25d25ccda0fccb5f13aee47a5b6a76b640877b96a9fbfdd15743c"), looks := false }, kinds := [], alts := [], laidByText := true, laidKinds := [.data, .data, .data], laidTests := true, laidLooks := .later }
def TimesUptoCardSaid : Prop := Claim7.holds Tryz.pinned (.plain (OpenSpec.upto timesSpec)) timesUptoCard

/-- THE SECOND FORM's CARD OF 'gatewaylaw.Told'. -/
def toldUptoCard : Claim7 := { stood := { row := toldUptoRow, standIns := [], harness := (true, "d9180f3233f25d25ccda0fccb5f13aee47a5b6a76b640877b96a9fbfdd15743c"), looks := false }, kinds := [], alts := [], laidByText := true, laidKinds := [.data, .data, .data], laidTests := true, laidLooks := .later }
def ToldUptoCardSaid : Prop := Claim7.holds Tryz.pinned (.plain (OpenSpec.upto toldSpec)) toldUptoCard

/-- THE SECOND FORM's CARD OF 'gatewaylaw.Controls'. -/
def controlsUptoCard : Claim7 := { stood := { row := controlsUptoRow, standIns := [], harness := (true, "d9180f3233f25d25ccda0fccb5f13aee47a5b6a76b640877b96a9fbfdd15743c"), looks := false }, kinds := [], alts := [], laidByText := true, laidKinds := [.data, .data, .data], laidTests := true, laidLooks := .later }
def ControlsUptoCardSaid : Prop := Claim7.holds Tryz.pinned (.plain (OpenSpec.upto controlsSpec)) controlsUptoCard
end Rows
end Go.Proofs.YtfkjobiapjhacaaGreatDoor
