/-
  DERIVED. GIVEN WITH THE SEED: THE CARDS: each row of YtbnpodledgaipaaGreatDoorRows.lean that lists a variable, with what it lists TIED to the program's text (the seventh form; the later family's looks); each row that meets fmt, with fmt's text TOLD by the authors' own Lean function (tested against real Go, not proved from fmt's source: count such statements apart). THE CARD IS WHAT COUNTS. Prove the row's statement (the work); the ties are given (YtbnpodledgaipaaGreatDoorTie.lean); close each card by the builder's one call (the guide's Derived/Test/ToyasCard.lean, 'card_holds'). Laid BY PROGRAM, IN A SANDBOX (cutbox-door.mjs). By AI agents, Wed Nov 11 2026. No macro, syntax, notation, axiom, sorry.
-/
import Derived.Test.YtbnpodledgaipaaGreatDoorRows
import GoSem.ClaimSeven
namespace Go.Proofs.YtbnpodledgaipaaGreatDoor
namespace Rows

/-- THE TIED CARD OF 'laws.FnTokens'. -/
def fnTokensCard : Claim7 := { stood := { row := fnTokensRow, standIns := [], harness := (true, "8373cd87953eb7c996dc955b3eda75fd1deb3a7d516dc23c24311f769bac295c"), looks := false }, kinds := [], alts := [], laidByText := true, laidKinds := [.data, .pinned], laidTests := true, laidLooks := .later }
def FnTokensCardSaid : Prop := Claim7.holds Tryz.pinned (.plain (OpenSpec.ofChange fnTokensSpec)) fnTokensCard

/-- THE TIED CARD OF 'laws.FnFlushes'. -/
def fnFlushesCard : Claim7 := { stood := { row := fnFlushesRow, standIns := [], harness := (true, "8373cd87953eb7c996dc955b3eda75fd1deb3a7d516dc23c24311f769bac295c"), looks := false }, kinds := [], alts := [], laidByText := true, laidKinds := [.data, .pinned], laidTests := true, laidLooks := .later }
def FnFlushesCardSaid : Prop := Claim7.holds Tryz.pinned (.plain (OpenSpec.ofChange fnFlushesSpec)) fnFlushesCard

/-- THE TIED CARD OF 'laws.FnDecodes'. -/
def fnDecodesCard : Claim7 := { stood := { row := fnDecodesRow, standIns := [], harness := (true, "8373cd87953eb7c996dc955b3eda75fd1deb3a7d516dc23c24311f769bac295c"), looks := false }, kinds := [], alts := [], laidByText := true, laidKinds := [.data, .pinned], laidTests := true, laidLooks := .later }
def FnDecodesCardSaid : Prop := Claim7.holds Tryz.pinned (.plain (OpenSpec.ofChange fnDecodesSpec)) fnDecodesCard

/-- THE TIED CARD OF 'laws.FnTicks'. -/
def fnTicksCard : Claim7 := { stood := { row := fnTicksRow, standIns := [], harness := (true, "8373cd87953eb7c996dc955b3eda75fd1deb3a7d516dc23c24311f769bac295c"), looks := false }, kinds := [], alts := [], laidByText := true, laidKinds := [.data, .pinned], laidTests := true, laidLooks := .later }
def FnTicksCardSaid : Prop := Claim7.holds Tryz.pinned (.plain (OpenSpec.ofChange fnTicksSpec)) fnTicksCard

/-- THE TIED CARD OF 'laws.FnExactFeedDecoder'. -/
def fnExactFeedDecoderCard : Claim7 := { stood := { row := fnExactFeedDecoderRow, standIns := [], harness := (true, "8373cd87953eb7c996dc955b3eda75fd1deb3a7d516dc23c24311f769bac295c"), looks := false }, kinds := [], alts := [], laidByText := true, laidKinds := [.data, .pinned], laidTests := true, laidLooks := .later }
def FnExactFeedDecoderCardSaid : Prop := Claim7.holds Tryz.pinned (.plain (OpenSpec.ofChange fnExactFeedDecoderSpec)) fnExactFeedDecoderCard

/-- THE TIED CARD OF 'laws.FnExactTickDecoder'. -/
def fnExactTickDecoderCard : Claim7 := { stood := { row := fnExactTickDecoderRow, standIns := [], harness := (true, "8373cd87953eb7c996dc955b3eda75fd1deb3a7d516dc23c24311f769bac295c"), looks := false }, kinds := [], alts := [], laidByText := true, laidKinds := [.data, .pinned], laidTests := true, laidLooks := .later }
def FnExactTickDecoderCardSaid : Prop := Claim7.holds Tryz.pinned (.plain (OpenSpec.ofChange fnExactTickDecoderSpec)) fnExactTickDecoderCard

/-- THE TIED CARD OF 'laws.FnExactDecodeAll'. -/
def fnExactDecodeAllCard : Claim7 := { stood := { row := fnExactDecodeAllRow, standIns := [], harness := (true, "8373cd87953eb7c996dc955b3eda75fd1deb3a7d516dc23c24311f769bac295c"), looks := false }, kinds := [], alts := [], laidByText := true, laidKinds := [.data, .pinned], laidTests := true, laidLooks := .later }
def FnExactDecodeAllCardSaid : Prop := Claim7.holds Tryz.pinned (.plain (OpenSpec.ofChange fnExactDecodeAllSpec)) fnExactDecodeAllCard

/-- THE SECOND FORM's CARD OF 'laws.FnTokens'. -/
def fnTokensUptoCard : Claim7 := { stood := { row := fnTokensUptoRow, standIns := [], harness := (true, "8373cd87953eb7c996dc955b3eda75fd1deb3a7d516dc23c24311f769bac295c"), looks := false }, kinds := [], alts := [], laidByText := true, laidKinds := [.data, .pinned], laidTests := true, laidLooks := .later }
def FnTokensUptoCardSaid : Prop := Claim7.holds Tryz.pinned (.plain (OpenSpec.upto fnTokensSpec)) fnTokensUptoCard

/-- THE SECOND FORM's CARD OF 'laws.FnFlushes'. -/
def fnFlushesUptoCard : Claim7 := { stood := { row := fnFlushesUptoRow, standIns := [], harness := (true, "8373cd87953eb7c996dc955b3eda75fd1deb3a7d516dc23c24311f769bac295c"), looks := false }, kinds := [], alts := [], laidByText := true, laidKinds := [.data, .pinned], laidTests := true, laidLooks := .later }
def FnFlushesUptoCardSaid : Prop := Claim7.holds Tryz.pinned (.plain (OpenSpec.upto fnFlushesSpec)) fnFlushesUptoCard

/-- THE SECOND FORM's CARD OF 'laws.FnDecodes'. -/
def fnDecodesUptoCard : Claim7 := { stood := { row := fnDecodesUptoRow, standIns := [], harness := (true, "8373cd87953eb7c996dc955b3eda75fd1deb3a7d516dc23c24311f769bac295c"), looks := false }, kinds := [], alts := [], laidByText := true, laidKinds := [.data, .pinned], laidTests := true, laidLooks := .later }
def FnDecodesUptoCardSaid : Prop := Claim7.holds Tryz.pinned (.plain (OpenSpec.upto fnDecodesSpec)) fnDecodesUptoCard

/-- THE SECOND FORM's CARD OF 'laws.FnTicks'. -/
def fnTicksUptoCard : Claim7 := { stood := { row := fnTicksUptoRow, standIns := [], harness := (true, "8373cd87953eb7c996dc955b3eda75fd1deb3a7d516dc23c24311f769bac295c"), looks := false }, kinds := [], alts := [], laidByText := true, laidKinds := [.data, .pinned], laidTests := true, laidLooks := .later }
def FnTicksUptoCardSaid : Prop := Claim7.holds Tryz.pinned (.plain (OpenSpec.upto fnTicksSpec)) fnTicksUptoCard

/-- THE SECOND FORM's CARD OF 'laws.FnExactFeedDecoder'. -/
def fnExactFeedDecoderUptoCard : Claim7 := { stood := { row := fnExactFeedDecoderUptoRow, standIns := [], harness := (true, "8373cd87953eb7c996dc955b3eda75fd1deb3a7d516dc23c24311f769bac295c"), looks := false }, kinds := [], alts := [], laidByText := true, laidKinds := [.data, .pinned], laidTests := true, laidLooks := .later }
def FnExactFeedDecoderUptoCardSaid : Prop := Claim7.holds Tryz.pinned (.plain (OpenSpec.upto fnExactFeedDecoderSpec)) fnExactFeedDecoderUptoCard

/-- THE SECOND FORM's CARD OF 'laws.FnExactTickDecoder'. -/
def fnExactTickDecoderUptoCard : Claim7 := { stood := { row := fnExactTickDecoderUptoRow, standIns := [], harness := (true, "8373cd87953eb7c996dc955b3eda75fd1deb3a7d516dc23c24311f769bac295c"), looks := false }, kinds := [], alts := [], laidByText := true, laidKinds := [.data, .pinned], laidTests := true, laidLooks := .later }
def FnExactTickDecoderUptoCardSaid : Prop := Claim7.holds Tryz.pinned (.plain (OpenSpec.upto fnExactTickDecoderSpec)) fnExactTickDecoderUptoCard

/-- THE SECOND FORM's CARD OF 'laws.FnExactDecodeAll'. -/
def fnExactDecodeAllUptoCard : Claim7 := { stood := { row := fnExactDecodeAllUptoRow, standIns := [], harness := (true, "8373cd87953eb7c996dc955b3eda75fd1deb3a7d516dc23c24311f769bac295c"), looks := false }, kinds := [], alts := [], laidByText := true, laidKinds := [.data, .pinned], laidTests := true, laidLooks := .later }
def FnExactDecodeAllUptoCardSaid : Prop := Claim7.holds Tryz.pinned (.plain (OpenSpec.upto fnExactDecodeAllSpec)) fnExactDecodeAllUptoCard
end Rows
end Go.Proofs.YtbnpodledgaipaaGreatDoor
