/-
  No cell of these rows narrows 'for every input' (looked for: loops, veiled, ifaces, maps, wideKeys, modest, calm, conditions, laid).
  DERIVED. THE GIVEN ROWS OF THIS SEAT. 17 by the template 'for every input the law returns true; each argument reads behind the call as it read before'; 0 by the template 'total and deterministic' (their statements: YtnbkoffhplknbaaTotals.lean).
  GIVEN WITH THE SEED: the statements are not yours to turn. If you find one false, say at which input.
  Laid BY PROGRAM, IN A SANDBOX (cutbox-rows.mjs): the forced cells as the released guide's own fill.sh prints them over the translation 64dc037423ee175b… (all of the seat's roots in one cut). By AI agents, Wed Nov 11 2026. No macro, syntax, notation, axiom, sorry.
-/
import Derived.Test.YtnbkoffhplknbaaChecked
import GoSem.Claim
import GoSem.ClaimJoined
import GoSem.ClaimMapViews
import Derived.JoinedTies
import Derived.KernelRfl
namespace Go.Proofs.Ytnbkoffhplknbaa
/- THE CELL 'sum', in the pinned program and in every row, IS THE sha256 OF THE DUMP (.gsa) THAT YtnbkoffhplknbaaProg.lean LOADS. Nothing in Lean hashes anything: it is a label: what it is worth is what the hold of that sum in a sandbox is worth. -/
noncomputable def Try.pinned : Pinned := { name := "ytnbkoffhplknbaa", sum := "64dc037423ee175b3cb886280269cf07c7bbbf3aa83809206b729811324ab9d2", checked := Try.checked }
namespace Rows
def none {H : Type} : Left H := { results := [], args := [] }

/-- 'headendlaw03.CoverExamples': WHATEVER THE INPUT: true; the input reads as it did. -/
def coverExamplesSpec : ChangeSpec := { name := "coverExamples", fn := fun _ => fun
  | [] => { results := [.lit (.bool true)], args := [] }
  | _ => none }
def coverExamplesRow : OpenClaim := { program := "ytnbkoffhplknbaa", sum := "64dc037423ee175b3cb886280269cf07c7bbbf3aa83809206b729811324ab9d2", func := "headend/headendlaw03.CoverExamples", spec := "coverExamples", unfollowed := true, recurses := true, apart := false }
def CoverExamplesSaid : Prop := coverExamplesRow.holds Try.pinned (OpenSpec.ofChange coverExamplesSpec)

/-- ITS FALSE NEIGHBOUR: 'it returns false'. Refute it at one input. -/
def coverExamplesWrong : ChangeSpec := { name := "coverExamples", fn := fun _ => fun
  | [] => { results := [.lit (.bool false)], args := [] }
  | _ => none }
def CoverExamplesWrongFalsely : Prop := coverExamplesRow.holds Try.pinned (OpenSpec.ofChange coverExamplesWrong)

/-- 'headendlaw03.CoverSchemes': WHATEVER THE INPUT: true; the input reads as it did. -/
def coverSchemesSpec : ChangeSpec := { name := "coverSchemes", fn := fun _ => fun
  | [d1, d2] => { results := [.lit (.bool true)], args := [d1, d2] }
  | _ => none }
def coverSchemesRow : OpenClaim := { program := "ytnbkoffhplknbaa", sum := "64dc037423ee175b3cb886280269cf07c7bbbf3aa83809206b729811324ab9d2", func := "headend/headendlaw03.CoverSchemes", spec := "coverSchemes", unfollowed := true, recurses := true, apart := false }
def CoverSchemesSaid : Prop := coverSchemesRow.holds Try.pinned (OpenSpec.ofChange coverSchemesSpec)

/-- ITS FALSE NEIGHBOUR: 'it returns false'. Refute it at one input. -/
def coverSchemesWrong : ChangeSpec := { name := "coverSchemes", fn := fun _ => fun
  | [d1, d2] => { results := [.lit (.bool false)], args := [d1, d2] }
  | _ => none }
def CoverSchemesWrongFalsely : Prop := coverSchemesRow.holds Try.pinned (OpenSpec.ofChange coverSchemesWrong)

/-- 'headendlaw03.CoverCovers': WHATEVER THE INPUT: true; the input reads as it did. -/
def coverCoversSpec : ChangeSpec := { name := "coverCovers", fn := fun _ => fun
  | [d1, d2] => { results := [.lit (.bool true)], args := [d1, d2] }
  | _ => none }
def coverCoversRow : OpenClaim := { program := "ytnbkoffhplknbaa", sum := "64dc037423ee175b3cb886280269cf07c7bbbf3aa83809206b729811324ab9d2", func := "headend/headendlaw03.CoverCovers", spec := "coverCovers", unfollowed := true, recurses := true, apart := false }
def CoverCoversSaid : Prop := coverCoversRow.holds Try.pinned (OpenSpec.ofChange coverCoversSpec)

/-- ITS FALSE NEIGHBOUR: 'it returns false'. Refute it at one input. -/
def coverCoversWrong : ChangeSpec := { name := "coverCovers", fn := fun _ => fun
  | [d1, d2] => { results := [.lit (.bool false)], args := [d1, d2] }
  | _ => none }
def CoverCoversWrongFalsely : Prop := coverCoversRow.holds Try.pinned (OpenSpec.ofChange coverCoversWrong)

/-- 'headendlaw03.CoverSplits': WHATEVER THE INPUT: true; the input reads as it did. -/
def coverSplitsSpec : ChangeSpec := { name := "coverSplits", fn := fun _ => fun
  | [d1, d2] => { results := [.lit (.bool true)], args := [d1, d2] }
  | _ => none }
def coverSplitsRow : OpenClaim := { program := "ytnbkoffhplknbaa", sum := "64dc037423ee175b3cb886280269cf07c7bbbf3aa83809206b729811324ab9d2", func := "headend/headendlaw03.CoverSplits", spec := "coverSplits", unfollowed := true, recurses := true, apart := false }
def CoverSplitsSaid : Prop := coverSplitsRow.holds Try.pinned (OpenSpec.ofChange coverSplitsSpec)

/-- ITS FALSE NEIGHBOUR: 'it returns false'. Refute it at one input. -/
def coverSplitsWrong : ChangeSpec := { name := "coverSplits", fn := fun _ => fun
  | [d1, d2] => { results := [.lit (.bool false)], args := [d1, d2] }
  | _ => none }
def CoverSplitsWrongFalsely : Prop := coverSplitsRow.holds Try.pinned (OpenSpec.ofChange coverSplitsWrong)

/-- 'headendlaw03.CoverSecrets': WHATEVER THE INPUT: true; the input reads as it did. -/
def coverSecretsSpec : ChangeSpec := { name := "coverSecrets", fn := fun _ => fun
  | [d1, d2, d3] => { results := [.lit (.bool true)], args := [d1, d2, d3] }
  | _ => none }
def coverSecretsRow : OpenClaim := { program := "ytnbkoffhplknbaa", sum := "64dc037423ee175b3cb886280269cf07c7bbbf3aa83809206b729811324ab9d2", func := "headend/headendlaw03.CoverSecrets", spec := "coverSecrets", unfollowed := true, recurses := true, apart := false }
def CoverSecretsSaid : Prop := coverSecretsRow.holds Try.pinned (OpenSpec.ofChange coverSecretsSpec)

/-- ITS FALSE NEIGHBOUR: 'it returns false'. Refute it at one input. -/
def coverSecretsWrong : ChangeSpec := { name := "coverSecrets", fn := fun _ => fun
  | [d1, d2, d3] => { results := [.lit (.bool false)], args := [d1, d2, d3] }
  | _ => none }
def CoverSecretsWrongFalsely : Prop := coverSecretsRow.holds Try.pinned (OpenSpec.ofChange coverSecretsWrong)

/-- 'headendlaw03.CoverKeys': WHATEVER THE INPUT: true; the input reads as it did. -/
def coverKeysSpec : ChangeSpec := { name := "coverKeys", fn := fun _ => fun
  | [d1, d2, d3, d4, d5, d6] => { results := [.lit (.bool true)], args := [d1, d2, d3, d4, d5, d6] }
  | _ => none }
def coverKeysRow : OpenClaim := { program := "ytnbkoffhplknbaa", sum := "64dc037423ee175b3cb886280269cf07c7bbbf3aa83809206b729811324ab9d2", func := "headend/headendlaw03.CoverKeys", spec := "coverKeys", unfollowed := true, recurses := true, apart := false }
def CoverKeysSaid : Prop := coverKeysRow.holds Try.pinned (OpenSpec.ofChange coverKeysSpec)

/-- ITS FALSE NEIGHBOUR: 'it returns false'. Refute it at one input. -/
def coverKeysWrong : ChangeSpec := { name := "coverKeys", fn := fun _ => fun
  | [d1, d2, d3, d4, d5, d6] => { results := [.lit (.bool false)], args := [d1, d2, d3, d4, d5, d6] }
  | _ => none }
def CoverKeysWrongFalsely : Prop := coverKeysRow.holds Try.pinned (OpenSpec.ofChange coverKeysWrong)

/-- 'headendlaw03.CoverSeals': WHATEVER THE INPUT: true; the input reads as it did. -/
def coverSealsSpec : ChangeSpec := { name := "coverSeals", fn := fun _ => fun
  | [d1, d2, d3, d4] => { results := [.lit (.bool true)], args := [d1, d2, d3, d4] }
  | _ => none }
def coverSealsRow : OpenClaim := { program := "ytnbkoffhplknbaa", sum := "64dc037423ee175b3cb886280269cf07c7bbbf3aa83809206b729811324ab9d2", func := "headend/headendlaw03.CoverSeals", spec := "coverSeals", unfollowed := true, recurses := true, apart := false }
def CoverSealsSaid : Prop := coverSealsRow.holds Try.pinned (OpenSpec.ofChange coverSealsSpec)

/-- ITS FALSE NEIGHBOUR: 'it returns false'. Refute it at one input. -/
def coverSealsWrong : ChangeSpec := { name := "coverSeals", fn := fun _ => fun
  | [d1, d2, d3, d4] => { results := [.lit (.bool false)], args := [d1, d2, d3, d4] }
  | _ => none }
def CoverSealsWrongFalsely : Prop := coverSealsRow.holds Try.pinned (OpenSpec.ofChange coverSealsWrong)

/-- 'headendlaw03.CoverOpens': WHATEVER THE INPUT: true; the input reads as it did. -/
def coverOpensSpec : ChangeSpec := { name := "coverOpens", fn := fun _ => fun
  | [d1, d2, d3] => { results := [.lit (.bool true)], args := [d1, d2, d3] }
  | _ => none }
def coverOpensRow : OpenClaim := { program := "ytnbkoffhplknbaa", sum := "64dc037423ee175b3cb886280269cf07c7bbbf3aa83809206b729811324ab9d2", func := "headend/headendlaw03.CoverOpens", spec := "coverOpens", unfollowed := true, recurses := true, apart := false }
def CoverOpensSaid : Prop := coverOpensRow.holds Try.pinned (OpenSpec.ofChange coverOpensSpec)

/-- ITS FALSE NEIGHBOUR: 'it returns false'. Refute it at one input. -/
def coverOpensWrong : ChangeSpec := { name := "coverOpens", fn := fun _ => fun
  | [d1, d2, d3] => { results := [.lit (.bool false)], args := [d1, d2, d3] }
  | _ => none }
def CoverOpensWrongFalsely : Prop := coverOpensRow.holds Try.pinned (OpenSpec.ofChange coverOpensWrong)

/-- 'headendlaw03.CoverHeaders': WHATEVER THE INPUT: true; the input reads as it did. -/
def coverHeadersSpec : ChangeSpec := { name := "coverHeaders", fn := fun _ => fun
  | [d1, d2] => { results := [.lit (.bool true)], args := [d1, d2] }
  | _ => none }
def coverHeadersRow : OpenClaim := { program := "ytnbkoffhplknbaa", sum := "64dc037423ee175b3cb886280269cf07c7bbbf3aa83809206b729811324ab9d2", func := "headend/headendlaw03.CoverHeaders", spec := "coverHeaders", apart := false }
def CoverHeadersSaid : Prop := coverHeadersRow.holds Try.pinned (OpenSpec.ofChange coverHeadersSpec)

/-- ITS FALSE NEIGHBOUR: 'it returns false'. Refute it at one input. -/
def coverHeadersWrong : ChangeSpec := { name := "coverHeaders", fn := fun _ => fun
  | [d1, d2] => { results := [.lit (.bool false)], args := [d1, d2] }
  | _ => none }
def CoverHeadersWrongFalsely : Prop := coverHeadersRow.holds Try.pinned (OpenSpec.ofChange coverHeadersWrong)

/-- 'headendlaw03.CoverExact': WHATEVER THE INPUT: true; the input reads as it did. -/
def coverExactSpec : ChangeSpec := { name := "coverExact", fn := fun _ => fun
  | [d1, d2] => { results := [.lit (.bool true)], args := [d1, d2] }
  | _ => none }
def coverExactRow : OpenClaim := { program := "ytnbkoffhplknbaa", sum := "64dc037423ee175b3cb886280269cf07c7bbbf3aa83809206b729811324ab9d2", func := "headend/headendlaw03.CoverExact", spec := "coverExact", unfollowed := true, recurses := true, apart := false }
def CoverExactSaid : Prop := coverExactRow.holds Try.pinned (OpenSpec.ofChange coverExactSpec)

/-- ITS FALSE NEIGHBOUR: 'it returns false'. Refute it at one input. -/
def coverExactWrong : ChangeSpec := { name := "coverExact", fn := fun _ => fun
  | [d1, d2] => { results := [.lit (.bool false)], args := [d1, d2] }
  | _ => none }
def CoverExactWrongFalsely : Prop := coverExactRow.holds Try.pinned (OpenSpec.ofChange coverExactWrong)

/-- 'headendlaw03.CoverSizes': WHATEVER THE INPUT: true; the input reads as it did. -/
def coverSizesSpec : ChangeSpec := { name := "coverSizes", fn := fun _ => fun
  | [d1, d2] => { results := [.lit (.bool true)], args := [d1, d2] }
  | _ => none }
def coverSizesRow : OpenClaim := { program := "ytnbkoffhplknbaa", sum := "64dc037423ee175b3cb886280269cf07c7bbbf3aa83809206b729811324ab9d2", func := "headend/headendlaw03.CoverSizes", spec := "coverSizes", unfollowed := true, recurses := true, apart := false }
def CoverSizesSaid : Prop := coverSizesRow.holds Try.pinned (OpenSpec.ofChange coverSizesSpec)

/-- ITS FALSE NEIGHBOUR: 'it returns false'. Refute it at one input. -/
def coverSizesWrong : ChangeSpec := { name := "coverSizes", fn := fun _ => fun
  | [d1, d2] => { results := [.lit (.bool false)], args := [d1, d2] }
  | _ => none }
def CoverSizesWrongFalsely : Prop := coverSizesRow.holds Try.pinned (OpenSpec.ofChange coverSizesWrong)

/-- 'headendlaw03.CoverOne': WHATEVER THE INPUT: true; the input reads as it did. -/
def coverOneSpec : ChangeSpec := { name := "coverOne", fn := fun _ => fun
  | [d1, d2, d3] => { results := [.lit (.bool true)], args := [d1, d2, d3] }
  | _ => none }
def coverOneRow : OpenClaim := { program := "ytnbkoffhplknbaa", sum := "64dc037423ee175b3cb886280269cf07c7bbbf3aa83809206b729811324ab9d2", func := "headend/headendlaw03.CoverOne", spec := "coverOne", unfollowed := true, recurses := true, apart := false }
def CoverOneSaid : Prop := coverOneRow.holds Try.pinned (OpenSpec.ofChange coverOneSpec)

/-- ITS FALSE NEIGHBOUR: 'it returns false'. Refute it at one input. -/
def coverOneWrong : ChangeSpec := { name := "coverOne", fn := fun _ => fun
  | [d1, d2, d3] => { results := [.lit (.bool false)], args := [d1, d2, d3] }
  | _ => none }
def CoverOneWrongFalsely : Prop := coverOneRow.holds Try.pinned (OpenSpec.ofChange coverOneWrong)

/-- 'headendlaw03.CoverKnows': WHATEVER THE INPUT: true; the input reads as it did. -/
def coverKnowsSpec : ChangeSpec := { name := "coverKnows", fn := fun _ => fun
  | [d1, d2, d3] => { results := [.lit (.bool true)], args := [d1, d2, d3] }
  | _ => none }
def coverKnowsRow : OpenClaim := { program := "ytnbkoffhplknbaa", sum := "64dc037423ee175b3cb886280269cf07c7bbbf3aa83809206b729811324ab9d2", func := "headend/headendlaw03.CoverKnows", spec := "coverKnows", unfollowed := true, recurses := true, apart := false }
def CoverKnowsSaid : Prop := coverKnowsRow.holds Try.pinned (OpenSpec.ofChange coverKnowsSpec)

/-- ITS FALSE NEIGHBOUR: 'it returns false'. Refute it at one input. -/
def coverKnowsWrong : ChangeSpec := { name := "coverKnows", fn := fun _ => fun
  | [d1, d2, d3] => { results := [.lit (.bool false)], args := [d1, d2, d3] }
  | _ => none }
def CoverKnowsWrongFalsely : Prop := coverKnowsRow.holds Try.pinned (OpenSpec.ofChange coverKnowsWrong)

/-- 'headendlaw03.CoverOpened': WHATEVER THE INPUT: true; the input reads as it did. -/
def coverOpenedSpec : ChangeSpec := { name := "coverOpened", fn := fun _ => fun
  | [d1, d2, d3, d4, d5] => { results := [.lit (.bool true)], args := [d1, d2, d3, d4, d5] }
  | _ => none }
def coverOpenedRow : OpenClaim := { program := "ytnbkoffhplknbaa", sum := "64dc037423ee175b3cb886280269cf07c7bbbf3aa83809206b729811324ab9d2", func := "headend/headendlaw03.CoverOpened", spec := "coverOpened", unfollowed := true, recurses := true, apart := false }
def CoverOpenedSaid : Prop := coverOpenedRow.holds Try.pinned (OpenSpec.ofChange coverOpenedSpec)

/-- ITS FALSE NEIGHBOUR: 'it returns false'. Refute it at one input. -/
def coverOpenedWrong : ChangeSpec := { name := "coverOpened", fn := fun _ => fun
  | [d1, d2, d3, d4, d5] => { results := [.lit (.bool false)], args := [d1, d2, d3, d4, d5] }
  | _ => none }
def CoverOpenedWrongFalsely : Prop := coverOpenedRow.holds Try.pinned (OpenSpec.ofChange coverOpenedWrong)

/-- 'headendlaw03.CoverSealed': WHATEVER THE INPUT: true; the input reads as it did. -/
def coverSealedSpec : ChangeSpec := { name := "coverSealed", fn := fun _ => fun
  | [d1, d2, d3, d4, d5] => { results := [.lit (.bool true)], args := [d1, d2, d3, d4, d5] }
  | _ => none }
def coverSealedRow : OpenClaim := { program := "ytnbkoffhplknbaa", sum := "64dc037423ee175b3cb886280269cf07c7bbbf3aa83809206b729811324ab9d2", func := "headend/headendlaw03.CoverSealed", spec := "coverSealed", unfollowed := true, recurses := true, apart := false }
def CoverSealedSaid : Prop := coverSealedRow.holds Try.pinned (OpenSpec.ofChange coverSealedSpec)

/-- ITS FALSE NEIGHBOUR: 'it returns false'. Refute it at one input. -/
def coverSealedWrong : ChangeSpec := { name := "coverSealed", fn := fun _ => fun
  | [d1, d2, d3, d4, d5] => { results := [.lit (.bool false)], args := [d1, d2, d3, d4, d5] }
  | _ => none }
def CoverSealedWrongFalsely : Prop := coverSealedRow.holds Try.pinned (OpenSpec.ofChange coverSealedWrong)

/-- 'headendlaw03.CoverStores': WHATEVER THE INPUT: true; the input reads as it did. -/
def coverStoresSpec : ChangeSpec := { name := "coverStores", fn := fun _ => fun
  | [d1, d2, d3] => { results := [.lit (.bool true)], args := [d1, d2, d3] }
  | _ => none }
def coverStoresRow : OpenClaim := { program := "ytnbkoffhplknbaa", sum := "64dc037423ee175b3cb886280269cf07c7bbbf3aa83809206b729811324ab9d2", func := "headend/headendlaw03.CoverStores", spec := "coverStores", unfollowed := true, recurses := true, apart := false }
def CoverStoresSaid : Prop := coverStoresRow.holds Try.pinned (OpenSpec.ofChange coverStoresSpec)

/-- ITS FALSE NEIGHBOUR: 'it returns false'. Refute it at one input. -/
def coverStoresWrong : ChangeSpec := { name := "coverStores", fn := fun _ => fun
  | [d1, d2, d3] => { results := [.lit (.bool false)], args := [d1, d2, d3] }
  | _ => none }
def CoverStoresWrongFalsely : Prop := coverStoresRow.holds Try.pinned (OpenSpec.ofChange coverStoresWrong)

/-- 'headendlaw03.CoverHeaderBack': WHATEVER THE INPUT: true; the input reads as it did. -/
def coverHeaderBackSpec : ChangeSpec := { name := "coverHeaderBack", fn := fun _ => fun
  | [d1, d2, d3] => { results := [.lit (.bool true)], args := [d1, d2, d3] }
  | _ => none }
def coverHeaderBackRow : OpenClaim := { program := "ytnbkoffhplknbaa", sum := "64dc037423ee175b3cb886280269cf07c7bbbf3aa83809206b729811324ab9d2", func := "headend/headendlaw03.CoverHeaderBack", spec := "coverHeaderBack", unfollowed := true, recurses := true, apart := false }
def CoverHeaderBackSaid : Prop := coverHeaderBackRow.holds Try.pinned (OpenSpec.ofChange coverHeaderBackSpec)

/-- ITS FALSE NEIGHBOUR: 'it returns false'. Refute it at one input. -/
def coverHeaderBackWrong : ChangeSpec := { name := "coverHeaderBack", fn := fun _ => fun
  | [d1, d2, d3] => { results := [.lit (.bool false)], args := [d1, d2, d3] }
  | _ => none }
def CoverHeaderBackWrongFalsely : Prop := coverHeaderBackRow.holds Try.pinned (OpenSpec.ofChange coverHeaderBackWrong)

/- THE SECOND FORM. 'bulk': how many values and letters a reading holds, each counted each time it is reached (what is shared counts as often as it is met; a slice's spare places count too). A statement '..UptoSaid' is the law's where the arguments, and the package variables that the reading takes, are together of bulk at most 1048576: NARROWER than '..Said'. Prove '..Said' where nothing that the law and all that it calls make is longer than what came in: it says more and counts as full. Else prove '..UptoSaid'. A law counts once. -/
mutual
def uptoBulk {H : Type} : DataW H → Nat
  | .lit (.string bytes) => bytes.length + 1
  | .lit _ => 1
  | .nil => 1
  | .ptr d => uptoBulk d + 1
  | .slice elems spare => uptoBulkAll elems + uptoBulkAll spare + 1
  | .agg parts => uptoBulkAll parts + 1
  | .iface _ d => uptoBulk d + 1
  | .map entries => uptoBulkEntries entries + 1
  | .held _ => 1
def uptoBulkAll {H : Type} : List (DataW H) → Nat
  | [] => 0
  | d :: r => uptoBulk d + uptoBulkAll r
def uptoBulkEntries {H : Type} : List (Lit × DataW H) → Nat
  | [] => 0
  | x :: r => uptoBulkEntry x + uptoBulkEntries r
def uptoBulkEntry {H : Type} : Lit × DataW H → Nat
  | (.string bytes, d) => bytes.length + uptoBulk d + 1
  | (_, d) => uptoBulk d + 1
 end
def uptoSmall : (H : Type) → List (DataW H) → Bool := fun _ ds => decide (uptoBulkAll ds ≤ 1048576)
def OpenSpec.upto (s : _root_.Go.ChangeSpec) : _root_.Go.OpenSpec := { _root_.Go.OpenSpec.ofChange s with cond := some uptoSmall }

/-- 'headendlaw03.CoverExamples', WHERE WHAT IT READS IS OF BULK AT MOST 1048576: true; the input reads as it did. -/
def coverExamplesUptoRow : OpenClaim := { program := "ytnbkoffhplknbaa", sum := "64dc037423ee175b3cb886280269cf07c7bbbf3aa83809206b729811324ab9d2", func := "headend/headendlaw03.CoverExamples", spec := "coverExamples", unfollowed := true, recurses := true, apart := false, narrowed := true }
def CoverExamplesUptoSaid : Prop := coverExamplesUptoRow.holds Try.pinned (OpenSpec.upto coverExamplesSpec)

/-- 'headendlaw03.CoverSchemes', WHERE WHAT IT READS IS OF BULK AT MOST 1048576: true; the input reads as it did. -/
def coverSchemesUptoRow : OpenClaim := { program := "ytnbkoffhplknbaa", sum := "64dc037423ee175b3cb886280269cf07c7bbbf3aa83809206b729811324ab9d2", func := "headend/headendlaw03.CoverSchemes", spec := "coverSchemes", unfollowed := true, recurses := true, apart := false, narrowed := true }
def CoverSchemesUptoSaid : Prop := coverSchemesUptoRow.holds Try.pinned (OpenSpec.upto coverSchemesSpec)

/-- 'headendlaw03.CoverCovers', WHERE WHAT IT READS IS OF BULK AT MOST 1048576: true; the input reads as it did. -/
def coverCoversUptoRow : OpenClaim := { program := "ytnbkoffhplknbaa", sum := "64dc037423ee175b3cb886280269cf07c7bbbf3aa83809206b729811324ab9d2", func := "headend/headendlaw03.CoverCovers", spec := "coverCovers", unfollowed := true, recurses := true, apart := false, narrowed := true }
def CoverCoversUptoSaid : Prop := coverCoversUptoRow.holds Try.pinned (OpenSpec.upto coverCoversSpec)

/-- 'headendlaw03.CoverSplits', WHERE WHAT IT READS IS OF BULK AT MOST 1048576: true; the input reads as it did. -/
def coverSplitsUptoRow : OpenClaim := { program := "ytnbkoffhplknbaa", sum := "64dc037423ee175b3cb886280269cf07c7bbbf3aa83809206b729811324ab9d2", func := "headend/headendlaw03.CoverSplits", spec := "coverSplits", unfollowed := true, recurses := true, apart := false, narrowed := true }
def CoverSplitsUptoSaid : Prop := coverSplitsUptoRow.holds Try.pinned (OpenSpec.upto coverSplitsSpec)

/-- 'headendlaw03.CoverSecrets', WHERE WHAT IT READS IS OF BULK AT MOST 1048576: true; the input reads as it did. -/
def coverSecretsUptoRow : OpenClaim := { program := "ytnbkoffhplknbaa", sum := "64dc037423ee175b3cb886280269cf07c7bbbf3aa83809206b729811324ab9d2", func := "headend/headendlaw03.CoverSecrets", spec := "coverSecrets", unfollowed := true, recurses := true, apart := false, narrowed := true }
def CoverSecretsUptoSaid : Prop := coverSecretsUptoRow.holds Try.pinned (OpenSpec.upto coverSecretsSpec)

/-- 'headendlaw03.CoverKeys', WHERE WHAT IT READS IS OF BULK AT MOST 1048576: true; the input reads as it did. -/
def coverKeysUptoRow : OpenClaim := { program := "ytnbkoffhplknbaa", sum := "64dc037423ee175b3cb886280269cf07c7bbbf3aa83809206b729811324ab9d2", func := "headend/headendlaw03.CoverKeys", spec := "coverKeys", unfollowed := true, recurses := true, apart := false, narrowed := true }
def CoverKeysUptoSaid : Prop := coverKeysUptoRow.holds Try.pinned (OpenSpec.upto coverKeysSpec)

/-- 'headendlaw03.CoverSeals', WHERE WHAT IT READS IS OF BULK AT MOST 1048576: true; the input reads as it did. -/
def coverSealsUptoRow : OpenClaim := { program := "ytnbkoffhplknbaa", sum := "64dc037423ee175b3cb886280269cf07c7bbbf3aa83809206b729811324ab9d2", func := "headend/headendlaw03.CoverSeals", spec := "coverSeals", unfollowed := true, recurses := true, apart := false, narrowed := true }
def CoverSealsUptoSaid : Prop := coverSealsUptoRow.holds Try.pinned (OpenSpec.upto coverSealsSpec)

/-- 'headendlaw03.CoverOpens', WHERE WHAT IT READS IS OF BULK AT MOST 1048576: true; the input reads as it did. -/
def coverOpensUptoRow : OpenClaim := { program := "ytnbkoffhplknbaa", sum := "64dc037423ee175b3cb886280269cf07c7bbbf3aa83809206b729811324ab9d2", func := "headend/headendlaw03.CoverOpens", spec := "coverOpens", unfollowed := true, recurses := true, apart := false, narrowed := true }
def CoverOpensUptoSaid : Prop := coverOpensUptoRow.holds Try.pinned (OpenSpec.upto coverOpensSpec)

/-- 'headendlaw03.CoverHeaders', WHERE WHAT IT READS IS OF BULK AT MOST 1048576: true; the input reads as it did. -/
def coverHeadersUptoRow : OpenClaim := { program := "ytnbkoffhplknbaa", sum := "64dc037423ee175b3cb886280269cf07c7bbbf3aa83809206b729811324ab9d2", func := "headend/headendlaw03.CoverHeaders", spec := "coverHeaders", apart := false, narrowed := true }
def CoverHeadersUptoSaid : Prop := coverHeadersUptoRow.holds Try.pinned (OpenSpec.upto coverHeadersSpec)

/-- 'headendlaw03.CoverExact', WHERE WHAT IT READS IS OF BULK AT MOST 1048576: true; the input reads as it did. -/
def coverExactUptoRow : OpenClaim := { program := "ytnbkoffhplknbaa", sum := "64dc037423ee175b3cb886280269cf07c7bbbf3aa83809206b729811324ab9d2", func := "headend/headendlaw03.CoverExact", spec := "coverExact", unfollowed := true, recurses := true, apart := false, narrowed := true }
def CoverExactUptoSaid : Prop := coverExactUptoRow.holds Try.pinned (OpenSpec.upto coverExactSpec)

/-- 'headendlaw03.CoverSizes', WHERE WHAT IT READS IS OF BULK AT MOST 1048576: true; the input reads as it did. -/
def coverSizesUptoRow : OpenClaim := { program := "ytnbkoffhplknbaa", sum := "64dc037423ee175b3cb886280269cf07c7bbbf3aa83809206b729811324ab9d2", func := "headend/headendlaw03.CoverSizes", spec := "coverSizes", unfollowed := true, recurses := true, apart := false, narrowed := true }
def CoverSizesUptoSaid : Prop := coverSizesUptoRow.holds Try.pinned (OpenSpec.upto coverSizesSpec)

/-- 'headendlaw03.CoverOne', WHERE WHAT IT READS IS OF BULK AT MOST 1048576: true; the input reads as it did. -/
def coverOneUptoRow : OpenClaim := { program := "ytnbkoffhplknbaa", sum := "64dc037423ee175b3cb886280269cf07c7bbbf3aa83809206b729811324ab9d2", func := "headend/headendlaw03.CoverOne", spec := "coverOne", unfollowed := true, recurses := true, apart := false, narrowed := true }
def CoverOneUptoSaid : Prop := coverOneUptoRow.holds Try.pinned (OpenSpec.upto coverOneSpec)

/-- 'headendlaw03.CoverKnows', WHERE WHAT IT READS IS OF BULK AT MOST 1048576: true; the input reads as it did. -/
def coverKnowsUptoRow : OpenClaim := { program := "ytnbkoffhplknbaa", sum := "64dc037423ee175b3cb886280269cf07c7bbbf3aa83809206b729811324ab9d2", func := "headend/headendlaw03.CoverKnows", spec := "coverKnows", unfollowed := true, recurses := true, apart := false, narrowed := true }
def CoverKnowsUptoSaid : Prop := coverKnowsUptoRow.holds Try.pinned (OpenSpec.upto coverKnowsSpec)

/-- 'headendlaw03.CoverOpened', WHERE WHAT IT READS IS OF BULK AT MOST 1048576: true; the input reads as it did. -/
def coverOpenedUptoRow : OpenClaim := { program := "ytnbkoffhplknbaa", sum := "64dc037423ee175b3cb886280269cf07c7bbbf3aa83809206b729811324ab9d2", func := "headend/headendlaw03.CoverOpened", spec := "coverOpened", unfollowed := true, recurses := true, apart := false, narrowed := true }
def CoverOpenedUptoSaid : Prop := coverOpenedUptoRow.holds Try.pinned (OpenSpec.upto coverOpenedSpec)

/-- 'headendlaw03.CoverSealed', WHERE WHAT IT READS IS OF BULK AT MOST 1048576: true; the input reads as it did. -/
def coverSealedUptoRow : OpenClaim := { program := "ytnbkoffhplknbaa", sum := "64dc037423ee175b3cb886280269cf07c7bbbf3aa83809206b729811324ab9d2", func := "headend/headendlaw03.CoverSealed", spec := "coverSealed", unfollowed := true, recurses := true, apart := false, narrowed := true }
def CoverSealedUptoSaid : Prop := coverSealedUptoRow.holds Try.pinned (OpenSpec.upto coverSealedSpec)

/-- 'headendlaw03.CoverStores', WHERE WHAT IT READS IS OF BULK AT MOST 1048576: true; the input reads as it did. -/
def coverStoresUptoRow : OpenClaim := { program := "ytnbkoffhplknbaa", sum := "64dc037423ee175b3cb886280269cf07c7bbbf3aa83809206b729811324ab9d2", func := "headend/headendlaw03.CoverStores", spec := "coverStores", unfollowed := true, recurses := true, apart := false, narrowed := true }
def CoverStoresUptoSaid : Prop := coverStoresUptoRow.holds Try.pinned (OpenSpec.upto coverStoresSpec)

/-- 'headendlaw03.CoverHeaderBack', WHERE WHAT IT READS IS OF BULK AT MOST 1048576: true; the input reads as it did. -/
def coverHeaderBackUptoRow : OpenClaim := { program := "ytnbkoffhplknbaa", sum := "64dc037423ee175b3cb886280269cf07c7bbbf3aa83809206b729811324ab9d2", func := "headend/headendlaw03.CoverHeaderBack", spec := "coverHeaderBack", unfollowed := true, recurses := true, apart := false, narrowed := true }
def CoverHeaderBackUptoSaid : Prop := coverHeaderBackUptoRow.holds Try.pinned (OpenSpec.upto coverHeaderBackSpec)

end Rows
end Go.Proofs.Ytnbkoffhplknbaa
