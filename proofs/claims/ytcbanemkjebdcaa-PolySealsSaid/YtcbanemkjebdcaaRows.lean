/-
  No cell of these rows narrows 'for every input' (looked for: loops, veiled, ifaces, maps, wideKeys, modest, calm, conditions, laid).
  DERIVED. THE GIVEN ROWS OF THIS SEAT. 5 by the template 'for every input the law returns true; each argument reads behind the call as it read before'; 0 by the template 'total and deterministic' (their statements: YtcbanemkjebdcaaTotals.lean).
  GIVEN WITH THE SEED: the statements are not yours to turn. If you find one false, say at which input.
  Laid BY PROGRAM, IN A SANDBOX (cutbox-rows.mjs): the forced cells as the released guide's own fill.sh prints them over the translation d348786d8b452675… (all of the seat's roots in one cut). By AI agents, Wed Nov 11 2026. No macro, syntax, notation, axiom, sorry.
-/
import Derived.Test.YtcbanemkjebdcaaChecked
import GoSem.Claim
import GoSem.ClaimJoined
import GoSem.ClaimMapViews
import Derived.JoinedTies
import Derived.KernelRfl
namespace Go.Proofs.Ytcbanemkjebdcaa
/- THE CELL 'sum', in the pinned program and in every row, IS THE sha256 OF THE DUMP (.gsa) THAT YtcbanemkjebdcaaProg.lean LOADS. Nothing in Lean hashes anything: it is a label: what it is worth is what the hold of that sum in a sandbox is worth. -/
noncomputable def Try.pinned : Pinned := { name := "ytcbanemkjebdcaa", sum := "d348786d8b452675f50d7b3d7413353d0cb95d420a64370f296409e9f862e6b3", checked := Try.checked }
namespace Rows
def none {H : Type} : Left H := { results := [], args := [] }

/-- 'headendlaw04.PolyValues': WHATEVER THE INPUT: true; the input reads as it did. -/
def polyValuesSpec : ChangeSpec := { name := "polyValues", fn := fun _ => fun
  | [d1, d2, d3, d4, d5] => { results := [.lit (.bool true)], args := [d1, d2, d3, d4, d5] }
  | _ => none }
def polyValuesRow : OpenClaim := { program := "ytcbanemkjebdcaa", sum := "d348786d8b452675f50d7b3d7413353d0cb95d420a64370f296409e9f862e6b3", func := "headend/headendlaw04.PolyValues", spec := "polyValues", unfollowed := true, recurses := true, apart := false }
def PolyValuesSaid : Prop := polyValuesRow.holds Try.pinned (OpenSpec.ofChange polyValuesSpec)

/-- ITS FALSE NEIGHBOUR: 'it returns false'. Refute it at one input. -/
def polyValuesWrong : ChangeSpec := { name := "polyValues", fn := fun _ => fun
  | [d1, d2, d3, d4, d5] => { results := [.lit (.bool false)], args := [d1, d2, d3, d4, d5] }
  | _ => none }
def PolyValuesWrongFalsely : Prop := polyValuesRow.holds Try.pinned (OpenSpec.ofChange polyValuesWrong)

/-- 'headendlaw04.PolySecrets': WHATEVER THE INPUT: true; the input reads as it did. -/
def polySecretsSpec : ChangeSpec := { name := "polySecrets", fn := fun _ => fun
  | [d1, d2, d3] => { results := [.lit (.bool true)], args := [d1, d2, d3] }
  | _ => none }
def polySecretsRow : OpenClaim := { program := "ytcbanemkjebdcaa", sum := "d348786d8b452675f50d7b3d7413353d0cb95d420a64370f296409e9f862e6b3", func := "headend/headendlaw04.PolySecrets", spec := "polySecrets", unfollowed := true, recurses := true, apart := false }
def PolySecretsSaid : Prop := polySecretsRow.holds Try.pinned (OpenSpec.ofChange polySecretsSpec)

/-- ITS FALSE NEIGHBOUR: 'it returns false'. Refute it at one input. -/
def polySecretsWrong : ChangeSpec := { name := "polySecrets", fn := fun _ => fun
  | [d1, d2, d3] => { results := [.lit (.bool false)], args := [d1, d2, d3] }
  | _ => none }
def PolySecretsWrongFalsely : Prop := polySecretsRow.holds Try.pinned (OpenSpec.ofChange polySecretsWrong)

/-- 'headendlaw04.PolySeals': WHATEVER THE INPUT: true; the input reads as it did. -/
def polySealsSpec : ChangeSpec := { name := "polySeals", fn := fun _ => fun
  | [d1, d2, d3, d4, d5] => { results := [.lit (.bool true)], args := [d1, d2, d3, d4, d5] }
  | _ => none }
def polySealsRow : OpenClaim := { program := "ytcbanemkjebdcaa", sum := "d348786d8b452675f50d7b3d7413353d0cb95d420a64370f296409e9f862e6b3", func := "headend/headendlaw04.PolySeals", spec := "polySeals", unfollowed := true, recurses := true, apart := false }
def PolySealsSaid : Prop := polySealsRow.holds Try.pinned (OpenSpec.ofChange polySealsSpec)

/-- ITS FALSE NEIGHBOUR: 'it returns false'. Refute it at one input. -/
def polySealsWrong : ChangeSpec := { name := "polySeals", fn := fun _ => fun
  | [d1, d2, d3, d4, d5] => { results := [.lit (.bool false)], args := [d1, d2, d3, d4, d5] }
  | _ => none }
def PolySealsWrongFalsely : Prop := polySealsRow.holds Try.pinned (OpenSpec.ofChange polySealsWrong)

/-- 'headendlaw04.PolyOpens': WHATEVER THE INPUT: true; the input reads as it did. -/
def polyOpensSpec : ChangeSpec := { name := "polyOpens", fn := fun _ => fun
  | [d1, d2, d3] => { results := [.lit (.bool true)], args := [d1, d2, d3] }
  | _ => none }
def polyOpensRow : OpenClaim := { program := "ytcbanemkjebdcaa", sum := "d348786d8b452675f50d7b3d7413353d0cb95d420a64370f296409e9f862e6b3", func := "headend/headendlaw04.PolyOpens", spec := "polyOpens", unfollowed := true, recurses := true, apart := false }
def PolyOpensSaid : Prop := polyOpensRow.holds Try.pinned (OpenSpec.ofChange polyOpensSpec)

/-- ITS FALSE NEIGHBOUR: 'it returns false'. Refute it at one input. -/
def polyOpensWrong : ChangeSpec := { name := "polyOpens", fn := fun _ => fun
  | [d1, d2, d3] => { results := [.lit (.bool false)], args := [d1, d2, d3] }
  | _ => none }
def PolyOpensWrongFalsely : Prop := polyOpensRow.holds Try.pinned (OpenSpec.ofChange polyOpensWrong)

/-- 'headendlaw04.PolyPunctures': WHATEVER THE INPUT: true; the input reads as it did. -/
def polyPuncturesSpec : ChangeSpec := { name := "polyPunctures", fn := fun _ => fun
  | [d1, d2, d3, d4] => { results := [.lit (.bool true)], args := [d1, d2, d3, d4] }
  | _ => none }
def polyPuncturesRow : OpenClaim := { program := "ytcbanemkjebdcaa", sum := "d348786d8b452675f50d7b3d7413353d0cb95d420a64370f296409e9f862e6b3", func := "headend/headendlaw04.PolyPunctures", spec := "polyPunctures", unfollowed := true, recurses := true, apart := false }
def PolyPuncturesSaid : Prop := polyPuncturesRow.holds Try.pinned (OpenSpec.ofChange polyPuncturesSpec)

/-- ITS FALSE NEIGHBOUR: 'it returns false'. Refute it at one input. -/
def polyPuncturesWrong : ChangeSpec := { name := "polyPunctures", fn := fun _ => fun
  | [d1, d2, d3, d4] => { results := [.lit (.bool false)], args := [d1, d2, d3, d4] }
  | _ => none }
def PolyPuncturesWrongFalsely : Prop := polyPuncturesRow.holds Try.pinned (OpenSpec.ofChange polyPuncturesWrong)

/- THE SECOND FORM. 'bulk': how many values and letters a reading holds, each counted each time it is reached (what is shared counts as often as it is met; a slice's spare places count too). A statement '..UptoSaid' is the law's where the arguments, and the package variables that the reading takes, are together of bulk at most 1048576: NARROWER than '..Said'. Prove '..Said' where nothing that the law and all that it calls make is longer than what came in: it says more and counts as full. Else prove '..UptoSaid'. A law counts once. -/
mutual
def uptoBulk {H : Type} : DataW H → Nat
  | .lit (.string bytes) => bytes.length + 1
  | .lit _ => 1
  | .nil => 1
  | .ptr d => uptoBulk d + 1
  | .slice elems spare => uptoBulkAll elems + uptoBulkAll spare + 1
  | .agg parts => uptoBulkAll parts + 1
  | .iface _ d => uptoBulk d + 1
  | .map entries => uptoBulkEntries entries + 1
  | .held _ => 1
def uptoBulkAll {H : Type} : List (DataW H) → Nat
  | [] => 0
  | d :: r => uptoBulk d + uptoBulkAll r
def uptoBulkEntries {H : Type} : List (Lit × DataW H) → Nat
  | [] => 0
  | x :: r => uptoBulkEntry x + uptoBulkEntries r
def uptoBulkEntry {H : Type} : Lit × DataW H → Nat
  | (.string bytes, d) => bytes.length + uptoBulk d + 1
  | (_, d) => uptoBulk d + 1
 end
def uptoSmall : (H : Type) → List (DataW H) → Bool := fun _ ds => decide (uptoBulkAll ds ≤ 1048576)
def OpenSpec.upto (s : _root_.Go.ChangeSpec) : _root_.Go.OpenSpec := { _root_.Go.OpenSpec.ofChange s with cond := some uptoSmall }

/-- 'headendlaw04.PolyValues', WHERE WHAT IT READS IS OF BULK AT MOST 1048576: true; the input reads as it did. -/
def polyValuesUptoRow : OpenClaim := { program := "ytcbanemkjebdcaa", sum := "d348786d8b452675f50d7b3d7413353d0cb95d420a64370f296409e9f862e6b3", func := "headend/headendlaw04.PolyValues", spec := "polyValues", unfollowed := true, recurses := true, apart := false, narrowed := true }
def PolyValuesUptoSaid : Prop := polyValuesUptoRow.holds Try.pinned (OpenSpec.upto polyValuesSpec)

/-- 'headendlaw04.PolySecrets', WHERE WHAT IT READS IS OF BULK AT MOST 1048576: true; the input reads as it did. -/
def polySecretsUptoRow : OpenClaim := { program := "ytcbanemkjebdcaa", sum := "d348786d8b452675f50d7b3d7413353d0cb95d420a64370f296409e9f862e6b3", func := "headend/headendlaw04.PolySecrets", spec := "polySecrets", unfollowed := true, recurses := true, apart := false, narrowed := true }
def PolySecretsUptoSaid : Prop := polySecretsUptoRow.holds Try.pinned (OpenSpec.upto polySecretsSpec)

/-- 'headendlaw04.PolySeals', WHERE WHAT IT READS IS OF BULK AT MOST 1048576: true; the input reads as it did. -/
def polySealsUptoRow : OpenClaim := { program := "ytcbanemkjebdcaa", sum := "d348786d8b452675f50d7b3d7413353d0cb95d420a64370f296409e9f862e6b3", func := "headend/headendlaw04.PolySeals", spec := "polySeals", unfollowed := true, recurses := true, apart := false, narrowed := true }
def PolySealsUptoSaid : Prop := polySealsUptoRow.holds Try.pinned (OpenSpec.upto polySealsSpec)

/-- 'headendlaw04.PolyOpens', WHERE WHAT IT READS IS OF BULK AT MOST 1048576: true; the input reads as it did. -/
def polyOpensUptoRow : OpenClaim := { program := "ytcbanemkjebdcaa", sum := "d348786d8b452675f50d7b3d7413353d0cb95d420a64370f296409e9f862e6b3", func := "headend/headendlaw04.PolyOpens", spec := "polyOpens", unfollowed := true, recurses := true, apart := false, narrowed := true }
def PolyOpensUptoSaid : Prop := polyOpensUptoRow.holds Try.pinned (OpenSpec.upto polyOpensSpec)

/-- 'headendlaw04.PolyPunctures', WHERE WHAT IT READS IS OF BULK AT MOST 1048576: true; the input reads as it did. -/
def polyPuncturesUptoRow : OpenClaim := { program := "ytcbanemkjebdcaa", sum := "d348786d8b452675f50d7b3d7413353d0cb95d420a64370f296409e9f862e6b3", func := "headend/headendlaw04.PolyPunctures", spec := "polyPunctures", unfollowed := true, recurses := true, apart := false, narrowed := true }
def PolyPuncturesUptoSaid : Prop := polyPuncturesUptoRow.holds Try.pinned (OpenSpec.upto polyPuncturesSpec)

end Rows
end Go.Proofs.Ytcbanemkjebdcaa
