/-
  No cell of these rows narrows 'for every input' (looked for: loops, veiled, ifaces, maps, wideKeys, modest, calm, conditions, laid).
  DERIVED. THE GIVEN ROWS OF THIS SEAT. 5 by the template 'for every input the law returns true; each argument reads behind the call as it read before'; 0 by the template 'total and deterministic' (their statements: YtelalpikdidpeaaTotals.lean).
  GIVEN WITH THE SEED: the statements are not yours to turn. If you find one false, say at which input.
  Laid BY PROGRAM, IN A SANDBOX (cutbox-rows.mjs): the forced cells as the released guide's own fill.sh prints them over the translation 7e4c23cc3bacca7e… (all of the seat's roots in one cut). By AI agents, Wed Nov 11 2026. No macro, syntax, notation, axiom, sorry.
-/
import Derived.Test.YtelalpikdidpeaaChecked
import GoSem.Claim
import GoSem.ClaimJoined
import GoSem.ClaimMapViews
import Derived.JoinedTies
import Derived.KernelRfl
namespace Go.Proofs.Ytelalpikdidpeaa
/- THE CELL 'sum', in the pinned program and in every row, IS THE sha256 OF THE DUMP (.gsa) THAT YtelalpikdidpeaaProg.lean LOADS. Nothing in Lean hashes anything: it is a label: what it is worth is what the hold of that sum in a sandbox is worth. -/
noncomputable def Try.pinned : Pinned := { name := "ytelalpikdidpeaa", sum := "7e4c23cc3bacca7e58a5eb9d0929817c98618617d669d5f541670e368c898d93", checked := Try.checked }
namespace Rows
def none {H : Type} : Left H := { results := [], args := [] }

/-- 'headendlaw03.CoverKeys': WHATEVER THE INPUT: true; the input reads as it did. -/
def coverKeysSpec : ChangeSpec := { name := "coverKeys", fn := fun _ => fun
  | [d1, d2, d3, d4, d5, d6] => { results := [.lit (.bool true)], args := [d1, d2, d3, d4, d5, d6] }
  | _ => none }
def coverKeysRow : OpenClaim := { program := "ytelalpikdidpeaa", sum := "7e4c23cc3bacca7e58a5eb9d0929817c98618617d669d5f541670e368c898d93", func := "headend/headendlaw03.CoverKeys", spec := "coverKeys", unfollowed := true, recurses := true, apart := false }
def CoverKeysSaid : Prop := coverKeysRow.holds Try.pinned (OpenSpec.ofChange coverKeysSpec)

/-- ITS FALSE NEIGHBOUR: 'it returns false'. Refute it at one input. -/
def coverKeysWrong : ChangeSpec := { name := "coverKeys", fn := fun _ => fun
  | [d1, d2, d3, d4, d5, d6] => { results := [.lit (.bool false)], args := [d1, d2, d3, d4, d5, d6] }
  | _ => none }
def CoverKeysWrongFalsely : Prop := coverKeysRow.holds Try.pinned (OpenSpec.ofChange coverKeysWrong)

/-- 'headendlaw03.CoverSeals': WHATEVER THE INPUT: true; the input reads as it did. -/
def coverSealsSpec : ChangeSpec := { name := "coverSeals", fn := fun _ => fun
  | [d1, d2, d3, d4] => { results := [.lit (.bool true)], args := [d1, d2, d3, d4] }
  | _ => none }
def coverSealsRow : OpenClaim := { program := "ytelalpikdidpeaa", sum := "7e4c23cc3bacca7e58a5eb9d0929817c98618617d669d5f541670e368c898d93", func := "headend/headendlaw03.CoverSeals", spec := "coverSeals", unfollowed := true, recurses := true, apart := false }
def CoverSealsSaid : Prop := coverSealsRow.holds Try.pinned (OpenSpec.ofChange coverSealsSpec)

/-- ITS FALSE NEIGHBOUR: 'it returns false'. Refute it at one input. -/
def coverSealsWrong : ChangeSpec := { name := "coverSeals", fn := fun _ => fun
  | [d1, d2, d3, d4] => { results := [.lit (.bool false)], args := [d1, d2, d3, d4] }
  | _ => none }
def CoverSealsWrongFalsely : Prop := coverSealsRow.holds Try.pinned (OpenSpec.ofChange coverSealsWrong)

/-- 'headendlaw03.CoverOpens': WHATEVER THE INPUT: true; the input reads as it did. -/
def coverOpensSpec : ChangeSpec := { name := "coverOpens", fn := fun _ => fun
  | [d1, d2, d3] => { results := [.lit (.bool true)], args := [d1, d2, d3] }
  | _ => none }
def coverOpensRow : OpenClaim := { program := "ytelalpikdidpeaa", sum := "7e4c23cc3bacca7e58a5eb9d0929817c98618617d669d5f541670e368c898d93", func := "headend/headendlaw03.CoverOpens", spec := "coverOpens", unfollowed := true, recurses := true, apart := false }
def CoverOpensSaid : Prop := coverOpensRow.holds Try.pinned (OpenSpec.ofChange coverOpensSpec)

/-- ITS FALSE NEIGHBOUR: 'it returns false'. Refute it at one input. -/
def coverOpensWrong : ChangeSpec := { name := "coverOpens", fn := fun _ => fun
  | [d1, d2, d3] => { results := [.lit (.bool false)], args := [d1, d2, d3] }
  | _ => none }
def CoverOpensWrongFalsely : Prop := coverOpensRow.holds Try.pinned (OpenSpec.ofChange coverOpensWrong)

/-- 'headendlaw03.CoverHeaders': WHATEVER THE INPUT: true; the input reads as it did. -/
def coverHeadersSpec : ChangeSpec := { name := "coverHeaders", fn := fun _ => fun
  | [d1, d2] => { results := [.lit (.bool true)], args := [d1, d2] }
  | _ => none }
def coverHeadersRow : OpenClaim := { program := "ytelalpikdidpeaa", sum := "7e4c23cc3bacca7e58a5eb9d0929817c98618617d669d5f541670e368c898d93", func := "headend/headendlaw03.CoverHeaders", spec := "coverHeaders", apart := false }
def CoverHeadersSaid : Prop := coverHeadersRow.holds Try.pinned (OpenSpec.ofChange coverHeadersSpec)

/-- ITS FALSE NEIGHBOUR: 'it returns false'. Refute it at one input. -/
def coverHeadersWrong : ChangeSpec := { name := "coverHeaders", fn := fun _ => fun
  | [d1, d2] => { results := [.lit (.bool false)], args := [d1, d2] }
  | _ => none }
def CoverHeadersWrongFalsely : Prop := coverHeadersRow.holds Try.pinned (OpenSpec.ofChange coverHeadersWrong)

/-- 'headendlaw03.CoverCovers': WHATEVER THE INPUT: true; the input reads as it did. -/
def coverCoversSpec : ChangeSpec := { name := "coverCovers", fn := fun _ => fun
  | [d1, d2] => { results := [.lit (.bool true)], args := [d1, d2] }
  | _ => none }
def coverCoversRow : OpenClaim := { program := "ytelalpikdidpeaa", sum := "7e4c23cc3bacca7e58a5eb9d0929817c98618617d669d5f541670e368c898d93", func := "headend/headendlaw03.CoverCovers", spec := "coverCovers", unfollowed := true, recurses := true, apart := false }
def CoverCoversSaid : Prop := coverCoversRow.holds Try.pinned (OpenSpec.ofChange coverCoversSpec)

/-- ITS FALSE NEIGHBOUR: 'it returns false'. Refute it at one input. -/
def coverCoversWrong : ChangeSpec := { name := "coverCovers", fn := fun _ => fun
  | [d1, d2] => { results := [.lit (.bool false)], args := [d1, d2] }
  | _ => none }
def CoverCoversWrongFalsely : Prop := coverCoversRow.holds Try.pinned (OpenSpec.ofChange coverCoversWrong)

/- THE SECOND FORM. 'bulk': how many values and letters a reading holds, each counted each time it is reached (what is shared counts as often as it is met; a slice's spare places count too). A statement '..UptoSaid' is the law's where the arguments, and the package variables that the reading takes, are together of bulk at most 1048576: NARROWER than '..Said'. Prove '..Said' where nothing that the law and all that it calls make is longer than what came in: it says more and counts as full. Else prove '..UptoSaid'. A law counts once. -/
mutual
def uptoBulk {H : Type} : DataW H → Nat
  | .lit (.string bytes) => bytes.length + 1
  | .lit _ => 1
  | .nil => 1
  | .ptr d => uptoBulk d + 1
  | .slice elems spare => uptoBulkAll elems + uptoBulkAll spare + 1
  | .agg parts => uptoBulkAll parts + 1
  | .iface _ d => uptoBulk d + 1
  | .map entries => uptoBulkEntries entries + 1
  | .held _ => 1
def uptoBulkAll {H : Type} : List (DataW H) → Nat
  | [] => 0
  | d :: r => uptoBulk d + uptoBulkAll r
def uptoBulkEntries {H : Type} : List (Lit × DataW H) → Nat
  | [] => 0
  | x :: r => uptoBulkEntry x + uptoBulkEntries r
def uptoBulkEntry {H : Type} : Lit × DataW H → Nat
  | (.string bytes, d) => bytes.length + uptoBulk d + 1
  | (_, d) => uptoBulk d + 1
 end
def uptoSmall : (H : Type) → List (DataW H) → Bool := fun _ ds => decide (uptoBulkAll ds ≤ 1048576)
def OpenSpec.upto (s : _root_.Go.ChangeSpec) : _root_.Go.OpenSpec := { _root_.Go.OpenSpec.ofChange s with cond := some uptoSmall }

/-- 'headendlaw03.CoverKeys', WHERE WHAT IT READS IS OF BULK AT MOST 1048576: true; the input reads as it did. -/
def coverKeysUptoRow : OpenClaim := { program := "ytelalpikdidpeaa", sum := "7e4c23cc3bacca7e58a5eb9d0929817c98618617d669d5f541670e368c898d93", func := "headend/headendlaw03.CoverKeys", spec := "coverKeys", unfollowed := true, recurses := true, apart := false, narrowed := true }
def CoverKeysUptoSaid : Prop := coverKeysUptoRow.holds Try.pinned (OpenSpec.upto coverKeysSpec)

/-- 'headendlaw03.CoverSeals', WHERE WHAT IT READS IS OF BULK AT MOST 1048576: true; the input reads as it did. -/
def coverSealsUptoRow : OpenClaim := { program := "ytelalpikdidpeaa", sum := "7e4c23cc3bacca7e58a5eb9d0929817c98618617d669d5f541670e368c898d93", func := "headend/headendlaw03.CoverSeals", spec := "coverSeals", unfollowed := true, recurses := true, apart := false, narrowed := true }
def CoverSealsUptoSaid : Prop := coverSealsUptoRow.holds Try.pinned (OpenSpec.upto coverSealsSpec)

/-- 'headendlaw03.CoverOpens', WHERE WHAT IT READS IS OF BULK AT MOST 1048576: true; the input reads as it did. -/
def coverOpensUptoRow : OpenClaim := { program := "ytelalpikdidpeaa", sum := "7e4c23cc3bacca7e58a5eb9d0929817c98618617d669d5f541670e368c898d93", func := "headend/headendlaw03.CoverOpens", spec := "coverOpens", unfollowed := true, recurses := true, apart := false, narrowed := true }
def CoverOpensUptoSaid : Prop := coverOpensUptoRow.holds Try.pinned (OpenSpec.upto coverOpensSpec)

/-- 'headendlaw03.CoverHeaders', WHERE WHAT IT READS IS OF BULK AT MOST 1048576: true; the input reads as it did. -/
def coverHeadersUptoRow : OpenClaim := { program := "ytelalpikdidpeaa", sum := "7e4c23cc3bacca7e58a5eb9d0929817c98618617d669d5f541670e368c898d93", func := "headend/headendlaw03.CoverHeaders", spec := "coverHeaders", apart := false, narrowed := true }
def CoverHeadersUptoSaid : Prop := coverHeadersUptoRow.holds Try.pinned (OpenSpec.upto coverHeadersSpec)

/-- 'headendlaw03.CoverCovers', WHERE WHAT IT READS IS OF BULK AT MOST 1048576: true; the input reads as it did. -/
def coverCoversUptoRow : OpenClaim := { program := "ytelalpikdidpeaa", sum := "7e4c23cc3bacca7e58a5eb9d0929817c98618617d669d5f541670e368c898d93", func := "headend/headendlaw03.CoverCovers", spec := "coverCovers", unfollowed := true, recurses := true, apart := false, narrowed := true }
def CoverCoversUptoSaid : Prop := coverCoversUptoRow.holds Try.pinned (OpenSpec.upto coverCoversSpec)

end Rows
end Go.Proofs.Ytelalpikdidpeaa
