/-
  No cell of these rows narrows 'for every input' (looked for: loops, veiled, ifaces, maps, wideKeys, modest, calm, conditions, laid).
  DERIVED. THE GIVEN ROWS OF THIS SEAT. 12 by the template 'for every input the law returns true; each argument reads behind the call as it read before'; 0 by the template 'total and deterministic' (their statements: YtchkgccnipejhaaTotals.lean).
  GIVEN WITH THE SEED: the statements are not yours to turn. If you find one false, say at which input.
  Laid BY PROGRAM, IN A SANDBOX (cutbox-rows.mjs): the forced cells as the released guide's own fill.sh prints them over the translation ae54f129ee1bf1a9… (all of the seat's roots in one cut). By AI agents, Wed Nov 11 2026. No macro, syntax, notation, axiom, sorry.
-/
import Derived.Test.YtchkgccnipejhaaChecked
import GoSem.Claim
import GoSem.ClaimJoined
import GoSem.ClaimMapViews
import Derived.JoinedTies
import Derived.KernelRfl
namespace Go.Proofs.Ytchkgccnipejhaa
/- THE CELL 'sum', in the pinned program and in every row, IS THE sha256 OF THE DUMP (.gsa) THAT YtchkgccnipejhaaProg.lean LOADS. Nothing in Lean hashes anything: it is a label: what it is worth is what the hold of that sum in a sandbox is worth. -/
noncomputable def Try.pinned : Pinned := { name := "ytchkgccnipejhaa", sum := "ae54f129ee1bf1a9074ca8f54c8d47b1e3591b1351001dd5670f47fa6e46b923", checked := Try.checked }
namespace Rows
def none {H : Type} : Left H := { results := [], args := [] }

/-- 'headendlaw03.CoverHeaders': WHATEVER THE INPUT: true; the input reads as it did. -/
def coverHeadersSpec : ChangeSpec := { name := "coverHeaders", fn := fun _ => fun
  | [d1, d2] => { results := [.lit (.bool true)], args := [d1, d2] }
  | _ => none }
def coverHeadersRow : OpenClaim := { program := "ytchkgccnipejhaa", sum := "ae54f129ee1bf1a9074ca8f54c8d47b1e3591b1351001dd5670f47fa6e46b923", func := "headend/headendlaw03.CoverHeaders", spec := "coverHeaders", apart := false }
def CoverHeadersSaid : Prop := coverHeadersRow.holds Try.pinned (OpenSpec.ofChange coverHeadersSpec)

/-- ITS FALSE NEIGHBOUR: 'it returns false'. Refute it at one input. -/
def coverHeadersWrong : ChangeSpec := { name := "coverHeaders", fn := fun _ => fun
  | [d1, d2] => { results := [.lit (.bool false)], args := [d1, d2] }
  | _ => none }
def CoverHeadersWrongFalsely : Prop := coverHeadersRow.holds Try.pinned (OpenSpec.ofChange coverHeadersWrong)

/-- 'headendlaw03.CoverCovers': WHATEVER THE INPUT: true; the input reads as it did. -/
def coverCoversSpec : ChangeSpec := { name := "coverCovers", fn := fun _ => fun
  | [d1, d2] => { results := [.lit (.bool true)], args := [d1, d2] }
  | _ => none }
def coverCoversRow : OpenClaim := { program := "ytchkgccnipejhaa", sum := "ae54f129ee1bf1a9074ca8f54c8d47b1e3591b1351001dd5670f47fa6e46b923", func := "headend/headendlaw03.CoverCovers", spec := "coverCovers", unfollowed := true, recurses := true, apart := false }
def CoverCoversSaid : Prop := coverCoversRow.holds Try.pinned (OpenSpec.ofChange coverCoversSpec)

/-- ITS FALSE NEIGHBOUR: 'it returns false'. Refute it at one input. -/
def coverCoversWrong : ChangeSpec := { name := "coverCovers", fn := fun _ => fun
  | [d1, d2] => { results := [.lit (.bool false)], args := [d1, d2] }
  | _ => none }
def CoverCoversWrongFalsely : Prop := coverCoversRow.holds Try.pinned (OpenSpec.ofChange coverCoversWrong)

/-- 'headendlaw03.CoverKnows': WHATEVER THE INPUT: true; the input reads as it did. -/
def coverKnowsSpec : ChangeSpec := { name := "coverKnows", fn := fun _ => fun
  | [d1, d2, d3] => { results := [.lit (.bool true)], args := [d1, d2, d3] }
  | _ => none }
def coverKnowsRow : OpenClaim := { program := "ytchkgccnipejhaa", sum := "ae54f129ee1bf1a9074ca8f54c8d47b1e3591b1351001dd5670f47fa6e46b923", func := "headend/headendlaw03.CoverKnows", spec := "coverKnows", unfollowed := true, recurses := true, apart := false }
def CoverKnowsSaid : Prop := coverKnowsRow.holds Try.pinned (OpenSpec.ofChange coverKnowsSpec)

/-- ITS FALSE NEIGHBOUR: 'it returns false'. Refute it at one input. -/
def coverKnowsWrong : ChangeSpec := { name := "coverKnows", fn := fun _ => fun
  | [d1, d2, d3] => { results := [.lit (.bool false)], args := [d1, d2, d3] }
  | _ => none }
def CoverKnowsWrongFalsely : Prop := coverKnowsRow.holds Try.pinned (OpenSpec.ofChange coverKnowsWrong)

/-- 'headendlaw03.CoverHeaderBack': WHATEVER THE INPUT: true; the input reads as it did. -/
def coverHeaderBackSpec : ChangeSpec := { name := "coverHeaderBack", fn := fun _ => fun
  | [d1, d2, d3] => { results := [.lit (.bool true)], args := [d1, d2, d3] }
  | _ => none }
def coverHeaderBackRow : OpenClaim := { program := "ytchkgccnipejhaa", sum := "ae54f129ee1bf1a9074ca8f54c8d47b1e3591b1351001dd5670f47fa6e46b923", func := "headend/headendlaw03.CoverHeaderBack", spec := "coverHeaderBack", unfollowed := true, recurses := true, apart := false }
def CoverHeaderBackSaid : Prop := coverHeaderBackRow.holds Try.pinned (OpenSpec.ofChange coverHeaderBackSpec)

/-- ITS FALSE NEIGHBOUR: 'it returns false'. Refute it at one input. -/
def coverHeaderBackWrong : ChangeSpec := { name := "coverHeaderBack", fn := fun _ => fun
  | [d1, d2, d3] => { results := [.lit (.bool false)], args := [d1, d2, d3] }
  | _ => none }
def CoverHeaderBackWrongFalsely : Prop := coverHeaderBackRow.holds Try.pinned (OpenSpec.ofChange coverHeaderBackWrong)

/-- 'headendlaw03.CoverSealed': WHATEVER THE INPUT: true; the input reads as it did. -/
def coverSealedSpec : ChangeSpec := { name := "coverSealed", fn := fun _ => fun
  | [d1, d2, d3, d4, d5] => { results := [.lit (.bool true)], args := [d1, d2, d3, d4, d5] }
  | _ => none }
def coverSealedRow : OpenClaim := { program := "ytchkgccnipejhaa", sum := "ae54f129ee1bf1a9074ca8f54c8d47b1e3591b1351001dd5670f47fa6e46b923", func := "headend/headendlaw03.CoverSealed", spec := "coverSealed", unfollowed := true, recurses := true, apart := false }
def CoverSealedSaid : Prop := coverSealedRow.holds Try.pinned (OpenSpec.ofChange coverSealedSpec)

/-- ITS FALSE NEIGHBOUR: 'it returns false'. Refute it at one input. -/
def coverSealedWrong : ChangeSpec := { name := "coverSealed", fn := fun _ => fun
  | [d1, d2, d3, d4, d5] => { results := [.lit (.bool false)], args := [d1, d2, d3, d4, d5] }
  | _ => none }
def CoverSealedWrongFalsely : Prop := coverSealedRow.holds Try.pinned (OpenSpec.ofChange coverSealedWrong)

/-- 'headendlaw03.CoverStores': WHATEVER THE INPUT: true; the input reads as it did. -/
def coverStoresSpec : ChangeSpec := { name := "coverStores", fn := fun _ => fun
  | [d1, d2, d3] => { results := [.lit (.bool true)], args := [d1, d2, d3] }
  | _ => none }
def coverStoresRow : OpenClaim := { program := "ytchkgccnipejhaa", sum := "ae54f129ee1bf1a9074ca8f54c8d47b1e3591b1351001dd5670f47fa6e46b923", func := "headend/headendlaw03.CoverStores", spec := "coverStores", unfollowed := true, recurses := true, apart := false }
def CoverStoresSaid : Prop := coverStoresRow.holds Try.pinned (OpenSpec.ofChange coverStoresSpec)

/-- ITS FALSE NEIGHBOUR: 'it returns false'. Refute it at one input. -/
def coverStoresWrong : ChangeSpec := { name := "coverStores", fn := fun _ => fun
  | [d1, d2, d3] => { results := [.lit (.bool false)], args := [d1, d2, d3] }
  | _ => none }
def CoverStoresWrongFalsely : Prop := coverStoresRow.holds Try.pinned (OpenSpec.ofChange coverStoresWrong)

/-- 'headendlaw03.CoverExact': WHATEVER THE INPUT: true; the input reads as it did. -/
def coverExactSpec : ChangeSpec := { name := "coverExact", fn := fun _ => fun
  | [d1, d2] => { results := [.lit (.bool true)], args := [d1, d2] }
  | _ => none }
def coverExactRow : OpenClaim := { program := "ytchkgccnipejhaa", sum := "ae54f129ee1bf1a9074ca8f54c8d47b1e3591b1351001dd5670f47fa6e46b923", func := "headend/headendlaw03.CoverExact", spec := "coverExact", unfollowed := true, recurses := true, apart := false }
def CoverExactSaid : Prop := coverExactRow.holds Try.pinned (OpenSpec.ofChange coverExactSpec)

/-- ITS FALSE NEIGHBOUR: 'it returns false'. Refute it at one input. -/
def coverExactWrong : ChangeSpec := { name := "coverExact", fn := fun _ => fun
  | [d1, d2] => { results := [.lit (.bool false)], args := [d1, d2] }
  | _ => none }
def CoverExactWrongFalsely : Prop := coverExactRow.holds Try.pinned (OpenSpec.ofChange coverExactWrong)

/-- 'headendlaw03.CoverOne': WHATEVER THE INPUT: true; the input reads as it did. -/
def coverOneSpec : ChangeSpec := { name := "coverOne", fn := fun _ => fun
  | [d1, d2, d3] => { results := [.lit (.bool true)], args := [d1, d2, d3] }
  | _ => none }
def coverOneRow : OpenClaim := { program := "ytchkgccnipejhaa", sum := "ae54f129ee1bf1a9074ca8f54c8d47b1e3591b1351001dd5670f47fa6e46b923", func := "headend/headendlaw03.CoverOne", spec := "coverOne", unfollowed := true, recurses := true, apart := false }
def CoverOneSaid : Prop := coverOneRow.holds Try.pinned (OpenSpec.ofChange coverOneSpec)

/-- ITS FALSE NEIGHBOUR: 'it returns false'. Refute it at one input. -/
def coverOneWrong : ChangeSpec := { name := "coverOne", fn := fun _ => fun
  | [d1, d2, d3] => { results := [.lit (.bool false)], args := [d1, d2, d3] }
  | _ => none }
def CoverOneWrongFalsely : Prop := coverOneRow.holds Try.pinned (OpenSpec.ofChange coverOneWrong)

/-- 'headendlaw03.CoverSizes': WHATEVER THE INPUT: true; the input reads as it did. -/
def coverSizesSpec : ChangeSpec := { name := "coverSizes", fn := fun _ => fun
  | [d1, d2] => { results := [.lit (.bool true)], args := [d1, d2] }
  | _ => none }
def coverSizesRow : OpenClaim := { program := "ytchkgccnipejhaa", sum := "ae54f129ee1bf1a9074ca8f54c8d47b1e3591b1351001dd5670f47fa6e46b923", func := "headend/headendlaw03.CoverSizes", spec := "coverSizes", unfollowed := true, recurses := true, apart := false }
def CoverSizesSaid : Prop := coverSizesRow.holds Try.pinned (OpenSpec.ofChange coverSizesSpec)

/-- ITS FALSE NEIGHBOUR: 'it returns false'. Refute it at one input. -/
def coverSizesWrong : ChangeSpec := { name := "coverSizes", fn := fun _ => fun
  | [d1, d2] => { results := [.lit (.bool false)], args := [d1, d2] }
  | _ => none }
def CoverSizesWrongFalsely : Prop := coverSizesRow.holds Try.pinned (OpenSpec.ofChange coverSizesWrong)

/-- 'headendlaw03.CoverOpened': WHATEVER THE INPUT: true; the input reads as it did. -/
def coverOpenedSpec : ChangeSpec := { name := "coverOpened", fn := fun _ => fun
  | [d1, d2, d3, d4, d5] => { results := [.lit (.bool true)], args := [d1, d2, d3, d4, d5] }
  | _ => none }
def coverOpenedRow : OpenClaim := { program := "ytchkgccnipejhaa", sum := "ae54f129ee1bf1a9074ca8f54c8d47b1e3591b1351001dd5670f47fa6e46b923", func := "headend/headendlaw03.CoverOpened", spec := "coverOpened", unfollowed := true, recurses := true, apart := false }
def CoverOpenedSaid : Prop := coverOpenedRow.holds Try.pinned (OpenSpec.ofChange coverOpenedSpec)

/-- ITS FALSE NEIGHBOUR: 'it returns false'. Refute it at one input. -/
def coverOpenedWrong : ChangeSpec := { name := "coverOpened", fn := fun _ => fun
  | [d1, d2, d3, d4, d5] => { results := [.lit (.bool false)], args := [d1, d2, d3, d4, d5] }
  | _ => none }
def CoverOpenedWrongFalsely : Prop := coverOpenedRow.holds Try.pinned (OpenSpec.ofChange coverOpenedWrong)

/-- 'headendlaw03.CoverExamples': WHATEVER THE INPUT: true; the input reads as it did. -/
def coverExamplesSpec : ChangeSpec := { name := "coverExamples", fn := fun _ => fun
  | [] => { results := [.lit (.bool true)], args := [] }
  | _ => none }
def coverExamplesRow : OpenClaim := { program := "ytchkgccnipejhaa", sum := "ae54f129ee1bf1a9074ca8f54c8d47b1e3591b1351001dd5670f47fa6e46b923", func := "headend/headendlaw03.CoverExamples", spec := "coverExamples", unfollowed := true, recurses := true, apart := false }
def CoverExamplesSaid : Prop := coverExamplesRow.holds Try.pinned (OpenSpec.ofChange coverExamplesSpec)

/-- ITS FALSE NEIGHBOUR: 'it returns false'. Refute it at one input. -/
def coverExamplesWrong : ChangeSpec := { name := "coverExamples", fn := fun _ => fun
  | [] => { results := [.lit (.bool false)], args := [] }
  | _ => none }
def CoverExamplesWrongFalsely : Prop := coverExamplesRow.holds Try.pinned (OpenSpec.ofChange coverExamplesWrong)

/-- 'headendlaw08.TraceCounts': WHATEVER THE INPUT: true; the input reads as it did. -/
def traceCountsSpec : ChangeSpec := { name := "traceCounts", fn := fun _ => fun
  | [d1, d2, d3, d4] => { results := [.lit (.bool true)], args := [d1, d2, d3, d4] }
  | _ => none }
def traceCountsRow : OpenClaim := { program := "ytchkgccnipejhaa", sum := "ae54f129ee1bf1a9074ca8f54c8d47b1e3591b1351001dd5670f47fa6e46b923", func := "headend/headendlaw08.TraceCounts", spec := "traceCounts", apart := false }
def TraceCountsSaid : Prop := traceCountsRow.holds Try.pinned (OpenSpec.ofChange traceCountsSpec)

/-- ITS FALSE NEIGHBOUR: 'it returns false'. Refute it at one input. -/
def traceCountsWrong : ChangeSpec := { name := "traceCounts", fn := fun _ => fun
  | [d1, d2, d3, d4] => { results := [.lit (.bool false)], args := [d1, d2, d3, d4] }
  | _ => none }
def TraceCountsWrongFalsely : Prop := traceCountsRow.holds Try.pinned (OpenSpec.ofChange traceCountsWrong)

/- THE SECOND FORM. 'bulk': how many values and letters a reading holds, each counted each time it is reached (what is shared counts as often as it is met; a slice's spare places count too). A statement '..UptoSaid' is the law's where the arguments, and the package variables that the reading takes, are together of bulk at most 1048576: NARROWER than '..Said'. Prove '..Said' where nothing that the law and all that it calls make is longer than what came in: it says more and counts as full. Else prove '..UptoSaid'. A law counts once. -/
mutual
def uptoBulk {H : Type} : DataW H → Nat
  | .lit (.string bytes) => bytes.length + 1
  | .lit _ => 1
  | .nil => 1
  | .ptr d => uptoBulk d + 1
  | .slice elems spare => uptoBulkAll elems + uptoBulkAll spare + 1
  | .agg parts => uptoBulkAll parts + 1
  | .iface _ d => uptoBulk d + 1
  | .map entries => uptoBulkEntries entries + 1
  | .held _ => 1
def uptoBulkAll {H : Type} : List (DataW H) → Nat
  | [] => 0
  | d :: r => uptoBulk d + uptoBulkAll r
def uptoBulkEntries {H : Type} : List (Lit × DataW H) → Nat
  | [] => 0
  | x :: r => uptoBulkEntry x + uptoBulkEntries r
def uptoBulkEntry {H : Type} : Lit × DataW H → Nat
  | (.string bytes, d) => bytes.length + uptoBulk d + 1
  | (_, d) => uptoBulk d + 1
 end
def uptoSmall : (H : Type) → List (DataW H) → Bool := fun _ ds => decide (uptoBulkAll ds ≤ 1048576)
def OpenSpec.upto (s : _root_.Go.ChangeSpec) : _root_.Go.OpenSpec := { _root_.Go.OpenSpec.ofChange s with cond := some uptoSmall }

/-- 'headendlaw03.CoverHeaders', WHERE WHAT IT READS IS OF BULK AT MOST 1048576: true; the input reads as it did. -/
def coverHeadersUptoRow : OpenClaim := { program := "ytchkgccnipejhaa", sum := "ae54f129ee1bf1a9074ca8f54c8d47b1e3591b1351001dd5670f47fa6e46b923", func := "headend/headendlaw03.CoverHeaders", spec := "coverHeaders", apart := false, narrowed := true }
def CoverHeadersUptoSaid : Prop := coverHeadersUptoRow.holds Try.pinned (OpenSpec.upto coverHeadersSpec)

/-- 'headendlaw03.CoverCovers', WHERE WHAT IT READS IS OF BULK AT MOST 1048576: true; the input reads as it did. -/
def coverCoversUptoRow : OpenClaim := { program := "ytchkgccnipejhaa", sum := "ae54f129ee1bf1a9074ca8f54c8d47b1e3591b1351001dd5670f47fa6e46b923", func := "headend/headendlaw03.CoverCovers", spec := "coverCovers", unfollowed := true, recurses := true, apart := false, narrowed := true }
def CoverCoversUptoSaid : Prop := coverCoversUptoRow.holds Try.pinned (OpenSpec.upto coverCoversSpec)

/-- 'headendlaw03.CoverKnows', WHERE WHAT IT READS IS OF BULK AT MOST 1048576: true; the input reads as it did. -/
def coverKnowsUptoRow : OpenClaim := { program := "ytchkgccnipejhaa", sum := "ae54f129ee1bf1a9074ca8f54c8d47b1e3591b1351001dd5670f47fa6e46b923", func := "headend/headendlaw03.CoverKnows", spec := "coverKnows", unfollowed := true, recurses := true, apart := false, narrowed := true }
def CoverKnowsUptoSaid : Prop := coverKnowsUptoRow.holds Try.pinned (OpenSpec.upto coverKnowsSpec)

/-- 'headendlaw03.CoverHeaderBack', WHERE WHAT IT READS IS OF BULK AT MOST 1048576: true; the input reads as it did. -/
def coverHeaderBackUptoRow : OpenClaim := { program := "ytchkgccnipejhaa", sum := "ae54f129ee1bf1a9074ca8f54c8d47b1e3591b1351001dd5670f47fa6e46b923", func := "headend/headendlaw03.CoverHeaderBack", spec := "coverHeaderBack", unfollowed := true, recurses := true, apart := false, narrowed := true }
def CoverHeaderBackUptoSaid : Prop := coverHeaderBackUptoRow.holds Try.pinned (OpenSpec.upto coverHeaderBackSpec)

/-- 'headendlaw03.CoverSealed', WHERE WHAT IT READS IS OF BULK AT MOST 1048576: true; the input reads as it did. -/
def coverSealedUptoRow : OpenClaim := { program := "ytchkgccnipejhaa", sum := "ae54f129ee1bf1a9074ca8f54c8d47b1e3591b1351001dd5670f47fa6e46b923", func := "headend/headendlaw03.CoverSealed", spec := "coverSealed", unfollowed := true, recurses := true, apart := false, narrowed := true }
def CoverSealedUptoSaid : Prop := coverSealedUptoRow.holds Try.pinned (OpenSpec.upto coverSealedSpec)

/-- 'headendlaw03.CoverStores', WHERE WHAT IT READS IS OF BULK AT MOST 1048576: true; the input reads as it did. -/
def coverStoresUptoRow : OpenClaim := { program := "ytchkgccnipejhaa", sum := "ae54f129ee1bf1a9074ca8f54c8d47b1e3591b1351001dd5670f47fa6e46b923", func := "headend/headendlaw03.CoverStores", spec := "coverStores", unfollowed := true, recurses := true, apart := false, narrowed := true }
def CoverStoresUptoSaid : Prop := coverStoresUptoRow.holds Try.pinned (OpenSpec.upto coverStoresSpec)

/-- 'headendlaw03.CoverExact', WHERE WHAT IT READS IS OF BULK AT MOST 1048576: true; the input reads as it did. -/
def coverExactUptoRow : OpenClaim := { program := "ytchkgccnipejhaa", sum := "ae54f129ee1bf1a9074ca8f54c8d47b1e3591b1351001dd5670f47fa6e46b923", func := "headend/headendlaw03.CoverExact", spec := "coverExact", unfollowed := true, recurses := true, apart := false, narrowed := true }
def CoverExactUptoSaid : Prop := coverExactUptoRow.holds Try.pinned (OpenSpec.upto coverExactSpec)

/-- 'headendlaw03.CoverOne', WHERE WHAT IT READS IS OF BULK AT MOST 1048576: true; the input reads as it did. -/
def coverOneUptoRow : OpenClaim := { program := "ytchkgccnipejhaa", sum := "ae54f129ee1bf1a9074ca8f54c8d47b1e3591b1351001dd5670f47fa6e46b923", func := "headend/headendlaw03.CoverOne", spec := "coverOne", unfollowed := true, recurses := true, apart := false, narrowed := true }
def CoverOneUptoSaid : Prop := coverOneUptoRow.holds Try.pinned (OpenSpec.upto coverOneSpec)

/-- 'headendlaw03.CoverSizes', WHERE WHAT IT READS IS OF BULK AT MOST 1048576: true; the input reads as it did. -/
def coverSizesUptoRow : OpenClaim := { program := "ytchkgccnipejhaa", sum := "ae54f129ee1bf1a9074ca8f54c8d47b1e3591b1351001dd5670f47fa6e46b923", func := "headend/headendlaw03.CoverSizes", spec := "coverSizes", unfollowed := true, recurses := true, apart := false, narrowed := true }
def CoverSizesUptoSaid : Prop := coverSizesUptoRow.holds Try.pinned (OpenSpec.upto coverSizesSpec)

/-- 'headendlaw03.CoverOpened', WHERE WHAT IT READS IS OF BULK AT MOST 1048576: true; the input reads as it did. -/
def coverOpenedUptoRow : OpenClaim := { program := "ytchkgccnipejhaa", sum := "ae54f129ee1bf1a9074ca8f54c8d47b1e3591b1351001dd5670f47fa6e46b923", func := "headend/headendlaw03.CoverOpened", spec := "coverOpened", unfollowed := true, recurses := true, apart := false, narrowed := true }
def CoverOpenedUptoSaid : Prop := coverOpenedUptoRow.holds Try.pinned (OpenSpec.upto coverOpenedSpec)

/-- 'headendlaw03.CoverExamples', WHERE WHAT IT READS IS OF BULK AT MOST 1048576: true; the input reads as it did. -/
def coverExamplesUptoRow : OpenClaim := { program := "ytchkgccnipejhaa", sum := "ae54f129ee1bf1a9074ca8f54c8d47b1e3591b1351001dd5670f47fa6e46b923", func := "headend/headendlaw03.CoverExamples", spec := "coverExamples", unfollowed := true, recurses := true, apart := false, narrowed := true }
def CoverExamplesUptoSaid : Prop := coverExamplesUptoRow.holds Try.pinned (OpenSpec.upto coverExamplesSpec)

/-- 'headendlaw08.TraceCounts', WHERE WHAT IT READS IS OF BULK AT MOST 1048576: true; the input reads as it did. -/
def traceCountsUptoRow : OpenClaim := { program := "ytchkgccnipejhaa", sum := "ae54f129ee1bf1a9074ca8f54c8d47b1e3591b1351001dd5670f47fa6e46b923", func := "headend/headendlaw08.TraceCounts", spec := "traceCounts", apart := false, narrowed := true }
def TraceCountsUptoSaid : Prop := traceCountsUptoRow.holds Try.pinned (OpenSpec.upto traceCountsSpec)

end Rows
end Go.Proofs.Ytchkgccnipejhaa
