/-
  NARROWER THAN 'FOR EVERY INPUT', by the rows' own cells (each row's printed sentence says how): RetryTells: loops · RetryRuns: loops · RetryMore: loops.
  DERIVED. THE GIVEN ROWS OF THIS SEAT. 4 by the template 'for every input the law returns true; each argument reads behind the call as it read before'; 0 by the template 'total and deterministic' (their statements: YtihmkjlmhjhocaaTotals.lean).
  GIVEN WITH THE SEED: the statements are not yours to turn. If you find one false, say at which input.
  Laid BY PROGRAM, IN A SANDBOX (cutbox-rows.mjs): the forced cells as the released guide's own fill.sh prints them over the translation 95231826e6372b36… (all of the seat's roots in one cut). By AI agents, Wed Nov 11 2026. No macro, syntax, notation, axiom, sorry.
-/
import Derived.Test.YtihmkjlmhjhocaaChecked
import GoSem.Claim
import GoSem.ClaimJoined
import GoSem.ClaimMapViews
import Derived.JoinedTies
import Derived.KernelRfl
namespace Go.Proofs.Ytihmkjlmhjhocaa
/- THE CELL 'sum', in the pinned program and in every row, IS THE sha256 OF THE DUMP (.gsa) THAT YtihmkjlmhjhocaaProg.lean LOADS. Nothing in Lean hashes anything: it is a label: what it is worth is what the hold of that sum in a sandbox is worth. -/
noncomputable def Try.pinned : Pinned := { name := "ytihmkjlmhjhocaa", sum := "95231826e6372b36269a0be5a3fa27a26ed1b3eef25e58936bd39ab68dc37eea", checked := Try.checked }
namespace Rows
def none {H : Type} : Left H := { results := [], args := [] }

/-- 'conduitlaw12.RetryTells': WHATEVER THE INPUT: true; the input reads as it did. -/
def retryTellsSpec : ChangeSpec := { name := "retryTells", fn := fun _ => fun
  | [d] => { results := [.lit (.bool true)], args := [d] }
  | _ => none }
def retryTellsRow : OpenClaim := { program := "ytihmkjlmhjhocaa", sum := "95231826e6372b36269a0be5a3fa27a26ed1b3eef25e58936bd39ab68dc37eea", func := "conduit/conduitlaw12.RetryTells", spec := "retryTells", unfollowed := true, recurses := true, loops := true, apart := false }
def RetryTellsSaid : Prop := retryTellsRow.holds Try.pinned (OpenSpec.ofChange retryTellsSpec)

/-- ITS FALSE NEIGHBOUR: 'it returns false'. Refute it at one input. -/
def retryTellsWrong : ChangeSpec := { name := "retryTells", fn := fun _ => fun
  | [d] => { results := [.lit (.bool false)], args := [d] }
  | _ => none }
def RetryTellsWrongFalsely : Prop := retryTellsRow.holds Try.pinned (OpenSpec.ofChange retryTellsWrong)

/-- 'conduitlaw12.RetryRuns': WHATEVER THE INPUT: true; the input reads as it did. -/
def retryRunsSpec : ChangeSpec := { name := "retryRuns", fn := fun _ => fun
  | [d1, d2] => { results := [.lit (.bool true)], args := [d1, d2] }
  | _ => none }
def retryRunsRow : OpenClaim := { program := "ytihmkjlmhjhocaa", sum := "95231826e6372b36269a0be5a3fa27a26ed1b3eef25e58936bd39ab68dc37eea", func := "conduit/conduitlaw12.RetryRuns", spec := "retryRuns", unfollowed := true, recurses := true, loops := true, apart := false }
def RetryRunsSaid : Prop := retryRunsRow.holds Try.pinned (OpenSpec.ofChange retryRunsSpec)

/-- ITS FALSE NEIGHBOUR: 'it returns false'. Refute it at one input. -/
def retryRunsWrong : ChangeSpec := { name := "retryRuns", fn := fun _ => fun
  | [d1, d2] => { results := [.lit (.bool false)], args := [d1, d2] }
  | _ => none }
def RetryRunsWrongFalsely : Prop := retryRunsRow.holds Try.pinned (OpenSpec.ofChange retryRunsWrong)

/-- 'conduitlaw12.RetryMore': WHATEVER THE INPUT: true; the input reads as it did. -/
def retryMoreSpec : ChangeSpec := { name := "retryMore", fn := fun _ => fun
  | [d1, d2, d3, d4] => { results := [.lit (.bool true)], args := [d1, d2, d3, d4] }
  | _ => none }
def retryMoreRow : OpenClaim := { program := "ytihmkjlmhjhocaa", sum := "95231826e6372b36269a0be5a3fa27a26ed1b3eef25e58936bd39ab68dc37eea", func := "conduit/conduitlaw12.RetryMore", spec := "retryMore", unfollowed := true, recurses := true, loops := true, apart := false }
def RetryMoreSaid : Prop := retryMoreRow.holds Try.pinned (OpenSpec.ofChange retryMoreSpec)

/-- ITS FALSE NEIGHBOUR: 'it returns false'. Refute it at one input. -/
def retryMoreWrong : ChangeSpec := { name := "retryMore", fn := fun _ => fun
  | [d1, d2, d3, d4] => { results := [.lit (.bool false)], args := [d1, d2, d3, d4] }
  | _ => none }
def RetryMoreWrongFalsely : Prop := retryMoreRow.holds Try.pinned (OpenSpec.ofChange retryMoreWrong)

/-- 'conduitlaw12.RetryWaits': WHATEVER THE INPUT: true; the input reads as it did. -/
def retryWaitsSpec : ChangeSpec := { name := "retryWaits", fn := fun _ => fun
  | [d1, d2, d3] => { results := [.lit (.bool true)], args := [d1, d2, d3] }
  | _ => none }
def retryWaitsRow : OpenClaim := { program := "ytihmkjlmhjhocaa", sum := "95231826e6372b36269a0be5a3fa27a26ed1b3eef25e58936bd39ab68dc37eea", func := "conduit/conduitlaw12.RetryWaits", spec := "retryWaits", unfollowed := true, recurses := true, apart := false }
def RetryWaitsSaid : Prop := retryWaitsRow.holds Try.pinned (OpenSpec.ofChange retryWaitsSpec)

/-- ITS FALSE NEIGHBOUR: 'it returns false'. Refute it at one input. -/
def retryWaitsWrong : ChangeSpec := { name := "retryWaits", fn := fun _ => fun
  | [d1, d2, d3] => { results := [.lit (.bool false)], args := [d1, d2, d3] }
  | _ => none }
def RetryWaitsWrongFalsely : Prop := retryWaitsRow.holds Try.pinned (OpenSpec.ofChange retryWaitsWrong)

/- THE SECOND FORM. 'bulk': how many values and letters a reading holds, each counted each time it is reached (what is shared counts as often as it is met; a slice's spare places count too). A statement '..UptoSaid' is the law's where the arguments, and the package variables that the reading takes, are together of bulk at most 1048576: NARROWER than '..Said'. Prove '..Said' where nothing that the law and all that it calls make is longer than what came in: it says more and counts as full. Else prove '..UptoSaid'. A law counts once. -/
mutual
def uptoBulk {H : Type} : DataW H → Nat
  | .lit (.string bytes) => bytes.length + 1
  | .lit _ => 1
  | .nil => 1
  | .ptr d => uptoBulk d + 1
  | .slice elems spare => uptoBulkAll elems + uptoBulkAll spare + 1
  | .agg parts => uptoBulkAll parts + 1
  | .iface _ d => uptoBulk d + 1
  | .map entries => uptoBulkEntries entries + 1
  | .held _ => 1
def uptoBulkAll {H : Type} : List (DataW H) → Nat
  | [] => 0
  | d :: r => uptoBulk d + uptoBulkAll r
def uptoBulkEntries {H : Type} : List (Lit × DataW H) → Nat
  | [] => 0
  | x :: r => uptoBulkEntry x + uptoBulkEntries r
def uptoBulkEntry {H : Type} : Lit × DataW H → Nat
  | (.string bytes, d) => bytes.length + uptoBulk d + 1
  | (_, d) => uptoBulk d + 1
 end
def uptoSmall : (H : Type) → List (DataW H) → Bool := fun _ ds => decide (uptoBulkAll ds ≤ 1048576)
def OpenSpec.upto (s : _root_.Go.ChangeSpec) : _root_.Go.OpenSpec := { _root_.Go.OpenSpec.ofChange s with cond := some uptoSmall }

/-- 'conduitlaw12.RetryTells', WHERE WHAT IT READS IS OF BULK AT MOST 1048576: true; the input reads as it did. -/
def retryTellsUptoRow : OpenClaim := { program := "ytihmkjlmhjhocaa", sum := "95231826e6372b36269a0be5a3fa27a26ed1b3eef25e58936bd39ab68dc37eea", func := "conduit/conduitlaw12.RetryTells", spec := "retryTells", unfollowed := true, recurses := true, loops := true, apart := false, narrowed := true }
def RetryTellsUptoSaid : Prop := retryTellsUptoRow.holds Try.pinned (OpenSpec.upto retryTellsSpec)

/-- 'conduitlaw12.RetryRuns', WHERE WHAT IT READS IS OF BULK AT MOST 1048576: true; the input reads as it did. -/
def retryRunsUptoRow : OpenClaim := { program := "ytihmkjlmhjhocaa", sum := "95231826e6372b36269a0be5a3fa27a26ed1b3eef25e58936bd39ab68dc37eea", func := "conduit/conduitlaw12.RetryRuns", spec := "retryRuns", unfollowed := true, recurses := true, loops := true, apart := false, narrowed := true }
def RetryRunsUptoSaid : Prop := retryRunsUptoRow.holds Try.pinned (OpenSpec.upto retryRunsSpec)

/-- 'conduitlaw12.RetryMore', WHERE WHAT IT READS IS OF BULK AT MOST 1048576: true; the input reads as it did. -/
def retryMoreUptoRow : OpenClaim := { program := "ytihmkjlmhjhocaa", sum := "95231826e6372b36269a0be5a3fa27a26ed1b3eef25e58936bd39ab68dc37eea", func := "conduit/conduitlaw12.RetryMore", spec := "retryMore", unfollowed := true, recurses := true, loops := true, apart := false, narrowed := true }
def RetryMoreUptoSaid : Prop := retryMoreUptoRow.holds Try.pinned (OpenSpec.upto retryMoreSpec)

/-- 'conduitlaw12.RetryWaits', WHERE WHAT IT READS IS OF BULK AT MOST 1048576: true; the input reads as it did. -/
def retryWaitsUptoRow : OpenClaim := { program := "ytihmkjlmhjhocaa", sum := "95231826e6372b36269a0be5a3fa27a26ed1b3eef25e58936bd39ab68dc37eea", func := "conduit/conduitlaw12.RetryWaits", spec := "retryWaits", unfollowed := true, recurses := true, apart := false, narrowed := true }
def RetryWaitsUptoSaid : Prop := retryWaitsUptoRow.holds Try.pinned (OpenSpec.upto retryWaitsSpec)

end Rows
end Go.Proofs.Ytihmkjlmhjhocaa
