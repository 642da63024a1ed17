/-
  NARROWER THAN 'FOR EVERY INPUT', by the rows' own cells (each row's printed sentence says how): WantAsks: loops · WantFirst: loops · WantSets: loops.
  DERIVED. THE GIVEN ROWS OF THIS SEAT. 3 by the template 'for every input the law returns true; each argument reads behind the call as it read before'; 0 by the template 'total and deterministic' (their statements: YtokiaolgdkikiabGreatTotals.lean).
  GIVEN WITH THE SEED: the statements are not yours to turn. If you find one false, say at which input.
  Laid BY PROGRAM, IN A SANDBOX (cutbox-rows.mjs): the forced cells as the released guide's own fill.sh prints them over the translation 1cf615e079984315… (all of the seat's roots in one cut). By AI agents, Wed Nov 11 2026. No macro, syntax, notation, axiom, sorry.
-/
import Derived.Test.YtokiaolgdkikiabGreatChecked
import GoSem.Claim
import GoSem.ClaimJoined
import GoSem.ClaimMapViews
import Derived.JoinedTies
import Derived.KernelRfl
namespace Go.Proofs.YtokiaolgdkikiabGreat
/- THE CELL 'sum', in the pinned program and in every row, IS THE sha256 OF THE DUMP (.gsa) THAT YtokiaolgdkikiabGreatProg.lean LOADS. Nothing in Lean hashes anything: it is a label: what it is worth is what the hold of that sum in a sandbox is worth. -/
noncomputable def Tryz.pinned : Pinned := { name := "ytokiaolgdkikiabgreat", sum := "1cf615e079984315631745f3ad1eaba3b53bf7edcb672d113817fffb3686ea72", checked := Tryz.checked }
namespace Rows
def none {H : Type} : Left H := { results := [], args := [] }

/-- 'conduitlaw02.WantAsks': WHATEVER THE INPUT: true; the input reads as it did. -/
def wantAsksSpec : ChangeSpec := { name := "wantAsks", fn := fun _ => fun
  | [d1, d2] => { results := [.lit (.bool true)], args := [d1, d2] }
  | _ => none }
def wantAsksRow : OpenClaim := { program := "ytokiaolgdkikiabgreat", sum := "1cf615e079984315631745f3ad1eaba3b53bf7edcb672d113817fffb3686ea72", func := "conduit/conduitlaw02.WantAsks", spec := "wantAsks", inPlace := ["math.Float64frombits", "math.Float64bits"], unfollowed := true, recurses := true, loops := true, apart := false }
def WantAsksSaid : Prop := wantAsksRow.holds Tryz.pinned (OpenSpec.ofChange wantAsksSpec)

/-- ITS FALSE NEIGHBOUR: 'it returns false'. Refute it at one input. -/
def wantAsksWrong : ChangeSpec := { name := "wantAsks", fn := fun _ => fun
  | [d1, d2] => { results := [.lit (.bool false)], args := [d1, d2] }
  | _ => none }
def WantAsksWrongFalsely : Prop := wantAsksRow.holds Tryz.pinned (OpenSpec.ofChange wantAsksWrong)

/-- 'conduitlaw02.WantFirst': WHATEVER THE INPUT: true; the input reads as it did. -/
def wantFirstSpec : ChangeSpec := { name := "wantFirst", fn := fun _ => fun
  | [d1, d2] => { results := [.lit (.bool true)], args := [d1, d2] }
  | _ => none }
def wantFirstRow : OpenClaim := { program := "ytokiaolgdkikiabgreat", sum := "1cf615e079984315631745f3ad1eaba3b53bf7edcb672d113817fffb3686ea72", func := "conduit/conduitlaw02.WantFirst", spec := "wantFirst", inPlace := ["math.Float64frombits", "math.Float64bits"], unfollowed := true, recurses := true, loops := true, apart := false }
def WantFirstSaid : Prop := wantFirstRow.holds Tryz.pinned (OpenSpec.ofChange wantFirstSpec)

/-- ITS FALSE NEIGHBOUR: 'it returns false'. Refute it at one input. -/
def wantFirstWrong : ChangeSpec := { name := "wantFirst", fn := fun _ => fun
  | [d1, d2] => { results := [.lit (.bool false)], args := [d1, d2] }
  | _ => none }
def WantFirstWrongFalsely : Prop := wantFirstRow.holds Tryz.pinned (OpenSpec.ofChange wantFirstWrong)

/-- 'conduitlaw02.WantSets': WHATEVER THE INPUT: true; the input reads as it did. -/
def wantSetsSpec : ChangeSpec := { name := "wantSets", fn := fun _ => fun
  | [d1, d2] => { results := [.lit (.bool true)], args := [d1, d2] }
  | _ => none }
def wantSetsRow : OpenClaim := { program := "ytokiaolgdkikiabgreat", sum := "1cf615e079984315631745f3ad1eaba3b53bf7edcb672d113817fffb3686ea72", func := "conduit/conduitlaw02.WantSets", spec := "wantSets", inPlace := ["math.Float64frombits", "math.Float64bits"], unfollowed := true, recurses := true, loops := true, apart := false }
def WantSetsSaid : Prop := wantSetsRow.holds Tryz.pinned (OpenSpec.ofChange wantSetsSpec)

/-- ITS FALSE NEIGHBOUR: 'it returns false'. Refute it at one input. -/
def wantSetsWrong : ChangeSpec := { name := "wantSets", fn := fun _ => fun
  | [d1, d2] => { results := [.lit (.bool false)], args := [d1, d2] }
  | _ => none }
def WantSetsWrongFalsely : Prop := wantSetsRow.holds Tryz.pinned (OpenSpec.ofChange wantSetsWrong)

/- THE SECOND FORM. 'bulk': how many values and letters a reading holds, each counted each time it is reached (what is shared counts as often as it is met; a slice's spare places count too). A statement '..UptoSaid' is the law's where the arguments, and the package variables that the reading takes, are together of bulk at most 1048576: NARROWER than '..Said'. Prove '..Said' where nothing that the law and all that it calls make is longer than what came in: it says more and counts as full. Else prove '..UptoSaid'. A law counts once. -/
mutual
def uptoBulk {H : Type} : DataW H → Nat
  | .lit (.string bytes) => bytes.length + 1
  | .lit _ => 1
  | .nil => 1
  | .ptr d => uptoBulk d + 1
  | .slice elems spare => uptoBulkAll elems + uptoBulkAll spare + 1
  | .agg parts => uptoBulkAll parts + 1
  | .iface _ d => uptoBulk d + 1
  | .map entries => uptoBulkEntries entries + 1
  | .held _ => 1
def uptoBulkAll {H : Type} : List (DataW H) → Nat
  | [] => 0
  | d :: r => uptoBulk d + uptoBulkAll r
def uptoBulkEntries {H : Type} : List (Lit × DataW H) → Nat
  | [] => 0
  | x :: r => uptoBulkEntry x + uptoBulkEntries r
def uptoBulkEntry {H : Type} : Lit × DataW H → Nat
  | (.string bytes, d) => bytes.length + uptoBulk d + 1
  | (_, d) => uptoBulk d + 1
 end
def uptoSmall : (H : Type) → List (DataW H) → Bool := fun _ ds => decide (uptoBulkAll ds ≤ 1048576)
def OpenSpec.upto (s : _root_.Go.ChangeSpec) : _root_.Go.OpenSpec := { _root_.Go.OpenSpec.ofChange s with cond := some uptoSmall }

/-- 'conduitlaw02.WantAsks', WHERE WHAT IT READS IS OF BULK AT MOST 1048576: true; the input reads as it did. -/
def wantAsksUptoRow : OpenClaim := { program := "ytokiaolgdkikiabgreat", sum := "1cf615e079984315631745f3ad1eaba3b53bf7edcb672d113817fffb3686ea72", func := "conduit/conduitlaw02.WantAsks", spec := "wantAsks", inPlace := ["math.Float64frombits", "math.Float64bits"], unfollowed := true, recurses := true, loops := true, apart := false, narrowed := true }
def WantAsksUptoSaid : Prop := wantAsksUptoRow.holds Tryz.pinned (OpenSpec.upto wantAsksSpec)

/-- 'conduitlaw02.WantFirst', WHERE WHAT IT READS IS OF BULK AT MOST 1048576: true; the input reads as it did. -/
def wantFirstUptoRow : OpenClaim := { program := "ytokiaolgdkikiabgreat", sum := "1cf615e079984315631745f3ad1eaba3b53bf7edcb672d113817fffb3686ea72", func := "conduit/conduitlaw02.WantFirst", spec := "wantFirst", inPlace := ["math.Float64frombits", "math.Float64bits"], unfollowed := true, recurses := true, loops := true, apart := false, narrowed := true }
def WantFirstUptoSaid : Prop := wantFirstUptoRow.holds Tryz.pinned (OpenSpec.upto wantFirstSpec)

/-- 'conduitlaw02.WantSets', WHERE WHAT IT READS IS OF BULK AT MOST 1048576: true; the input reads as it did. -/
def wantSetsUptoRow : OpenClaim := { program := "ytokiaolgdkikiabgreat", sum := "1cf615e079984315631745f3ad1eaba3b53bf7edcb672d113817fffb3686ea72", func := "conduit/conduitlaw02.WantSets", spec := "wantSets", inPlace := ["math.Float64frombits", "math.Float64bits"], unfollowed := true, recurses := true, loops := true, apart := false, narrowed := true }
def WantSetsUptoSaid : Prop := wantSetsUptoRow.holds Tryz.pinned (OpenSpec.upto wantSetsSpec)

end Rows
end Go.Proofs.YtokiaolgdkikiabGreat
