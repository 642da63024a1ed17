/-
  NARROWER THAN 'FOR EVERY INPUT', by the rows' own cells (each row's printed sentence says how): WantFits: loops · WantHolds: loops · WantCovers: loops · WantPlain: loops · WantAsserts: loops.
  DERIVED. THE GIVEN ROWS OF THIS SEAT. 6 by the template 'for every input the law returns true; each argument reads behind the call as it read before'; 0 by the template 'total and deterministic' (their statements: YtokiaolgdkikiaaGreatTotals.lean).
  GIVEN WITH THE SEED: the statements are not yours to turn. If you find one false, say at which input.
  Laid BY PROGRAM, IN A SANDBOX (cutbox-rows.mjs): the forced cells as the released guide's own fill.sh prints them over the translation a4455e27d3725097… (all of the seat's roots in one cut). By AI agents, Wed Nov 11 2026. No macro, syntax, notation, axiom, sorry.
-/
import Derived.Test.YtokiaolgdkikiaaGreatChecked
import GoSem.Claim
import GoSem.ClaimJoined
import GoSem.ClaimMapViews
import Derived.JoinedTies
import Derived.KernelRfl
namespace Go.Proofs.YtokiaolgdkikiaaGreat
/- THE CELL 'sum', in the pinned program and in every row, IS THE sha256 OF THE DUMP (.gsa) THAT YtokiaolgdkikiaaGreatProg.lean LOADS. Nothing in Lean hashes anything: it is a label: what it is worth is what the hold of that sum in a sandbox is worth. -/
noncomputable def Tryz.pinned : Pinned := { name := "ytokiaolgdkikiaagreat", sum := "a4455e27d372509783479e28b7f55d3eddb9dffeed56c0969ff1789afd8f1d94", checked := Tryz.checked }
namespace Rows
def none {H : Type} : Left H := { results := [], args := [] }

/-- 'conduitlaw02.WantFits': WHATEVER THE INPUT: true; the input reads as it did. -/
def wantFitsSpec : ChangeSpec := { name := "wantFits", fn := fun _ => fun
  | [d] => { results := [.lit (.bool true)], args := [d] }
  | _ => none }
def wantFitsRow : OpenClaim := { program := "ytokiaolgdkikiaagreat", sum := "a4455e27d372509783479e28b7f55d3eddb9dffeed56c0969ff1789afd8f1d94", func := "conduit/conduitlaw02.WantFits", spec := "wantFits", inPlace := ["math.Float64frombits", "math.Float64bits"], unfollowed := true, recurses := true, loops := true, apart := false }
def WantFitsSaid : Prop := wantFitsRow.holds Tryz.pinned (OpenSpec.ofChange wantFitsSpec)

/-- ITS FALSE NEIGHBOUR: 'it returns false'. Refute it at one input. -/
def wantFitsWrong : ChangeSpec := { name := "wantFits", fn := fun _ => fun
  | [d] => { results := [.lit (.bool false)], args := [d] }
  | _ => none }
def WantFitsWrongFalsely : Prop := wantFitsRow.holds Tryz.pinned (OpenSpec.ofChange wantFitsWrong)

/-- 'conduitlaw02.WantHolds': WHATEVER THE INPUT: true; the input reads as it did. -/
def wantHoldsSpec : ChangeSpec := { name := "wantHolds", fn := fun _ => fun
  | [d1, d2] => { results := [.lit (.bool true)], args := [d1, d2] }
  | _ => none }
def wantHoldsRow : OpenClaim := { program := "ytokiaolgdkikiaagreat", sum := "a4455e27d372509783479e28b7f55d3eddb9dffeed56c0969ff1789afd8f1d94", func := "conduit/conduitlaw02.WantHolds", spec := "wantHolds", inPlace := ["math.Float64frombits", "math.Float64bits"], unfollowed := true, recurses := true, loops := true, apart := false }
def WantHoldsSaid : Prop := wantHoldsRow.holds Tryz.pinned (OpenSpec.ofChange wantHoldsSpec)

/-- ITS FALSE NEIGHBOUR: 'it returns false'. Refute it at one input. -/
def wantHoldsWrong : ChangeSpec := { name := "wantHolds", fn := fun _ => fun
  | [d1, d2] => { results := [.lit (.bool false)], args := [d1, d2] }
  | _ => none }
def WantHoldsWrongFalsely : Prop := wantHoldsRow.holds Tryz.pinned (OpenSpec.ofChange wantHoldsWrong)

/-- 'conduitlaw02.WantCovers': WHATEVER THE INPUT: true; the input reads as it did. -/
def wantCoversSpec : ChangeSpec := { name := "wantCovers", fn := fun _ => fun
  | [d1, d2] => { results := [.lit (.bool true)], args := [d1, d2] }
  | _ => none }
def wantCoversRow : OpenClaim := { program := "ytokiaolgdkikiaagreat", sum := "a4455e27d372509783479e28b7f55d3eddb9dffeed56c0969ff1789afd8f1d94", func := "conduit/conduitlaw02.WantCovers", spec := "wantCovers", inPlace := ["math.Float64frombits", "math.Float64bits"], unfollowed := true, recurses := true, loops := true, apart := false }
def WantCoversSaid : Prop := wantCoversRow.holds Tryz.pinned (OpenSpec.ofChange wantCoversSpec)

/-- ITS FALSE NEIGHBOUR: 'it returns false'. Refute it at one input. -/
def wantCoversWrong : ChangeSpec := { name := "wantCovers", fn := fun _ => fun
  | [d1, d2] => { results := [.lit (.bool false)], args := [d1, d2] }
  | _ => none }
def WantCoversWrongFalsely : Prop := wantCoversRow.holds Tryz.pinned (OpenSpec.ofChange wantCoversWrong)

/-- 'conduitlaw02.WantPlain': WHATEVER THE INPUT: true; the input reads as it did. -/
def wantPlainSpec : ChangeSpec := { name := "wantPlain", fn := fun _ => fun
  | [d] => { results := [.lit (.bool true)], args := [d] }
  | _ => none }
def wantPlainRow : OpenClaim := { program := "ytokiaolgdkikiaagreat", sum := "a4455e27d372509783479e28b7f55d3eddb9dffeed56c0969ff1789afd8f1d94", func := "conduit/conduitlaw02.WantPlain", spec := "wantPlain", inPlace := ["math.Float64frombits", "math.Float64bits"], unfollowed := true, recurses := true, loops := true, apart := false }
def WantPlainSaid : Prop := wantPlainRow.holds Tryz.pinned (OpenSpec.ofChange wantPlainSpec)

/-- ITS FALSE NEIGHBOUR: 'it returns false'. Refute it at one input. -/
def wantPlainWrong : ChangeSpec := { name := "wantPlain", fn := fun _ => fun
  | [d] => { results := [.lit (.bool false)], args := [d] }
  | _ => none }
def WantPlainWrongFalsely : Prop := wantPlainRow.holds Tryz.pinned (OpenSpec.ofChange wantPlainWrong)

/-- 'conduitlaw02.WantFaces': WHATEVER THE INPUT: true; the input reads as it did. -/
def wantFacesSpec : ChangeSpec := { name := "wantFaces", fn := fun _ => fun
  | [d1, d2] => { results := [.lit (.bool true)], args := [d1, d2] }
  | _ => none }
def wantFacesRow : OpenClaim := { program := "ytokiaolgdkikiaagreat", sum := "a4455e27d372509783479e28b7f55d3eddb9dffeed56c0969ff1789afd8f1d94", func := "conduit/conduitlaw02.WantFaces", spec := "wantFaces", inPlace := ["math.Float64frombits", "math.Float64bits"], unfollowed := true, recurses := true, apart := false }
def WantFacesSaid : Prop := wantFacesRow.holds Tryz.pinned (OpenSpec.ofChange wantFacesSpec)

/-- ITS FALSE NEIGHBOUR: 'it returns false'. Refute it at one input. -/
def wantFacesWrong : ChangeSpec := { name := "wantFaces", fn := fun _ => fun
  | [d1, d2] => { results := [.lit (.bool false)], args := [d1, d2] }
  | _ => none }
def WantFacesWrongFalsely : Prop := wantFacesRow.holds Tryz.pinned (OpenSpec.ofChange wantFacesWrong)

/-- 'conduitlaw02.WantAsserts': WHATEVER THE INPUT: true; the input reads as it did. -/
def wantAssertsSpec : ChangeSpec := { name := "wantAsserts", fn := fun _ => fun
  | [d1, d2] => { results := [.lit (.bool true)], args := [d1, d2] }
  | _ => none }
def wantAssertsRow : OpenClaim := { program := "ytokiaolgdkikiaagreat", sum := "a4455e27d372509783479e28b7f55d3eddb9dffeed56c0969ff1789afd8f1d94", func := "conduit/conduitlaw02.WantAsserts", spec := "wantAsserts", inPlace := ["math.Float64frombits", "math.Float64bits"], unfollowed := true, recurses := true, loops := true, apart := false }
def WantAssertsSaid : Prop := wantAssertsRow.holds Tryz.pinned (OpenSpec.ofChange wantAssertsSpec)

/-- ITS FALSE NEIGHBOUR: 'it returns false'. Refute it at one input. -/
def wantAssertsWrong : ChangeSpec := { name := "wantAsserts", fn := fun _ => fun
  | [d1, d2] => { results := [.lit (.bool false)], args := [d1, d2] }
  | _ => none }
def WantAssertsWrongFalsely : Prop := wantAssertsRow.holds Tryz.pinned (OpenSpec.ofChange wantAssertsWrong)

/- THE SECOND FORM. 'bulk': how many values and letters a reading holds, each counted each time it is reached (what is shared counts as often as it is met; a slice's spare places count too). A statement '..UptoSaid' is the law's where the arguments, and the package variables that the reading takes, are together of bulk at most 1048576: NARROWER than '..Said'. Prove '..Said' where nothing that the law and all that it calls make is longer than what came in: it says more and counts as full. Else prove '..UptoSaid'. A law counts once. -/
mutual
def uptoBulk {H : Type} : DataW H → Nat
  | .lit (.string bytes) => bytes.length + 1
  | .lit _ => 1
  | .nil => 1
  | .ptr d => uptoBulk d + 1
  | .slice elems spare => uptoBulkAll elems + uptoBulkAll spare + 1
  | .agg parts => uptoBulkAll parts + 1
  | .iface _ d => uptoBulk d + 1
  | .map entries => uptoBulkEntries entries + 1
  | .held _ => 1
def uptoBulkAll {H : Type} : List (DataW H) → Nat
  | [] => 0
  | d :: r => uptoBulk d + uptoBulkAll r
def uptoBulkEntries {H : Type} : List (Lit × DataW H) → Nat
  | [] => 0
  | x :: r => uptoBulkEntry x + uptoBulkEntries r
def uptoBulkEntry {H : Type} : Lit × DataW H → Nat
  | (.string bytes, d) => bytes.length + uptoBulk d + 1
  | (_, d) => uptoBulk d + 1
 end
def uptoSmall : (H : Type) → List (DataW H) → Bool := fun _ ds => decide (uptoBulkAll ds ≤ 1048576)
def OpenSpec.upto (s : _root_.Go.ChangeSpec) : _root_.Go.OpenSpec := { _root_.Go.OpenSpec.ofChange s with cond := some uptoSmall }

/-- 'conduitlaw02.WantFits', WHERE WHAT IT READS IS OF BULK AT MOST 1048576: true; the input reads as it did. -/
def wantFitsUptoRow : OpenClaim := { program := "ytokiaolgdkikiaagreat", sum := "a4455e27d372509783479e28b7f55d3eddb9dffeed56c0969ff1789afd8f1d94", func := "conduit/conduitlaw02.WantFits", spec := "wantFits", inPlace := ["math.Float64frombits", "math.Float64bits"], unfollowed := true, recurses := true, loops := true, apart := false, narrowed := true }
def WantFitsUptoSaid : Prop := wantFitsUptoRow.holds Tryz.pinned (OpenSpec.upto wantFitsSpec)

/-- 'conduitlaw02.WantHolds', WHERE WHAT IT READS IS OF BULK AT MOST 1048576: true; the input reads as it did. -/
def wantHoldsUptoRow : OpenClaim := { program := "ytokiaolgdkikiaagreat", sum := "a4455e27d372509783479e28b7f55d3eddb9dffeed56c0969ff1789afd8f1d94", func := "conduit/conduitlaw02.WantHolds", spec := "wantHolds", inPlace := ["math.Float64frombits", "math.Float64bits"], unfollowed := true, recurses := true, loops := true, apart := false, narrowed := true }
def WantHoldsUptoSaid : Prop := wantHoldsUptoRow.holds Tryz.pinned (OpenSpec.upto wantHoldsSpec)

/-- 'conduitlaw02.WantCovers', WHERE WHAT IT READS IS OF BULK AT MOST 1048576: true; the input reads as it did. -/
def wantCoversUptoRow : OpenClaim := { program := "ytokiaolgdkikiaagreat", sum := "a4455e27d372509783479e28b7f55d3eddb9dffeed56c0969ff1789afd8f1d94", func := "conduit/conduitlaw02.WantCovers", spec := "wantCovers", inPlace := ["math.Float64frombits", "math.Float64bits"], unfollowed := true, recurses := true, loops := true, apart := false, narrowed := true }
def WantCoversUptoSaid : Prop := wantCoversUptoRow.holds Tryz.pinned (OpenSpec.upto wantCoversSpec)

/-- 'conduitlaw02.WantPlain', WHERE WHAT IT READS IS OF BULK AT MOST 1048576: true; the input reads as it did. -/
def wantPlainUptoRow : OpenClaim := { program := "ytokiaolgdkikiaagreat", sum := "a4455e27d372509783479e28b7f55d3eddb9dffeed56c0969ff1789afd8f1d94", func := "conduit/conduitlaw02.WantPlain", spec := "wantPlain", inPlace := ["math.Float64frombits", "math.Float64bits"], unfollowed := true, recurses := true, loops := true, apart := false, narrowed := true }
def WantPlainUptoSaid : Prop := wantPlainUptoRow.holds Tryz.pinned (OpenSpec.upto wantPlainSpec)

/-- 'conduitlaw02.WantFaces', WHERE WHAT IT READS IS OF BULK AT MOST 1048576: true; the input reads as it did. -/
def wantFacesUptoRow : OpenClaim := { program := "ytokiaolgdkikiaagreat", sum := "a4455e27d372509783479e28b7f55d3eddb9dffeed56c0969ff1789afd8f1d94", func := "conduit/conduitlaw02.WantFaces", spec := "wantFaces", inPlace := ["math.Float64frombits", "math.Float64bits"], unfollowed := true, recurses := true, apart := false, narrowed := true }
def WantFacesUptoSaid : Prop := wantFacesUptoRow.holds Tryz.pinned (OpenSpec.upto wantFacesSpec)

/-- 'conduitlaw02.WantAsserts', WHERE WHAT IT READS IS OF BULK AT MOST 1048576: true; the input reads as it did. -/
def wantAssertsUptoRow : OpenClaim := { program := "ytokiaolgdkikiaagreat", sum := "a4455e27d372509783479e28b7f55d3eddb9dffeed56c0969ff1789afd8f1d94", func := "conduit/conduitlaw02.WantAsserts", spec := "wantAsserts", inPlace := ["math.Float64frombits", "math.Float64bits"], unfollowed := true, recurses := true, loops := true, apart := false, narrowed := true }
def WantAssertsUptoSaid : Prop := wantAssertsUptoRow.holds Tryz.pinned (OpenSpec.upto wantAssertsSpec)

end Rows
end Go.Proofs.YtokiaolgdkikiaaGreat
