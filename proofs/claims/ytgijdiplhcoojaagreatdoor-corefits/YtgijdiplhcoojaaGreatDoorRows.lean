/-
  NARROWER THAN 'FOR EVERY INPUT', by the rows' own cells (each row's printed sentence says how): CoreFits: loops, laid · CoreWords: laid.
  DERIVED. THE GIVEN ROWS OF THIS SEAT. 2 by the template 'for every input the law returns true; each argument reads behind the call as it read before'; 0 by the template 'total and deterministic' (their statements: YtgijdiplhcoojaaGreatDoorTotals.lean).
  GIVEN WITH THE SEED: the statements are not yours to turn. If you find one false, say at which input.
  Laid BY PROGRAM, IN A SANDBOX (cutbox-rows.mjs): the forced cells as the released guide's own fill.sh prints them over the translation 09b284db152f7d4e… (all of the seat's roots in one cut). By AI agents, Wed Nov 11 2026. No macro, syntax, notation, axiom, sorry.
-/
import Derived.Test.YtgijdiplhcoojaaGreatDoorChecked
import GoSem.Claim
import GoSem.ClaimJoined
import GoSem.ClaimMapViews
import Derived.JoinedTies
import Derived.KernelRfl
namespace Go.Proofs.YtgijdiplhcoojaaGreatDoor
/- THE CELL 'sum', in the pinned program and in every row, IS THE sha256 OF THE DUMP (.gsa) THAT YtgijdiplhcoojaaGreatDoorProg.lean LOADS. Nothing in Lean hashes anything: it is a label: what it is worth is what the hold of that sum in a sandbox is worth. -/
noncomputable def Tryz.pinned : Pinned := { name := "ytgijdiplhcoojaagreatdoor", sum := "09b284db152f7d4ea327e44f193a6bffd086db5cf2d45f31142baa11a3ecb527", checked := Tryz.checked }
namespace Rows
def none {H : Type} : Left H := { results := [], args := [] }

/- WHAT THE LISTED PACKAGE-LEVEL VARIABLES READ AS WHEN THE CALL BEGINS. Each datum BY PROGRAM (the guide's laid-datum.mjs) off the statement by which the dump's own 'gosem.cut.vars' lays the variable. In a bare row this is a premise. The card (YtgijdiplhcoojaaGreatDoorCards.lean) ties it to the program's text. -/
def laid_conduit_datum_fields {H : Type} : DataW H := .agg [.lit (.int .u8 0), .lit (.int .u8 1), .lit (.int .u8 1), .lit (.int .u8 2), .lit (.int .u8 4), .lit (.int .u8 4), .lit (.int .u8 1), .lit (.int .u8 4), .lit (.int .u8 8), .lit (.int .u8 8), .lit (.int .u8 5), .lit (.int .u8 9), .lit (.int .u8 0), .lit (.int .u8 0)]
def laid_conduit_core_words {H : Type} : DataW H := .agg [.lit (.string []), .lit (.string [101, 99, 104, 111]), .lit (.string [99, 111, 117, 110, 116]), .lit (.string [115, 116, 111, 114, 101]), .lit (.string [115, 117, 109]), .lit (.string [115, 105, 122, 101]), .lit (.string [117, 110, 98, 111, 120]), .lit (.string [102, 97, 105, 108]), .lit (.string [112, 97, 110, 105, 99]), .lit (.string [110, 116, 104]), .lit (.string [110, 111, 110, 101]), .lit (.string [109, 117, 116, 101]), .lit (.string [108, 101, 115, 115])]

/-- 'conduitlaw10.CoreFits': WHATEVER THE INPUT: true; the input reads as it did. -/
def coreFitsSpec : ChangeSpec := { name := "coreFits", fn := fun _ => fun
  | [d1, d2] => { results := [.lit (.bool true)], args := [d1, d2] }
  | _ => none }
def coreFitsRow : OpenClaim := { program := "ytgijdiplhcoojaagreatdoor", sum := "09b284db152f7d4ea327e44f193a6bffd086db5cf2d45f31142baa11a3ecb527", func := "conduit/conduitlaw10.CoreFits", spec := "coreFits", inPlace := ["math.Float64frombits", "math.Float64bits"], unfollowed := true, recurses := true, named := ["conduit/datum.fields", "conduit/core.words"], loops := true, apart := false, laid := [("conduit/datum.fields", laid_conduit_datum_fields), ("conduit/core.words", laid_conduit_core_words)] }
def CoreFitsSaid : Prop := coreFitsRow.holds Tryz.pinned (OpenSpec.ofChange coreFitsSpec)

/-- ITS FALSE NEIGHBOUR: 'it returns false'. Refute it at one input. -/
def coreFitsWrong : ChangeSpec := { name := "coreFits", fn := fun _ => fun
  | [d1, d2] => { results := [.lit (.bool false)], args := [d1, d2] }
  | _ => none }
def CoreFitsWrongFalsely : Prop := coreFitsRow.holds Tryz.pinned (OpenSpec.ofChange coreFitsWrong)

/-- 'conduitlaw10.CoreWords': WHATEVER THE INPUT: true; the input reads as it did. -/
def coreWordsSpec : ChangeSpec := { name := "coreWords", fn := fun _ => fun
  | [d] => { results := [.lit (.bool true)], args := [d] }
  | _ => none }
def coreWordsRow : OpenClaim := { program := "ytgijdiplhcoojaagreatdoor", sum := "09b284db152f7d4ea327e44f193a6bffd086db5cf2d45f31142baa11a3ecb527", func := "conduit/conduitlaw10.CoreWords", spec := "coreWords", unfollowed := true, recurses := true, named := ["conduit/core.words"], apart := false, laid := [("conduit/core.words", laid_conduit_core_words)] }
def CoreWordsSaid : Prop := coreWordsRow.holds Tryz.pinned (OpenSpec.ofChange coreWordsSpec)

/-- ITS FALSE NEIGHBOUR: 'it returns false'. Refute it at one input. -/
def coreWordsWrong : ChangeSpec := { name := "coreWords", fn := fun _ => fun
  | [d] => { results := [.lit (.bool false)], args := [d] }
  | _ => none }
def CoreWordsWrongFalsely : Prop := coreWordsRow.holds Tryz.pinned (OpenSpec.ofChange coreWordsWrong)

/- THE SECOND FORM. 'bulk': how many values and letters a reading holds, each counted each time it is reached (what is shared counts as often as it is met; a slice's spare places count too). A statement '..UptoSaid' is the law's where the arguments, and the package variables that the reading takes, are together of bulk at most 1048576: NARROWER than '..Said'. Prove '..Said' where nothing that the law and all that it calls make is longer than what came in: it says more and counts as full. Else prove '..UptoSaid'. A law counts once. -/
mutual
def uptoBulk {H : Type} : DataW H → Nat
  | .lit (.string bytes) => bytes.length + 1
  | .lit _ => 1
  | .nil => 1
  | .ptr d => uptoBulk d + 1
  | .slice elems spare => uptoBulkAll elems + uptoBulkAll spare + 1
  | .agg parts => uptoBulkAll parts + 1
  | .iface _ d => uptoBulk d + 1
  | .map entries => uptoBulkEntries entries + 1
  | .held _ => 1
def uptoBulkAll {H : Type} : List (DataW H) → Nat
  | [] => 0
  | d :: r => uptoBulk d + uptoBulkAll r
def uptoBulkEntries {H : Type} : List (Lit × DataW H) → Nat
  | [] => 0
  | x :: r => uptoBulkEntry x + uptoBulkEntries r
def uptoBulkEntry {H : Type} : Lit × DataW H → Nat
  | (.string bytes, d) => bytes.length + uptoBulk d + 1
  | (_, d) => uptoBulk d + 1
 end
def uptoSmall : (H : Type) → List (DataW H) → Bool := fun _ ds => decide (uptoBulkAll ds ≤ 1048576)
def OpenSpec.upto (s : _root_.Go.ChangeSpec) : _root_.Go.OpenSpec := { _root_.Go.OpenSpec.ofChange s with cond := some uptoSmall }

/-- 'conduitlaw10.CoreFits', WHERE WHAT IT READS IS OF BULK AT MOST 1048576: true; the input reads as it did. -/
def coreFitsUptoRow : OpenClaim := { program := "ytgijdiplhcoojaagreatdoor", sum := "09b284db152f7d4ea327e44f193a6bffd086db5cf2d45f31142baa11a3ecb527", func := "conduit/conduitlaw10.CoreFits", spec := "coreFits", inPlace := ["math.Float64frombits", "math.Float64bits"], unfollowed := true, recurses := true, named := ["conduit/datum.fields", "conduit/core.words"], loops := true, apart := false, laid := [("conduit/datum.fields", laid_conduit_datum_fields), ("conduit/core.words", laid_conduit_core_words)], narrowed := true }
def CoreFitsUptoSaid : Prop := coreFitsUptoRow.holds Tryz.pinned (OpenSpec.upto coreFitsSpec)

/-- 'conduitlaw10.CoreWords', WHERE WHAT IT READS IS OF BULK AT MOST 1048576: true; the input reads as it did. -/
def coreWordsUptoRow : OpenClaim := { program := "ytgijdiplhcoojaagreatdoor", sum := "09b284db152f7d4ea327e44f193a6bffd086db5cf2d45f31142baa11a3ecb527", func := "conduit/conduitlaw10.CoreWords", spec := "coreWords", unfollowed := true, recurses := true, named := ["conduit/core.words"], apart := false, laid := [("conduit/core.words", laid_conduit_core_words)], narrowed := true }
def CoreWordsUptoSaid : Prop := coreWordsUptoRow.holds Tryz.pinned (OpenSpec.upto coreWordsSpec)

end Rows
end Go.Proofs.YtgijdiplhcoojaaGreatDoor
