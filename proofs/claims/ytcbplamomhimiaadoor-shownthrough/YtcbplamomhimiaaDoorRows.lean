/-
  NARROWER THAN 'FOR EVERY INPUT', by the rows' own cells (each row's printed sentence says how): ShownLevels: loops, laid · ShownWho: loops, laid · ShownExactly: loops, laid · ShownGrows: loops, laid · ShownThrough: loops, laid · ShownMasks: loops, laid.
  DERIVED. THE GIVEN ROWS OF THIS SEAT. 6 by the template 'for every input the law returns true; each argument reads behind the call as it read before'; 0 by the template 'total and deterministic' (their statements: YtcbplamomhimiaaDoorTotals.lean).
  GIVEN WITH THE SEED: the statements are not yours to turn. If you find one false, say at which input.
  Laid BY PROGRAM, IN A SANDBOX (cutbox-rows.mjs): the forced cells as the released guide's own fill.sh prints them over the translation d4a9007867e642d6… (all of the seat's roots in one cut). By AI agents, Wed Nov 11 2026. No macro, syntax, notation, axiom, sorry.
-/
import Derived.Test.YtcbplamomhimiaaDoorChecked
import GoSem.Claim
import GoSem.ClaimJoined
import GoSem.ClaimMapViews
import Derived.JoinedTies
import Derived.KernelRfl
namespace Go.Proofs.YtcbplamomhimiaaDoor
/- THE CELL 'sum', in the pinned program and in every row, IS THE sha256 OF THE DUMP (.gsa) THAT YtcbplamomhimiaaDoorProg.lean LOADS. Nothing in Lean hashes anything: it is a label: what it is worth is what the hold of that sum in a sandbox is worth. -/
noncomputable def Tryd.pinned : Pinned := { name := "ytcbplamomhimiaadoor", sum := "d4a9007867e642d63238f189c44420469225168a3363680a09d36436f2a19362", checked := Tryd.checked }
namespace Rows
def none {H : Type} : Left H := { results := [], args := [] }

/- WHAT THE LISTED PACKAGE-LEVEL VARIABLES READ AS WHEN THE CALL BEGINS. Each datum BY PROGRAM (the guide's laid-datum.mjs) off the statement by which the dump's own 'gosem.cut.vars' lays the variable. In a bare row this is a premise. The card (YtcbplamomhimiaaDoorCards.lean) ties it to the program's text. -/
def laid_conduit_caps_words {H : Type} : DataW H := .agg [.lit (.string [102, 108, 117, 115, 104]), .lit (.string [99, 108, 111, 115, 101]), .lit (.string [98, 97, 116, 99, 104]), .lit (.string [97, 99, 107]), .lit (.string [112, 105, 110, 103]), .lit (.string [114, 101, 115, 101, 116]), .lit (.string [115, 97, 118, 101]), .lit (.string [108, 111, 97, 100]), .lit (.string [110, 97, 109, 101]), .lit (.string [117, 110, 116, 105, 108]), .lit (.string [111, 112, 101, 110])]

/-- 'conduitlaw09.ShownLevels': WHATEVER THE INPUT: true; the input reads as it did. -/
def shownLevelsSpec : ChangeSpec := { name := "shownLevels", fn := fun _ => fun
  | [d] => { results := [.lit (.bool true)], args := [d] }
  | _ => none }
def shownLevelsRow : OpenClaim := { program := "ytcbplamomhimiaadoor", sum := "d4a9007867e642d63238f189c44420469225168a3363680a09d36436f2a19362", func := "conduit/conduitlaw09.ShownLevels", spec := "shownLevels", unfollowed := true, recurses := true, named := ["conduit/caps.words"], loops := true, apart := false, laid := [("conduit/caps.words", laid_conduit_caps_words)] }
def ShownLevelsSaid : Prop := shownLevelsRow.holds Tryd.pinned (OpenSpec.ofChange shownLevelsSpec)

/-- ITS FALSE NEIGHBOUR: 'it returns false'. Refute it at one input. -/
def shownLevelsWrong : ChangeSpec := { name := "shownLevels", fn := fun _ => fun
  | [d] => { results := [.lit (.bool false)], args := [d] }
  | _ => none }
def ShownLevelsWrongFalsely : Prop := shownLevelsRow.holds Tryd.pinned (OpenSpec.ofChange shownLevelsWrong)

/-- 'conduitlaw09.ShownWho': WHATEVER THE INPUT: true; the input reads as it did. -/
def shownWhoSpec : ChangeSpec := { name := "shownWho", fn := fun _ => fun
  | [d1, d2] => { results := [.lit (.bool true)], args := [d1, d2] }
  | _ => none }
def shownWhoRow : OpenClaim := { program := "ytcbplamomhimiaadoor", sum := "d4a9007867e642d63238f189c44420469225168a3363680a09d36436f2a19362", func := "conduit/conduitlaw09.ShownWho", spec := "shownWho", unfollowed := true, recurses := true, named := ["conduit/caps.words"], loops := true, apart := false, laid := [("conduit/caps.words", laid_conduit_caps_words)] }
def ShownWhoSaid : Prop := shownWhoRow.holds Tryd.pinned (OpenSpec.ofChange shownWhoSpec)

/-- ITS FALSE NEIGHBOUR: 'it returns false'. Refute it at one input. -/
def shownWhoWrong : ChangeSpec := { name := "shownWho", fn := fun _ => fun
  | [d1, d2] => { results := [.lit (.bool false)], args := [d1, d2] }
  | _ => none }
def ShownWhoWrongFalsely : Prop := shownWhoRow.holds Tryd.pinned (OpenSpec.ofChange shownWhoWrong)

/-- 'conduitlaw09.ShownExactly': WHATEVER THE INPUT: true; the input reads as it did. -/
def shownExactlySpec : ChangeSpec := { name := "shownExactly", fn := fun _ => fun
  | [d] => { results := [.lit (.bool true)], args := [d] }
  | _ => none }
def shownExactlyRow : OpenClaim := { program := "ytcbplamomhimiaadoor", sum := "d4a9007867e642d63238f189c44420469225168a3363680a09d36436f2a19362", func := "conduit/conduitlaw09.ShownExactly", spec := "shownExactly", unfollowed := true, recurses := true, named := ["conduit/caps.words"], loops := true, apart := false, laid := [("conduit/caps.words", laid_conduit_caps_words)] }
def ShownExactlySaid : Prop := shownExactlyRow.holds Tryd.pinned (OpenSpec.ofChange shownExactlySpec)

/-- ITS FALSE NEIGHBOUR: 'it returns false'. Refute it at one input. -/
def shownExactlyWrong : ChangeSpec := { name := "shownExactly", fn := fun _ => fun
  | [d] => { results := [.lit (.bool false)], args := [d] }
  | _ => none }
def ShownExactlyWrongFalsely : Prop := shownExactlyRow.holds Tryd.pinned (OpenSpec.ofChange shownExactlyWrong)

/-- 'conduitlaw09.ShownGrows': WHATEVER THE INPUT: true; the input reads as it did. -/
def shownGrowsSpec : ChangeSpec := { name := "shownGrows", fn := fun _ => fun
  | [d1, d2] => { results := [.lit (.bool true)], args := [d1, d2] }
  | _ => none }
def shownGrowsRow : OpenClaim := { program := "ytcbplamomhimiaadoor", sum := "d4a9007867e642d63238f189c44420469225168a3363680a09d36436f2a19362", func := "conduit/conduitlaw09.ShownGrows", spec := "shownGrows", unfollowed := true, recurses := true, named := ["conduit/caps.words"], loops := true, apart := false, laid := [("conduit/caps.words", laid_conduit_caps_words)] }
def ShownGrowsSaid : Prop := shownGrowsRow.holds Tryd.pinned (OpenSpec.ofChange shownGrowsSpec)

/-- ITS FALSE NEIGHBOUR: 'it returns false'. Refute it at one input. -/
def shownGrowsWrong : ChangeSpec := { name := "shownGrows", fn := fun _ => fun
  | [d1, d2] => { results := [.lit (.bool false)], args := [d1, d2] }
  | _ => none }
def ShownGrowsWrongFalsely : Prop := shownGrowsRow.holds Tryd.pinned (OpenSpec.ofChange shownGrowsWrong)

/-- 'conduitlaw09.ShownThrough': WHATEVER THE INPUT: true; the input reads as it did. -/
def shownThroughSpec : ChangeSpec := { name := "shownThrough", fn := fun _ => fun
  | [d1, d2] => { results := [.lit (.bool true)], args := [d1, d2] }
  | _ => none }
def shownThroughRow : OpenClaim := { program := "ytcbplamomhimiaadoor", sum := "d4a9007867e642d63238f189c44420469225168a3363680a09d36436f2a19362", func := "conduit/conduitlaw09.ShownThrough", spec := "shownThrough", unfollowed := true, recurses := true, named := ["conduit/caps.words"], loops := true, apart := false, laid := [("conduit/caps.words", laid_conduit_caps_words)] }
def ShownThroughSaid : Prop := shownThroughRow.holds Tryd.pinned (OpenSpec.ofChange shownThroughSpec)

/-- ITS FALSE NEIGHBOUR: 'it returns false'. Refute it at one input. -/
def shownThroughWrong : ChangeSpec := { name := "shownThrough", fn := fun _ => fun
  | [d1, d2] => { results := [.lit (.bool false)], args := [d1, d2] }
  | _ => none }
def ShownThroughWrongFalsely : Prop := shownThroughRow.holds Tryd.pinned (OpenSpec.ofChange shownThroughWrong)

/-- 'conduitlaw09.ShownMasks': WHATEVER THE INPUT: true; the input reads as it did. -/
def shownMasksSpec : ChangeSpec := { name := "shownMasks", fn := fun _ => fun
  | [d1, d2, d3] => { results := [.lit (.bool true)], args := [d1, d2, d3] }
  | _ => none }
def shownMasksRow : OpenClaim := { program := "ytcbplamomhimiaadoor", sum := "d4a9007867e642d63238f189c44420469225168a3363680a09d36436f2a19362", func := "conduit/conduitlaw09.ShownMasks", spec := "shownMasks", unfollowed := true, recurses := true, named := ["conduit/caps.words"], loops := true, apart := false, laid := [("conduit/caps.words", laid_conduit_caps_words)] }
def ShownMasksSaid : Prop := shownMasksRow.holds Tryd.pinned (OpenSpec.ofChange shownMasksSpec)

/-- ITS FALSE NEIGHBOUR: 'it returns false'. Refute it at one input. -/
def shownMasksWrong : ChangeSpec := { name := "shownMasks", fn := fun _ => fun
  | [d1, d2, d3] => { results := [.lit (.bool false)], args := [d1, d2, d3] }
  | _ => none }
def ShownMasksWrongFalsely : Prop := shownMasksRow.holds Tryd.pinned (OpenSpec.ofChange shownMasksWrong)

/- THE SECOND FORM. 'bulk': how many values and letters a reading holds, each counted each time it is reached (what is shared counts as often as it is met; a slice's spare places count too). A statement '..UptoSaid' is the law's where the arguments, and the package variables that the reading takes, are together of bulk at most 1048576: NARROWER than '..Said'. Prove '..Said' where nothing that the law and all that it calls make is longer than what came in: it says more and counts as full. Else prove '..UptoSaid'. A law counts once. -/
mutual
def uptoBulk {H : Type} : DataW H → Nat
  | .lit (.string bytes) => bytes.length + 1
  | .lit _ => 1
  | .nil => 1
  | .ptr d => uptoBulk d + 1
  | .slice elems spare => uptoBulkAll elems + uptoBulkAll spare + 1
  | .agg parts => uptoBulkAll parts + 1
  | .iface _ d => uptoBulk d + 1
  | .map entries => uptoBulkEntries entries + 1
  | .held _ => 1
def uptoBulkAll {H : Type} : List (DataW H) → Nat
  | [] => 0
  | d :: r => uptoBulk d + uptoBulkAll r
def uptoBulkEntries {H : Type} : List (Lit × DataW H) → Nat
  | [] => 0
  | x :: r => uptoBulkEntry x + uptoBulkEntries r
def uptoBulkEntry {H : Type} : Lit × DataW H → Nat
  | (.string bytes, d) => bytes.length + uptoBulk d + 1
  | (_, d) => uptoBulk d + 1
 end
def uptoSmall : (H : Type) → List (DataW H) → Bool := fun _ ds => decide (uptoBulkAll ds ≤ 1048576)
def OpenSpec.upto (s : _root_.Go.ChangeSpec) : _root_.Go.OpenSpec := { _root_.Go.OpenSpec.ofChange s with cond := some uptoSmall }

/-- 'conduitlaw09.ShownLevels', WHERE WHAT IT READS IS OF BULK AT MOST 1048576: true; the input reads as it did. -/
def shownLevelsUptoRow : OpenClaim := { program := "ytcbplamomhimiaadoor", sum := "d4a9007867e642d63238f189c44420469225168a3363680a09d36436f2a19362", func := "conduit/conduitlaw09.ShownLevels", spec := "shownLevels", unfollowed := true, recurses := true, named := ["conduit/caps.words"], loops := true, apart := false, laid := [("conduit/caps.words", laid_conduit_caps_words)], narrowed := true }
def ShownLevelsUptoSaid : Prop := shownLevelsUptoRow.holds Tryd.pinned (OpenSpec.upto shownLevelsSpec)

/-- 'conduitlaw09.ShownWho', WHERE WHAT IT READS IS OF BULK AT MOST 1048576: true; the input reads as it did. -/
def shownWhoUptoRow : OpenClaim := { program := "ytcbplamomhimiaadoor", sum := "d4a9007867e642d63238f189c44420469225168a3363680a09d36436f2a19362", func := "conduit/conduitlaw09.ShownWho", spec := "shownWho", unfollowed := true, recurses := true, named := ["conduit/caps.words"], loops := true, apart := false, laid := [("conduit/caps.words", laid_conduit_caps_words)], narrowed := true }
def ShownWhoUptoSaid : Prop := shownWhoUptoRow.holds Tryd.pinned (OpenSpec.upto shownWhoSpec)

/-- 'conduitlaw09.ShownExactly', WHERE WHAT IT READS IS OF BULK AT MOST 1048576: true; the input reads as it did. -/
def shownExactlyUptoRow : OpenClaim := { program := "ytcbplamomhimiaadoor", sum := "d4a9007867e642d63238f189c44420469225168a3363680a09d36436f2a19362", func := "conduit/conduitlaw09.ShownExactly", spec := "shownExactly", unfollowed := true, recurses := true, named := ["conduit/caps.words"], loops := true, apart := false, laid := [("conduit/caps.words", laid_conduit_caps_words)], narrowed := true }
def ShownExactlyUptoSaid : Prop := shownExactlyUptoRow.holds Tryd.pinned (OpenSpec.upto shownExactlySpec)

/-- 'conduitlaw09.ShownGrows', WHERE WHAT IT READS IS OF BULK AT MOST 1048576: true; the input reads as it did. -/
def shownGrowsUptoRow : OpenClaim := { program := "ytcbplamomhimiaadoor", sum := "d4a9007867e642d63238f189c44420469225168a3363680a09d36436f2a19362", func := "conduit/conduitlaw09.ShownGrows", spec := "shownGrows", unfollowed := true, recurses := true, named := ["conduit/caps.words"], loops := true, apart := false, laid := [("conduit/caps.words", laid_conduit_caps_words)], narrowed := true }
def ShownGrowsUptoSaid : Prop := shownGrowsUptoRow.holds Tryd.pinned (OpenSpec.upto shownGrowsSpec)

/-- 'conduitlaw09.ShownThrough', WHERE WHAT IT READS IS OF BULK AT MOST 1048576: true; the input reads as it did. -/
def shownThroughUptoRow : OpenClaim := { program := "ytcbplamomhimiaadoor", sum := "d4a9007867e642d63238f189c44420469225168a3363680a09d36436f2a19362", func := "conduit/conduitlaw09.ShownThrough", spec := "shownThrough", unfollowed := true, recurses := true, named := ["conduit/caps.words"], loops := true, apart := false, laid := [("conduit/caps.words", laid_conduit_caps_words)], narrowed := true }
def ShownThroughUptoSaid : Prop := shownThroughUptoRow.holds Tryd.pinned (OpenSpec.upto shownThroughSpec)

/-- 'conduitlaw09.ShownMasks', WHERE WHAT IT READS IS OF BULK AT MOST 1048576: true; the input reads as it did. -/
def shownMasksUptoRow : OpenClaim := { program := "ytcbplamomhimiaadoor", sum := "d4a9007867e642d63238f189c44420469225168a3363680a09d36436f2a19362", func := "conduit/conduitlaw09.ShownMasks", spec := "shownMasks", unfollowed := true, recurses := true, named := ["conduit/caps.words"], loops := true, apart := false, laid := [("conduit/caps.words", laid_conduit_caps_words)], narrowed := true }
def ShownMasksUptoSaid : Prop := shownMasksUptoRow.holds Tryd.pinned (OpenSpec.upto shownMasksSpec)

end Rows
end Go.Proofs.YtcbplamomhimiaaDoor
