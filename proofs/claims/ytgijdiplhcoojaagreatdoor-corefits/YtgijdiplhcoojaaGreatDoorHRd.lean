/- The table of the cores' words, read off what the rows lay; no condition but those that each theorem names. -/
import Derived.Test.YtgijdiplhcoojaaGreatDoorRows
import Derived.Test.YtgijdiplhcoojaaGreatDoorHn
import Derived.Lib.LaidU8T
import Derived.Lib.LaidTab
import Derived.OpenShut
import Derived.ProofKit
namespace Go.Proofs.YtgijdiplhcoojaaGreatDoor
open Go.ChangeShapes Go.WideShapes Go.ChangeAt Go.WideMaps Go.WideElems Go.RowKit
theorem laidOut : laidOutB Tryz.prog = true := by kernel_rfl
theorem own10 : ownKnob Tryz.prog.godebug = none := by kernel_rfl
theorem gW : Tryz.prog.globalNamed "conduit/core.words" = some 0 := by kernel_rfl
theorem tW : (Tryz.prog.globals[0]?).map (·.type) = some 64 := by kernel_rfl
theorem cS : Tryz.prog.cellsOf 9 = 1 := by kernel_rfl
theorem words_eq : (Rows.laid_conduit_core_words : DataW Unit) = .agg (cwd.map fun x => .lit (.string x)) := rfl
theorem words_of_reads {W : World} (h : Lib.VarReads Tryz.prog W "conduit/core.words" Rows.laid_conduit_core_words) : Wc W := by
  obtain ⟨g, t, cs, fuel, p, h1, h2, h3, h4⟩ := h
  rw [gW] at h1
  obtain rfl := Option.some.inj h1
  rw [tW] at h2
  obtain rfl := Option.some.inj h2
  rw [words_eq] at h4
  have key : ∀ (j : Nat) x, cwd[j]? = some x → W.cell? ⟨0, j, none⟩ = some (.string ⟨x.toArray⟩) := fun j x hj => by
    have hjl : j < 13 := (List.getElem?_eq_some_iff.1 hj).1
    obtain ⟨fuel', d, q, hd, hf⟩ := Lib.array_elem Tryz.underlying64 h4 j hjl
    rw [cS, Nat.mul_one] at hf
    obtain ⟨s, e1, e2, -⟩ := DataW.trod_string Tryz.underlying9 hf
    rw [List.getElem?_map, hj] at hd
    have hd' : (DataW.lit (.string x) : DataW Unit) = d := by simpa using hd
    have e3 : x = s.data.toList := by
      have e4 := congrArg Prod.fst e2
      rw [← hd'] at e4
      simpa using e4
    have hc := World.var?_cell gW h3 j
    rw [hc]
    have e5 : cs.toList[j]? = some (.string s) := by
      have := congrArg (·[0]?) e1
      simpa [List.getElem?_take, List.getElem?_drop] using this
    rw [Array.getElem?_toList] at e5
    rw [e5, e3]

  exact ⟨World.block_lt_of_cell? W _ (key 0 _ rfl), key⟩
end Go.Proofs.YtgijdiplhcoojaaGreatDoor
