/- The two tables of the package, read off what the rows lay; no condition but those that each theorem names. -/
import Derived.Test.YtanjkljcoccblaaDoorRows
import Derived.Test.YtanjkljcoccblaaDoorCw
import Derived.Lib.LaidU8T
import Derived.Lib.LaidTab
import Derived.OpenShut
import Derived.ProofKit
namespace Go.Proofs.YtanjkljcoccblaaDoor
open Go.ChangeShapes Go.WideShapes Go.ChangeAt Go.WideMaps Go.WideElems Go.RowKit

theorem gW : Tryd.prog.globalNamed "conduit/caps.words" = some 0 := by kernel_rfl
theorem tW : (Tryd.prog.globals[0]?).map (·.type) = some 43 := by kernel_rfl
theorem cS : Tryd.prog.cellsOf 9 = 1 := by kernel_rfl
theorem words_eq : (Rows.laid_conduit_caps_words : DataW Unit) = .agg (wds.map fun x => .lit (.string x)) := rfl
theorem words_of_reads {W : World} (h : Lib.VarReads Tryd.prog W "conduit/caps.words" Rows.laid_conduit_caps_words) : Wds W := by
  obtain ⟨g, t, cs, fuel, p, h1, h2, h3, h4⟩ := h
  rw [gW] at h1
  obtain rfl := Option.some.inj h1
  rw [tW] at h2
  obtain rfl := Option.some.inj h2
  rw [words_eq] at h4
  have key : ∀ (j : Nat) x, wds[j]? = some x → W.cell? ⟨0, j, none⟩ = some (.string (bs x)) := fun j x hj => by
    have hjl : j < 11 := (List.getElem?_eq_some_iff.1 hj).1
    obtain ⟨fuel', d, q, hd, hf⟩ := Lib.array_elem Tryd.underlying43 h4 j hjl
    rw [cS, Nat.mul_one] at hf
    obtain ⟨s, e1, e2, -⟩ := DataW.trod_string Tryd.underlying9 hf
    rw [List.getElem?_map, hj] at hd
    have hd' : (DataW.lit (.string x) : DataW Unit) = d := by simpa using hd
    have e3 : x = s.data.toList := by
      have e4 := congrArg Prod.fst e2
      rw [← hd'] at e4
      simpa using e4
    have hc := World.var?_cell gW h3 j
    rw [hc]
    have e5 : cs.toList[j]? = some (.string s) := by
      have := congrArg (·[0]?) e1
      simpa [List.getElem?_take, List.getElem?_drop] using this
    rw [Array.getElem?_toList] at e5
    rw [e5, e3]
    congr 2
  exact ⟨World.block_lt_of_cell? W _ (key 0 _ rfl), key⟩

theorem gN : Tryd.prog.globalNamed "conduit/caps.needs" = some 1 := by kernel_rfl
theorem needs_of_reads {W : World} (h : Lib.VarReads Tryd.prog W "conduit/caps.needs" Rows.laid_conduit_caps_needs) : Nds W := by
  obtain ⟨g, t, cs, fuel, p, h1, h2, h3, h4⟩ := h
  rw [gN] at h1
  obtain rfl := Option.some.inj h1
  rw [show (Tryd.prog.globals[1]?).map (·.type) = some 57 by kernel_rfl] at h2
  obtain rfl := Option.some.inj h2
  have c56 : Tryd.prog.cellsOf 56 = 2 := by kernel_rfl
  have one : ∀ (j : Nat) (a b : Int), j < 4 → (match (Rows.laid_conduit_caps_needs : DataW Unit) with | .agg ds => ds[j]? | _ => none) = some (.agg [.lit (.int .u32 a), .lit (.int .u32 b)]) → W.cell? ⟨1, j * 2, none⟩ = some (.int .u32 a) ∧ W.cell? ⟨1, j * 2 + 1, none⟩ = some (.int .u32 b) := fun j a b hj hd0 => by
    obtain ⟨fuel', d, q, hd, hf⟩ := Lib.array_elem Tryd.underlying57 h4 j hj
    rw [c56] at hf
    have hd' : d = .agg ([a, b].map fun z => .lit (.int .u32 z)) := Option.some.inj (hd.symm.trans hd0)
    rw [hd'] at hf
    have e1 := Lib.ints_of_struct (k := .u32) Tryd.underlying56 (fun i f hi => by
      match i, hi with
      | 0, hi => cases hi; exact ⟨Tryd.underlying23, rfl, by kernel_rfl⟩
      | 1, hi => cases hi; exact ⟨Tryd.underlying23, rfl, by kernel_rfl⟩
      | (n + 2), hi => simp at hi) (by kernel_rfl) hf
    have hc0 := World.var?_cell gN h3 (j * 2)
    have hc1 := World.var?_cell gN h3 (j * 2 + 1)
    have f0 := congrArg (·[0]?) e1
    have f1 := congrArg (·[1]?) e1
    refine ⟨?_, ?_⟩
    · rw [hc0, ← Array.getElem?_toList]; simpa [List.getElem?_take, List.getElem?_drop] using f0
    · rw [hc1, ← Array.getElem?_toList]; simpa [List.getElem?_take, List.getElem?_drop] using f1
  have o0 := one 0 4 1 (by decide) rfl
  have o1 := one 1 128 64 (by decide) rfl
  have o2 := one 2 8 512 (by decide) rfl
  have o3 := one 3 32 16 (by decide) rfl
  refine ⟨World.block_lt_of_cell? W _ o0.1, fun j x hj => ?_⟩
  match j, hj with
  | 0, hj => cases hj; exact o0.1
  | 1, hj => cases hj; exact o0.2
  | 2, hj => cases hj; exact o1.1
  | 3, hj => cases hj; exact o1.2
  | 4, hj => cases hj; exact o2.1
  | 5, hj => cases hj; exact o2.2
  | 6, hj => cases hj; exact o3.1
  | 7, hj => cases hj; exact o3.2
  | (n + 8), hj => simp [nds] at hj
end Go.Proofs.YtanjkljcoccblaaDoor
