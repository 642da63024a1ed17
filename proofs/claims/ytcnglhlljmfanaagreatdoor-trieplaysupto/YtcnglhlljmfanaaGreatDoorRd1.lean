/- How a call of the script reads: a kind, a text, a number; in a struct, in a row of structs; no condition but those that each theorem names. -/
import Derived.Test.YtcnglhlljmfanaaGreatDoorTb
import Derived.OpenShut
import Derived.ChangeArms
import Derived.ProofKit
namespace Go.Proofs.YtcnglhlljmfanaaGreatDoor
open Go.ChangeShapes Go.WideShapes Go.ChangeAt Go.WideMaps Go.WideElems Go.RowKit Tp

theorem tcAct : Tryz.prog.cellsOf 31 = 3 := by kernel_rfl
theorem tcInt : Tryz.prog.cellsOf 3 = 1 := by kernel_rfl
theorem tcStr : Tryz.prog.cellsOf 9 = 1 := by kernel_rfl

theorem arr3 {cs : Array Value} (h : cs.size = 3) : ∃ c0 c1 c2, cs = #[c0, c1, c2] := by
  obtain ⟨l⟩ := cs
  match l, h with
  | [a, b, c], _ => exact ⟨a, b, c, rfl⟩

theorem act_of_trod {H : Type} {enc : TypeId × Value → H} {w : World} {base : Nat} {sp : Nat → Bool} {held : Bool} (fuel : Nat) (c0 c1 c2 : Value) (x : DataW H × List MemPlace)
    (h : DataW.trod enc Tryz.prog w base sp held fuel 31 [c0, c1, c2] = some x) : ∃ k s i, c0 = .int .i64 k ∧ c1 = .string s ∧ c2 = .int .i64 i ∧ s.size ≤ maxLen ∧ (Lit.int .i64 i).wf = true := by
  obtain ⟨xs, n, hn, -, hlen, hxl, hf⟩ := DataW.trod_struct Tryz.underlying31 h
  obtain ⟨y0, hy0⟩ : ∃ y, xs[0]? = some y := ⟨_, List.getElem?_eq_getElem (by rw [hxl]; exact (by decide : 0 < 3))⟩
  obtain ⟨y1, hy1⟩ : ∃ y, xs[1]? = some y := ⟨_, List.getElem?_eq_getElem (by rw [hxl]; exact (by decide : 1 < 3))⟩
  obtain ⟨y2, hy2⟩ : ∃ y, xs[2]? = some y := ⟨_, List.getElem?_eq_getElem (by rw [hxl]; exact (by decide : 2 < 3))⟩
  have h0 : DataW.trod enc Tryz.prog w base sp held n 3 (([c0, c1, c2].drop 0).take (Tryz.prog.cellsOf 3)) = some y0 := (hf 0 _ rfl).trans hy0
  have h1 : DataW.trod enc Tryz.prog w base sp held n 9 (([c0, c1, c2].drop 1).take (Tryz.prog.cellsOf 9)) = some y1 := (hf 1 _ rfl).trans hy1
  have h2 : DataW.trod enc Tryz.prog w base sp held n 3 (([c0, c1, c2].drop 2).take (Tryz.prog.cellsOf 3)) = some y2 := (hf 2 _ rfl).trans hy2
  rw [tcInt] at h0 h2
  rw [tcStr] at h1
  obtain ⟨k, e0, -, _⟩ := DataW.trod_int Tryz.underlying3 h0
  obtain ⟨s, e1, -, hs⟩ := DataW.trod_string Tryz.underlying9 h1
  obtain ⟨i, e2, -, hi⟩ := DataW.trod_int Tryz.underlying3 h2
  simp at e0 e1 e2
  exact ⟨k, s, i, e0, e1, e2, hs, hi⟩
end Go.Proofs.YtcnglhlljmfanaaGreatDoor
