/- A row of names in memory; no condition but those that each theorem names. -/
import Derived.Test.YtnlplnlclnbdiaaGreatDoorMa
namespace Go.Proofs.YtnlplnlclnbdiaaGreatDoor
open Go.RowKit Tp Go.Maps Go.Shelf

/-- A row of names in memory. -/
def NamesAt (W : World) (v : Value) (Ns : List ByteArray) : Prop := ((∃ a c, v = .slice a 0 c) ∧ Ns = []) ∨ ∃ g o c, v = .slice (some ⟨g, o, none⟩) Ns.length c ∧ g < W.heap.size ∧ Row W g o Ns
theorem NamesAt.from {n : Nat} {W W' : World} {v : Value} {Ns : List ByteArray} (h : NamesAt W v Ns) (hn : W.heap.size ≤ n) (hB : Below n W W') : NamesAt W' v Ns := by
  rcases h with h | ⟨g, o, c, h0, h1, h2⟩
  · exact .inl h
  · exact .inr ⟨g, o, c, h0, Nat.lt_of_lt_of_le h1 hB.size, h2.below hB (by omega)⟩
end Go.Proofs.YtnlplnlclnbdiaaGreatDoor
