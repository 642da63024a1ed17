/- Whatever reads as an inbox lies in memory, its messages' bodies being trees; no condition. -/
import Derived.Test.YtdgjhclncjoonaaMRd
namespace Go.Proofs.Ytdgjhclncjoonaa
open Go.ChangeShapes Go.WideShapes Go.ChangeAt Go.WideMaps Go.WideElems Go.RowKit

theorem ibcells : Try.prog.cellsOf 24 = 3 := by kernel_rfl
theorem ib_of_trod {H : Type} {enc : TypeId × Value → H} {w : World} {base : Nat} {sp : Nat → Bool} {held : Bool} (fuel : Nat) (cs : List Value) (y : DataW H × List MemPlace)
    (h : DataW.trod enc Try.prog w base sp held fuel 24 cs = some y) :
    ∃ (ad : Option Addr) (l : List Ms) (cap : Nat) (r dr : Int), cs = [.slice ad l.length cap, .int .i64 r, .int .i64 dr] ∧ l.length ≤ maxLen ∧ Mw w ad l := by
  obtain ⟨xs, n, hn, ex, hlen, hxl, hf⟩ := DataW.trod_struct Try.underlying24 h
  rw [ibcells] at hlen
  match cs, hlen with
  | [c0, c1, c2], _ =>
  match xs, hxl with
  | [y0, y1, y2], _ =>
    have h0 : DataW.trod enc Try.prog w base sp held n 22 (([c0, c1, c2].drop 0).take (Try.prog.cellsOf 22)) = some y0 := hf 0 _ rfl
    have h1 : DataW.trod enc Try.prog w base sp held n 2 (([c0, c1, c2].drop 1).take (Try.prog.cellsOf 2)) = some y1 := hf 1 _ rfl
    have h2 : DataW.trod enc Try.prog w base sp held n 2 (([c0, c1, c2].drop 2).take (Try.prog.cellsOf 2)) = some y2 := hf 2 _ rfl
    rw [mlcells] at h0
    rw [Dt.tcellsN2] at h1 h2
    obtain ⟨ad, l, cap, e0, hl, hc, hm, ht⟩ := msgl_of_trod n _ _ h0
    obtain ⟨r, e1, -, -⟩ := DataW.trod_int Try.underlying2 h1
    obtain ⟨dr, e2, -, -⟩ := DataW.trod_int Try.underlying2 h2
    simp at e0 e1 e2
    subst e0 e1 e2
    exact ⟨ad, l, cap, r, dr, rfl, Nat.le_trans hl hc, hm⟩
theorem array3 {cs : Array Value} (h : cs.size = 3) : ∃ c0 c1 c2, cs = #[c0, c1, c2] := by
  obtain ⟨l⟩ := cs
  match l, h with
  | [c0, c1, c2], _ => exact ⟨c0, c1, c2, rfl⟩
end Go.Proofs.Ytdgjhclncjoonaa
