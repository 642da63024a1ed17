/- The law BufferWhole in memory, for every script; the conditions: the script in memory, the two tables of unicode/utf8. -/
import Derived.Test.YtikkedemhcdboaaDoorLawW
namespace Go.Proofs.YtikkedemhcdboaaDoor
open Go.RowKit Tp

theorem law_whole (a b : Int) (l : List Tn) (ad : Option Addr) (c : Nat) (w : World) (hI : Tw w ad l) (hz : ∀ z ∈ l, Tx z.m) (hT : Tabs w) :
    Calls Tryd.prog 5 #[.int .i64 a, .int .i64 b, .slice ad l.length c] w fun e w' => e = .returned (.bool true) ∧ Below w.heap.size w w' := by
  have hF := fit_any [] none 0 0 a b 0 w (by simp) (.inl rfl) (fun x hx => by simp at hx) hT
  cases h1 : fiB [] 0 a b 0 with
  | false => rw [h1] at hF; exact bw_bad a b l.length c ad w hF
  | true =>
    rw [h1] at hF
    obtain ⟨ha1, ha2, hb1, hb2, -⟩ := fi_yes h1
    exact bw_good a b l ad c w ha1 ha2 hb1 hb2 hI hF fun y hy d wx hb hr => by
      have h9 := hz y hy
      unfold Tx maxLen at h9
      exact fmsg_any y.m d wx (Dt.Rep.below hb _ _ _ hr) (hT.below hb) h9.1 h9.2
end Go.Proofs.YtikkedemhcdboaaDoor
