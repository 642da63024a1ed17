/- The laws' own check (awake): a set and its text; what is asked of the world: the table of words as its text lays it. -/
import Derived.Test.YtanjkljcoccblaaDoorCl
namespace Go.Proofs.YtanjkljcoccblaaDoor
open Go.RowKit Go.Maps

theorem prs_fc : prs [102, 108, 117, 115, 104, 32, 99, 108, 111, 115, 101] = (3, true) := by decide +kernel
theorem txt_3 : txt 3 = [102, 108, 117, 115, 104, 32, 99, 108, 111, 115, 101] := by decide +kernel
theorem grs_3 : grs 3 5 = [0] := by decide +kernel

set_option maxRecDepth 100000 in
set_option maxHeartbeats 2000000 in
theorem awake_any (w : World) (hN : Wds w) : Calls Tryd.prog 18 #[] w fun e w' => e = .returned (.bool true) ∧ Below w.heap.size w w' := by
  have KP : Hid (Calls Tryd.prog 8 #[.string ⟨#[102, 108, 117, 115, 104, 32, 99, 108, 111, 115, 101]⟩] w fun e w' => e = .returned (.tuple #[.int .u32 3, .bool true]) ∧ Below w.heap.size w w') := by
    have := parse_any (bs [102, 108, 117, 115, 104, 32, 99, 108, 111, 115, 101]) (by rw [bs_size]; decide) w hN
    rw [tl_bs, prs_fc] at this
    exact this
  have KT : Hid (∀ W, Below w.heap.size w W → Calls Tryd.prog 10 #[.int .u32 3] W fun e w' => e = .returned (.string ⟨#[102, 108, 117, 115, 104, 32, 99, 108, 111, 115, 101]⟩) ∧ Below W.heap.size W w') := fun W h => by
    have := text_any 3 (by decide) W (hN.below h)
    rw [txt_3] at this
    exact this
  have KG : Hid (∀ W, Below w.heap.size w W → Calls Tryd.prog 19 #[.int .u32 3] W fun e w' => ∃ a cp, e = .returned (.slice a 1 cp) ∧ Below W.heap.size W w') := fun W h =>
    (groups_any 3 (by decide) W).mono fun e w' ⟨a, cp, q1, q2, q3⟩ => ⟨a, cp, by rw [q1, grs_3]; rfl, q3⟩
  have b1 : ((⟨#[102, 108, 117, 115, 104, 32, 99, 108, 111, 115, 101]⟩ : ByteArray).toList == (⟨#[102, 108, 117, 115, 104, 32, 99, 108, 111, 115, 101]⟩ : ByteArray).toList) = true := by simp
  clear hN
  go_enter Tryd.func18, Tryd.ntmps18
  go_wp2_with (first
    | (go_at_call 8; refine KP.out.mono ?_; rintro e w2 ⟨rfl, h2⟩)
    | (go_at_call 10; refine (KT.out _ h2).mono ?_; rintro e w3 ⟨rfl, h3⟩; have h3' := h2.trans (h3.mono h2.size))
    | (go_at_call 19; refine (KG.out _ h3').mono ?_; rintro e w4 ⟨a, cp, rfl, h4⟩; have h4' := h3'.trans (h4.mono h3'.size)))
  go_ret
  exact ⟨rfl, h4'⟩
end Go.Proofs.YtanjkljcoccblaaDoor
