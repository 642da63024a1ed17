/- Handlers that look at no body: none, mute, fail; a state at its beginning copied; no condition. -/
import Derived.Test.YthgfijhbeahkhaaGreatDoorHh
namespace Go.Proofs.YthgfijhbeahkhaaGreatDoor
open Go.RowKit

theorem mh_none : MH 146 (.agg #[]) 163 := ⟨fun _ => by kernel_rfl, fun _ _ => by kernel_rfl⟩
theorem mh_unbox : MH 139 (.agg #[]) 146 := ⟨fun _ => by kernel_rfl, fun _ _ => by kernel_rfl⟩
theorem mh_store (a : Addr) : MH 130 (.pointer (some a)) 137 := ⟨fun _ => by kernel_rfl, fun _ _ => by kernel_rfl⟩

set_option maxRecDepth 100000 in
set_option maxHeartbeats 1000000 in
theorem none_handle (dv : Array Value) (w : World) : Calls Tryz.prog 163 #[.agg #[], .agg dv] w fun e w' => e = .returned (.tuple #[.agg #[.bool false, .int .i64 0, .int .i64 0, .int .u64 0, .string ⟨#[]⟩, .slice none 0 0], .iface 150 (.pointer none)]) ∧ Below w.heap.size w w' := by
  go_enter Tryz.func163, Tryz.ntmps163
  go_wp2
  exact bodyPost_ret (v := .tuple #[.agg #[.bool false, .int .i64 0, .int .i64 0, .int .u64 0, .string ⟨#[]⟩, .slice none 0 0], .iface 150 (.pointer none)]) (by simp [results, Tryz.results163, go_sem]) rfl ⟨rfl, below3 w _ _ _⟩

theorem copyOf_zero (w : World) : Calls Tryz.prog 64 #[.agg #[.int .i64 0, .int .i64 0, .int .i64 0, .int .i64 0, .int .u64 0, .string ⟨#[]⟩, .slice none 0 0, .slice none 0 0, .bool false, .int .i64 0]] w fun e w' => e = .returned (.agg #[.int .i64 0, .int .i64 0, .int .i64 0, .int .i64 0, .int .u64 0, .string ⟨#[]⟩, .slice none 0 0, .slice none 0 0, .bool false, .int .i64 0]) ∧ Below w.heap.size w w' :=
  (copyOf_by 0 0 0 0 0 ⟨#[]⟩ none 0 0 none 0 0 false 0 w (fun k i u s a n c _ => k = 0 ∧ i = 0 ∧ u = 0 ∧ s = ⟨#[]⟩ ∧ a = none ∧ n = 0 ∧ c = 0) (fun _ _ _ _ _ _ _ _ _ h _ _ => h) (fun a n c _ => a = none ∧ n = 0 ∧ c = 0) (fun _ _ _ _ _ h _ _ => h)
    (fun wx _ _ => (copy_leaf 0 0 0 ⟨#[]⟩ none 0 wx).mono fun _ _ ⟨he, hb⟩ => ⟨_, _, _, _, _, _, _, he, ⟨rfl, rfl, rfl, rfl, rfl, rfl, rfl⟩, hb⟩)
    (fun wx _ _ => (copyAll_none none 0 wx).mono fun _ _ ⟨he, hb⟩ => ⟨_, _, _, he, ⟨rfl, rfl, rfl⟩, hb⟩)).mono fun e w' ⟨k, i, u, s, a, n, c, a', n', c', he, hq, hr, hb⟩ => by
    obtain ⟨rfl, rfl, rfl, rfl, rfl, rfl, rfl⟩ := hq.out
    obtain ⟨rfl, rfl, rfl⟩ := hr.out
    exact ⟨he, hb⟩

/-- A work of the state at its beginning. -/
theorem newWork_zero (op num cp now : Int) (w : World) (h1 : 1 ≤ op) (h2 : op ≤ 12) :
    Calls Tryz.prog 31 #[.agg #[.int .i64 op, .int .i64 num, .int .u32 cp], .agg #[.int .i64 0, .int .i64 0, .int .i64 0, .int .i64 0, .int .u64 0, .string ⟨#[]⟩, .slice none 0 0, .slice none 0 0, .bool false, .int .i64 0], .int .i64 now] w fun e w' => ∃ b sb, e = .returned (.pointer (some ⟨b, 0, none⟩)) ∧ Bk w' b (wcs op num cp 0 0 0 0 0 ⟨#[]⟩ none 0 0 none 0 0 false 0 now (hnd op num (some ⟨b, 3, none⟩) sb)) 69 ∧ (op = 3 → Bk w' sb #[.pointer (some ⟨b, 3, none⟩), .int .i64 num, .map none, .map none] 136 ∧ b < sb) ∧ w.heap.size ≤ b ∧ Below w.heap.size w w' :=
  (newWork_by op num cp 0 0 0 0 0 ⟨#[]⟩ none 0 0 none 0 0 false 0 now w h1 h2 (fun k i u s a n c a' n' c' _ => k = 0 ∧ i = 0 ∧ u = 0 ∧ s = ⟨#[]⟩ ∧ a = none ∧ n = 0 ∧ c = 0 ∧ a' = none ∧ n' = 0 ∧ c' = 0) (fun _ _ _ _ _ _ _ _ _ _ _ _ h _ => h)
    (fun wx _ => (copyOf_zero wx).mono fun _ _ ⟨he, hb⟩ => ⟨_, _, _, _, _, _, _, _, _, _, he, ⟨rfl, rfl, rfl, rfl, rfl, rfl, rfl, rfl, rfl, rfl⟩, hb⟩)).mono fun e w' ⟨b, sb, k, i, u, s, a, n, c, a', n', c', he, hw, hs, hq, hlo, hb⟩ => by
    obtain ⟨rfl, rfl, rfl, rfl, rfl, rfl, rfl, rfl, rfl, rfl⟩ := hq.out
    exact ⟨b, sb, he, hw, hs, hlo, hb⟩
end Go.Proofs.YthgfijhbeahkhaaGreatDoor
