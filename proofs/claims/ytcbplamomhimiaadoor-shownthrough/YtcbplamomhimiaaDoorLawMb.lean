/- Wrappers put around a chain that has none, and what is then shown; what is asked of the world: the table of words as its text lays it. -/
import Derived.Test.YtcbplamomhimiaaDoorLawMa
namespace Go.Proofs.YtcbplamomhimiaaDoor
open Go.RowKit

set_option maxRecDepth 100000 in
set_option maxHeartbeats 4000000 in
theorem with_nil (op num : Int) (c : Nat) (ls : List Wq) (ad : Option Addr) (cap B gl lc : Nat) (w : World) (hc : c < 1024) (hN : Wds w) (hls : ls ≠ []) (hl2 : ls.length ≤ 2) (hlo : ∀ q ∈ ls, okr q.x) (hL : WRow w (some ⟨gl, 0, none⟩) ls)
    (c0 : w.cell? ⟨B, 0, none⟩ = some (.int .i64 op)) (c1 : w.cell? ⟨B, 1, none⟩ = some (.int .i64 num)) (c2 : w.cell? ⟨B, 2, none⟩ = some (.int .u32 (c : Nat))) (c3 : w.cell? ⟨B, 3, none⟩ = some (.slice ad 0 cap)) :
    Calls Tryd.prog 25 #[.slice (some ⟨gl, 0, none⟩) ls.length lc, .pointer (some ⟨B, 0, none⟩)] w fun e w' => e = .returned (.int .u32 (sh c (rv ls ls.length) : Nat)) ∧ Below w.heap.size w w' := by
  have hBl : B < w.heap.size := World.block_lt_of_cell? w _ c0
  have hk5 := hL.news hls
  obtain ⟨gl', ol', hl1', hl2', hl3'⟩ := hL.resolve_left hls
  cases hl1'
  obtain ⟨i0, hi0, hz0, hz1, hz2⟩ := wrapInfo
  have HI := Lib.hid hi0
  have HZ : Hid (i0.zero = some (.agg #[.int .i64 0, .int .i64 0, .int .i64 0, .int .u32 0, .int .i64 0, .int .i64 0, .slice none 0 0, .bool false]) ∧ i0.size = 8 ∧ i0.bytes = 80) := ⟨hz0, hz1, hz2⟩
  clear hi0 hz0 hz1 hz2
  have hq1 : 0 < ls.length := by cases ls with | nil => exact absurd rfl hls | cons => simp
  have N2 : Hid (∀ j u, (flat ls)[j]? = some u → (w.alloc (.cells #[.int .i64 op, .int .i64 num, .int .u32 (c : Nat), .slice none 0 0] 28)).cell? ((⟨gl, 0, none⟩ : Addr).add j) = some u) := fun j u hu => by
    have hlt : ((⟨gl, 0, none⟩ : Addr).add j).block < w.heap.size := by rw [add_pl]; exact hl2'
    rw [← hk5 j u hu]
    exact (below1 w (.cells #[.int .i64 op, .int .i64 num, .int .u32 (c : Nat), .slice none 0 0] 28)).cell (p := (⟨gl, 0, none⟩ : Addr).add j) hlt
  have FIN : Hid (∀ g2 cap2 w2, (w.alloc (.cells #[.int .i64 op, .int .i64 num, .int .u32 (c : Nat), .slice none 0 0] 28)).grownBy w2 none → w2.ownsRow (w.heap.size + 1) 35 8 (.slice (some ⟨g2, 0, none⟩) ls.length cap2) ls.length (flat ls) →
      (w2.cell? ⟨w.heap.size, 0, none⟩ = some (.int .i64 op) ∧ w2.cell? ⟨w.heap.size, 1, none⟩ = some (.int .i64 num) ∧ w2.cell? ⟨w.heap.size, 2, none⟩ = some (.int .u32 (c : Nat)) ∧ w2.cell? ⟨w.heap.size, 3, none⟩ = some (.slice none 0 0) ∧ w2.frozen? ⟨w.heap.size, 3, none⟩ = false) ∧
      Calls Tryd.prog 16 #[.agg #[.int .i64 op, .int .i64 num, .int .u32 (c : Nat), .slice (some ⟨g2, 0, none⟩) ls.length cap2]] (w2.setCell ⟨w.heap.size, 3, none⟩ (.slice (some ⟨g2, 0, none⟩) ls.length cap2)) fun e w' => e = .returned (.int .u32 (sh c (rv ls ls.length) : Nat)) ∧ Below w.heap.size w w') := fun g2 cap2 w2 hg1 ho2 => by
    have blk : w2.heap[w.heap.size]? = some (.cells #[.int .i64 op, .int .i64 num, .int .u32 (c : Nat), .slice none 0 0] 28) := by
      rw [hg1.block w.heap.size (by simp) (by simp)]; exact heap_alloc_new w _
    have hB : Below w.heap.size w w2 := (below1 w (.cells #[.int .i64 op, .int .i64 num, .int .u32 (c : Nat), .slice none 0 0] 28)).grown hg1 (by simp) (fun k hk => by cases hk)
    refine ⟨⟨by rw [cell_at blk]; rfl, by rw [cell_at blk]; rfl, by rw [cell_at blk]; rfl, by rw [cell_at blk]; rfl, by simp [World.frozen?, blk]⟩, ?_⟩
    have hB3 : Below w.heap.size w (w2.setCell ⟨w.heap.size, 3, none⟩ (.slice (some ⟨g2, 0, none⟩) ls.length cap2)) := hB.setCell (Nat.le_refl _) _
    have ho3 := ownsRow_setCell_below ho2 (a := ⟨w.heap.size, 3, none⟩) (by show w.heap.size < w.heap.size + 1; omega) (.slice (some ⟨g2, 0, none⟩) ls.length cap2)
    have hok : ChOk (w2.setCell ⟨w.heap.size, 3, none⟩ (.slice (some ⟨g2, 0, none⟩) ls.length cap2)) c (some ⟨g2, 0, none⟩) ls :=
      ⟨hc, hlo, by omega, wrow_own rfl ho3, hN.below hB3⟩
    exact (shown_any op num c ls (some ⟨g2, 0, none⟩) cap2 _ hok).mono fun e w' ⟨a, b⟩ => ⟨a, hB3.trans (b.mono hB3.size)⟩
  have HO2 := flat_one ls
  have HF2 := Lib.hid HO2
  have HL2 := Lib.hid (flat_len ls)
  clear hk5 hl3' hL HO2 hlo hN
  cases ad
  all_goals
    go_enter Tryd.func25, Tryd.ntmps25
    go_wp2_with (first
      | (at_builtin; refine wpList_append_lies _ rfl _ _ 26 rfl (w.heap.size + 1) 35 i0 (.agg #[.int .i64 0, .int .i64 0, .int .i64 0, .int .u32 0, .int .i64 0, .int .i64 0, .slice none 0 0, .bool false]) 8 80 Tryd.underlying26 HI.out HZ.out.1 HZ.out.2.1 HZ.out.2.2 rfl (by decide) (.slice none 0 0) 0 [] rfl ⟨rfl, .inl ⟨rfl, rfl⟩⟩ ⟨gl, 0, none⟩ ls.length lc (flat ls) rfl HL2.out N2.out HF2.out hq1 (by unfold maxLen; omega) (by omega) (by simp) _ rfl ?_; intro g2 d2 w2 ho2 hg2 ha2 hl2; rw [Nat.zero_add, List.nil_append] at ho2; rw [Nat.zero_add]; obtain ⟨⟨z0, z1, z2, z3, z4⟩, KS⟩ := FIN.out g2 d2 w2 hg2 ho2; have KSh := Lib.hid KS; clear KS)
      | (go_at_call 16; refine KSh.out.mono ?_; rintro e w3 ⟨rfl, b3⟩))
    go_ret
    exact ⟨rfl, b3⟩
end Go.Proofs.YtcbplamomhimiaaDoor
