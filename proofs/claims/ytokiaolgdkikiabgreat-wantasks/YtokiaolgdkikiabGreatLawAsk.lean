/- The law WantAsks over a value's tree and any number: true, in new memory alone; the condition: the tree in memory. -/
import Derived.Test.YtokiaolgdkikiabGreatFstR
import Derived.Test.YtokiaolgdkikiabGreatMFc
namespace Go.Proofs.YtokiaolgdkikiabGreat
open Go.RowKit

/-- A block of a Miss, behind a value's block. -/
structure Ms (w : World) (v0 v1 v2 v3 v4 : Value) (N : Nat) (a b : Int) (w' : World) : Prop where
  d : OnD w v0 v1 v2 v3 v4 w'
  m : w'.heap[N]? = some (.cells #[.int .i64 a, .int .i64 b] 30 (0, 0))
theorem Ms.step {w : World} {v0 v1 v2 v3 v4 : Value} {N : Nat} {a b : Int} {w1 w2 : World} (h : Ms w v0 v1 v2 v3 v4 N a b w1) (hb : Below w1.heap.size w1 w2) : Ms w v0 v1 v2 v3 v4 N a b w2 := ⟨h.d.step hb, (hb.block N (lt_of_heap h.m)).trans h.m⟩
theorem Ms.c {w : World} {v0 v1 v2 v3 v4 : Value} {N : Nat} {a b : Int} {w' : World} (h : Ms w v0 v1 v2 v3 v4 N a b w') : w'.cell? ⟨N, 0, none⟩ = some (.int .i64 a) ∧ w'.cell? ⟨N, 1, none⟩ = some (.int .i64 b) := by
  have := h.m
  simp [World.cell?, this]
theorem Ms.start {w : World} {v0 v1 v2 v3 v4 : Value} {w1 : World} (h : OnD w v0 v1 v2 v3 v4 w1) (a b : Int) : Ms w v0 v1 v2 v3 v4 w1.heap.size a b (w1.alloc (.cells #[.int .i64 a, .int .i64 b] 30)) := ⟨h.step (below1 _ _), heap_alloc_new w1 _⟩

set_option maxRecDepth 100000 in
set_option maxHeartbeats 4000000 in
theorem law_asks_at (k i b : Int) (s : ByteArray) (ad : Option Addr) (len cap : Nat) (f : Int) (w : World) (V : Bool)
    (HV : Hid (∀ wx, OnD w (.int .i64 k) (.int .i64 i) (.int .u64 b) (.string s) (.slice ad len cap) wx → Calls Tryz.prog 6 #[.agg #[.int .i64 k, .int .i64 i, .int .u64 b, .string s, .slice ad len cap]] wx fun e w' => e = .returned (.bool V) ∧ OnD w (.int .i64 k) (.int .i64 i) (.int .u64 b) (.string s) (.slice ad len cap) w')) :
    Calls Tryz.prog 3 #[.agg #[.int .i64 k, .int .i64 i, .int .u64 b, .string s, .slice ad len cap], .int .i64 f] w fun e w' => e = .returned (.bool true) ∧ Below w.heap.size w w' := by
  have hb0 := OnD.start w (.int .i64 k) (.int .i64 i) (.int .u64 b) (.string s) (.slice ad len cap)
  have HS : Hid (∀ wx, OnD w (.int .i64 k) (.int .i64 i) (.int .u64 b) (.string s) (.slice ad len cap) wx → wx.cell? ⟨w.heap.size, 0, none⟩ = some (.int .i64 k) ∧ wx.cell? ⟨w.heap.size, 1, none⟩ = some (.int .i64 i) ∧ wx.cell? ⟨w.heap.size, 2, none⟩ = some (.int .u64 b) ∧ wx.cell? ⟨w.heap.size, 3, none⟩ = some (.string s) ∧ wx.cell? ⟨w.heap.size, 4, none⟩ = some (.slice ad len cap)) := fun wx h => h.c
  have HR := Lib.hid (refImpl_any k f)
  have HF := Lib.hid (face_any k i b s ad len cap f)
  cases V with
  | false =>
    obtain ⟨c0, c1, c2, c3, c4⟩ := HS.out _ hb0
    go_enter Tryz.func3, Tryz.ntmps3
    go_wp2_with fail
    refine (HV.out _ hb0).mono ?_
    rintro e w1 ⟨rfl, b1⟩
    clear c0 c1 c2 c3 c4
    go_wp2_with fail
    refine (awake_any _).mono ?_
    rintro e w2 ⟨rfl, b2⟩
    go_wp2
    go_ret
    exact ⟨rfl, (b1.step b2).below⟩
  | true =>
    cases hI : impl k f with
    | true =>
      have HM := Lib.hid (fun w => mustFace_yes k i b s ad len cap f w hI)
      rw [hI] at HR HF
      clear hI
      obtain ⟨c0, c1, c2, c3, c4⟩ := HS.out _ hb0
      go_enter Tryz.func3, Tryz.ntmps3
      go_wp2_with fail
      refine (HV.out _ hb0).mono ?_
      rintro e w1 ⟨rfl, b1⟩
      clear c0 c1 c2 c3 c4
      obtain ⟨c0, c1, c2, c3, c4⟩ := HS.out _ b1
      go_wp2_with fail
      refine (HR.out _).mono ?_
      rintro e w2 ⟨rfl, b2'⟩
      have b2 := b1.step b2'
      clear c0 c1 c2 c3 c4 b2'
      obtain ⟨c0, c1, c2, c3, c4⟩ := HS.out _ b2
      go_wp2_with fail
      refine (HM.out _).mono ?_
      rintro e w3 ⟨rfl, b3'⟩
      have b3 := b2.step b3'
      clear c0 c1 c2 c3 c4 b3'
      have M3 := Ms.start b3 0 0
      obtain ⟨c0, c1, c2, c3, c4⟩ := HS.out _ M3.d
      obtain ⟨m0, m1⟩ := M3.c
      go_wp2_with fail
      refine (HF.out _).mono ?_
      rintro e w4 ⟨rfl, b4'⟩
      have M4 := M3.step b4'
      clear c0 c1 c2 c3 c4 b4' m0 m1
      obtain ⟨c0, c1, c2, c3, c4⟩ := HS.out _ M4.d
      obtain ⟨m0, m1⟩ := M4.c
      go_wp2_with fail
      refine (awake_any _).mono ?_
      rintro e w5 ⟨rfl, b5'⟩
      have M5 := M4.step b5'
      go_wp2
      go_ret
      exact ⟨rfl, M5.d.below⟩
    | false =>
      have HM := Lib.hid (fun w => mustFace_no k i b s ad len cap f w hI)
      rw [hI] at HR HF
      clear hI
      by_cases hk : k = 0
      · subst hk
        have hl : lackM 0 f = -1 := by unfold lackM; rw [if_pos rfl]
        rw [hl] at HM
        clear hl
        obtain ⟨c0, c1, c2, c3, c4⟩ := HS.out _ hb0
        go_enter Tryz.func3, Tryz.ntmps3
        go_wp2_with fail
        refine (HV.out _ hb0).mono ?_
        rintro e w1 ⟨rfl, b1⟩
        clear c0 c1 c2 c3 c4
        obtain ⟨c0, c1, c2, c3, c4⟩ := HS.out _ b1
        go_wp2_with fail
        refine (HR.out _).mono ?_
        rintro e w2 ⟨rfl, b2'⟩
        have b2 := b1.step b2'
        clear c0 c1 c2 c3 c4 b2'
        obtain ⟨c0, c1, c2, c3, c4⟩ := HS.out _ b2
        go_wp2_with fail
        refine (HM.out _).mono ?_
        rintro e w3 ⟨rfl, b3'⟩
        have b3 := b2.step b3'
        clear c0 c1 c2 c3 c4 b3'
        have M3 := Ms.start b3 0 (-1)
        obtain ⟨c0, c1, c2, c3, c4⟩ := HS.out _ M3.d
        obtain ⟨m0, m1⟩ := M3.c
        go_wp2_with fail
        refine (HF.out _).mono ?_
        rintro e w4 ⟨rfl, b4'⟩
        have M4 := M3.step b4'
        clear c0 c1 c2 c3 c4 b4' m0 m1
        obtain ⟨c0, c1, c2, c3, c4⟩ := HS.out _ M4.d
        obtain ⟨m0, m1⟩ := M4.c
        go_wp2_with fail
        refine (awake_any _).mono ?_
        rintro e w5 ⟨rfl, b5'⟩
        have M5 := M4.step b5'
        go_wp2
        go_ret
        exact ⟨rfl, M5.d.below⟩
      · have hk1 : (k != 0) = true := by simpa using hk
        have hl : lackM k f = lacks k f := by unfold lackM; rw [if_neg hk]
        have HL := Lib.hid (lacks_any k f)
        rw [hl] at HM
        generalize lacks k f = L at HM HL
        clear hl hk
        obtain ⟨c0, c1, c2, c3, c4⟩ := HS.out _ hb0
        go_enter Tryz.func3, Tryz.ntmps3
        go_wp2_with fail
        refine (HV.out _ hb0).mono ?_
        rintro e w1 ⟨rfl, b1⟩
        clear c0 c1 c2 c3 c4
        obtain ⟨c0, c1, c2, c3, c4⟩ := HS.out _ b1
        go_wp2_with fail
        refine (HR.out _).mono ?_
        rintro e w2 ⟨rfl, b2'⟩
        have b2 := b1.step b2'
        clear c0 c1 c2 c3 c4 b2'
        obtain ⟨c0, c1, c2, c3, c4⟩ := HS.out _ b2
        go_wp2_with fail
        refine (HM.out _).mono ?_
        rintro e w3 ⟨rfl, b3'⟩
        have b3 := b2.step b3'
        clear c0 c1 c2 c3 c4 b3'
        have M3 := Ms.start b3 k L
        obtain ⟨c0, c1, c2, c3, c4⟩ := HS.out _ M3.d
        obtain ⟨m0, m1⟩ := M3.c
        go_wp2_with fail
        refine (HF.out _).mono ?_
        rintro e w4 ⟨rfl, b4'⟩
        have M4 := M3.step b4'
        clear c0 c1 c2 c3 c4 b4' m0 m1
        obtain ⟨c0, c1, c2, c3, c4⟩ := HS.out _ M4.d
        obtain ⟨m0, m1⟩ := M4.c
        go_wp2_with fail
        refine (HL.out _).mono ?_
        rintro e w5 ⟨rfl, b5'⟩
        have M5 := M4.step b5'
        clear c0 c1 c2 c3 c4 b5' m0 m1
        obtain ⟨c0, c1, c2, c3, c4⟩ := HS.out _ M5.d
        obtain ⟨m0, m1⟩ := M5.c
        go_wp2_with fail
        refine (awake_any _).mono ?_
        rintro e w6 ⟨rfl, b6'⟩
        have M6 := M5.step b6'
        go_wp2
        go_ret
        exact ⟨rfl, M6.d.below⟩

theorem law_asks (m : Nat) (d : Dt.Tr m) (x0 x1 x2 x3 x4 : Value) (f : Int) (w : World) (h' : Dt.Rep w m [x0, x1, x2, x3, x4] d) :
    Calls Tryz.prog 3 #[.agg #[x0, x1, x2, x3, x4], .int .i64 f] w fun e w' => e = .returned (.bool true) ∧ Below w.heap.size w w' := by
  obtain ⟨k, i, b, s, dd, dl, dc, rfl, rfl, rfl, rfl, rfl⟩ := Dt.rep_shape h'
  exact law_asks_at k i b s dd dl dc f w (Dt.vB m d) (Lib.hid fun wx hx => (Dt.refValid m d _ _ _ _ _ wx (Dt.Rep.below hx.below m _ _ h')).mono fun e w' ⟨a, b⟩ => ⟨a, hx.step b⟩)
end Go.Proofs.YtokiaolgdkikiabGreat
