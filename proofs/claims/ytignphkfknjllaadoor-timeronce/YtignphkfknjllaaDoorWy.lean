/- The chapter's first example; the condition: the table of least bits in memory. -/
import Derived.Test.YtignphkfknjllaaDoorWx
namespace Go.Proofs.YtignphkfknjllaaDoor
open Go.RowKit
variable {zf : Bool}

/-- What Go leaves. -/
structure Gn (zf : Bool) (n : Nat) (w wr : World) (b m T : Nat) (LL : List Tm) (x : Int) (F : List Tm) (sl : Value) (w' : World) : Prop where
  fr : FR w' wr.heap.size F sl
  fd : Fd LL (gt T x) F
  wn : Wn zf n w w' b m (gt T x) ((lat (gt T x) LL).map kv) (lat (gt T x) LL)
  bt : But (OwL b m LL) wr w'
theorem go_wn {n : Nat} {w wr : World} {b m T : Nat} {P : List (Nat × Int)} {LL : List Tm} (h : Wn zf n w wr b m T P LL) (hn : n ≤ wr.heap.size) (hn0 : 0 < n) (hT : Tb wr) (hP : P.length ≤ 8796093022208) (x : Int) :
    Calls Tryd.prog 15 #[.pointer (some ⟨b, 0, none⟩), .int .i64 x] wr fun e w' => ∃ sl F, e = .returned sl ∧ Gn zf n w wr b m T LL x F sl w' := by
  obtain ⟨h1, h2, h3, h4⟩ := h
  refine (go_any h1 x (by rw [← h2] at hP; simpa using hP) hT (fun c => by have := h4 0 c; omega)).mono ?_
  rintro e w' ⟨sl, F, rfl, r1, r2, r3, r4⟩
  exact ⟨sl, F, rfl, r1, r2, ⟨r3, rfl, but_below h3 r4 h4 hn, fun B hB => h4 B (lat_own hB)⟩, r4⟩
theorem Wn.tb {n : Nat} {w wr : World} {b m T : Nat} {P : List (Nat × Int)} {LL : List Tm} (h : Wn zf n w wr b m T P LL) (hT : Tb w) (hn0 : 0 < n) : Tb wr := by
  refine hT.but (C := fun k => n ≤ k) ⟨h.2.2.1.os, h.2.2.1.tape, h.2.2.1.output, ?_, fun k _ hc => h.2.2.1.block k (by omega)⟩ (by omega)
  exact h.2.2.1.size

theorem ex1 {F LL : List Tm} (e : LL.map kv = [(5, 1), (3, 2), (5, 3)]) (h : Fd LL 4 F) : F.map kv = [(3, 2)] := by
  refine sorted_eq _ _ (pw_kv h.1) (by simp) (fun a => ?_)
  rw [← fl_kv, h.2]
  by_cases c : a ≤ 4
  · rw [if_pos c, fl_kv, e]
    have : ((5 : Nat) == a) = false := by simp; omega
    simp [flp, List.filter_cons, this]
  · rw [if_neg c]
    have : ((3 : Nat) == a) = false := by simp; omega
    simp [flp, this]
theorem ex2 {LL : List Tm} (e : LL.map kv = [(5, 1), (3, 2), (5, 3)]) : (lat 4 LL).map kv = [(5, 1), (5, 3)] := by
  have : (lat 4 LL).map kv = (LL.map kv).filter fun p => decide (4 < p.1) := by unfold lat; rw [List.filter_map]; rfl
  rw [this, e]; rfl
theorem ex3 {F LL : List Tm} (e : LL.map kv = [(5, 1), (5, 3)]) (h : Fd LL 5 F) : F.map kv = [(5, 1), (5, 3)] := by
  refine sorted_eq _ _ (pw_kv h.1) (by simp) (fun a => ?_)
  rw [← fl_kv, h.2]
  by_cases c : a ≤ 5
  · rw [if_pos c, fl_kv, e]
  · rw [if_neg c]
    have : ((5 : Nat) == a) = false := by simp; omega
    simp [flp, this]

theorem sp1 {w : World} {g : Nat} {a : Nat} {i : Int} (h : Bk w g #[.int .i64 a, .int .i64 i] 45) : Sp w (some ⟨g, 0, none⟩) [(a, i)] := by
  refine .inr ⟨g, rfl, fun j p hp => ?_⟩
  match j, hp with
  | 0, hp => simp at hp; subst hp; exact ⟨h.c 0, h.c 1⟩
  | j + 1, hp => simp at hp
theorem sp2 {w : World} {g : Nat} {a a' : Nat} {i i' : Int} (h : Bk w g #[.int .i64 a, .int .i64 i, .int .i64 a', .int .i64 i'] 45) : Sp w (some ⟨g, 0, none⟩) [(a, i), (a', i')] := by
  refine .inr ⟨g, rfl, fun j p hp => ?_⟩
  match j, hp with
  | 0, hp => simp at hp; subst hp; exact ⟨h.c 0, h.c 1⟩
  | 1, hp => simp at hp; subst hp; exact ⟨h.c 2, h.c 3⟩
  | j + 2, hp => simp at hp
theorem Sp.blk {w w' : World} {ad : Option Addr} {P : List (Nat × Int)} (h : Sp w ad P) (hb : ∀ g, ad = some ⟨g, 0, none⟩ → P ≠ [] → w'.heap[g]? = w.heap[g]?) : Sp w' ad P := by
  rcases h with h | ⟨g, e, h⟩
  · exact .inl h
  · by_cases c : P = []
    · exact .inl c
    · exact .inr ⟨g, e, fun j p hp => ⟨(mem_blk (hb g e c) _).trans (h j p hp).1, (mem_blk (hb g e c) _).trans (h j p hp).2⟩⟩
theorem Sp.lt {w : World} {g : Nat} {P : List (Nat × Int)} (h : Sp w (some ⟨g, 0, none⟩) P) (hP : P ≠ []) : g < w.heap.size := by
  rcases h with h | ⟨g', e, h⟩
  · exact absurd h hP
  · cases e
    cases P with
    | nil => exact absurd rfl hP
    | cons p P =>
      have := (h 0 p rfl).1
      unfold World.cell? at this
      cases hh : w.heap[g]? with
      | none => simp [hh] at this
      | some o => exact (Array.getElem?_eq_some_iff.1 hh).1
theorem Sp.below {w w' : World} {ad : Option Addr} {P : List (Nat × Int)} (h : Sp w ad P) (hb : Below w.heap.size w w') : Sp w' ad P := h.blk (fun g e hP => by subst e; exact hb.block g (h.lt hP))

set_option maxRecDepth 100000 in
set_option maxHeartbeats 2000000 in
theorem awake_any (w : World) (hT : Tb w) (h0 : 0 < w.heap.size) : Calls Tryd.prog 11 #[] w fun e w' => e = .returned (.bool true) ∧ Below w.heap.size w w' := by
  have HT := Lib.hid hT
  clear hT
  go_enter Tryd.func11, Tryd.ntmps11
  go_wp2_with (go_at_call 7; refine (new_any (zf := true) 0 w).mono ?_; rintro e w1 ⟨rfl, hw1, hb1⟩)
  have N1 : Wn true w.heap.size w w1 (w.heap.size + 1) w.heap.size 0 [] [] := ⟨hw1, rfl, hb1, by rintro B (c | c | ⟨t, ht, _⟩) <;> first | omega | simp at ht⟩
  have z1 := hb1.size
  clear hw1 hb1
  obtain ⟨b, hb⟩ : ∃ b, w.heap.size + 1 = b := ⟨_, rfl⟩
  rw [hb] at N1 ⊢
  clear hb
  have A1 := Lib.hid (add_any N1.1 5 1)
  have M1 := Lib.hid N1
  clear N1
  go_wp2_with fail
  refine A1.out.mono ?_
  intro e w2 hA
  obtain ⟨⟨B2, rfl⟩, LL2, N2⟩ := add_step M1.out z1 hA
  have z2 := N2.2.2.1.size
  clear A1 M1 hA
  have A2 := Lib.hid (add_any N2.1 3 2)
  have M2 := Lib.hid N2
  clear N2
  go_wp2_with fail
  refine A2.out.mono ?_
  intro e w3 hA
  obtain ⟨⟨B3, rfl⟩, LL3, N3⟩ := add_step M2.out z2 hA
  have z3 := N3.2.2.1.size
  clear A2 M2 hA
  have A3 := Lib.hid (add_any N3.1 5 3)
  have M3 := Lib.hid N3
  clear N3
  go_wp2_with fail
  refine A3.out.mono ?_
  intro e w4 hA
  have e4 : e = .returned (.bool true) := by
    rcases hA with ⟨_, c, _⟩ | ⟨c, _⟩
    · exfalso
      rw [← ids_kv, M3.out.2.1] at c
      revert c
      decide
    · exact c
  obtain ⟨-, LL4, N4⟩ := add_step M3.out z3 hA
  subst e4
  have P4 : LL4.map kv = [(5, 1), (3, 2), (5, 3)] := N4.2.1.trans (by decide)
  have z4 := N4.2.2.1.size
  have T4 := N4.tb HT.out h0
  clear A3 M3 hA
  have G4 := Lib.hid (go_wn N4 z4 h0 T4 (by decide) 4)
  have M4 := Lib.hid N4
  clear N4 T4
  go_wp2_with fail
  refine G4.out.mono ?_
  rintro e w5 ⟨sl5, F5, rfl, N5⟩
  clear G4
  have g5 : gt 0 4 = 4 := by decide
  have g6 : gt 4 5 = 5 := by decide
  obtain ⟨f5, d5, n5, b5⟩ := N5
  rw [g5] at d5 n5
  have e5 := ex1 P4 d5
  have P5 := ex2 P4
  have z5 := n5.2.2.1.size
  have T5 := n5.tb HT.out h0
  have G5 := Lib.hid (go_wn n5 z5 h0 T5 (by rw [P5]; decide) 5)
  clear d5 T5
  go_wp2_with fail
  refine G5.out.mono ?_
  rintro e w6 ⟨sl6, F6, rfl, N6⟩
  obtain ⟨f6, d6, n6, b6⟩ := N6
  rw [g6] at d6 n6
  have e6 := ex3 P5 d6
  have z6 := n6.2.2.1.size
  have f5' := f5.blk (w' := w6) (fun g hg => b6.block g (f5.own hg).2.1 (fun c => by have h1 := (f5.own hg).1; have h2 := M4.out.1.lt (lat_own c); omega))
  obtain ⟨a5, c5, q5, sp5⟩ := f5'.sp
  obtain ⟨a6, c6, q6, sp6⟩ := f6.sp
  rw [e5] at q5 sp5
  rw [e6] at q6 sp6
  have B7 := below1 w6 (.cells #[.int .i64 3, .int .i64 2] 45)
  have S7 := Lib.hid (same_any [(3, 2)] a5 (some ⟨w6.heap.size, 0, none⟩) c5 1 _ (sp5.below B7) (sp1 (a := 3) (i := 2) (Bk.new w6 _ _)) (by decide))
  have N7 := Lib.hid n6
  have SP6 := Lib.hid (sp6.below B7)
  have z7 : w6.heap.size < (w6.alloc (.cells #[.int .i64 3, .int .i64 2] 45)).heap.size := by simp
  have BB := Lib.hid (n6.2.2.1.trans (B7.mono z6))
  have WH := Lib.hid (n6.1.below B7)
  subst q5 q6
  clear f5 f6 f5' n5 n6 b5 b6 sp5 sp6 d6 e5 e6 P4 P5 G5 M4 HT B7 N7
  go_wp2_with fail
  refine S7.out.mono ?_
  rintro e w7 ⟨rfl, k7, hw7⟩
  clear S7
  generalize w6.alloc (.cells #[.int .i64 3, .int .i64 2] 45) = w8 at *
  have L7 := Like.of hw7
  clear hw7
  have SP7 := SP6.out.blk (w' := w7) (fun g _ _ => by rw [L7.1])
  have WH7 := WH.out.like L7
  have BB7 : Below w.heap.size w w7 := ⟨L7.2.1.trans BB.out.os, L7.2.2.1.trans BB.out.tape, L7.2.2.2.trans BB.out.output, by rw [L7.1]; exact BB.out.size, fun k hk => by rw [L7.1]; exact BB.out.block k hk⟩
  clear SP6 WH BB L7
  have B9 := below1 w7 (.cells #[.int .i64 5, .int .i64 1, .int .i64 5, .int .i64 3] 45)
  have S9 := Lib.hid (same_any [(5, 1), (5, 3)] a6 (some ⟨w7.heap.size, 0, none⟩) c6 2 _ (SP7.below B9) (sp2 (a := 5) (i := 1) (a' := 5) (i' := 3) (Bk.new w7 _ _)) (by decide))
  have WH9 := Lib.hid (WH7.below B9)
  have BB9 := Lib.hid (BB7.trans (B9.mono BB7.size))
  clear SP7 WH7 BB7 B9
  go_wp2_with fail
  refine S9.out.mono ?_
  rintro e w9 ⟨rfl, k9, hw9⟩
  clear S9
  generalize w7.alloc (.cells #[.int .i64 5, .int .i64 1, .int .i64 5, .int .i64 3] 45) = w10 at *
  have L9 := Like.of hw9
  clear hw9
  have HN := Lib.hid (now_any (WH9.out.like L9))
  have BF : Hid (Below w.heap.size w w9) := Lib.hid ⟨L9.2.1.trans BB9.out.os, L9.2.2.1.trans BB9.out.tape, L9.2.2.2.trans BB9.out.output, by rw [L9.1]; exact BB9.out.size, fun k hk => by rw [L9.1]; exact BB9.out.block k hk⟩
  go_wp2_with (go_at_call 13; refine HN.out.mono ?_; rintro e w11 ⟨rfl, hw11⟩; rw [hw11]; clear hw11 w11)
  go_ret
  exact ⟨rfl, BF.out⟩
end Go.Proofs.YtignphkfknjllaaDoor
