/- Messages and inboxes copied; the conditions: the messages in memory, of a size that can be. -/
import Derived.Test.YtdgjhclncjoonaaBg
import Derived.Test.YtdgjhclncjoonaaQd
namespace Go.Proofs.Ytdgjhclncjoonaa
open Go.RowKit

theorem body_vcopyz {w : World} {x : Ms} {d : Bo} (h : Dt.Rep w x.n d.vs x.t) (hp : (Dt.pts x.n x.t).1 ≤ 4096) :
    Calls Try.prog 31 #[.agg #[.int .i64 d.k, .int .i64 d.i, .int .u64 d.u, .string d.s, .slice d.a d.l d.c]] w fun e w' => ∃ d' : Bo, e = .returned (.agg #[.int .i64 d'.k, .int .i64 d'.i, .int .u64 d'.u, .string d'.s, .slice d'.a d'.l d'.c]) ∧ Rz (fun g => w.heap.size ≤ g ∧ g < w'.heap.size) w' x.n d'.vs x.t ∧ Below w.heap.size w w' :=
  (Dt.vcopy x.n x.t _ _ _ _ _ w h hp).mono fun _ _ ⟨k, i, u, s, a, l, c, he, hr, hb⟩ => ⟨⟨k, i, u, s, a, l, c⟩, he, Rz.of_rf _ _ _ hr, hb⟩

set_option maxRecDepth 100000 in
set_option maxHeartbeats 2000000 in
theorem qmsg_any (x : Ms) (d : Bo) (w : World) (h : Dt.Rep w x.n d.vs x.t) (hp : (Dt.pts x.n x.t).1 ≤ 4096) :
    Calls Try.prog 24 #[.agg (x.cs d)] w fun e w' => ∃ d' : Bo, e = .returned (.agg (x.cs d')) ∧ Rz (fun g => w.heap.size ≤ g ∧ g < w'.heap.size) w' x.n d'.vs x.t ∧ Below w.heap.size w w' := by
  obtain ⟨Z, hZ⟩ : ∃ Z : Array Value, Z = #[.int .i64 0, .string ⟨#[]⟩, .int .i64 0, .int .i64 0, .int .u64 0, .string ⟨#[]⟩, .slice none 0 0, .int .i64 0, .int .i64 0, .string ⟨#[]⟩, .int .i64 0, .int .i64 0, .int .i64 0] := ⟨_, rfl⟩
  have D0 : Bk ((w.alloc (.cells (x.cs d) 30)).alloc (.cells Z 30)) w.heap.size (x.cs d) 30 := (Bk.new w _ _).alloc _
  have E0 := Bk.new2 w (.cells (x.cs d) 30) Z 30
  have B0 := below2 w (.cells (x.cs d) 30) (.cells Z 30)
  have HC := Lib.hid (body_vcopyz (Dt.Rep.below B0 _ _ _ h) hp)
  subst hZ
  clear h hp
  go_enter Try.func24, Try.ntmps24
  go_wp2_with fail
  refine HC.out.mono ?_
  rintro e w1 ⟨d', rfl, r1, b1⟩
  have D1 := D0.step b1
  have E1 := E0.step b1
  have B1 := B0.trans (b1.mono B0.size)
  have hs1 := b1.size
  simp only [World.size_alloc] at hs1
  have R1 := Lib.hid r1
  clear D0 E0 r1 HC b1 B0
  obtain ⟨c0, c1, c2, c3, c4, c5, c6, c7, c8, c9, c10, c11, c12⟩ := D1.c13
  obtain ⟨z0, z1, z2, z3, z4, z5, z6, z7, z8, z9, z10, z11, z12⟩ := E1.c13
  have f1 := D1.f
  have f2 := E1.f
  go_wp2
  refine bodyPost_ret (v := .agg (x.cs d')) (by simp [results, Try.results24, go_sem, World.cell?_setCell_same, World.cell?_setCell_other, z0, z1, z2, z3, z4, z5, z6, z7, z8, z9, z10, z11, z12]) rfl ⟨d', rfl, ?_, ?_⟩
  · refine Rz.to (fun g hg => ⟨⟨by have := hg.1; simp at this; omega, by simpa using hg.2⟩, ?_⟩) _ _ _ R1.out
    have := hg.1
    simp only [World.size_alloc] at this
    simp (disch := (simp; omega)) only [Below.heap_setCell]
  · repeat' refine Below.setCell ?_ (by simp) _
    exact B1


/-- The three cells of an inbox. -/
abbrev ib (sl : Value) (r dr : Int) : Array Value := #[sl, .int .i64 r, .int .i64 dr]
theorem Bk.c3 {w : World} {N : Nat} {v0 v1 v2 : Value} {T : TypeId} (h : Bk w N #[v0, v1, v2] T) : w.cell? ⟨N, 0, none⟩ = some v0 ∧ w.cell? ⟨N, 1, none⟩ = some v1 ∧ w.cell? ⟨N, 2, none⟩ = some v2 := ⟨h.c 0, h.c 1, h.c 2⟩
/-- A copy of a row has come: a row of one's own in new memory. -/
def CqP (w : World) (l : List Ms) (r dr : Int) (e : Ending) (w' : World) : Prop := ∃ sl xs, e = .returned (.agg (ib sl r dr)) ∧ Mp w.heap.size (fun g => w.heap.size ≤ g ∧ g < w'.heap.size ∧ some g ≠ sl.ownBlock) l sl xs w' ∧ Below w.heap.size w w'

set_option maxRecDepth 100000 in
set_option maxHeartbeats 4000000 in
theorem qcopied_any (l : List Ms) (ad : Option Addr) (cap : Nat) (r dr : Int) (w : World) (hl : l.length ≤ 2000) (hI : Mw w ad l) (hp : Sm l) :
    Calls Try.prog 23 #[.agg #[.slice ad l.length cap, .int .i64 r, .int .i64 dr]] w (CqP w l r dr) := by
  obtain ⟨i0, hi0, hze, hsz, hby⟩ := infoM_parts
  have eK : ((l.length : Int) + 1).toNat = l.length + 1 := by omega
  have hmk : ∀ w : World, (Instr.makeSlice 22 (.int .i64 0) (.int .i64 ((l.length : Int) + 1))).run Try.prog w = .ok (.slice (some ⟨w.heap.size, 0, none⟩) 0 (l.length + 1)) (w.alloc (.cells (madeCells (Value.cells (.agg #[.int .i64 0, .string ⟨#[]⟩, .int .i64 0, .int .i64 0, .int .u64 0, .string ⟨#[]⟩, .slice none 0 0, .int .i64 0, .int .i64 0, .string ⟨#[]⟩, .int .i64 0, .int .i64 0, .int .i64 0])) ((l.length + 1) * 13)) 30)) := fun w => by
    have := run_make (P := Try.prog) w 22 30 i0 _ Try.underlying22 hi0 hze .i64 .i64 0 ((l.length : Int) + 1) (by omega) (by omega) (by rw [hby]; omega) (by omega)
    rw [eK, hsz] at this
    exact this
  have hms : (madeCells (Value.cells (.agg #[.int .i64 0, .string ⟨#[]⟩, .int .i64 0, .int .i64 0, .int .u64 0, .string ⟨#[]⟩, .slice none 0 0, .int .i64 0, .int .i64 0, .string ⟨#[]⟩, .int .i64 0, .int .i64 0, .int .i64 0])) ((l.length + 1) * 13)).size = (l.length + 1) * 13 := size_madeCells _ _
  have HI := Lib.hid hI
  have HP := Lib.hid hp
  clear hI hp hi0 hze hsz hby eK
  generalize madeCells (Value.cells (.agg #[.int .i64 0, .string ⟨#[]⟩, .int .i64 0, .int .i64 0, .int .u64 0, .string ⟨#[]⟩, .slice none 0 0, .int .i64 0, .int .i64 0, .string ⟨#[]⟩, .int .i64 0, .int .i64 0, .int .i64 0])) ((l.length + 1) * 13) = mc at *
  go_enter Try.func23, Try.ntmps23
  go_wp2_with fail
  obtain ⟨W, hW⟩ : ∃ W, W = ((w.alloc (.cells #[.slice ad l.length cap, .int .i64 r, .int .i64 dr] 24)).alloc (.cells #[.slice none 0 0, .int .i64 0, .int .i64 0] 24)).alloc (.cells mc 30) := ⟨_, rfl⟩
  rw [← hW]
  have B0 : Below w.heap.size w W := by rw [hW]; exact (below2 w _ _).alloc (by simp; omega) _
  have S0 : Bk W w.heap.size #[.slice ad l.length cap, .int .i64 r, .int .i64 dr] 24 := by rw [hW]; exact ((Bk.new w _ _).alloc _).alloc _
  have Z0 : Bk W (w.heap.size + 1) #[.slice none 0 0, .int .i64 0, .int .i64 0] 24 := by rw [hW]; exact (Bk.new2 w _ _ _).alloc _
  have hWs : W.heap.size = w.heap.size + 3 := by rw [hW]; show _ = _; simp
  have M0 : Hid (Mp (w.heap.size + 2) (fun g => w.heap.size + 2 ≤ g ∧ g < W.heap.size ∧ some g ≠ (Value.slice (some ⟨w.heap.size + 1 + 1, 0, none⟩) 0 (l.length + 1)).ownBlock) (l.take 0) (.slice (some ⟨w.heap.size + 1 + 1, 0, none⟩) 0 (l.length + 1)) [] W) := by
    refine ⟨by omega, ⟨rfl, .inr ⟨w.heap.size + 1 + 1, l.length + 1, mc, rfl, by omega, ?_, Nat.zero_le _, by unfold maxLen; omega, hms, by simp⟩⟩, fun q x hx => by simp at hx⟩
    rw [hW]
    have := heap_alloc_new ((w.alloc (.cells #[.slice ad l.length cap, .int .i64 r, .int .i64 dr] 24)).alloc (.cells #[.slice none 0 0, .int .i64 0, .int .i64 0] 24)) (.cells mc 30)
    simp only [World.size_alloc] at this
    exact this
  have HWs := Lib.hid hWs
  clear hW hmk hms hWs
  go_loopw [3, 14] (fun so si wr => ∃ (j : Nat) (xs : List Value), si = .int .i64 j ∧ j ≤ l.length ∧ Mp (w.heap.size + 2) (fun g => w.heap.size + 2 ≤ g ∧ g < wr.heap.size ∧ some g ≠ so.ownBlock) (l.take j) so xs wr ∧ Below (w.heap.size + 2) W wr) (fun _ si _ => l.length - (intOf si).toNat)
  case atStart => exact ⟨0, [], rfl, Nat.zero_le _, M0.out, Below.refl _ _⟩
  case round =>
    obtain ⟨j, xs, rfl, hj, mp, bw0⟩ := hrel
    have hws := HWs.out
    have bw : Below w.heap.size w wr := B0.trans (bw0.mono (by omega))
    have hbs := bw0.size
    by_cases hlt : j < l.length
    · rcases HI.out with h | ⟨b, o, rfl, hb, h2⟩
      · rw [h] at hlt; simp at hlt
      obtain ⟨x, hx⟩ : ∃ x, l[j]? = some x := ⟨_, List.getElem?_eq_getElem hlt⟩
      obtain ⟨d, c, rr⟩ := h2 j x hx
      have ba0 := below1 wr (.cells (x.cs d) 30)
      have r' := Dt.Rep.below (bw.trans (ba0.mono (by omega))) _ _ _ (Rz.rep _ _ _ rr)
      obtain ⟨x0, x1, x2, x3, x4, x5, x6, x7, x8, x9, x10, x11, x12⟩ := c.heap (bw.block b hb)
      have hps := HP.out x (List.mem_of_getElem? hx)
      have HC := Lib.hid (qmsg_any x d (wr.alloc (.cells (x.cs d) 30)) r' hps)
      have htk : l.take (j + 1) = l.take j ++ [x] := by rw [List.take_add_one, hx]; rfl
      have HT := Lib.hid htk
      have j0 : (0 : Int) ≤ (j : Int) := by omega
      have j1 : (j : Int) < (l.length : Int) := by omega
      have M := Lib.hid mp
      have STEP : Hid (∀ (w1 : World) (d' : Bo), Rz (fun g => (wr.alloc (.cells (x.cs d) 30)).heap.size ≤ g ∧ g < w1.heap.size) w1 x.n d'.vs x.t → Below (wr.alloc (.cells (x.cs d) 30)).heap.size (wr.alloc (.cells (x.cs d) 30)) w1 → Mp (w.heap.size + 2) (fun g => w.heap.size + 2 ≤ g ∧ g < w1.heap.size + 1 ∧ some g ≠ u3.ownBlock) (l.take j) u3 xs (w1.alloc (.cells (x.cs d') 30)) ∧ Mz (fun g => w.heap.size + 2 ≤ g ∧ g < w1.heap.size + 1 ∧ some g ≠ u3.ownBlock) (w1.alloc (.cells (x.cs d') 30)) (some ⟨w1.heap.size, 0, none⟩) [x] ∧ Below (w.heap.size + 2) W (w1.alloc (.cells (x.cs d') 30))) := fun w1 d' r1 b1' => by
        have b1 : Below wr.heap.size wr w1 := ba0.trans (b1'.mono (by simp))
        have hs1 := b1'.size
        simp only [World.size_alloc] at hs1 r1
        have ba := below1 w1 (.cells (x.cs d') 30)
        have fr : ∀ g, wr.heap.size ≤ g → some g ≠ u3.ownBlock := fun g hg e => by have := (M.out.own_lt g e.symm).2; omega
        refine ⟨?_, ?_, bw0.trans ((b1.trans (ba.mono (by omega))).mono (by omega))⟩
        · refine ((M.out.below b1 (fun g hg => hg.2.1)).below ba (fun g hg => by have := hg.2.1; omega)).to (Nat.le_refl _) (fun _ _ => rfl) (fun g hg => ⟨⟨hg.1, by have := hg.2.1; omega, hg.2.2⟩, rfl⟩)
        · refine mz_one (Bk.new w1 _ _) ⟨by omega, by omega, fr _ (by omega)⟩ (Rz.to (fun g hg => ⟨⟨by omega, by omega, fr g (by omega)⟩, ba.block g hg.2⟩) _ _ _ r1)
      clear h2 HI rr r' hps c htk mp hx bw bw0 ba0 hws hbs
      go_wp2_with (first | (go_at_call 24; refine HC.out.mono ?_; rintro e w1 ⟨d', rfl, r1, b1⟩; clear x0 x1 x2 x3 x4 x5 x6 x7 x8 x9 x10 x11 x12 HC; have S1 := Lib.hid (STEP.out w1 d' r1 b1); clear r1 b1) | (at_builtin; refine wpList_mapp rfl _ _ rfl (w.heap.size + 2) (fun g => w.heap.size + 2 ≤ g ∧ g < w1.heap.size + 1 ∧ some g ≠ u3.ownBlock) (l.take j) u3 xs rfl S1.out.1 (some ⟨w1.heap.size, 0, none⟩) 1 [x] rfl S1.out.2.1 (fun e => by cases e) (by simp; omega) (fun g hg => ⟨by simpa using hg.2.1, hg.2.2⟩) ?_; intro sl' xs' w3 m3 g3 a3))
      refine ⟨⟨j + 1, xs', by go_num, by omega, ?_, ?_⟩, by simp [intOf]; omega⟩
      · rw [HT.out]
        have hs3 := g3.size
        simp only [World.size_alloc] at hs3 a3
        refine m3.to (Nat.le_refl _) (fun _ _ => rfl) (fun g hg => ⟨⟨hg.1, by have := hg.2.1; omega, ?_⟩, rfl⟩)
        rcases a3 with a3 | a3
        · rw [a3]; exact hg.2.2
        · rw [a3]; intro e; have := Option.some.inj e; have := hg.2.1; omega
      · exact S1.out.2.2.grown g3 (by have := S1.out.1.s; exact this) (fun k hk => (M.out.own_lt k hk).1)
    · have hje : j = l.length := by omega
      subst hje
      rw [List.take_length] at mp
      obtain ⟨a1, c1, rfl, -⟩ := mp.mz (F' := fun _ => True) (fun _ _ => trivial) (fun _ _ => trivial)
      have Sr := S0.under bw0 (by omega)
      have Zr := Z0.under bw0 (by omega)
      obtain ⟨s0, s1, s2⟩ := Sr.c3
      obtain ⟨z0, z1, z2⟩ := Zr.c3
      have sf := Sr.f
      have zf := Zr.f
      have M := Lib.hid mp
      have BW := Lib.hid bw
      clear mp bw bw0 Sr Zr S0 Z0 hws
      go_wp2_with fail
      have e4 : ∀ (v0 v1 v2 v3 : Value) (g : Nat), w.heap.size + 2 ≤ g → ((((wr.setCell ⟨w.heap.size, 0, none⟩ v0).setCell ⟨w.heap.size + 1, 0, none⟩ v1).setCell ⟨w.heap.size + 1, 1, none⟩ v2).setCell ⟨w.heap.size + 1, 2, none⟩ v3).heap[g]? = wr.heap[g]? := fun v0 v1 v2 v3 g hg => by
        rw [Below.heap_setCell _ _ _ _ (by show g ≠ w.heap.size + 1; omega), Below.heap_setCell _ _ _ _ (by show g ≠ w.heap.size + 1; omega), Below.heap_setCell _ _ _ _ (by show g ≠ w.heap.size + 1; omega), Below.heap_setCell _ _ _ _ (by show g ≠ w.heap.size; omega)]
      refine bodyPost_ret (v := .agg #[.slice a1 l.length c1, .int .i64 r, .int .i64 dr]) (by simp [results, Try.results23, go_sem, World.cell?_setCell_same, World.cell?_setCell_other, z0, z1, z2]) rfl ⟨.slice a1 l.length c1, xs, rfl, ?_, ?_⟩
      · exact (Mp.mono M.out (by omega)).to (by simp) (fun g hg => e4 _ _ _ _ g (M.out.own_lt g hg).1) (fun g hg => ⟨⟨by omega, by simpa using hg.2.1, hg.2.2⟩, e4 _ _ _ _ g hg.1⟩)
      · exact (((BW.out.setCell (by simp) _).setCell (by simp) _).setCell (by simp) _).setCell (by simp) _
end Go.Proofs.Ytdgjhclncjoonaa
