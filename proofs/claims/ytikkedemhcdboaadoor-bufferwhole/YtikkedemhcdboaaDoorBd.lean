/- Messages with others behind them in memory of their own; the conditions: the messages in memory, of a size that can be. -/
import Derived.Test.YtikkedemhcdboaaDoorBc
namespace Go.Proofs.YtikkedemhcdboaaDoor
open Go.RowKit

theorem body_vcopy {w : World} {x : Ms} {d : Bo} (h : Dt.Rep w x.n d.vs x.t) (hp : (Dt.pts x.n x.t).1 ≤ 4096) :
    Calls Tryd.prog 32 #[.agg #[.int .i64 d.k, .int .i64 d.i, .int .u64 d.u, .string d.s, .slice d.a d.l d.c]] w fun e w' => ∃ d' : Bo, e = .returned (.agg #[.int .i64 d'.k, .int .i64 d'.i, .int .u64 d'.u, .string d'.s, .slice d'.a d'.l d'.c]) ∧ Dt.Rf (fun g => w.heap.size ≤ g ∧ g < w'.heap.size) w' x.n d'.vs x.t ∧ Below w.heap.size w w' :=
  (Dt.vcopy x.n x.t _ _ _ _ _ w h hp).mono fun _ _ ⟨k, i, u, s, a, l, c, he, hr, hb⟩ => ⟨⟨k, i, u, s, a, l, c⟩, he, hr, hb⟩

theorem copied_none (ad ad2 : Option Addr) (c c2 : Nat) (w : World) : Calls Tryd.prog 25 #[.slice ad 0 c, .slice ad2 0 c2] w fun e w' => e = .returned (.slice none 0 0) ∧ Below w.heap.size w w' := by
  go_enter Tryd.func25, Tryd.ntmps25
  go_wp2
  go_ret
  exact ⟨rfl, Below.refl _ _⟩

set_option maxRecDepth 100000 in
set_option maxHeartbeats 2000000 in
theorem copied_one (l : List Ms) (ad ad2 : Option Addr) (c c2 : Nat) (w : World) (hl : l.length ≤ 1000) (hpos : 0 < l.length) (h1 : Mw w ad l) (hp : Sm l) :
    Calls Tryd.prog 25 #[.slice ad l.length c, .slice ad2 0 c2] w fun e w' => e = .returned (.slice (some ⟨w.heap.size, 0, none⟩) l.length l.length) ∧ Cd w w.heap.size l l.length w' := by
  obtain ⟨i0, hz20, hze, hsz, hby⟩ := infoM_parts
  have eK : ((l.length : Int)).toNat = l.length := by omega
  have hmk : ∀ w : World, (Instr.makeSlice 22 (.int .i64 ((l.length : Int))) (.int .i64 ((l.length : Int)))).run Tryd.prog w = .ok (.slice (some ⟨w.heap.size, 0, none⟩) (l.length) (l.length)) (w.alloc (.cells (madeCells (Value.cells (.agg #[.int .i64 0, .string ⟨#[]⟩, .int .i64 0, .int .i64 0, .int .u64 0, .string ⟨#[]⟩, .slice none 0 0, .int .i64 0, .int .i64 0, .string ⟨#[]⟩, .int .i64 0, .int .i64 0, .int .i64 0])) ((l.length) * 13)) 30)) := fun w => by
    have := run_make (P := Tryd.prog) w 22 30 i0 _ Tryd.underlying22 hz20 hze .i64 .i64 ((l.length : Int)) ((l.length : Int)) (by omega) (Int.le_refl _) (by rw [hby]; omega) (by omega)
    rw [eK, hsz] at this
    exact this
  have hms : (madeCells (Value.cells (.agg #[.int .i64 0, .string ⟨#[]⟩, .int .i64 0, .int .i64 0, .int .u64 0, .string ⟨#[]⟩, .slice none 0 0, .int .i64 0, .int .i64 0, .string ⟨#[]⟩, .int .i64 0, .int .i64 0, .int .i64 0])) ((l.length) * 13)).size = (l.length) * 13 := size_madeCells _ _
  have H1 := Lib.hid h1
  have hcz : ∀ (w : World) (dp : Option Addr) (dL dC : Nat), (Builtin.copy_ #[22, 22] 3 #[.slice dp dL dC, .slice ad2 0 c2]).run Tryd.prog w = .ok (goInt 0) w := fun w dp dL dC => run_copy_zero (P := Tryd.prog) w 22 22 3 30 dp ad2 dL dC c2 Tryd.underlying22 i0 hz20
  have HP := Lib.hid hp
  have hne : ((l.length : Int) == 0) = false := by simp; exact List.length_pos_iff.1 hpos
  have hl0 : l ≠ [] := List.length_pos_iff.1 hpos
  have hne0 : (l.length == 0) = false := by simpa using hl0
  clear h1  hp hz20 hsz hby hze
  generalize madeCells (Value.cells (.agg #[.int .i64 0, .string ⟨#[]⟩, .int .i64 0, .int .i64 0, .int .u64 0, .string ⟨#[]⟩, .slice none 0 0, .int .i64 0, .int .i64 0, .string ⟨#[]⟩, .int .i64 0, .int .i64 0, .int .i64 0])) ((l.length) * 13) = mc at *
  have hA : (w.alloc (.cells mc 30)).heap[w.heap.size]? = some (.cells mc 30 (0, 0)) := heap_alloc_new w _
  have bA := below1 w (.cells mc 30)
  have HL : Hid (Mz (fun g => g < w.heap.size) (w.alloc (.cells mc 30)) ad l) := Mz.to H1.out fun g hg => ⟨hg, bA.block g hg⟩
  clear eK
  go_enter Tryd.func25, Tryd.ntmps25
  go_wp2_with (refine wpList_mcopy rfl (.tmp 19) (.tmp 20) rfl (some ⟨w.heap.size, 0, none⟩) ad (l.length) (l.length) c l rfl rfl (by omega) w.heap.size 0 (fun _ => rfl) mc hA (by rw [hms]; omega) (fun g => g < w.heap.size) HL.out ?_; intro w2 cur2 z2 s2 k2 r2 o2 b2; clear hA HL; have Z2 := Lib.hid z2; have K2 := Lib.hid k2; have R2 := Lib.hid r2; have O2 := Lib.hid o2; have S2 := Lib.hid s2; clear z2 k2 r2 o2 s2)
  have CD : Hid (Cd w w.heap.size l 0 w2) := by
    have hcell : ∀ o, w2.cell? ⟨w.heap.size, o, none⟩ = cur2[o]? := fun o => Bk.c Z2.out o
    refine ⟨bA.trans (b2.mono (Nat.le_refl _)), ⟨cur2, Z2.out, by rw [S2.out, hms]⟩, fun q x hq => ?_⟩
    obtain ⟨d, c', r'⟩ := R2.out q x hq
    refine ⟨d, C13.of fun i hi => ?_, fun hh => absurd hh (Nat.not_lt_zero _), fun _ => Rz.rep _ _ _ (Rz.to (F' := fun g => g < w.heap.size) (w' := w) (fun g hg => ⟨hg, (bA.block g hg).symm⟩) _ _ _ r')⟩
    rw [hcell]
    have := c' i hi
    rwa [Nat.zero_add] at this
  clear Z2 K2 R2 O2 S2 hmk hms bA H1
  go_loopw [30] (fun si wr => ∃ (j : Nat), si = .int .i64 j ∧ j ≤ l.length ∧ Cd w w.heap.size l j wr) (fun si _ => (l.length) - (intOf si).toNat)
  case atStart => exact ⟨0, rfl, Nat.zero_le _, CD.out⟩
  case round =>
    obtain ⟨j, rfl, hj, cd⟩ := hrel
    by_cases hlt : j < l.length
    · obtain ⟨x, hx⟩ : ∃ x, l[j]? = some x := ⟨_, List.getElem?_eq_getElem (by  omega)⟩
      obtain ⟨d, k1, -, k3⟩ := cd.k j x hx
      have r := Dt.Rep.below cd.b _ _ _ (k3 (Nat.le_refl _))
      have hps := HP.out x (List.mem_of_getElem? hx)
      have HC := Lib.hid (body_vcopy r hps)
      obtain ⟨x0, x1, x2, x3, x4, x5, x6, x7, x8, x9, x10, x11, x12⟩ := k1
      have lN := cd.lt
      have STEP : Hid (∀ (w2 : World) (d' : Bo), Dt.Rf (fun g => wr.heap.size ≤ g ∧ g < w2.heap.size) w2 x.n d'.vs x.t → Below wr.heap.size wr w2 → ((∃ v, w2.cell? ⟨w.heap.size, j * 13 + 2, none⟩ = some v) ∧ (∃ v, w2.cell? ⟨w.heap.size, j * 13 + 3, none⟩ = some v) ∧ (∃ v, w2.cell? ⟨w.heap.size, j * 13 + 4, none⟩ = some v) ∧ (∃ v, w2.cell? ⟨w.heap.size, j * 13 + 5, none⟩ = some v) ∧ (∃ v, w2.cell? ⟨w.heap.size, j * 13 + 6, none⟩ = some v)) ∧ (∀ q, w2.frozen? ⟨w.heap.size, q, none⟩ = false) ∧ ∀ W, W = ((((w2.setCell ⟨w.heap.size, j * 13 + 2, none⟩ (.int .i64 d'.k)).setCell ⟨w.heap.size, j * 13 + 3, none⟩ (.int .i64 d'.i)).setCell ⟨w.heap.size, j * 13 + 4, none⟩ (.int .u64 d'.u)).setCell ⟨w.heap.size, j * 13 + 5, none⟩ (.string d'.s)).setCell ⟨w.heap.size, j * 13 + 6, none⟩ (.slice d'.a d'.l d'.c) → Cd w w.heap.size l (j + 1) W) := fun w2 d' r2 b2 => by
        have cd2 := cd.below b2
        refine ⟨⟨⟨_, (b2.cell (p := ⟨w.heap.size, j * 13 + 2, none⟩) lN).trans x2⟩, ⟨_, (b2.cell (p := ⟨w.heap.size, j * 13 + 3, none⟩) lN).trans x3⟩, ⟨_, (b2.cell (p := ⟨w.heap.size, j * 13 + 4, none⟩) lN).trans x4⟩, ⟨_, (b2.cell (p := ⟨w.heap.size, j * 13 + 5, none⟩) lN).trans x5⟩, ⟨_, (b2.cell (p := ⟨w.heap.size, j * 13 + 6, none⟩) lN).trans x6⟩⟩, cd2.f, fun W hW => Cd.step (Nat.le_refl _) cd b2 x hx d' r2 hW⟩
      have j0 : (0 : Int) ≤ (j : Int) := by omega
      have j1 : (j : Int) < (l.length : Int) := by omega
      clear r hps k3 HP x0 x1 x7 x8 x9 x10 x11 x12 hx CD
      go_wp2_with fail
      refine HC.out.mono ?_
      rintro e w4 ⟨d', rfl, r4, b4⟩
      obtain ⟨⟨⟨y2, z2⟩, ⟨y3, z3⟩, ⟨y4, z4⟩, ⟨y5, z5⟩, ⟨y6, z6⟩⟩, zf, st⟩ := STEP.out w4 d' r4 b4
      have ST := Lib.hid st
      clear st r4 b4 STEP HC x2 x3 x4 x5 x6
      go_wp2_with fail
      exact ⟨⟨j + 1, by go_num, by omega, ST.out _ rfl⟩, by simp [intOf]; omega⟩
    · have hje : j = l.length := by  omega
      subst hje
      go_wp2_with fail
      go_ret
      exact ⟨rfl, cd⟩
set_option maxRecDepth 100000 in
set_option maxHeartbeats 2000000 in
theorem copied_two (l m : List Ms) (ad ad2 : Option Addr) (c c2 : Nat) (w : World) (hl : l.length + m.length ≤ 1000) (hpos : 0 < m.length) (h1 : Mw w ad l) (h2 : Mw w ad2 m) (hp : Sm (l ++ m)) :
    Calls Tryd.prog 25 #[.slice ad l.length c, .slice ad2 m.length c2] w fun e w' => e = .returned (.slice (some ⟨w.heap.size, 0, none⟩) (l.length + m.length) (l.length + m.length)) ∧ Cd w w.heap.size (l ++ m) (l ++ m).length w' := by
  obtain ⟨i0, hz20, hze, hsz, hby⟩ := infoM_parts
  have eK : ((l.length : Int) + m.length).toNat = l.length + m.length := by omega
  have hmk : ∀ w : World, (Instr.makeSlice 22 (.int .i64 ((l.length : Int) + m.length)) (.int .i64 ((l.length : Int) + m.length))).run Tryd.prog w = .ok (.slice (some ⟨w.heap.size, 0, none⟩) (l.length + m.length) (l.length + m.length)) (w.alloc (.cells (madeCells (Value.cells (.agg #[.int .i64 0, .string ⟨#[]⟩, .int .i64 0, .int .i64 0, .int .u64 0, .string ⟨#[]⟩, .slice none 0 0, .int .i64 0, .int .i64 0, .string ⟨#[]⟩, .int .i64 0, .int .i64 0, .int .i64 0])) ((l.length + m.length) * 13)) 30)) := fun w => by
    have := run_make (P := Tryd.prog) w 22 30 i0 _ Tryd.underlying22 hz20 hze .i64 .i64 ((l.length : Int) + m.length) ((l.length : Int) + m.length) (by omega) (Int.le_refl _) (by rw [hby]; omega) (by omega)
    rw [eK, hsz] at this
    exact this
  have hms : (madeCells (Value.cells (.agg #[.int .i64 0, .string ⟨#[]⟩, .int .i64 0, .int .i64 0, .int .u64 0, .string ⟨#[]⟩, .slice none 0 0, .int .i64 0, .int .i64 0, .string ⟨#[]⟩, .int .i64 0, .int .i64 0, .int .i64 0])) ((l.length + m.length) * 13)).size = (l.length + m.length) * 13 := size_madeCells _ _
  have H1 := Lib.hid h1
  have H2 := Lib.hid h2
  have hlm : (l ++ m).length = l.length + m.length := List.length_append
  have HP := Lib.hid hp
  have hne : ((l.length : Int) + m.length == 0) = false := by simp; omega
  have hmz : ¬ m.length = 0 := by omega
  have hmz2 : ¬ (m.length : Int) = 0 := by omega
  clear h1 h2 hp hz20 hsz hby hze
  generalize madeCells (Value.cells (.agg #[.int .i64 0, .string ⟨#[]⟩, .int .i64 0, .int .i64 0, .int .u64 0, .string ⟨#[]⟩, .slice none 0 0, .int .i64 0, .int .i64 0, .string ⟨#[]⟩, .int .i64 0, .int .i64 0, .int .i64 0])) ((l.length + m.length) * 13) = mc at *
  have hA : (w.alloc (.cells mc 30)).heap[w.heap.size]? = some (.cells mc 30 (0, 0)) := heap_alloc_new w _
  have bA := below1 w (.cells mc 30)
  have HL : Hid (Mz (fun g => g < w.heap.size) (w.alloc (.cells mc 30)) ad l) := Mz.to H1.out fun g hg => ⟨hg, bA.block g hg⟩
  have HM : Hid (∀ w2 : World, (∀ b, b ≠ w.heap.size → w2.heap[b]? = (w.alloc (.cells mc 30)).heap[b]?) → Mz (fun g => g < w.heap.size) w2 ad2 m) := fun w2 o2 => Mz.to H2.out fun g hg => ⟨hg, (o2 g (by omega)).trans (bA.block g hg)⟩
  clear eK
  go_enter Tryd.func25, Tryd.ntmps25
  go_wp2_with (first | (refine wpList_mcopy rfl (.tmp 19) (.tmp 20) rfl (some ⟨w.heap.size, 0, none⟩) ad (l.length + m.length) (l.length + m.length) c l rfl rfl (by omega) w.heap.size 0 (fun _ => rfl) mc hA (by rw [hms]; omega) (fun g => g < w.heap.size) HL.out ?_; intro w2 cur2 z2 s2 k2 r2 o2 b2; clear hA HL; have Z2 := Lib.hid z2; have K2 := Lib.hid k2; have R2 := Lib.hid r2; have O2 := Lib.hid o2; have S2 := Lib.hid s2; clear z2 k2 r2 o2 s2) | (refine wpList_mcopy rfl (.tmp 25) (.tmp 26) rfl (some ⟨w.heap.size, l.length * 13, none⟩) ad2 m.length m.length c2 m rfl rfl (Nat.le_refl _) w.heap.size (l.length * 13) (fun _ => rfl) cur2 Z2.out (by rw [S2.out, hms]; omega) (fun g => g < w.heap.size) (HM.out w2 O2.out) ?_; intro w3 cur3 z3 s3 k3 r3 o3 b3; have Z3 := Lib.hid z3; have K3 := Lib.hid k3; have R3 := Lib.hid r3; have O3 := Lib.hid o3; have S3 := Lib.hid s3; clear z3 k3 r3 o3 s3))
  have CD : Hid (Cd w w.heap.size (l ++ m) 0 w3) := by
    have oth : ∀ b, b < w.heap.size → w3.heap[b]? = w.heap[b]? := fun b hb => (O3.out b (by omega)).trans ((O2.out b (by omega)).trans (bA.block b hb))
    have hcell : ∀ o, w3.cell? ⟨w.heap.size, o, none⟩ = cur3[o]? := fun o => Bk.c Z3.out o
    refine ⟨bA.trans ((b2.mono (Nat.le_refl _)).trans (b3.mono (Nat.le_refl _))), ⟨cur3, Z3.out, by rw [S3.out, S2.out, hms, hlm]⟩, fun q x hq => ?_⟩
    by_cases hql : q < l.length
    · rw [List.getElem?_append_left hql] at hq
      obtain ⟨d, c', r'⟩ := R2.out q x hq
      refine ⟨d, C13.of fun i hi => ?_, fun hh => absurd hh (Nat.not_lt_zero _), fun _ => Rz.rep _ _ _ (Rz.to (F' := fun g => g < w.heap.size) (w' := w) (fun g hg => ⟨hg, (bA.block g hg).symm⟩) _ _ _ r')⟩
      rw [hcell, K3.out _ (.inl (by omega))]
      have := c' i hi
      rwa [Nat.zero_add] at this
    · rw [List.getElem?_append_right (by omega)] at hq
      obtain ⟨d, c', r'⟩ := R3.out _ x hq
      refine ⟨d, C13.of fun i hi => ?_, fun hh => absurd hh (Nat.not_lt_zero _), fun _ => Rz.rep _ _ _ (Rz.to (F' := fun g => g < w.heap.size) (w' := w) (fun g hg => ⟨hg, ((O2.out g (by omega)).trans (bA.block g hg)).symm⟩) _ _ _ r')⟩
      rw [hcell]
      have := c' i hi
      rwa [show l.length * 13 + (q - l.length) * 13 + i = q * 13 + i by omega] at this
  clear Z2 Z3 K2 K3 R2 R3 O2 O3 S2 S3 HM H2 hmk hms bA H1
  go_loopw [30] (fun si wr => ∃ (j : Nat), si = .int .i64 j ∧ j ≤ l.length + m.length ∧ Cd w w.heap.size (l ++ m) j wr) (fun si _ => (l.length + m.length) - (intOf si).toNat)
  case atStart => exact ⟨0, rfl, Nat.zero_le _, CD.out⟩
  case round =>
    obtain ⟨j, rfl, hj, cd⟩ := hrel
    by_cases hlt : j < l.length + m.length
    · obtain ⟨x, hx⟩ : ∃ x, (l ++ m)[j]? = some x := ⟨_, List.getElem?_eq_getElem (by rw [List.length_append]; omega)⟩
      obtain ⟨d, k1, -, k3⟩ := cd.k j x hx
      have r := Dt.Rep.below cd.b _ _ _ (k3 (Nat.le_refl _))
      have hps := HP.out x (List.mem_of_getElem? hx)
      have HC := Lib.hid (body_vcopy r hps)
      obtain ⟨x0, x1, x2, x3, x4, x5, x6, x7, x8, x9, x10, x11, x12⟩ := k1
      have lN := cd.lt
      have STEP : Hid (∀ (w2 : World) (d' : Bo), Dt.Rf (fun g => wr.heap.size ≤ g ∧ g < w2.heap.size) w2 x.n d'.vs x.t → Below wr.heap.size wr w2 → ((∃ v, w2.cell? ⟨w.heap.size, j * 13 + 2, none⟩ = some v) ∧ (∃ v, w2.cell? ⟨w.heap.size, j * 13 + 3, none⟩ = some v) ∧ (∃ v, w2.cell? ⟨w.heap.size, j * 13 + 4, none⟩ = some v) ∧ (∃ v, w2.cell? ⟨w.heap.size, j * 13 + 5, none⟩ = some v) ∧ (∃ v, w2.cell? ⟨w.heap.size, j * 13 + 6, none⟩ = some v)) ∧ (∀ q, w2.frozen? ⟨w.heap.size, q, none⟩ = false) ∧ ∀ W, W = ((((w2.setCell ⟨w.heap.size, j * 13 + 2, none⟩ (.int .i64 d'.k)).setCell ⟨w.heap.size, j * 13 + 3, none⟩ (.int .i64 d'.i)).setCell ⟨w.heap.size, j * 13 + 4, none⟩ (.int .u64 d'.u)).setCell ⟨w.heap.size, j * 13 + 5, none⟩ (.string d'.s)).setCell ⟨w.heap.size, j * 13 + 6, none⟩ (.slice d'.a d'.l d'.c) → Cd w w.heap.size (l ++ m) (j + 1) W) := fun w2 d' r2 b2 => by
        have cd2 := cd.below b2
        refine ⟨⟨⟨_, (b2.cell (p := ⟨w.heap.size, j * 13 + 2, none⟩) lN).trans x2⟩, ⟨_, (b2.cell (p := ⟨w.heap.size, j * 13 + 3, none⟩) lN).trans x3⟩, ⟨_, (b2.cell (p := ⟨w.heap.size, j * 13 + 4, none⟩) lN).trans x4⟩, ⟨_, (b2.cell (p := ⟨w.heap.size, j * 13 + 5, none⟩) lN).trans x5⟩, ⟨_, (b2.cell (p := ⟨w.heap.size, j * 13 + 6, none⟩) lN).trans x6⟩⟩, cd2.f, fun W hW => Cd.step (Nat.le_refl _) cd b2 x hx d' r2 hW⟩
      have j0 : (0 : Int) ≤ (j : Int) := by omega
      have j1 : (j : Int) < (l.length : Int) + m.length := by omega
      clear r hps k3 HP x0 x1 x7 x8 x9 x10 x11 x12 hx CD
      go_wp2_with fail
      refine HC.out.mono ?_
      rintro e w4 ⟨d', rfl, r4, b4⟩
      obtain ⟨⟨⟨y2, z2⟩, ⟨y3, z3⟩, ⟨y4, z4⟩, ⟨y5, z5⟩, ⟨y6, z6⟩⟩, zf, st⟩ := STEP.out w4 d' r4 b4
      have ST := Lib.hid st
      clear st r4 b4 STEP HC x2 x3 x4 x5 x6
      go_wp2_with fail
      exact ⟨⟨j + 1, by go_num, by omega, ST.out _ rfl⟩, by simp [intOf]; omega⟩
    · have hje : j = (l ++ m).length := by rw [List.length_append]; omega
      subst hje
      go_wp2_with fail
      go_ret
      exact ⟨rfl, cd⟩

/-- Whatever is copied. -/
def CpP (w : World) (l : List Ms) (e : Ending) (w' : World) : Prop := ∃ a c, e = .returned (.slice a l.length c) ∧ (l = [] → a = none ∧ c = 0) ∧ Mf (fun g => w.heap.size ≤ g ∧ g < w'.heap.size) w' a l ∧ Below w.heap.size w w'
theorem copied_any (l m : List Ms) (ad ad2 : Option Addr) (c c2 : Nat) (w : World) (hl : l.length + m.length ≤ 1000) (h1 : Mw w ad l) (h2 : Mw w ad2 m) (hp : Sm (l ++ m)) :
    Calls Tryd.prog 25 #[.slice ad l.length c, .slice ad2 m.length c2] w (CpP w (l ++ m)) := by
  by_cases hm : m = []
  · subst hm
    rw [List.append_nil] at hp ⊢
    by_cases hl0 : l = []
    · subst hl0
      exact (copied_none ad ad2 c c2 w).mono fun e w' ⟨he, hb⟩ => ⟨none, 0, he, fun _ => ⟨rfl, rfl⟩, .inl rfl, hb⟩
    · exact (copied_one l ad ad2 c c2 w (by simp at hl; exact hl) (List.length_pos_iff.2 hl0) h1 hp).mono fun e w' ⟨he, hc⟩ => ⟨_, _, he, fun e => absurd e hl0, hc.done (Nat.le_refl _), hc.b⟩
  · exact (copied_two l m ad ad2 c c2 w hl (List.length_pos_iff.2 hm) h1 h2 hp).mono fun e w' ⟨he, hc⟩ => ⟨_, _, by rw [List.length_append]; exact he, fun e => absurd (List.append_eq_nil_iff.1 e).2 hm, hc.done (Nat.le_refl _), hc.b⟩
end Go.Proofs.YtikkedemhcdboaaDoor
