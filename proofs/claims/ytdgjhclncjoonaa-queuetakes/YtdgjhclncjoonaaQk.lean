/- A message taken out of an inbox: the program's Take; the conditions: the messages in memory, of a size that can be. -/
import Derived.Test.YtdgjhclncjoonaaQi
namespace Go.Proofs.Ytdgjhclncjoonaa
open Go.RowKit

/-- An inbox, a message and a bool come. -/
def TaP (w : World) (l : List Ms) (r dr : Int) (y : Ms) (b : Bool) (e : Ending) (w' : World) : Prop := ∃ a c d, e = .returned (.tuple #[.agg #[.slice a l.length c, .int .i64 r, .int .i64 dr], .agg (y.cs d), .bool b]) ∧ Mz (fun g => w.heap.size ≤ g ∧ g < w'.heap.size) w' a l ∧ Rz (fun g => w.heap.size ≤ g ∧ g < w'.heap.size) w' y.n d.vs y.t ∧ Below w.heap.size w w'
theorem TaP.of {w v W' : World} {B : Nat} {a : Option Addr} {c n : Nat} {l : List Ms} {r dr : Int} {y : Ms} {d : Bo} {b : Bool} (hn : n = l.length) (hB : w.heap.size ≤ B) (hm : Mz (fun g => B ≤ g ∧ g < v.heap.size) v a l) (hr : Rz (fun g => B ≤ g ∧ g < v.heap.size) v y.n d.vs y.t) (hb : Below w.heap.size w W') (hs : W'.heap.size = v.heap.size) (ho : ∀ g, B ≤ g → W'.heap[g]? = v.heap[g]?) :
    TaP w l r dr y b (.returned (.tuple #[.agg #[.slice a n c, .int .i64 r, .int .i64 dr], .agg (y.cs d), .bool b])) W' := by
  subst hn
  exact ⟨a, c, d, rfl, Mz.to hm fun g hg => ⟨⟨by omega, by have := hg.2; omega⟩, ho g hg.1⟩, Rz.to (fun g hg => ⟨⟨by omega, by have := hg.2; omega⟩, ho g hg.1⟩) _ _ _ hr, hb⟩
/-- What Take gives. -/
def TakeP (w : World) (l : List Ms) (r dr : Int) (e : Ending) (w' : World) : Prop := (l = [] → TaP w [] r dr mZ false e w') ∧ (l ≠ [] → ∃ k y, Best true (prl l) l.length k ∧ l[k]? = some y ∧ TaP w (l.eraseIdx k) r dr y true e w')

set_option maxRecDepth 100000 in
set_option maxHeartbeats 4000000 in
theorem qtake_any (l : List Ms) (ad : Option Addr) (cap : Nat) (r dr : Int) (w : World) (hl : l.length ≤ 1500) (hI : Mw w ad l) (hp : Sm l) :
    Calls Try.prog 14 #[.agg #[.slice ad l.length cap, .int .i64 r, .int .i64 dr]] w (TakeP w l r dr) := by
  obtain ⟨W, hW⟩ : ∃ W, W = ((w.alloc (.cells #[.slice ad l.length cap, .int .i64 r, .int .i64 dr] 24)).alloc (.cells #[.slice none 0 0, .int .i64 0, .int .i64 0] 24)).alloc (.cells #[.int .i64 0, .string ⟨#[]⟩, .int .i64 0, .int .i64 0, .int .u64 0, .string ⟨#[]⟩, .slice none 0 0, .int .i64 0, .int .i64 0, .string ⟨#[]⟩, .int .i64 0, .int .i64 0, .int .i64 0] 30) := ⟨_, rfl⟩
  have B0 : Below w.heap.size w W := by rw [hW]; exact (below2 w _ _).alloc (by simp; omega) _
  have Q0 : Bk W w.heap.size #[.slice ad l.length cap, .int .i64 r, .int .i64 dr] 24 := by rw [hW]; exact ((Bk.new w _ _).alloc _).alloc _
  have RQ0 : Bk W (w.heap.size + 1) #[.slice none 0 0, .int .i64 0, .int .i64 0] 24 := by rw [hW]; exact (Bk.new2 w _ _ _).alloc _
  have RM0 : Bk W (w.heap.size + 1 + 1) #[.int .i64 0, .string ⟨#[]⟩, .int .i64 0, .int .i64 0, .int .u64 0, .string ⟨#[]⟩, .slice none 0 0, .int .i64 0, .int .i64 0, .string ⟨#[]⟩, .int .i64 0, .int .i64 0, .int .i64 0] 30 := by
    rw [hW]
    have := Bk.new2 (w.alloc (.cells #[.slice ad l.length cap, .int .i64 r, .int .i64 dr] 24)) (.cells #[.slice none 0 0, .int .i64 0, .int .i64 0] 24) #[.int .i64 0, .string ⟨#[]⟩, .int .i64 0, .int .i64 0, .int .u64 0, .string ⟨#[]⟩, .slice none 0 0, .int .i64 0, .int .i64 0, .string ⟨#[]⟩, .int .i64 0, .int .i64 0, .int .i64 0] 30
    simpa only [World.size_alloc] using this
  have hWs : W.heap.size = w.heap.size + 3 := by rw [hW]; show _ = _; simp
  have HC := Lib.hid (qcopied_any l ad cap r dr W (by omega) (Mw.below hI B0) hp)
  obtain ⟨q0, q1, q2⟩ := Q0.c3
  have HW := Lib.hid hW
  clear hI hp hW
  go_enter Try.func14, Try.ntmps14
  go_wp2_with fail
  rw [← HW.out]
  refine HC.out.mono ?_
  rintro e w0 ⟨sl, xs, rfl, m0, b0⟩
  obtain ⟨a1, c1, rfl, -⟩ := m0.mz (F' := fun _ => True) (fun _ _ => trivial) (fun _ _ => trivial)
  clear q0 q1 q2
  have hs0 := b0.size
  obtain ⟨w1, hw1⟩ : ∃ w1, w1 = ((w0.setCell ⟨w.heap.size, 0, none⟩ (.slice a1 l.length c1)).setCell ⟨w.heap.size, 1, none⟩ (.int .i64 r)).setCell ⟨w.heap.size, 2, none⟩ (.int .i64 dr) := ⟨_, rfl⟩
  have Q1 : Bk w1 w.heap.size #[.slice a1 l.length c1, .int .i64 r, .int .i64 dr] 24 := by rw [hw1]; exact Bk.full3 (Q0.step b0) _ _ _
  have RQ1 : Bk w1 (w.heap.size + 1) #[.slice none 0 0, .int .i64 0, .int .i64 0] 24 := by rw [hw1]; exact Bk.set3 (RQ0.step b0) (by omega) _ _ _
  have RM1 : Bk w1 (w.heap.size + 1 + 1) #[.int .i64 0, .string ⟨#[]⟩, .int .i64 0, .int .i64 0, .int .u64 0, .string ⟨#[]⟩, .slice none 0 0, .int .i64 0, .int .i64 0, .string ⟨#[]⟩, .int .i64 0, .int .i64 0, .int .i64 0] 30 := by rw [hw1]; exact Bk.set3 (RM0.step b0) (by omega) _ _ _
  have BW1 : Below w.heap.size w w1 := by rw [hw1]; exact below_set3 (B0.trans (b0.mono (by omega))) (Nat.le_refl _) _ _ _
  have hs1 : w1.heap.size = w0.heap.size := by rw [hw1]; simp only [World.size_setCell]
  have M1 : Hid (Mp (w.heap.size + 3) (fun g => w.heap.size + 3 ≤ g ∧ g < w1.heap.size ∧ some g ≠ (Value.slice a1 l.length c1).ownBlock) l (.slice a1 l.length c1) xs w1) := by
    have oth : ∀ g, w.heap.size + 3 ≤ g → w1.heap[g]? = w0.heap[g]? := fun g hg => by rw [hw1, set3_heap _ _ _ (by omega)]
    exact (Mp.mono m0 (by omega)).to (by omega) (fun g hg => oth g (by have := (m0.own_lt g hg).1; omega)) (fun g hg => ⟨⟨by omega, by have := hg.2.1; omega, hg.2.2⟩, oth g (by omega)⟩)
  obtain ⟨q0, q1, q2⟩ := (Q0.step b0).c3
  have qf := (Q0.step b0).f
  have HW1 := Lib.hid hw1
  have hz : w.heap.size + 3 ≤ w1.heap.size := by omega
  have QH := Lib.hid Q1
  clear m0 b0 B0 Q0 RQ0 RM0 HW HC hw1 hWs hs0 hs1
  by_cases h0 : l = []
  · subst h0
    simp only [List.length_nil] at *
    obtain ⟨k0, k1, k2⟩ := Q1.c3
    obtain ⟨p0, p1, p2⟩ := RQ1.c3
    have pf := RQ1.f
    obtain ⟨g0, g1, g2, g3, g4, g5, g6, g7, g8, g9, g10, g11, g12⟩ := RM1.c13
    have gf := RM1.f
    have TOP : Hid (∀ e w', TaP w [] r dr mZ false e w' → TakeP w [] r dr e w') := fun e w' h => ⟨fun _ => h, fun h => absurd rfl h⟩
    have BH := Lib.hid BW1
    clear Q1 RQ1 RM1 BW1
    have HW2 := Lib.hid HW1.out.symm
    go_wp2_with (rw [HW2.out])
    have MZ : Hid (Mz (fun g => w.heap.size + 3 ≤ g ∧ g < w1.heap.size) w1 a1 []) := .inl rfl
    exact bodyPost_ret (v := .tuple #[.agg #[.slice a1 0 c1, .int .i64 r, .int .i64 dr], .agg (mZ.cs zD), .bool false]) (by simp [results, Try.results14, go_sem, World.cell?_setCell_same, World.cell?_setCell_other, p0, p1, p2, g0, g1, g2, g3, g4, g5, g6, g7, g8, g9, g10, g11, g12, mZ, zD]) rfl (TOP.out _ _ (TaP.of rfl (Nat.le_add_right _ _) MZ.out (mZ_rz _ _) (below_set13 (below_set3 BH.out (by omega) _ _ _) (by omega) _ _ _ _ _ _ _ _ _ _ _ _ _) (by simp) (fun g hg => by rw [set13_heap _ _ _ (by omega), set3_heap _ _ _ (by omega)])))
  · have TOP : Hid (∀ k y e w', Best true (prl l) l.length k → l[k]? = some y → TaP w (l.eraseIdx k) r dr y true e w' → TakeP w l r dr e w') := fun k y e w' hb hy h => ⟨fun h => absurd h h0, fun _ => ⟨k, y, hb, hy, h⟩⟩
    obtain ⟨g, rfl, hg, mq1⟩ := M1.out.mq h0
    have hpos : 0 < l.length := List.length_pos_iff.2 h0
    have ba := below1 w1 (.cells #[.int .i64 0, .string ⟨#[]⟩, .int .i64 0, .int .i64 0, .int .u64 0, .string ⟨#[]⟩, .slice none 0 0, .int .i64 0, .int .i64 0, .string ⟨#[]⟩, .int .i64 0, .int .i64 0, .int .i64 0] 30)
    have hgl : g < w1.heap.size := (M1.out.own_lt g rfl).2
    have mq2 : Mq g c1 (fun b => w.heap.size + 3 ≤ b ∧ b < w1.heap.size ∧ b ≠ g) l (w1.alloc (.cells #[.int .i64 0, .string ⟨#[]⟩, .int .i64 0, .int .i64 0, .int .u64 0, .string ⟨#[]⟩, .slice none 0 0, .int .i64 0, .int .i64 0, .string ⟨#[]⟩, .int .i64 0, .int .i64 0, .int .i64 0] 30)) := mq1.to (ba.block g hgl) (fun b hb => ⟨⟨hb.1, hb.2.1, fun e => hb.2.2 (by rw [e]; rfl)⟩, ba.block b hb.2.1⟩)
    have HLV : Hid (Calls Try.prog 25 #[.slice (some ⟨g, 0, none⟩) l.length c1, .func (.func 29) #[] #[]] (w1.alloc (.cells #[.int .i64 0, .string ⟨#[]⟩, .int .i64 0, .int .i64 0, .int .u64 0, .string ⟨#[]⟩, .slice none 0 0, .int .i64 0, .int .i64 0, .string ⟨#[]⟩, .int .i64 0, .int .i64 0, .int .i64 0] 30)) fun e w' => ∃ (k : Nat) (y : Ms) (dy : Bo), Best true (prl l) l.length k ∧ l[k]? = some y ∧ e = .returned (.tuple #[.slice (some ⟨g, 0, none⟩) (l.length - 1) c1, .agg (y.cs dy)]) ∧ Mq g c1 (fun b => w.heap.size + 3 ≤ b ∧ b < w1.heap.size ∧ b ≠ g) (l.eraseIdx k) w' ∧ Rz (fun b => w.heap.size + 3 ≤ b ∧ b < w1.heap.size ∧ b ≠ g) w' y.n dy.vs y.t ∧ Ke g (w1.alloc (.cells #[.int .i64 0, .string ⟨#[]⟩, .int .i64 0, .int .i64 0, .int .u64 0, .string ⟨#[]⟩, .slice none 0 0, .int .i64 0, .int .i64 0, .string ⟨#[]⟩, .int .i64 0, .int .i64 0, .int .i64 0] 30)) w') := leave_any true g c1 l.length _ l _ mq2 rfl hpos (by omega) (fun b hb => ⟨by have := hb.2.1; simp; omega, hb.2.2⟩)
    have T1 := Bk.new w1 #[.int .i64 0, .string ⟨#[]⟩, .int .i64 0, .int .i64 0, .int .u64 0, .string ⟨#[]⟩, .slice none 0 0, .int .i64 0, .int .i64 0, .string ⟨#[]⟩, .int .i64 0, .int .i64 0, .int .i64 0] 30
    have HBX : Hid (∀ w4, Ke g (w1.alloc (.cells #[.int .i64 0, .string ⟨#[]⟩, .int .i64 0, .int .i64 0, .int .u64 0, .string ⟨#[]⟩, .slice none 0 0, .int .i64 0, .int .i64 0, .string ⟨#[]⟩, .int .i64 0, .int .i64 0, .int .i64 0] 30)) w4 → Bk w4 w.heap.size #[.slice (some ⟨g, 0, none⟩) l.length c1, .int .i64 r, .int .i64 dr] 24 ∧ Bk w4 (w.heap.size + 1) #[.slice none 0 0, .int .i64 0, .int .i64 0] 24 ∧ Bk w4 (w.heap.size + 1 + 1) #[.int .i64 0, .string ⟨#[]⟩, .int .i64 0, .int .i64 0, .int .u64 0, .string ⟨#[]⟩, .slice none 0 0, .int .i64 0, .int .i64 0, .string ⟨#[]⟩, .int .i64 0, .int .i64 0, .int .i64 0] 30 ∧ Bk w4 w1.heap.size #[.int .i64 0, .string ⟨#[]⟩, .int .i64 0, .int .i64 0, .int .u64 0, .string ⟨#[]⟩, .slice none 0 0, .int .i64 0, .int .i64 0, .string ⟨#[]⟩, .int .i64 0, .int .i64 0, .int .i64 0] 30 ∧ Below w.heap.size w w4) := fun w4 ke =>
      ⟨(ke.block _ (by simp; omega) (by omega)).trans (Q1.alloc _), (ke.block _ (by simp; omega) (by omega)).trans (RQ1.alloc _), (ke.block _ (by simp; omega) (by omega)).trans (RM1.alloc _), (ke.block _ (by simp) (by omega)).trans T1, Ke.below (BW1.trans (ba.mono (by omega))) ke (by omega) (by simp; omega)⟩
    obtain ⟨k0, k1, k2⟩ := Q1.c3
    obtain ⟨j0, j1, j2⟩ := (Q1.alloc (.cells #[.int .i64 0, .string ⟨#[]⟩, .int .i64 0, .int .i64 0, .int .u64 0, .string ⟨#[]⟩, .slice none 0 0, .int .i64 0, .int .i64 0, .string ⟨#[]⟩, .int .i64 0, .int .i64 0, .int .i64 0] 30)).c3
    have hne0 : ((l.length : Int) == 0) = false := by simpa using h0
    have hne1 : ¬ l.length = 0 := by omega
    have HW2 := Lib.hid HW1.out.symm
    have L0 := Lib.hid h0
    clear Q1 RQ1 RM1 BW1 M1 mq1 mq2 ba T1 h0
    go_wp2_with (rw [HW2.out])
    refine HLV.out.mono ?_
    rintro e w4 ⟨k, y, dy, hb, hy, rfl, mq4, rz4, ke4⟩
    obtain ⟨hq4, hrq4, hrm4, ht4, bw4⟩ := HBX.out w4 ke4
    have hs4 := ke4.size
    simp only [World.size_alloc] at hs4
    obtain ⟨X, hX⟩ : ∃ X, X = (((((((((((((w4.setCell ⟨w.heap.size, 0, none⟩ (.slice (some ⟨g, 0, none⟩) (l.length - 1) c1)).setCell ⟨w1.heap.size, 0, none⟩ (.int .i64 y.id)).setCell ⟨w1.heap.size, 1, none⟩ (.string y.tp)).setCell ⟨w1.heap.size, 2, none⟩ (.int .i64 dy.k)).setCell ⟨w1.heap.size, 3, none⟩ (.int .i64 dy.i)).setCell ⟨w1.heap.size, 4, none⟩ (.int .u64 dy.u)).setCell ⟨w1.heap.size, 5, none⟩ (.string dy.s)).setCell ⟨w1.heap.size, 6, none⟩ (.slice dy.a dy.l dy.c)).setCell ⟨w1.heap.size, 7, none⟩ (.int .i64 y.ti)).setCell ⟨w1.heap.size, 8, none⟩ (.int .i64 y.un)).setCell ⟨w1.heap.size, 9, none⟩ (.string y.rp)).setCell ⟨w1.heap.size, 10, none⟩ (.int .i64 y.co)).setCell ⟨w1.heap.size, 11, none⟩ (.int .i64 y.pr)).setCell ⟨w1.heap.size, 12, none⟩ (.int .i64 y.ho) := ⟨_, rfl⟩
    have Q5 : Bk X.drew w.heap.size #[.slice (some ⟨g, 0, none⟩) (l.length - 1) c1, .int .i64 r, .int .i64 dr] 24 := Bk.drew (by rw [hX]; exact Bk.set13 (hq4.set 0 _) (by omega) _ _ _ _ _ _ _ _ _ _ _ _ _)
    have M5 : Bk X.drew w1.heap.size #[.int .i64 y.id, .string y.tp, .int .i64 dy.k, .int .i64 dy.i, .int .u64 dy.u, .string dy.s, .slice dy.a dy.l dy.c, .int .i64 y.ti, .int .i64 y.un, .string y.rp, .int .i64 y.co, .int .i64 y.pr, .int .i64 y.ho] 30 := Bk.drew (by rw [hX]; exact Bk.full13 (ht4.other _ _ (by show w1.heap.size ≠ w.heap.size; omega)) _ _ _ _ _ _ _ _ _ _ _ _ _)
    have RQ5 : Bk X.drew (w.heap.size + 1) #[.slice none 0 0, .int .i64 0, .int .i64 0] 24 := Bk.drew (by rw [hX]; exact Bk.set13 (hrq4.other _ _ (by show w.heap.size + 1 ≠ w.heap.size; omega)) (by omega) _ _ _ _ _ _ _ _ _ _ _ _ _)
    have RM5 : Bk X.drew (w.heap.size + 1 + 1) #[.int .i64 0, .string ⟨#[]⟩, .int .i64 0, .int .i64 0, .int .u64 0, .string ⟨#[]⟩, .slice none 0 0, .int .i64 0, .int .i64 0, .string ⟨#[]⟩, .int .i64 0, .int .i64 0, .int .i64 0] 30 := Bk.drew (by rw [hX]; exact Bk.set13 (hrm4.other _ _ (by show w.heap.size + 1 + 1 ≠ w.heap.size; omega)) (by omega) _ _ _ _ _ _ _ _ _ _ _ _ _)
    have hXh0 : ∀ b, w.heap.size + 3 ≤ b → b ≠ w1.heap.size → X.heap[b]? = w4.heap[b]? := fun b hb hb2 => by
      rw [hX, set13_heap _ _ _ hb2, Below.heap_setCell _ _ _ _ (by show b ≠ w.heap.size; omega)]
    have hXh : ∀ b, w.heap.size + 3 ≤ b → b ≠ w1.heap.size → X.drew.heap[b]? = w4.heap[b]? := hXh0
    have hXs0 : X.heap.size = w4.heap.size := by rw [hX]; simp only [World.size_setCell]
    have hXs : X.drew.heap.size = w4.heap.size := hXs0
    have BW0 : Below w.heap.size w X := by rw [hX]; exact below_set13 (bw4.setCell (Nat.le_refl _) _) (by omega) _ _ _ _ _ _ _ _ _ _ _ _ _
    have BW5 : Hid (Below w.heap.size w X.drew) := BW0.drew
    have fr : ∀ b, (w.heap.size + 3 ≤ b ∧ b < w1.heap.size ∧ b ≠ g) → (w.heap.size + 3 ≤ b ∧ b < X.drew.heap.size) ∧ X.drew.heap[b]? = w4.heap[b]? := fun b hb => ⟨⟨hb.1, by omega⟩, hXh b hb.1 (by omega)⟩
    have M4 : Hid (Mz (fun b => w.heap.size + 3 ≤ b ∧ b < X.drew.heap.size) X.drew (some ⟨g, 0, none⟩) (l.eraseIdx k)) := (mq4.to (hXh g hg (by omega)) fr).mz ⟨hg, by have := mq4.lt; omega⟩ (fun b hb => hb)
    have R4 : Hid (Rz (fun b => w.heap.size + 3 ≤ b ∧ b < X.drew.heap.size) X.drew y.n dy.vs y.t) := Rz.to fr _ _ _ rz4
    have HN : Hid (l.length - 1 = (l.eraseIdx k).length) := Lib.hid (by rw [List.length_eraseIdx_of_lt hb.1])
    have HB := Lib.hid hb
    have HY := Lib.hid hy
    clear k0 k1 k2 j0 j1 j2 q0 q1 q2 qf
    obtain ⟨q0, q1, q2⟩ := hq4.c3
    have qf := hq4.f
    obtain ⟨y0, y1, y2, y3, y4, y5, y6, y7, y8, y9, y10, y11, y12⟩ := ht4.c13
    have yf := ht4.f
    have HX := Lib.hid hX
    clear hb hy mq4 rz4 ke4 hq4 hrq4 hrm4 ht4 bw4 hX hXh0 hXh hXs0 hXs BW0 fr HLV HBX HW2 HW1
    go_wp2_with fail
    rw [← HX.out]
    clear HX q0 q1 q2 qf y0 y1 y2 y3 y4 y5 y6 y7 y8 y9 y10 y11 y12 yf
    have XS : Hid (∀ wx, Bk wx (w.heap.size) #[.slice (some ⟨g, 0, none⟩) (l.length - 1) c1, .int .i64 r, .int .i64 dr] 24 → Bk wx (w1.heap.size) #[.int .i64 y.id, .string y.tp, .int .i64 dy.k, .int .i64 dy.i, .int .u64 dy.u, .string dy.s, .slice dy.a dy.l dy.c, .int .i64 y.ti, .int .i64 y.un, .string y.rp, .int .i64 y.co, .int .i64 y.pr, .int .i64 y.ho] 30 → ((wx.cell? ⟨w.heap.size, 0, none⟩ = some (.slice (some ⟨g, 0, none⟩) (l.length - 1) c1) ∧ wx.cell? ⟨w.heap.size, 1, none⟩ = some (.int .i64 r) ∧ wx.cell? ⟨w.heap.size, 2, none⟩ = some (.int .i64 dr)) ∧ (wx.cell? ⟨w1.heap.size, 0, none⟩ = some (.int .i64 y.id) ∧ wx.cell? ⟨w1.heap.size, 1, none⟩ = some (.string y.tp) ∧ wx.cell? ⟨w1.heap.size, 2, none⟩ = some (.int .i64 dy.k) ∧ wx.cell? ⟨w1.heap.size, 3, none⟩ = some (.int .i64 dy.i) ∧ wx.cell? ⟨w1.heap.size, 4, none⟩ = some (.int .u64 dy.u) ∧ wx.cell? ⟨w1.heap.size, 5, none⟩ = some (.string dy.s) ∧ wx.cell? ⟨w1.heap.size, 6, none⟩ = some (.slice dy.a dy.l dy.c) ∧ wx.cell? ⟨w1.heap.size, 7, none⟩ = some (.int .i64 y.ti) ∧ wx.cell? ⟨w1.heap.size, 8, none⟩ = some (.int .i64 y.un) ∧ wx.cell? ⟨w1.heap.size, 9, none⟩ = some (.string y.rp) ∧ wx.cell? ⟨w1.heap.size, 10, none⟩ = some (.int .i64 y.co) ∧ wx.cell? ⟨w1.heap.size, 11, none⟩ = some (.int .i64 y.pr) ∧ wx.cell? ⟨w1.heap.size, 12, none⟩ = some (.int .i64 y.ho)))) := fun wx h h2 => ⟨h.c3, h2.c13⟩
    refine wp_region_held_drew (S := (fun wx => (wx.cell? ⟨w.heap.size, 0, none⟩ = some (.slice (some ⟨g, 0, none⟩) (l.length - 1) c1) ∧ wx.cell? ⟨w.heap.size, 1, none⟩ = some (.int .i64 r) ∧ wx.cell? ⟨w.heap.size, 2, none⟩ = some (.int .i64 dr)) ∧ (wx.cell? ⟨w1.heap.size, 0, none⟩ = some (.int .i64 y.id) ∧ wx.cell? ⟨w1.heap.size, 1, none⟩ = some (.string y.tp) ∧ wx.cell? ⟨w1.heap.size, 2, none⟩ = some (.int .i64 dy.k) ∧ wx.cell? ⟨w1.heap.size, 3, none⟩ = some (.int .i64 dy.i) ∧ wx.cell? ⟨w1.heap.size, 4, none⟩ = some (.int .u64 dy.u) ∧ wx.cell? ⟨w1.heap.size, 5, none⟩ = some (.string dy.s) ∧ wx.cell? ⟨w1.heap.size, 6, none⟩ = some (.slice dy.a dy.l dy.c) ∧ wx.cell? ⟨w1.heap.size, 7, none⟩ = some (.int .i64 y.ti) ∧ wx.cell? ⟨w1.heap.size, 8, none⟩ = some (.int .i64 y.un) ∧ wx.cell? ⟨w1.heap.size, 9, none⟩ = some (.string y.rp) ∧ wx.cell? ⟨w1.heap.size, 10, none⟩ = some (.int .i64 y.co) ∧ wx.cell? ⟨w1.heap.size, 11, none⟩ = some (.int .i64 y.pr) ∧ wx.cell? ⟨w1.heap.size, 12, none⟩ = some (.int .i64 y.ho)))) (by kernel_rfl) (XS.out _ Q5 M5) (fun hHeld => ?_)
    generalize X.drew = v9 at *
    refine wpAnyH_take (i := 0) (oi := { dst := some 21, op := Op.load 24 (Operand.tmp 1), type := 24, pos := _, after := #[], guard := none }) (v := ?tft1) rfl (by kernel_rfl) (by kernel_rfl) (by kernel_rfl) (fun _ _ _ h => h) (Or.inl ⟨by rfl, ?uft1⟩) (by assumption) ?rft1
    case uft1 => (intro w hSw; (try dsimp only at hSw); go_simp; (try with_reducible rfl))
    simp only [Act.put, List.setIfInBounds_toArray, List.set_cons_zero, List.set_cons_succ]
    refine wpAnyH_take (i := 1) (oi := { dst := some 22, op := Op.load 30 (Operand.tmp 5), type := 30, pos := _, after := #[{ on := 2, ground := Ground.gcOnly Departure.lateStores }], guard := none }) (v := ?tft2) rfl (by kernel_rfl) (by kernel_rfl) (by kernel_rfl) (fun _ _ _ h => h) (Or.inl ⟨by rfl, ?uft2⟩) (by assumption) ?rft2
    case uft2 => (intro w hSw; (try dsimp only at hSw); go_simp; (try with_reducible rfl))
    simp only [Act.put, List.setIfInBounds_toArray, List.set_cons_zero, List.set_cons_succ]
    refine wpAnyH_ready (rs := [2]) (by kernel_rfl) (by simp) ?_
    refine AllReadyH.cons (o := { dst := none, op := Op.store 24 (Operand.tmp 2) (Operand.tmp 21), type := 0, pos := _, after := #[{ on := 0, ground := Ground.data }, { on := 0, ground := Ground.phase }, { on := 1, ground := Ground.textOnly Departure.lateStores }], guard := none }) rfl (fun K hK => ?_) AllReadyH.nil
    obtain ⟨p0, p1, p2⟩ := RQ5.c3
    have pf := RQ5.f
    go_simp
    refine hK.out _ _ (XS.out _ (Bk.set3 Q5 (by omega) _ _ _) (Bk.set3 M5 (by omega) _ _ _)) (fun hH18 => ?_)
    clear p0 p1 p2 pf
    clear hK K
    (try simp only [Act.put, List.setIfInBounds_toArray, List.set_cons_zero, List.set_cons_succ])
    refine wpAnyH_ready (rs := [3]) (by kernel_rfl) (by simp) ?_
    refine AllReadyH.cons (o := { dst := none, op := Op.store 30 (Operand.tmp 3) (Operand.tmp 22), type := 0, pos := _, after := #[{ on := 1, ground := Ground.data }, { on := 2, ground := Ground.chain }, { on := 0, ground := Ground.phase }, { on := 1, ground := Ground.phase }, { on := 2, ground := Ground.phase }], guard := none }) rfl (fun K hK => ?_) AllReadyH.nil
    obtain ⟨p0, p1, p2, p3, p4, p5, p6, p7, p8, p9, p10, p11, p12⟩ := (Bk.set3 (M := w.heap.size + 1) RM5 (by omega) (.slice (some ⟨g, 0, none⟩) (l.length - 1) c1) (.int .i64 r) (.int .i64 dr)).c13
    have pf := (Bk.set3 (M := w.heap.size + 1) RM5 (by omega) (.slice (some ⟨g, 0, none⟩) (l.length - 1) c1) (.int .i64 r) (.int .i64 dr)).f
    go_simp
    refine hK.out _ _ (XS.out _ (Bk.set13 (Bk.set3 Q5 (by omega) _ _ _) (by omega) _ _ _ _ _ _ _ _ _ _ _ _ _) (Bk.set13 (Bk.set3 M5 (by omega) _ _ _) (by omega) _ _ _ _ _ _ _ _ _ _ _ _ _)) (fun hH19 => ?_)
    clear p0 p1 p2 p3 p4 p5 p6 p7 p8 p9 p10 p11 p12 pf
    clear hK K
    (try simp only [Act.put, List.setIfInBounds_toArray, List.set_cons_zero, List.set_cons_succ])
    refine wpAnyH_take (i := 4) (oi := { dst := some 4, op := Op.assign (Operand.const (Value.bool true)), type := 4, pos := _, after := #[{ on := 3, ground := Ground.chain }, { on := 0, ground := Ground.phase }, { on := 1, ground := Ground.phase }, { on := 2, ground := Ground.phase }, { on := 3, ground := Ground.phase }], guard := none }) (v := ?tft3) rfl (by kernel_rfl) (by kernel_rfl) (by kernel_rfl) (fun _ _ _ h => h) (Or.inl ⟨by rfl, ?uft3⟩) (by assumption) ?rft3
    case uft3 => (intro w hSw; (try dsimp only at hSw); go_simp; (try with_reducible rfl))
    simp only [Act.put, List.setIfInBounds_toArray, List.set_cons_zero, List.set_cons_succ]
    refine wpAnyH_done (by kernel_rfl) ?_ _
    go_wp2_with fail
    obtain ⟨p0, p1, p2⟩ := RQ5.c3
    obtain ⟨g0, g1, g2, g3, g4, g5, g6, g7, g8, g9, g10, g11, g12⟩ := RM5.c13
    exact bodyPost_ret (v := .tuple #[.agg #[.slice (some ⟨g, 0, none⟩) (l.length - 1) c1, .int .i64 r, .int .i64 dr], .agg (y.cs dy), .bool true]) (by simp [results, Try.results14, go_sem, World.cell?_setCell_same, World.cell?_setCell_other, p0, p1, p2, g0, g1, g2, g3, g4, g5, g6, g7, g8, g9, g10, g11, g12]) rfl (TOP.out k y _ _ HB.out HY.out (TaP.of HN.out (Nat.le_add_right _ _) M4.out R4.out (below_set13 (below_set3 BW5.out (by omega) _ _ _) (by omega) _ _ _ _ _ _ _ _ _ _ _ _ _) (by simp) (fun g hg => by rw [set13_heap _ _ _ (by omega), set3_heap _ _ _ (by omega)])))
end Go.Proofs.Ytdgjhclncjoonaa
