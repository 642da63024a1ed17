/- None is lost untold: the law by its contracts; the conditions: what lies in memory. -/
import Derived.Test.YtdgjhclncjoonaaQo
import Derived.Deep.Cut
import Derived.Deep.CutRange
namespace Go.Proofs.Ytdgjhclncjoonaa
open Go.RowKit

/-- What holds of the messages that wait. -/
structure In (n j : Nat) (room : Int) (l : List Ms) (ft : Nat → Int) (lm : List (Int × Int)) : Prop where
  v : Lv l j
  f : Ft n j l ft
  s : Lz l (lw lm)
  k : ∀ p, lw lm p ≤ (j : Int)
  c : (l.length : Int) ≤ room
theorem In.all {n j : Nat} {room : Int} {l : List Ms} {ft : Nat → Int} {lm : List (Int × Int)} (h : In n j room l ft lm) (p : Int) : Lz (l ++ [mN ((j : Int) + 1) p]) (lw lm) := fun x hx => by
  rcases List.mem_append.1 hx with hx | hx
  · exact h.s x hx
  · simp at hx
    subst hx
    have := h.k p
    simp [mN]
    omega
theorem In.put {n j : Nat} {room : Int} {l : List Ms} {ft : Nat → Int} {lm : List (Int × Int)} (h : In n j room l ft lm) (p : Int) (hr : (l.length : Int) < room) : In n (j + 1) room (l ++ [mN ((j : Int) + 1) p]) ft lm :=
  ⟨h.v.put p, h.f.put p, h.all p, fun q => by have := h.k q; omega, by simp; omega⟩
theorem In.gone {n j : Nat} {room : Int} {l : List Ms} {ft : Nat → Int} {lm : List (Int × Int)} (h : In n j room l ft lm) (p : Int) (hj : j < n) (k : Nat) (y : Ms) (hy : (l ++ [mN ((j : Int) + 1) p])[k]? = some y) :
    ∃ i : Nat, y.id = (i : Int) + 1 ∧ i < n ∧ ft i = 0 ∧ In n (j + 1) room ((l ++ [mN ((j : Int) + 1) p]).eraseIdx k) (inc ft i) lm := by
  obtain ⟨i, q, e, hi, h0, hf⟩ := (h.f.put p).out (h.v.put p) hy (by omega)
  have hk : k < (l ++ [mN ((j : Int) + 1) p]).length := (List.getElem?_eq_some_iff.1 hy).1
  refine ⟨i, by rw [e]; rfl, hi, h0, (h.v.put p).out k, hf, (h.all p).sub fun x hx => List.mem_of_mem_eraseIdx hx, fun q => by have := h.k q; omega, ?_⟩
  rw [List.length_eraseIdx_of_lt hk]
  have := h.c
  simp
  omega
theorem In.lost {n j : Nat} {room : Int} {l : List Ms} {ft : Nat → Int} {lm : List (Int × Int)} (h : In n j room l ft lm) (hj : j < n) : ft j = 0 ∧ In n (j + 1) room l (inc ft j) lm :=
  ⟨by rw [h.f j hj, if_neg (by omega)], h.v.more, h.f.lost h.v, h.s, fun q => by have := h.k q; omega, h.c⟩
theorem In.take {n j : Nat} {room : Int} {l : List Ms} {ft : Nat → Int} {lm : List (Int × Int)} (h : In n j room l ft lm) (hj : j ≤ n) (k : Nat) (y : Ms) (hb : Best true (prl l) l.length k) (hy : l[k]? = some y) :
    ∃ i : Nat, y.id = (i : Int) + 1 ∧ i < n ∧ ft i = 0 ∧ lw lm y.pr < y.id ∧ ∀ lm', (∀ q, lw lm' q = if q = y.pr then y.id else lw lm q) → In n j room (l.eraseIdx k) (inc ft i) lm' := by
  obtain ⟨i, q, e, hi, h0, hf⟩ := h.f.out h.v hy hj
  obtain ⟨i2, q2, e2, hi2⟩ := h.v.1 y (List.mem_of_getElem? hy)
  refine ⟨i, by rw [e]; rfl, hi, h0, h.s y (List.mem_of_getElem? hy), fun lm' hu => ⟨h.v.out k, hf, (h.s.take h.v hb hy hu).2, fun p => ?_, ?_⟩⟩
  · rw [hu]
    split
    · rw [e2]; simp [mN]; omega
    · exact h.k p
  · have hk : k < l.length := (List.getElem?_eq_some_iff.1 hy).1
    rw [List.length_eraseIdx_of_lt hk]
    have := h.c
    omega
/-- A row of bools in memory. -/
def Tk (w : World) (ad : Option Addr) (l : List Bool) : Prop := l = [] ∨ ∃ g o, ad = some ⟨g, o, none⟩ ∧ g < w.heap.size ∧ ∀ j b, l[j]? = some b → w.cell? ⟨g, o + j, none⟩ = some (.bool b)
theorem infoI : (Try.prog.info? 3).map (fun i => (i.zero, i.size, i.bytes)) = some (some (.int .i64 0), 1, 8) := by kernel_rfl
theorem infoI_parts : ∃ i0, Try.prog.info? 3 = some i0 ∧ i0.zero = some (.int .i64 0) ∧ i0.size = 1 ∧ i0.bytes = 8 := by
  have h := infoI
  cases hi : Try.prog.info? 3 with
  | none => rw [hi] at h; cases h
  | some i0 =>
    rw [hi] at h
    simp only [Option.map_some, Option.some.injEq, Prod.mk.injEq] at h
    exact ⟨i0, rfl, h.1, h.2.1, h.2.2⟩
theorem Fq.new (w : World) (n : Nat) : Fq (w.alloc (.cells (madeCells (Value.cells (.int .i64 0)) (n * 1)) 3)) w.heap.size n (fun _ => 0) := by
  refine ⟨_, Bk.new w _ _, by rw [size_madeCells, Nat.mul_one], fun i hi => ?_⟩
  unfold madeCells
  rw [Array.getElem?_map, show (Array.range (n * 1))[i]? = some i by simp [hi]]
  show some ((#[.int .i64 0] : Array Value)[i % 1]!) = _
  rw [Nat.mod_one]
  rfl

set_option maxRecDepth 100000 in
set_option maxHeartbeats 8000000 in
theorem law_loses (room drop : Int) (l0 : List Ms) (ad : Option Addr) (cap : Nat) (tk : List Bool) (ad2 : Option Addr) (cap2 : Nat) (w : World) (hl0 : l0.length ≤ maxLen) (hI : Mw w ad l0) (ht : tk.length ≤ maxLen) (hT : Tk w ad2 tk) :
    Calls Try.prog 5 #[.int .i64 room, .int .i64 drop, .slice ad l0.length cap, .slice ad2 tk.length cap2] w fun e w' => e = .returned (.bool true) ∧ Below w.heap.size w w' := by
  obtain ⟨i0, hi0, hze, hsz, hby⟩ := infoI_parts
  have hmk : ∀ (m : Nat) (w : World), m ≤ 200 → (Instr.makeSlice 49 (.int .i64 (m : Int)) (.int .i64 (m : Int))).run Try.prog w = .ok (.slice (some ⟨w.heap.size, 0, none⟩) m m) (w.alloc (.cells (madeCells (Value.cells (.int .i64 0)) (m * 1)) 3)) := fun m w hm => by
    have := run_make (P := Try.prog) w 49 3 i0 _ Try.underlying49 hi0 hze .i64 .i64 (m : Int) (m : Int) (by omega) (Int.le_refl _) (by rw [hby]; omega) (by omega)
    rw [show ((m : Int)).toNat = m by omega, hsz] at this
    exact this
  have HI := Lib.hid hI
  have HT := Lib.hid hT
  unfold maxLen at hl0 ht
  clear hI hT hi0 hze hsz hby
  go_enter Try.func5, Try.ntmps5
  go_upto_region 3 with (fail)
  go_cut [0, 10] from 26 to 34 (fun s0 s10 wc => ∃ (R : Int) (n : Nat), s0 = .int .i64 R ∧ 1 ≤ R ∧ R ≤ 30 ∧ n ≤ l0.length ∧ n ≤ 200 ∧ s10 = .pointer (some ⟨w.heap.size + 1 + 1, 0, none⟩) ∧ Bk wc w.heap.size #[.slice none 0 0, .int .i64 0, .int .i64 0] 24 ∧ Bk wc (w.heap.size + 1 + 1) #[.slice (some ⟨w.heap.size + 1, 0, none⟩) n n] 49 ∧ Fq wc (w.heap.size + 1) n (fun _ => 0) ∧ Below w.heap.size w wc ∧ wc.heap.size = w.heap.size + 1 + 1 + 1)
  case first =>
    have key : ∀ (m : Nat), m ≤ l0.length → m ≤ 200 → ∀ X, X = ((w.alloc (.cells #[.slice none 0 0, .int .i64 0, .int .i64 0] 24)).alloc (.cells (madeCells #[.int .i64 0] m) 3)).alloc (.cells #[.slice (some ⟨w.heap.size + 1, 0, none⟩) m m] 49) → Bk X w.heap.size #[.slice none 0 0, .int .i64 0, .int .i64 0] 24 ∧ Bk X (w.heap.size + 1 + 1) #[.slice (some ⟨w.heap.size + 1, 0, none⟩) m m] 49 ∧ Fq X (w.heap.size + 1) m (fun _ => 0) ∧ Below w.heap.size w X ∧ X.heap.size = w.heap.size + 1 + 1 + 1 := fun m _ hm X hX => by
      subst hX
      refine ⟨((Bk.new w _ _).alloc _).alloc _, ?_, ?_, (below2 w _ _).alloc (by simp; omega) _, by simp⟩
      · have := Bk.new2 (w.alloc (.cells #[.slice none 0 0, .int .i64 0, .int .i64 0] 24)) (.cells (madeCells #[.int .i64 0] m) 3) #[.slice (some ⟨w.heap.size + 1, 0, none⟩) m m] 49
        simpa only [World.size_alloc] using this
      · have := Fq.new (w.alloc (.cells #[.slice none 0 0, .int .i64 0, .int .i64 0] 24)) m
        rw [World.size_alloc, Nat.mul_one] at this
        exact this.heap ((below1 _ _).block _ (by simp))
    have hR : ∃ R : Int, wrap64 (1 + wrap64 ((IntKind.u64.wrap room).tmod 30)) = R ∧ 1 ≤ R ∧ R ≤ 30 := by
      refine ⟨_, rfl, ?_⟩
      rw [Int.tmod_eq_emod_of_nonneg (wrap_u64_nonneg room)]
      unfold wrap64
      omega
    have KEY := Lib.hid key
    have HR := Lib.hid hR
    by_cases hc : 200 < l0.length
    · have h2 : ∀ w : World, (Instr.makeSlice 49 (.int .i64 200) (.int .i64 200)).run Try.prog w = .ok (.slice (some ⟨w.heap.size, 0, none⟩) 200 200) (w.alloc (.cells (madeCells (Value.cells (.int .i64 0)) (200 * 1)) 3)) := fun w => hmk 200 w (by decide)
      have hc2 : (200 : Int) < (l0.length : Int) := by omega
      clear hmk hR key
      go_wp2_with fail
      go_meet
      obtain ⟨R, e, r1, r2⟩ := HR.out
      exact ⟨R, 200, by rw [e], r1, r2, by omega, Nat.le_refl _, rfl, KEY.out 200 (by omega) (Nat.le_refl _) _ rfl⟩
    · have h2 := fun w => hmk l0.length w (by omega)
      have hc2 : ¬ (200 : Int) < (l0.length : Int) := by omega
      clear hmk hR key
      go_wp2_with fail
      go_meet
      obtain ⟨R, e, r1, r2⟩ := HR.out
      exact ⟨R, l0.length, by rw [e], r1, r2, Nat.le_refl _, by omega, rfl, KEY.out l0.length (Nat.le_refl _) (by omega) _ rfl⟩
  case rest =>
    obtain ⟨R, n, rfl, hR1, hR2, hn1, hn2, rfl, hq, hf, ht0, hb, hs⟩ := hcut
    obtain ⟨W, hW⟩ : ∃ W, W = wc.alloc (.map #[] 0) := ⟨_, rfl⟩
    have bW : Below wc.heap.size wc W := by rw [hW]; exact below1 wc _
    have L0 : Lo w n [] none 0 0 0 (fun _ => 0) [] W := by
      refine ⟨hb.trans (bW.mono (by omega)), by rw [hW]; simp; omega, hq.step bW, .inl rfl, hf.step bW, ht0.heap (bW.block _ ht0.lt), #[], 0, ?_, rfl⟩
      rw [hW, ← hs]
      exact heap_alloc_new wc _
    have I0 : In n 0 R [] (fun _ => 0) [] := ⟨⟨fun x hx => by simp at hx, List.Pairwise.nil⟩, fun i hi => by simp, fun x hx => by simp at hx, fun p => by simp [lw], by simp; omega⟩
    have f0 : W.cell? ⟨w.heap.size + 1 + 1, 0, none⟩ = some (.slice (some ⟨w.heap.size + 1, 0, none⟩) n n) := (hf.step bW).c 0
    have HW := Lib.hid hW.symm
    have LL := Lib.hid L0
    have II := Lib.hid I0
    have hws : w.heap.size + 1 + 1 + 1 = wc.heap.size := hs.symm
    have HS := Lib.hid hws
    clear hq hf ht0 hb hs bW L0 I0 hW hmk hws
    have hmm : (Instr.makeMap 50 none).run Try.prog wc = .ok (.map (some (w.heap.size + 1 + 1 + 1))) W := by
      rw [HS.out, ← HW.out]
      simp [Instr.makeMap]
    go_wp2_with fail
    go_loopw [39] (fun s39 wr => ∃ (j : Nat) (l : List Ms) (a : Option Addr) (c : Nat) (r dr : Int) (ft : Nat → Int) (lm : List (Int × Int)), s39 = .int .i64 j ∧ j ≤ n ∧ Lo w n l a c r dr ft lm wr ∧ In n j R l ft lm ∧ 0 ≤ r ∧ r ≤ j ∧ 0 ≤ dr ∧ dr ≤ j) (fun s39 _ => n - (intOf s39).toNat)
    case atStart => exact ⟨0, [], none, 0, 0, 0, _, [], rfl, Nat.zero_le _, LL.out, II.out, by omega, by omega, by omega, by omega⟩
    case round =>
      obtain ⟨j, l, a, c, r, dr, ft, lm, rfl, hj, lo, inv, hr0, hr1, hd0, hd1⟩ := hrel
      have hz := lo.z
      by_cases hlt : j < n
      · have hne : l0 ≠ [] := by intro e; rw [e] at hn1; simp at hn1; omega
        rcases HI.out with h | ⟨b, o, hb, hbl, h2⟩
        · exact absurd h hne
        subst hb
        obtain ⟨x0, hx0⟩ : ∃ x, l0[j]? = some x := ⟨_, List.getElem?_eq_getElem (by omega)⟩
        obtain ⟨d0, cc, -⟩ := h2 j x0 hx0
        obtain ⟨p, hp⟩ : ∃ p, p = x0.pr := ⟨_, rfl⟩
        have y11 : wr.cell? ⟨b, o + j * 13 + 11, none⟩ = some (.int .i64 p) := by rw [hp]; exact (cc.heap (lo.b.block b hbl)).2.2.2.2.2.2.2.2.2.2.2.1
        have j0 : (0 : Int) ≤ (j : Int) := by omega
        have j1 : (j : Int) < (l0.length : Int) := by omega
        have j2 : (j : Int) < (n : Int) := by omega
        obtain ⟨w1, hw1⟩ : ∃ w1, w1 = wr.alloc (.cells #[.int .i64 ((j : Int) + 1), .string ⟨#[]⟩, .int .i64 0, .int .i64 0, .int .u64 0, .string ⟨#[]⟩, .slice none 0 0, .int .i64 0, .int .i64 0, .string ⟨#[]⟩, .int .i64 0, .int .i64 p, .int .i64 0] 30) := ⟨_, rfl⟩
        have bw1 : Below wr.heap.size wr w1 := by rw [hw1]; exact below1 wr _
        have X1 : Bk w1 wr.heap.size #[.int .i64 ((j : Int) + 1), .string ⟨#[]⟩, .int .i64 0, .int .i64 0, .int .u64 0, .string ⟨#[]⟩, .slice none 0 0, .int .i64 0, .int .i64 0, .string ⟨#[]⟩, .int .i64 0, .int .i64 p, .int .i64 0] 30 := by rw [hw1]; exact Bk.new wr _ _
        have hs1 : w1.heap.size = wr.heap.size + 1 := by rw [hw1]; simp
        have lo1 := lo.step bw1
        have hsm : Sm (l ++ [mN ((j : Int) + 1) p]) := fun y hy => by
          obtain ⟨i, q, rfl, -⟩ := (inv.v.put p).1 y hy
          exact mN_pts _ _
        have HP := qput_any l a c r dr R drop (mN ((j : Int) + 1) p) zD w1 (by have := inv.c; omega) lo1.m.mw hsm (mN_rep _ _ _) hr0 (by omega) hd0 (by omega)
        have HK : Hid (Calls Try.prog 10 #[.agg #[.slice a l.length c, .int .i64 r, .int .i64 dr], .int .i64 R, .int .i64 drop, .agg #[.int .i64 ((j : Int) + 1), .string ⟨#[]⟩, .int .i64 0, .int .i64 0, .int .u64 0, .string ⟨#[]⟩, .slice none 0 0, .int .i64 0, .int .i64 0, .string ⟨#[]⟩, .int .i64 0, .int .i64 p, .int .i64 0]] w1 fun e w' => (∃ l2 r2 d2, PuP w1 l2 r2 d2 mZ false 0 e w' ∧ In n (j + 1) R l2 ft lm ∧ 0 ≤ r2 ∧ r2 ≤ j + 1 ∧ 0 ≤ d2 ∧ d2 ≤ j + 1) ∨ (∃ (l2 : List Ms) (r2 d2 : Int) (y : Ms) (i : Nat), PuP w1 l2 r2 d2 y true 0 e w' ∧ y.id = (i : Int) + 1 ∧ i < n ∧ ft i = 0 ∧ In n (j + 1) R l2 (inc ft i) lm ∧ 0 ≤ r2 ∧ r2 ≤ j + 1 ∧ 0 ≤ d2 ∧ d2 ≤ j + 1) ∨ (∃ l2 r2 d2, PuP w1 l2 r2 d2 mZ false 190 e w' ∧ ft j = 0 ∧ In n (j + 1) R l2 (inc ft j) lm ∧ 0 ≤ r2 ∧ r2 ≤ j + 1 ∧ 0 ≤ d2 ∧ d2 ≤ j + 1)) := HP.mono fun e w' hh => by
          by_cases c1 : (l.length : Int) < R
          · exact .inl ⟨_, _, _, hh.1 c1, inv.put p c1, by omega, by omega, by omega, by omega⟩
          · obtain ⟨k1, k2, k3⟩ := hh.2 c1
            by_cases c2 : drop = 0
            · have hy : (l ++ [mN ((j : Int) + 1) p])[l.length]? = some (mN ((j : Int) + 1) p) := by simp
              obtain ⟨i, e1, e2, e3, e4⟩ := inv.gone p hlt l.length _ hy
              rw [show (l ++ [mN ((j : Int) + 1) p]).eraseIdx l.length = l by simp [List.eraseIdx_append_of_length_le]] at e4
              exact .inr (.inl ⟨_, _, _, _, i, k1 c2, e1, e2, e3, e4, by omega, by omega, by omega, by omega⟩)
            · by_cases c3 : drop = 1
              · obtain ⟨k, y, hb', hy, hpu⟩ := k2 c3
                obtain ⟨i, e1, e2, e3, e4⟩ := inv.gone p hlt k y hy
                exact .inr (.inl ⟨_, _, _, _, i, hpu, e1, e2, e3, e4, by omega, by omega, by omega, by omega⟩)
              · obtain ⟨e1, e2⟩ := inv.lost hlt
                exact .inr (.inr ⟨_, _, _, k3 c2 c3, e1, e2, by omega, by omega, by omega, by omega⟩)
        obtain ⟨q0, q1, q2⟩ := lo1.q.c3
        obtain ⟨x0', x1', x2', x3', x4', x5', x6', x7', x8', x9', x10', x11', x12'⟩ := X1.c13
        have LO1 := Lib.hid lo1
        have HW1 := Lib.hid hw1.symm
        have INV := Lib.hid inv
        clear HP hsm lo lo1 bw1 X1 hw1 h2 cc hx0 hp HI hne inv
        go_wp2_with (rw [HW1.out])
        refine HK.out.mono ?_
        rintro e w2 (⟨l2, r2, d2, ⟨a2, c2, g2, rfl, m2, -, b2⟩, in2, hr2, hr3, hd2, hd3⟩ | ⟨l2, r2, d2, y, i, ⟨a2, c2, g2, rfl, m2, -, b2⟩, ey, hi, hf0, in2, hr2, hr3, hd2, hd3⟩ | ⟨l2, r2, d2, ⟨a2, c2, g2, rfl, m2, -, b2⟩, hf0, in2, hr2, hr3, hd2, hd3⟩)
        · have hz1 : w.heap.size + 4 ≤ w1.heap.size := by omega
          have lo2 := LO1.out.step b2
          have m2' : Mz (fun g => w.heap.size + 4 ≤ g ∧ g < w2.heap.size) w2 a2 l2 := Mz.to m2 fun g hg => ⟨⟨by omega, hg.2⟩, rfl⟩
          have hs2 := b2.size
          clear q0 q1 q2 x0' x1' x2' x3' x4' x5' x6' x7' x8' x9' x10' x11' x12' HK HW1 m2
          rw [show (Value.agg (mZ.cs g2)) = .agg #[.int .i64 0, .string ⟨#[]⟩, .int .i64 g2.k, .int .i64 g2.i, .int .u64 g2.u, .string g2.s, .slice g2.a g2.l g2.c, .int .i64 0, .int .i64 0, .string ⟨#[]⟩, .int .i64 0, .int .i64 0, .int .i64 0] from rfl]
          obtain ⟨v2, hv2⟩ : ∃ v2, v2 = (w2.alloc (.cells #[.slice none 0 0, .int .i64 0, .int .i64 0] 24)).alloc (.cells #[.int .i64 0, .string ⟨#[]⟩, .int .i64 0, .int .i64 0, .int .u64 0, .string ⟨#[]⟩, .slice none 0 0, .int .i64 0, .int .i64 0, .string ⟨#[]⟩, .int .i64 0, .int .i64 0, .int .i64 0] 30) := ⟨_, rfl⟩
          have Iv : Bk v2 w2.heap.size #[.slice none 0 0, .int .i64 0, .int .i64 0] 24 := by rw [hv2]; exact (Bk.new w2 _ _).alloc _
          have Tv : Bk v2 (w2.heap.size + 1) #[.int .i64 0, .string ⟨#[]⟩, .int .i64 0, .int .i64 0, .int .u64 0, .string ⟨#[]⟩, .slice none 0 0, .int .i64 0, .int .i64 0, .string ⟨#[]⟩, .int .i64 0, .int .i64 0, .int .i64 0] 30 := by rw [hv2]; exact Bk.new2 w2 _ _ _
          have bv : Below w2.heap.size w2 v2 := by rw [hv2]; exact below2 w2 _ _
          have hvs : v2.heap.size = w2.heap.size + 2 := by rw [hv2]; simp
          obtain ⟨w3, hw3⟩ : ∃ w3, w3 = (((((((((((((((v2.setCell ⟨w2.heap.size, 0, none⟩ (.slice a2 l2.length c2)).setCell ⟨w2.heap.size, 1, none⟩ (.int .i64 r2)).setCell ⟨w2.heap.size, 2, none⟩ (.int .i64 d2)).setCell ⟨w2.heap.size + 1, 0, none⟩ (.int .i64 0)).setCell ⟨w2.heap.size + 1, 1, none⟩ (.string ⟨#[]⟩)).setCell ⟨w2.heap.size + 1, 2, none⟩ (.int .i64 g2.k)).setCell ⟨w2.heap.size + 1, 3, none⟩ (.int .i64 g2.i)).setCell ⟨w2.heap.size + 1, 4, none⟩ (.int .u64 g2.u)).setCell ⟨w2.heap.size + 1, 5, none⟩ (.string g2.s)).setCell ⟨w2.heap.size + 1, 6, none⟩ (.slice g2.a g2.l g2.c)).setCell ⟨w2.heap.size + 1, 7, none⟩ (.int .i64 0)).setCell ⟨w2.heap.size + 1, 8, none⟩ (.int .i64 0)).setCell ⟨w2.heap.size + 1, 9, none⟩ (.string ⟨#[]⟩)).setCell ⟨w2.heap.size + 1, 10, none⟩ (.int .i64 0)).setCell ⟨w2.heap.size + 1, 11, none⟩ (.int .i64 0)).setCell ⟨w2.heap.size + 1, 12, none⟩ (.int .i64 0) := ⟨_, rfl⟩
          have I3 : Bk w3 w2.heap.size #[.slice a2 l2.length c2, .int .i64 r2, .int .i64 d2] 24 := by rw [hw3]; exact Bk.set13 (Bk.full3 Iv _ _ _) (by omega) _ _ _ _ _ _ _ _ _ _ _ _ _
          have T3 : Bk w3 (w2.heap.size + 1) #[.int .i64 0, .string ⟨#[]⟩, .int .i64 g2.k, .int .i64 g2.i, .int .u64 g2.u, .string g2.s, .slice g2.a g2.l g2.c, .int .i64 0, .int .i64 0, .string ⟨#[]⟩, .int .i64 0, .int .i64 0, .int .i64 0] 30 := by rw [hw3]; exact Bk.full13 (Bk.set3 Tv (by omega) _ _ _) _ _ _ _ _ _ _ _ _ _ _ _ _
          have b3 : Below w2.heap.size w2 w3 := by rw [hw3]; exact below_set13 (below_set3 bv (Nat.le_refl _) _ _ _) (by omega) _ _ _ _ _ _ _ _ _ _ _ _ _
          have s3 : w3.heap.size = w2.heap.size + 2 := by rw [hw3]; simp only [World.size_setCell]; exact hvs
          obtain ⟨q0, q1, q2⟩ := Iv.c3
          have qf := Iv.f
          obtain ⟨j0, j1, j2, j3, j4, j5, j6, j7, j8, j9, j10, j11, j12⟩ := (Bk.set3 (M := w2.heap.size) Tv (by omega) (.slice a2 l2.length c2) (.int .i64 r2) (.int .i64 d2)).c13
          have jf := (Bk.set3 (M := w2.heap.size) Tv (by omega) (.slice a2 l2.length c2) (.int .i64 r2) (.int .i64 d2)).f
          have HV3 := Lib.hid hv2.symm
          have HW3 := Lib.hid hw3.symm
          clear hv2 hw3 Iv Tv bv hvs
          have lo3 := lo2.step b3
          have m3 := mz_step m2' b3
          have f3 : w3.cell? ⟨w.heap.size + 1 + 1, 0, none⟩ = some (.slice (some ⟨w.heap.size + 1, 0, none⟩) n n) := lo3.f.c 0
          obtain ⟨k0, k1, k2⟩ := I3.c3
          obtain ⟨t0, t1, t2, t3, t4, t5, t6, t7, t8, t9, t10, t11, t12⟩ := T3.c13
          have hlr : decide (R < (l2.length : Int)) = false := decide_eq_false (by have := in2.c; omega)
          have HMk : Hid (Calls Try.prog 18 #[.agg #[.int .i64 0, .string ⟨#[]⟩, .int .i64 g2.k, .int .i64 g2.i, .int .u64 g2.u, .string g2.s, .slice g2.a g2.l g2.c, .int .i64 0, .int .i64 0, .string ⟨#[]⟩, .int .i64 0, .int .i64 0, .int .i64 0], .bool false, .pointer (some ⟨w.heap.size + 1 + 1, 0, none⟩)] w3 fun e w' => e = .returned (.bool true) ∧ Below w3.heap.size w3 w') := mark_no mZ g2 (w.heap.size + 1 + 1) w3
          have LO3 := Lib.hid lo3
          have M3 := Lib.hid m3
          clear lo2 lo3 m2' m3 b2 b3 T3
          go_wp2_with (first | rw [HV3.out] | rw [HW3.out])
          refine HMk.out.mono ?_
          rintro e w4 ⟨rfl, b4⟩
          have lo4 := LO3.out.step b4
          have m4 := mz_step M3.out b4
          have I4 := I3.step b4
          clear I3 b4
          clear q0 q1 q2 qf j0 j1 j2 j3 j4 j5 j6 j7 j8 j9 j10 j11 j12 jf k0 k1 k2 t0 t1 t2 t3 t4 t5 t6 t7 t8 t9 t10 t11 t12 f3 HV3 HW3 HMk LO3 M3 LO1 hlr
          obtain ⟨q0, q1, q2⟩ := lo4.q.c3
          have qf := lo4.q.f
          obtain ⟨k0, k1, k2⟩ := I4.c3
          obtain ⟨w5, hw5⟩ : ∃ w5, w5 = ((w4.setCell ⟨w.heap.size, 0, none⟩ (.slice a2 l2.length c2)).setCell ⟨w.heap.size, 1, none⟩ (.int .i64 r2)).setCell ⟨w.heap.size, 2, none⟩ (.int .i64 d2) := ⟨_, rfl⟩
          have lo5 : Lo w n l2 a2 c2 r2 d2 (ft) lm w5 := by rw [hw5]; exact lo4.box m4
          have HW5 := Lib.hid hw5.symm
          clear lo4 m4 I4 hw5
          have LO5 := Lib.hid lo5
          have IN2 := Lib.hid in2
          have f5 : w5.cell? ⟨w.heap.size + 1 + 1, 0, none⟩ = some (.slice (some ⟨w.heap.size + 1, 0, none⟩) n n) := lo5.f.c 0
          by_cases htk : j < tk.length
          · have ltk : (j : Int) < (tk.length : Int) := by omega
            obtain ⟨tb, htb⟩ : ∃ b, tk[j]? = some b := ⟨_, List.getElem?_eq_getElem htk⟩
            have htc : ∃ g' o', ad2 = some ⟨g', o', none⟩ ∧ w5.cell? ⟨g', o' + j, none⟩ = some (.bool tb) := by
              rcases HT.out with h | ⟨g', o', e1, e2, e3⟩
              · rw [h] at htk; simp at htk
              · exact ⟨g', o', e1, (lo5.b.cell (p := ⟨g', o' + j, none⟩) e2).trans (e3 j tb htb)⟩
            obtain ⟨g', o', rfl, tc⟩ := htc
            cases tb with
            | false =>
              clear lo5 in2 htb
              go_wp2_with (rw [HW5.out])
              exact ⟨⟨j + 1, l2, a2, c2, r2, d2, ft, lm, by go_num, by omega, LO5.out, IN2.out, by omega, by omega, by omega, by omega⟩, by simp [intOf]; omega⟩
            | true =>
              have hsm2 : Sm l2 := fun y hy => by
                obtain ⟨i, q, rfl, -⟩ := in2.v.1 y hy
                exact mN_pts _ _
              have HTk := Lib.hid (qtake_any l2 a2 c2 r2 d2 w5 (by have := in2.c; omega) lo5.m.mw hsm2)
              obtain ⟨i0, i1, i2⟩ := lo5.q.c3
              clear lo5 in2 htb hsm2
              go_wp2_with (rw [HW5.out])
              refine HTk.out.mono ?_
              rintro e w6 hk
              clear i0 i1 i2 q0 q1 q2 qf k0 k1 k2 HW5 f5 HTk
              have hz5 := LO5.out.z
              by_cases h0 : l2 = []
              · obtain ⟨a6, c6, g6, rfl, m6, -, b6⟩ := hk.1 h0
                have hs6 := b6.size
                rw [show (Value.agg (mZ.cs g6)) = .agg #[.int .i64 0, .string ⟨#[]⟩, .int .i64 g6.k, .int .i64 g6.i, .int .u64 g6.u, .string g6.s, .slice g6.a g6.l g6.c, .int .i64 0, .int .i64 0, .string ⟨#[]⟩, .int .i64 0, .int .i64 0, .int .i64 0] from rfl]
                simp only [List.length_nil]
                obtain ⟨v6, hv6⟩ : ∃ v6, v6 = (w6.alloc (.cells #[.slice none 0 0, .int .i64 0, .int .i64 0] 24)).alloc (.cells #[.int .i64 0, .string ⟨#[]⟩, .int .i64 0, .int .i64 0, .int .u64 0, .string ⟨#[]⟩, .slice none 0 0, .int .i64 0, .int .i64 0, .string ⟨#[]⟩, .int .i64 0, .int .i64 0, .int .i64 0] 30) := ⟨_, rfl⟩
                have Iv : Bk v6 w6.heap.size #[.slice none 0 0, .int .i64 0, .int .i64 0] 24 := by rw [hv6]; exact (Bk.new w6 _ _).alloc _
                have Tv : Bk v6 (w6.heap.size + 1) #[.int .i64 0, .string ⟨#[]⟩, .int .i64 0, .int .i64 0, .int .u64 0, .string ⟨#[]⟩, .slice none 0 0, .int .i64 0, .int .i64 0, .string ⟨#[]⟩, .int .i64 0, .int .i64 0, .int .i64 0] 30 := by rw [hv6]; exact Bk.new2 w6 _ _ _
                have bv : Below w6.heap.size w6 v6 := by rw [hv6]; exact below2 w6 _ _
                have hvs : v6.heap.size = w6.heap.size + 2 := by rw [hv6]; simp
                obtain ⟨w7, hw7⟩ : ∃ w7, w7 = (((((((((((((((v6.setCell ⟨w6.heap.size, 0, none⟩ (.slice a6 0 c6)).setCell ⟨w6.heap.size, 1, none⟩ (.int .i64 r2)).setCell ⟨w6.heap.size, 2, none⟩ (.int .i64 d2)).setCell ⟨w6.heap.size + 1, 0, none⟩ (.int .i64 0)).setCell ⟨w6.heap.size + 1, 1, none⟩ (.string ⟨#[]⟩)).setCell ⟨w6.heap.size + 1, 2, none⟩ (.int .i64 g6.k)).setCell ⟨w6.heap.size + 1, 3, none⟩ (.int .i64 g6.i)).setCell ⟨w6.heap.size + 1, 4, none⟩ (.int .u64 g6.u)).setCell ⟨w6.heap.size + 1, 5, none⟩ (.string g6.s)).setCell ⟨w6.heap.size + 1, 6, none⟩ (.slice g6.a g6.l g6.c)).setCell ⟨w6.heap.size + 1, 7, none⟩ (.int .i64 0)).setCell ⟨w6.heap.size + 1, 8, none⟩ (.int .i64 0)).setCell ⟨w6.heap.size + 1, 9, none⟩ (.string ⟨#[]⟩)).setCell ⟨w6.heap.size + 1, 10, none⟩ (.int .i64 0)).setCell ⟨w6.heap.size + 1, 11, none⟩ (.int .i64 0)).setCell ⟨w6.heap.size + 1, 12, none⟩ (.int .i64 0) := ⟨_, rfl⟩
                have I7 : Bk w7 w6.heap.size #[.slice a6 0 c6, .int .i64 r2, .int .i64 d2] 24 := by rw [hw7]; exact Bk.set13 (Bk.full3 Iv _ _ _) (by omega) _ _ _ _ _ _ _ _ _ _ _ _ _
                have T7 : Bk w7 (w6.heap.size + 1) #[.int .i64 0, .string ⟨#[]⟩, .int .i64 g6.k, .int .i64 g6.i, .int .u64 g6.u, .string g6.s, .slice g6.a g6.l g6.c, .int .i64 0, .int .i64 0, .string ⟨#[]⟩, .int .i64 0, .int .i64 0, .int .i64 0] 30 := by rw [hw7]; exact Bk.full13 (Bk.set3 Tv (by omega) _ _ _) _ _ _ _ _ _ _ _ _ _ _ _ _
                have b7 : Below w6.heap.size w6 w7 := by rw [hw7]; exact below_set13 (below_set3 bv (Nat.le_refl _) _ _ _) (by omega) _ _ _ _ _ _ _ _ _ _ _ _ _
                have s7 : w7.heap.size = w6.heap.size + 2 := by rw [hw7]; simp only [World.size_setCell]; exact hvs
                obtain ⟨q0, q1, q2⟩ := Iv.c3
                have qf := Iv.f
                obtain ⟨j0, j1, j2, j3, j4, j5, j6, j7, j8, j9, j10, j11, j12⟩ := (Bk.set3 (M := w6.heap.size) Tv (by omega) (.slice a6 0 c6) (.int .i64 r2) (.int .i64 d2)).c13
                have jf := (Bk.set3 (M := w6.heap.size) Tv (by omega) (.slice a6 0 c6) (.int .i64 r2) (.int .i64 d2)).f
                have HV7 := Lib.hid hv6.symm
                have HW7 := Lib.hid hw7.symm
                clear hv6 hw7 Iv Tv bv hvs
                have lo7 := (LO5.out.step b6).step b7
                have HMk : Hid (Calls Try.prog 18 #[.agg #[.int .i64 0, .string ⟨#[]⟩, .int .i64 g6.k, .int .i64 g6.i, .int .u64 g6.u, .string g6.s, .slice g6.a g6.l g6.c, .int .i64 0, .int .i64 0, .string ⟨#[]⟩, .int .i64 0, .int .i64 0, .int .i64 0], .bool false, .pointer (some ⟨w.heap.size + 1 + 1, 0, none⟩)] w7 fun e w' => e = .returned (.bool true) ∧ Below w7.heap.size w7 w') := mark_no mZ g6 (w.heap.size + 1 + 1) w7
                obtain ⟨t0, t1, t2, t3, t4, t5, t6, t7, t8, t9, t10, t11, t12⟩ := T7.c13
                have LO7 := Lib.hid lo7
                clear lo7 b6 b7 m6 hk
                go_wp2_with (first | rw [HV7.out] | rw [HW7.out])
                refine HMk.out.mono ?_
                rintro e w8 ⟨rfl, b8⟩
                have lo8 := LO7.out.step b8
                have I8 := I7.step b8
                clear q0 q1 q2 qf j0 j1 j2 j3 j4 j5 j6 j7 j8 j9 j10 j11 j12 jf t0 t1 t2 t3 t4 t5 t6 t7 t8 t9 t10 t11 t12 HV7 HW7
                obtain ⟨q0, q1, q2⟩ := lo8.q.c3
                have qf := lo8.q.f
                obtain ⟨k0, k1, k2⟩ := I8.c3
                have lo9 := lo8.box (l2 := []) (a2 := a6) (c2 := c6) (r2 := r2) (d2 := d2) (.inl rfl)
                have LO9 := Lib.hid lo9
                have hin := IN2.out
                rw [h0] at hin
                have IN9 := Lib.hid hin
                clear lo8 lo9 I7 T7 I8 b8 HMk hin h0
                go_wp2_with fail
                exact ⟨⟨j + 1, [], a6, c6, r2, d2, ft, lm, by go_num, by omega, LO9.out, IN9.out, by omega, by omega, by omega, by omega⟩, by simp [intOf]; omega⟩
              · obtain ⟨k, y6, hb6, hy6, a6, c6, g6, rfl, m6, -, b6⟩ := hk.2 h0
                have hs6 := b6.size
                obtain ⟨i6, ey6, hi6, hf6, hls, hin6⟩ := IN2.out.take (by omega) k y6 hb6 hy6
                obtain ⟨v6, hv6⟩ : ∃ v6, v6 = (w6.alloc (.cells #[.slice none 0 0, .int .i64 0, .int .i64 0] 24)).alloc (.cells #[.int .i64 0, .string ⟨#[]⟩, .int .i64 0, .int .i64 0, .int .u64 0, .string ⟨#[]⟩, .slice none 0 0, .int .i64 0, .int .i64 0, .string ⟨#[]⟩, .int .i64 0, .int .i64 0, .int .i64 0] 30) := ⟨_, rfl⟩
                have Iv : Bk v6 w6.heap.size #[.slice none 0 0, .int .i64 0, .int .i64 0] 24 := by rw [hv6]; exact (Bk.new w6 _ _).alloc _
                have Tv : Bk v6 (w6.heap.size + 1) #[.int .i64 0, .string ⟨#[]⟩, .int .i64 0, .int .i64 0, .int .u64 0, .string ⟨#[]⟩, .slice none 0 0, .int .i64 0, .int .i64 0, .string ⟨#[]⟩, .int .i64 0, .int .i64 0, .int .i64 0] 30 := by rw [hv6]; exact Bk.new2 w6 _ _ _
                have bv : Below w6.heap.size w6 v6 := by rw [hv6]; exact below2 w6 _ _
                have hvs : v6.heap.size = w6.heap.size + 2 := by rw [hv6]; simp
                obtain ⟨w7, hw7⟩ : ∃ w7, w7 = (((((((((((((((v6.setCell ⟨w6.heap.size, 0, none⟩ (.slice a6 (l2.eraseIdx k).length c6)).setCell ⟨w6.heap.size, 1, none⟩ (.int .i64 r2)).setCell ⟨w6.heap.size, 2, none⟩ (.int .i64 d2)).setCell ⟨w6.heap.size + 1, 0, none⟩ (.int .i64 y6.id)).setCell ⟨w6.heap.size + 1, 1, none⟩ (.string y6.tp)).setCell ⟨w6.heap.size + 1, 2, none⟩ (.int .i64 g6.k)).setCell ⟨w6.heap.size + 1, 3, none⟩ (.int .i64 g6.i)).setCell ⟨w6.heap.size + 1, 4, none⟩ (.int .u64 g6.u)).setCell ⟨w6.heap.size + 1, 5, none⟩ (.string g6.s)).setCell ⟨w6.heap.size + 1, 6, none⟩ (.slice g6.a g6.l g6.c)).setCell ⟨w6.heap.size + 1, 7, none⟩ (.int .i64 y6.ti)).setCell ⟨w6.heap.size + 1, 8, none⟩ (.int .i64 y6.un)).setCell ⟨w6.heap.size + 1, 9, none⟩ (.string y6.rp)).setCell ⟨w6.heap.size + 1, 10, none⟩ (.int .i64 y6.co)).setCell ⟨w6.heap.size + 1, 11, none⟩ (.int .i64 y6.pr)).setCell ⟨w6.heap.size + 1, 12, none⟩ (.int .i64 y6.ho) := ⟨_, rfl⟩
                have I7 : Bk w7 w6.heap.size #[.slice a6 (l2.eraseIdx k).length c6, .int .i64 r2, .int .i64 d2] 24 := by rw [hw7]; exact Bk.set13 (Bk.full3 Iv _ _ _) (by omega) _ _ _ _ _ _ _ _ _ _ _ _ _
                have T7 : Bk w7 (w6.heap.size + 1) #[.int .i64 y6.id, .string y6.tp, .int .i64 g6.k, .int .i64 g6.i, .int .u64 g6.u, .string g6.s, .slice g6.a g6.l g6.c, .int .i64 y6.ti, .int .i64 y6.un, .string y6.rp, .int .i64 y6.co, .int .i64 y6.pr, .int .i64 y6.ho] 30 := by rw [hw7]; exact Bk.full13 (Bk.set3 Tv (by omega) _ _ _) _ _ _ _ _ _ _ _ _ _ _ _ _
                have b7 : Below w6.heap.size w6 w7 := by rw [hw7]; exact below_set13 (below_set3 bv (Nat.le_refl _) _ _ _) (by omega) _ _ _ _ _ _ _ _ _ _ _ _ _
                have s7 : w7.heap.size = w6.heap.size + 2 := by rw [hw7]; simp only [World.size_setCell]; exact hvs
                obtain ⟨q0, q1, q2⟩ := Iv.c3
                have qf := Iv.f
                obtain ⟨j0, j1, j2, j3, j4, j5, j6, j7, j8, j9, j10, j11, j12⟩ := (Bk.set3 (M := w6.heap.size) Tv (by omega) (.slice a6 (l2.eraseIdx k).length c6) (.int .i64 r2) (.int .i64 d2)).c13
                have jf := (Bk.set3 (M := w6.heap.size) Tv (by omega) (.slice a6 (l2.eraseIdx k).length c6) (.int .i64 r2) (.int .i64 d2)).f
                have HV7 := Lib.hid hv6.symm
                have HW7 := Lib.hid hw7.symm
                clear hv6 hw7 Iv Tv bv hvs
                have lo7 := (LO5.out.step b6).step b7
                have m7 : Mz (fun g => w.heap.size + 4 ≤ g ∧ g < w7.heap.size) w7 a6 (l2.eraseIdx k) := mz_step (Mz.to m6 fun g hg => ⟨⟨by omega, hg.2⟩, rfl⟩) b7
                have HMk : Hid (Calls Try.prog 18 #[.agg #[.int .i64 y6.id, .string y6.tp, .int .i64 g6.k, .int .i64 g6.i, .int .u64 g6.u, .string g6.s, .slice g6.a g6.l g6.c, .int .i64 y6.ti, .int .i64 y6.un, .string y6.rp, .int .i64 y6.co, .int .i64 y6.pr, .int .i64 y6.ho], .bool true, .pointer (some ⟨w.heap.size + 1 + 1, 0, none⟩)] w7 fun e w' => e = .returned (.bool true) ∧ Fq w' (w.heap.size + 1) n (inc (ft) i6) ∧ Ke (w.heap.size + 1) w7 w') := mark_yes y6 g6 (w.heap.size + 1 + 1) (w.heap.size + 1) n i6 (ft) w7 lo7.f lo7.t ey6 hi6 (by omega) hf6
                obtain ⟨t0, t1, t2, t3, t4, t5, t6, t7, t8, t9, t10, t11, t12⟩ := T7.c13
                have LO7 := Lib.hid lo7
                have M7 := Lib.hid m7
                have HIN := Lib.hid hin6
                have hcmp : decide (y6.id < lw lm y6.pr) = false := decide_eq_false (by omega)
                clear lo7 m7 b6 b7 m6 hk hin6 hls hb6 hy6 ey6 hf6
                go_wp2_with (first | rw [HV7.out] | rw [HW7.out])
                refine HMk.out.mono ?_
                rintro e w8 ⟨rfl, fq8, ke8⟩
                have hs8 := ke8.size
                have lo8 := LO7.out.fate ke8 fq8
                have m8 := mz_ke M7.out ke8 (by omega)
                have I8 : Bk w8 w6.heap.size #[.slice a6 (l2.eraseIdx k).length c6, .int .i64 r2, .int .i64 d2] 24 := (ke8.block _ (by omega) (by omega)).trans I7
                have T8 : Bk w8 (w6.heap.size + 1) #[.int .i64 y6.id, .string y6.tp, .int .i64 g6.k, .int .i64 g6.i, .int .u64 g6.u, .string g6.s, .slice g6.a g6.l g6.c, .int .i64 y6.ti, .int .i64 y6.un, .string y6.rp, .int .i64 y6.co, .int .i64 y6.pr, .int .i64 y6.ho] 30 := (ke8.block _ (by omega) (by omega)).trans T7
                clear q0 q1 q2 qf j0 j1 j2 j3 j4 j5 j6 j7 j8 j9 j10 j11 j12 jf t0 t1 t2 t3 t4 t5 t6 t7 t8 t9 t10 t11 t12 HV7 HW7
                have hlook := look_lm w8 (w.heap.size + 1 + 1 + 1) lm lo8.p y6.pr
                obtain ⟨w9, lm9, hupd, hm9, hlw, ke9, hs9⟩ := upd_lm w8 (w.heap.size + 1 + 1 + 1) lm lo8.p y6.pr y6.id
                have lo9 := lo8.map ke9 hm9
                have m9 := mz_ke m8 ke9 (by omega)
                have I9 : Bk w9 w6.heap.size #[.slice a6 (l2.eraseIdx k).length c6, .int .i64 r2, .int .i64 d2] 24 := (ke9.block _ (by omega) (by omega)).trans I8
                have u0 : w8.cell? ⟨w6.heap.size + 1, 0, none⟩ = some (.int .i64 y6.id) := T8.c 0
                have u11 : w8.cell? ⟨w6.heap.size + 1, 11, none⟩ = some (.int .i64 y6.pr) := T8.c 11
                obtain ⟨q0, q1, q2⟩ := lo9.q.c3
                have qf := lo9.q.f
                obtain ⟨k0, k1, k2⟩ := I9.c3
                have LO10 := Lib.hid (lo9.box (c2 := c6) (r2 := r2) (d2 := d2) m9)
                have IN10 := Lib.hid (HIN.out lm9 hlw)
                clear lo8 lo9 m8 m9 I7 T7 I8 T8 I9 fq8 ke8 HMk ke9 hm9 hlw hs9
                go_wp2_with fail
                exact ⟨⟨j + 1, l2.eraseIdx k, a6, c6, r2, d2, inc (ft) i6, lm9, by go_num, by omega, LO10.out, IN10.out, by omega, by omega, by omega, by omega⟩, by simp [intOf]; omega⟩
          · have ltk : decide ((j : Int) < (tk.length : Int)) = false := decide_eq_false (by omega)
            clear lo5 in2
            go_wp2_with (rw [HW5.out])
            exact ⟨⟨j + 1, l2, a2, c2, r2, d2, ft, lm, by go_num, by omega, LO5.out, IN2.out, by omega, by omega, by omega, by omega⟩, by simp [intOf]; omega⟩
        · have hz1 : w.heap.size + 4 ≤ w1.heap.size := by omega
          have lo2 := LO1.out.step b2
          have m2' : Mz (fun g => w.heap.size + 4 ≤ g ∧ g < w2.heap.size) w2 a2 l2 := Mz.to m2 fun g hg => ⟨⟨by omega, hg.2⟩, rfl⟩
          have hs2 := b2.size
          clear q0 q1 q2 x0' x1' x2' x3' x4' x5' x6' x7' x8' x9' x10' x11' x12' HK HW1 m2
          obtain ⟨v2, hv2⟩ : ∃ v2, v2 = (w2.alloc (.cells #[.slice none 0 0, .int .i64 0, .int .i64 0] 24)).alloc (.cells #[.int .i64 0, .string ⟨#[]⟩, .int .i64 0, .int .i64 0, .int .u64 0, .string ⟨#[]⟩, .slice none 0 0, .int .i64 0, .int .i64 0, .string ⟨#[]⟩, .int .i64 0, .int .i64 0, .int .i64 0] 30) := ⟨_, rfl⟩
          have Iv : Bk v2 w2.heap.size #[.slice none 0 0, .int .i64 0, .int .i64 0] 24 := by rw [hv2]; exact (Bk.new w2 _ _).alloc _
          have Tv : Bk v2 (w2.heap.size + 1) #[.int .i64 0, .string ⟨#[]⟩, .int .i64 0, .int .i64 0, .int .u64 0, .string ⟨#[]⟩, .slice none 0 0, .int .i64 0, .int .i64 0, .string ⟨#[]⟩, .int .i64 0, .int .i64 0, .int .i64 0] 30 := by rw [hv2]; exact Bk.new2 w2 _ _ _
          have bv : Below w2.heap.size w2 v2 := by rw [hv2]; exact below2 w2 _ _
          have hvs : v2.heap.size = w2.heap.size + 2 := by rw [hv2]; simp
          obtain ⟨w3, hw3⟩ : ∃ w3, w3 = (((((((((((((((v2.setCell ⟨w2.heap.size, 0, none⟩ (.slice a2 l2.length c2)).setCell ⟨w2.heap.size, 1, none⟩ (.int .i64 r2)).setCell ⟨w2.heap.size, 2, none⟩ (.int .i64 d2)).setCell ⟨w2.heap.size + 1, 0, none⟩ (.int .i64 y.id)).setCell ⟨w2.heap.size + 1, 1, none⟩ (.string y.tp)).setCell ⟨w2.heap.size + 1, 2, none⟩ (.int .i64 g2.k)).setCell ⟨w2.heap.size + 1, 3, none⟩ (.int .i64 g2.i)).setCell ⟨w2.heap.size + 1, 4, none⟩ (.int .u64 g2.u)).setCell ⟨w2.heap.size + 1, 5, none⟩ (.string g2.s)).setCell ⟨w2.heap.size + 1, 6, none⟩ (.slice g2.a g2.l g2.c)).setCell ⟨w2.heap.size + 1, 7, none⟩ (.int .i64 y.ti)).setCell ⟨w2.heap.size + 1, 8, none⟩ (.int .i64 y.un)).setCell ⟨w2.heap.size + 1, 9, none⟩ (.string y.rp)).setCell ⟨w2.heap.size + 1, 10, none⟩ (.int .i64 y.co)).setCell ⟨w2.heap.size + 1, 11, none⟩ (.int .i64 y.pr)).setCell ⟨w2.heap.size + 1, 12, none⟩ (.int .i64 y.ho) := ⟨_, rfl⟩
          have I3 : Bk w3 w2.heap.size #[.slice a2 l2.length c2, .int .i64 r2, .int .i64 d2] 24 := by rw [hw3]; exact Bk.set13 (Bk.full3 Iv _ _ _) (by omega) _ _ _ _ _ _ _ _ _ _ _ _ _
          have T3 : Bk w3 (w2.heap.size + 1) #[.int .i64 y.id, .string y.tp, .int .i64 g2.k, .int .i64 g2.i, .int .u64 g2.u, .string g2.s, .slice g2.a g2.l g2.c, .int .i64 y.ti, .int .i64 y.un, .string y.rp, .int .i64 y.co, .int .i64 y.pr, .int .i64 y.ho] 30 := by rw [hw3]; exact Bk.full13 (Bk.set3 Tv (by omega) _ _ _) _ _ _ _ _ _ _ _ _ _ _ _ _
          have b3 : Below w2.heap.size w2 w3 := by rw [hw3]; exact below_set13 (below_set3 bv (Nat.le_refl _) _ _ _) (by omega) _ _ _ _ _ _ _ _ _ _ _ _ _
          have s3 : w3.heap.size = w2.heap.size + 2 := by rw [hw3]; simp only [World.size_setCell]; exact hvs
          obtain ⟨q0, q1, q2⟩ := Iv.c3
          have qf := Iv.f
          obtain ⟨j0, j1, j2, j3, j4, j5, j6, j7, j8, j9, j10, j11, j12⟩ := (Bk.set3 (M := w2.heap.size) Tv (by omega) (.slice a2 l2.length c2) (.int .i64 r2) (.int .i64 d2)).c13
          have jf := (Bk.set3 (M := w2.heap.size) Tv (by omega) (.slice a2 l2.length c2) (.int .i64 r2) (.int .i64 d2)).f
          have HV3 := Lib.hid hv2.symm
          have HW3 := Lib.hid hw3.symm
          clear hv2 hw3 Iv Tv bv hvs
          have lo3 := lo2.step b3
          have m3 := mz_step m2' b3
          have f3 : w3.cell? ⟨w.heap.size + 1 + 1, 0, none⟩ = some (.slice (some ⟨w.heap.size + 1, 0, none⟩) n n) := lo3.f.c 0
          obtain ⟨k0, k1, k2⟩ := I3.c3
          obtain ⟨t0, t1, t2, t3, t4, t5, t6, t7, t8, t9, t10, t11, t12⟩ := T3.c13
          have hlr : decide (R < (l2.length : Int)) = false := decide_eq_false (by have := in2.c; omega)
          have HMk : Hid (Calls Try.prog 18 #[.agg #[.int .i64 y.id, .string y.tp, .int .i64 g2.k, .int .i64 g2.i, .int .u64 g2.u, .string g2.s, .slice g2.a g2.l g2.c, .int .i64 y.ti, .int .i64 y.un, .string y.rp, .int .i64 y.co, .int .i64 y.pr, .int .i64 y.ho], .bool true, .pointer (some ⟨w.heap.size + 1 + 1, 0, none⟩)] w3 fun e w' => e = .returned (.bool true) ∧ Fq w' (w.heap.size + 1) n (inc ft i) ∧ Ke (w.heap.size + 1) w3 w') := mark_yes y g2 (w.heap.size + 1 + 1) (w.heap.size + 1) n i ft w3 lo3.f lo3.t ey hi (by omega) hf0
          have LO3 := Lib.hid lo3
          have M3 := Lib.hid m3
          clear lo2 lo3 m2' m3 b2 b3 T3 ey hf0
          go_wp2_with (first | rw [HV3.out] | rw [HW3.out])
          refine HMk.out.mono ?_
          rintro e w4 ⟨rfl, fq4, ke4⟩
          have lo4 := LO3.out.fate ke4 fq4
          have m4 := mz_ke M3.out ke4 (by omega)
          have I4 : Bk w4 w2.heap.size #[.slice a2 l2.length c2, .int .i64 r2, .int .i64 d2] 24 := (ke4.block _ (by omega) (by omega)).trans I3
          clear I3 fq4 ke4
          clear q0 q1 q2 qf j0 j1 j2 j3 j4 j5 j6 j7 j8 j9 j10 j11 j12 jf k0 k1 k2 t0 t1 t2 t3 t4 t5 t6 t7 t8 t9 t10 t11 t12 f3 HV3 HW3 HMk LO3 M3 LO1 hlr
          obtain ⟨q0, q1, q2⟩ := lo4.q.c3
          have qf := lo4.q.f
          obtain ⟨k0, k1, k2⟩ := I4.c3
          obtain ⟨w5, hw5⟩ : ∃ w5, w5 = ((w4.setCell ⟨w.heap.size, 0, none⟩ (.slice a2 l2.length c2)).setCell ⟨w.heap.size, 1, none⟩ (.int .i64 r2)).setCell ⟨w.heap.size, 2, none⟩ (.int .i64 d2) := ⟨_, rfl⟩
          have lo5 : Lo w n l2 a2 c2 r2 d2 (inc ft i) lm w5 := by rw [hw5]; exact lo4.box m4
          have HW5 := Lib.hid hw5.symm
          clear lo4 m4 I4 hw5
          have LO5 := Lib.hid lo5
          have IN2 := Lib.hid in2
          have f5 : w5.cell? ⟨w.heap.size + 1 + 1, 0, none⟩ = some (.slice (some ⟨w.heap.size + 1, 0, none⟩) n n) := lo5.f.c 0
          by_cases htk : j < tk.length
          · have ltk : (j : Int) < (tk.length : Int) := by omega
            obtain ⟨tb, htb⟩ : ∃ b, tk[j]? = some b := ⟨_, List.getElem?_eq_getElem htk⟩
            have htc : ∃ g' o', ad2 = some ⟨g', o', none⟩ ∧ w5.cell? ⟨g', o' + j, none⟩ = some (.bool tb) := by
              rcases HT.out with h | ⟨g', o', e1, e2, e3⟩
              · rw [h] at htk; simp at htk
              · exact ⟨g', o', e1, (lo5.b.cell (p := ⟨g', o' + j, none⟩) e2).trans (e3 j tb htb)⟩
            obtain ⟨g', o', rfl, tc⟩ := htc
            cases tb with
            | false =>
              clear lo5 in2 htb
              go_wp2_with (rw [HW5.out])
              exact ⟨⟨j + 1, l2, a2, c2, r2, d2, inc ft i, lm, by go_num, by omega, LO5.out, IN2.out, by omega, by omega, by omega, by omega⟩, by simp [intOf]; omega⟩
            | true =>
              have hsm2 : Sm l2 := fun y hy => by
                obtain ⟨i, q, rfl, -⟩ := in2.v.1 y hy
                exact mN_pts _ _
              have HTk := Lib.hid (qtake_any l2 a2 c2 r2 d2 w5 (by have := in2.c; omega) lo5.m.mw hsm2)
              obtain ⟨i0, i1, i2⟩ := lo5.q.c3
              clear lo5 in2 htb hsm2
              go_wp2_with (rw [HW5.out])
              refine HTk.out.mono ?_
              rintro e w6 hk
              clear i0 i1 i2 q0 q1 q2 qf k0 k1 k2 HW5 f5 HTk
              have hz5 := LO5.out.z
              by_cases h0 : l2 = []
              · obtain ⟨a6, c6, g6, rfl, m6, -, b6⟩ := hk.1 h0
                have hs6 := b6.size
                rw [show (Value.agg (mZ.cs g6)) = .agg #[.int .i64 0, .string ⟨#[]⟩, .int .i64 g6.k, .int .i64 g6.i, .int .u64 g6.u, .string g6.s, .slice g6.a g6.l g6.c, .int .i64 0, .int .i64 0, .string ⟨#[]⟩, .int .i64 0, .int .i64 0, .int .i64 0] from rfl]
                simp only [List.length_nil]
                obtain ⟨v6, hv6⟩ : ∃ v6, v6 = (w6.alloc (.cells #[.slice none 0 0, .int .i64 0, .int .i64 0] 24)).alloc (.cells #[.int .i64 0, .string ⟨#[]⟩, .int .i64 0, .int .i64 0, .int .u64 0, .string ⟨#[]⟩, .slice none 0 0, .int .i64 0, .int .i64 0, .string ⟨#[]⟩, .int .i64 0, .int .i64 0, .int .i64 0] 30) := ⟨_, rfl⟩
                have Iv : Bk v6 w6.heap.size #[.slice none 0 0, .int .i64 0, .int .i64 0] 24 := by rw [hv6]; exact (Bk.new w6 _ _).alloc _
                have Tv : Bk v6 (w6.heap.size + 1) #[.int .i64 0, .string ⟨#[]⟩, .int .i64 0, .int .i64 0, .int .u64 0, .string ⟨#[]⟩, .slice none 0 0, .int .i64 0, .int .i64 0, .string ⟨#[]⟩, .int .i64 0, .int .i64 0, .int .i64 0] 30 := by rw [hv6]; exact Bk.new2 w6 _ _ _
                have bv : Below w6.heap.size w6 v6 := by rw [hv6]; exact below2 w6 _ _
                have hvs : v6.heap.size = w6.heap.size + 2 := by rw [hv6]; simp
                obtain ⟨w7, hw7⟩ : ∃ w7, w7 = (((((((((((((((v6.setCell ⟨w6.heap.size, 0, none⟩ (.slice a6 0 c6)).setCell ⟨w6.heap.size, 1, none⟩ (.int .i64 r2)).setCell ⟨w6.heap.size, 2, none⟩ (.int .i64 d2)).setCell ⟨w6.heap.size + 1, 0, none⟩ (.int .i64 0)).setCell ⟨w6.heap.size + 1, 1, none⟩ (.string ⟨#[]⟩)).setCell ⟨w6.heap.size + 1, 2, none⟩ (.int .i64 g6.k)).setCell ⟨w6.heap.size + 1, 3, none⟩ (.int .i64 g6.i)).setCell ⟨w6.heap.size + 1, 4, none⟩ (.int .u64 g6.u)).setCell ⟨w6.heap.size + 1, 5, none⟩ (.string g6.s)).setCell ⟨w6.heap.size + 1, 6, none⟩ (.slice g6.a g6.l g6.c)).setCell ⟨w6.heap.size + 1, 7, none⟩ (.int .i64 0)).setCell ⟨w6.heap.size + 1, 8, none⟩ (.int .i64 0)).setCell ⟨w6.heap.size + 1, 9, none⟩ (.string ⟨#[]⟩)).setCell ⟨w6.heap.size + 1, 10, none⟩ (.int .i64 0)).setCell ⟨w6.heap.size + 1, 11, none⟩ (.int .i64 0)).setCell ⟨w6.heap.size + 1, 12, none⟩ (.int .i64 0) := ⟨_, rfl⟩
                have I7 : Bk w7 w6.heap.size #[.slice a6 0 c6, .int .i64 r2, .int .i64 d2] 24 := by rw [hw7]; exact Bk.set13 (Bk.full3 Iv _ _ _) (by omega) _ _ _ _ _ _ _ _ _ _ _ _ _
                have T7 : Bk w7 (w6.heap.size + 1) #[.int .i64 0, .string ⟨#[]⟩, .int .i64 g6.k, .int .i64 g6.i, .int .u64 g6.u, .string g6.s, .slice g6.a g6.l g6.c, .int .i64 0, .int .i64 0, .string ⟨#[]⟩, .int .i64 0, .int .i64 0, .int .i64 0] 30 := by rw [hw7]; exact Bk.full13 (Bk.set3 Tv (by omega) _ _ _) _ _ _ _ _ _ _ _ _ _ _ _ _
                have b7 : Below w6.heap.size w6 w7 := by rw [hw7]; exact below_set13 (below_set3 bv (Nat.le_refl _) _ _ _) (by omega) _ _ _ _ _ _ _ _ _ _ _ _ _
                have s7 : w7.heap.size = w6.heap.size + 2 := by rw [hw7]; simp only [World.size_setCell]; exact hvs
                obtain ⟨q0, q1, q2⟩ := Iv.c3
                have qf := Iv.f
                obtain ⟨j0, j1, j2, j3, j4, j5, j6, j7, j8, j9, j10, j11, j12⟩ := (Bk.set3 (M := w6.heap.size) Tv (by omega) (.slice a6 0 c6) (.int .i64 r2) (.int .i64 d2)).c13
                have jf := (Bk.set3 (M := w6.heap.size) Tv (by omega) (.slice a6 0 c6) (.int .i64 r2) (.int .i64 d2)).f
                have HV7 := Lib.hid hv6.symm
                have HW7 := Lib.hid hw7.symm
                clear hv6 hw7 Iv Tv bv hvs
                have lo7 := (LO5.out.step b6).step b7
                have HMk : Hid (Calls Try.prog 18 #[.agg #[.int .i64 0, .string ⟨#[]⟩, .int .i64 g6.k, .int .i64 g6.i, .int .u64 g6.u, .string g6.s, .slice g6.a g6.l g6.c, .int .i64 0, .int .i64 0, .string ⟨#[]⟩, .int .i64 0, .int .i64 0, .int .i64 0], .bool false, .pointer (some ⟨w.heap.size + 1 + 1, 0, none⟩)] w7 fun e w' => e = .returned (.bool true) ∧ Below w7.heap.size w7 w') := mark_no mZ g6 (w.heap.size + 1 + 1) w7
                obtain ⟨t0, t1, t2, t3, t4, t5, t6, t7, t8, t9, t10, t11, t12⟩ := T7.c13
                have LO7 := Lib.hid lo7
                clear lo7 b6 b7 m6 hk
                go_wp2_with (first | rw [HV7.out] | rw [HW7.out])
                refine HMk.out.mono ?_
                rintro e w8 ⟨rfl, b8⟩
                have lo8 := LO7.out.step b8
                have I8 := I7.step b8
                clear q0 q1 q2 qf j0 j1 j2 j3 j4 j5 j6 j7 j8 j9 j10 j11 j12 jf t0 t1 t2 t3 t4 t5 t6 t7 t8 t9 t10 t11 t12 HV7 HW7
                obtain ⟨q0, q1, q2⟩ := lo8.q.c3
                have qf := lo8.q.f
                obtain ⟨k0, k1, k2⟩ := I8.c3
                have lo9 := lo8.box (l2 := []) (a2 := a6) (c2 := c6) (r2 := r2) (d2 := d2) (.inl rfl)
                have LO9 := Lib.hid lo9
                have hin := IN2.out
                rw [h0] at hin
                have IN9 := Lib.hid hin
                clear lo8 lo9 I7 T7 I8 b8 HMk hin h0
                go_wp2_with fail
                exact ⟨⟨j + 1, [], a6, c6, r2, d2, inc ft i, lm, by go_num, by omega, LO9.out, IN9.out, by omega, by omega, by omega, by omega⟩, by simp [intOf]; omega⟩
              · obtain ⟨k, y6, hb6, hy6, a6, c6, g6, rfl, m6, -, b6⟩ := hk.2 h0
                have hs6 := b6.size
                obtain ⟨i6, ey6, hi6, hf6, hls, hin6⟩ := IN2.out.take (by omega) k y6 hb6 hy6
                obtain ⟨v6, hv6⟩ : ∃ v6, v6 = (w6.alloc (.cells #[.slice none 0 0, .int .i64 0, .int .i64 0] 24)).alloc (.cells #[.int .i64 0, .string ⟨#[]⟩, .int .i64 0, .int .i64 0, .int .u64 0, .string ⟨#[]⟩, .slice none 0 0, .int .i64 0, .int .i64 0, .string ⟨#[]⟩, .int .i64 0, .int .i64 0, .int .i64 0] 30) := ⟨_, rfl⟩
                have Iv : Bk v6 w6.heap.size #[.slice none 0 0, .int .i64 0, .int .i64 0] 24 := by rw [hv6]; exact (Bk.new w6 _ _).alloc _
                have Tv : Bk v6 (w6.heap.size + 1) #[.int .i64 0, .string ⟨#[]⟩, .int .i64 0, .int .i64 0, .int .u64 0, .string ⟨#[]⟩, .slice none 0 0, .int .i64 0, .int .i64 0, .string ⟨#[]⟩, .int .i64 0, .int .i64 0, .int .i64 0] 30 := by rw [hv6]; exact Bk.new2 w6 _ _ _
                have bv : Below w6.heap.size w6 v6 := by rw [hv6]; exact below2 w6 _ _
                have hvs : v6.heap.size = w6.heap.size + 2 := by rw [hv6]; simp
                obtain ⟨w7, hw7⟩ : ∃ w7, w7 = (((((((((((((((v6.setCell ⟨w6.heap.size, 0, none⟩ (.slice a6 (l2.eraseIdx k).length c6)).setCell ⟨w6.heap.size, 1, none⟩ (.int .i64 r2)).setCell ⟨w6.heap.size, 2, none⟩ (.int .i64 d2)).setCell ⟨w6.heap.size + 1, 0, none⟩ (.int .i64 y6.id)).setCell ⟨w6.heap.size + 1, 1, none⟩ (.string y6.tp)).setCell ⟨w6.heap.size + 1, 2, none⟩ (.int .i64 g6.k)).setCell ⟨w6.heap.size + 1, 3, none⟩ (.int .i64 g6.i)).setCell ⟨w6.heap.size + 1, 4, none⟩ (.int .u64 g6.u)).setCell ⟨w6.heap.size + 1, 5, none⟩ (.string g6.s)).setCell ⟨w6.heap.size + 1, 6, none⟩ (.slice g6.a g6.l g6.c)).setCell ⟨w6.heap.size + 1, 7, none⟩ (.int .i64 y6.ti)).setCell ⟨w6.heap.size + 1, 8, none⟩ (.int .i64 y6.un)).setCell ⟨w6.heap.size + 1, 9, none⟩ (.string y6.rp)).setCell ⟨w6.heap.size + 1, 10, none⟩ (.int .i64 y6.co)).setCell ⟨w6.heap.size + 1, 11, none⟩ (.int .i64 y6.pr)).setCell ⟨w6.heap.size + 1, 12, none⟩ (.int .i64 y6.ho) := ⟨_, rfl⟩
                have I7 : Bk w7 w6.heap.size #[.slice a6 (l2.eraseIdx k).length c6, .int .i64 r2, .int .i64 d2] 24 := by rw [hw7]; exact Bk.set13 (Bk.full3 Iv _ _ _) (by omega) _ _ _ _ _ _ _ _ _ _ _ _ _
                have T7 : Bk w7 (w6.heap.size + 1) #[.int .i64 y6.id, .string y6.tp, .int .i64 g6.k, .int .i64 g6.i, .int .u64 g6.u, .string g6.s, .slice g6.a g6.l g6.c, .int .i64 y6.ti, .int .i64 y6.un, .string y6.rp, .int .i64 y6.co, .int .i64 y6.pr, .int .i64 y6.ho] 30 := by rw [hw7]; exact Bk.full13 (Bk.set3 Tv (by omega) _ _ _) _ _ _ _ _ _ _ _ _ _ _ _ _
                have b7 : Below w6.heap.size w6 w7 := by rw [hw7]; exact below_set13 (below_set3 bv (Nat.le_refl _) _ _ _) (by omega) _ _ _ _ _ _ _ _ _ _ _ _ _
                have s7 : w7.heap.size = w6.heap.size + 2 := by rw [hw7]; simp only [World.size_setCell]; exact hvs
                obtain ⟨q0, q1, q2⟩ := Iv.c3
                have qf := Iv.f
                obtain ⟨j0, j1, j2, j3, j4, j5, j6, j7, j8, j9, j10, j11, j12⟩ := (Bk.set3 (M := w6.heap.size) Tv (by omega) (.slice a6 (l2.eraseIdx k).length c6) (.int .i64 r2) (.int .i64 d2)).c13
                have jf := (Bk.set3 (M := w6.heap.size) Tv (by omega) (.slice a6 (l2.eraseIdx k).length c6) (.int .i64 r2) (.int .i64 d2)).f
                have HV7 := Lib.hid hv6.symm
                have HW7 := Lib.hid hw7.symm
                clear hv6 hw7 Iv Tv bv hvs
                have lo7 := (LO5.out.step b6).step b7
                have m7 : Mz (fun g => w.heap.size + 4 ≤ g ∧ g < w7.heap.size) w7 a6 (l2.eraseIdx k) := mz_step (Mz.to m6 fun g hg => ⟨⟨by omega, hg.2⟩, rfl⟩) b7
                have HMk : Hid (Calls Try.prog 18 #[.agg #[.int .i64 y6.id, .string y6.tp, .int .i64 g6.k, .int .i64 g6.i, .int .u64 g6.u, .string g6.s, .slice g6.a g6.l g6.c, .int .i64 y6.ti, .int .i64 y6.un, .string y6.rp, .int .i64 y6.co, .int .i64 y6.pr, .int .i64 y6.ho], .bool true, .pointer (some ⟨w.heap.size + 1 + 1, 0, none⟩)] w7 fun e w' => e = .returned (.bool true) ∧ Fq w' (w.heap.size + 1) n (inc (inc ft i) i6) ∧ Ke (w.heap.size + 1) w7 w') := mark_yes y6 g6 (w.heap.size + 1 + 1) (w.heap.size + 1) n i6 (inc ft i) w7 lo7.f lo7.t ey6 hi6 (by omega) hf6
                obtain ⟨t0, t1, t2, t3, t4, t5, t6, t7, t8, t9, t10, t11, t12⟩ := T7.c13
                have LO7 := Lib.hid lo7
                have M7 := Lib.hid m7
                have HIN := Lib.hid hin6
                have hcmp : decide (y6.id < lw lm y6.pr) = false := decide_eq_false (by omega)
                clear lo7 m7 b6 b7 m6 hk hin6 hls hb6 hy6 ey6 hf6
                go_wp2_with (first | rw [HV7.out] | rw [HW7.out])
                refine HMk.out.mono ?_
                rintro e w8 ⟨rfl, fq8, ke8⟩
                have hs8 := ke8.size
                have lo8 := LO7.out.fate ke8 fq8
                have m8 := mz_ke M7.out ke8 (by omega)
                have I8 : Bk w8 w6.heap.size #[.slice a6 (l2.eraseIdx k).length c6, .int .i64 r2, .int .i64 d2] 24 := (ke8.block _ (by omega) (by omega)).trans I7
                have T8 : Bk w8 (w6.heap.size + 1) #[.int .i64 y6.id, .string y6.tp, .int .i64 g6.k, .int .i64 g6.i, .int .u64 g6.u, .string g6.s, .slice g6.a g6.l g6.c, .int .i64 y6.ti, .int .i64 y6.un, .string y6.rp, .int .i64 y6.co, .int .i64 y6.pr, .int .i64 y6.ho] 30 := (ke8.block _ (by omega) (by omega)).trans T7
                clear q0 q1 q2 qf j0 j1 j2 j3 j4 j5 j6 j7 j8 j9 j10 j11 j12 jf t0 t1 t2 t3 t4 t5 t6 t7 t8 t9 t10 t11 t12 HV7 HW7
                have hlook := look_lm w8 (w.heap.size + 1 + 1 + 1) lm lo8.p y6.pr
                obtain ⟨w9, lm9, hupd, hm9, hlw, ke9, hs9⟩ := upd_lm w8 (w.heap.size + 1 + 1 + 1) lm lo8.p y6.pr y6.id
                have lo9 := lo8.map ke9 hm9
                have m9 := mz_ke m8 ke9 (by omega)
                have I9 : Bk w9 w6.heap.size #[.slice a6 (l2.eraseIdx k).length c6, .int .i64 r2, .int .i64 d2] 24 := (ke9.block _ (by omega) (by omega)).trans I8
                have u0 : w8.cell? ⟨w6.heap.size + 1, 0, none⟩ = some (.int .i64 y6.id) := T8.c 0
                have u11 : w8.cell? ⟨w6.heap.size + 1, 11, none⟩ = some (.int .i64 y6.pr) := T8.c 11
                obtain ⟨q0, q1, q2⟩ := lo9.q.c3
                have qf := lo9.q.f
                obtain ⟨k0, k1, k2⟩ := I9.c3
                have LO10 := Lib.hid (lo9.box (c2 := c6) (r2 := r2) (d2 := d2) m9)
                have IN10 := Lib.hid (HIN.out lm9 hlw)
                clear lo8 lo9 m8 m9 I7 T7 I8 T8 I9 fq8 ke8 HMk ke9 hm9 hlw hs9
                go_wp2_with fail
                exact ⟨⟨j + 1, l2.eraseIdx k, a6, c6, r2, d2, inc (inc ft i) i6, lm9, by go_num, by omega, LO10.out, IN10.out, by omega, by omega, by omega, by omega⟩, by simp [intOf]; omega⟩
          · have ltk : decide ((j : Int) < (tk.length : Int)) = false := decide_eq_false (by omega)
            clear lo5 in2
            go_wp2_with (rw [HW5.out])
            exact ⟨⟨j + 1, l2, a2, c2, r2, d2, inc ft i, lm, by go_num, by omega, LO5.out, IN2.out, by omega, by omega, by omega, by omega⟩, by simp [intOf]; omega⟩
        · have hz1 : w.heap.size + 4 ≤ w1.heap.size := by omega
          have lo2 := LO1.out.step b2
          have m2' : Mz (fun g => w.heap.size + 4 ≤ g ∧ g < w2.heap.size) w2 a2 l2 := Mz.to m2 fun g hg => ⟨⟨by omega, hg.2⟩, rfl⟩
          have hs2 := b2.size
          clear q0 q1 q2 x0' x1' x2' x3' x4' x5' x6' x7' x8' x9' x10' x11' x12' HK HW1 m2
          rw [show (Value.agg (mZ.cs g2)) = .agg #[.int .i64 0, .string ⟨#[]⟩, .int .i64 g2.k, .int .i64 g2.i, .int .u64 g2.u, .string g2.s, .slice g2.a g2.l g2.c, .int .i64 0, .int .i64 0, .string ⟨#[]⟩, .int .i64 0, .int .i64 0, .int .i64 0] from rfl]
          obtain ⟨v2, hv2⟩ : ∃ v2, v2 = (w2.alloc (.cells #[.slice none 0 0, .int .i64 0, .int .i64 0] 24)).alloc (.cells #[.int .i64 0, .string ⟨#[]⟩, .int .i64 0, .int .i64 0, .int .u64 0, .string ⟨#[]⟩, .slice none 0 0, .int .i64 0, .int .i64 0, .string ⟨#[]⟩, .int .i64 0, .int .i64 0, .int .i64 0] 30) := ⟨_, rfl⟩
          have Iv : Bk v2 w2.heap.size #[.slice none 0 0, .int .i64 0, .int .i64 0] 24 := by rw [hv2]; exact (Bk.new w2 _ _).alloc _
          have Tv : Bk v2 (w2.heap.size + 1) #[.int .i64 0, .string ⟨#[]⟩, .int .i64 0, .int .i64 0, .int .u64 0, .string ⟨#[]⟩, .slice none 0 0, .int .i64 0, .int .i64 0, .string ⟨#[]⟩, .int .i64 0, .int .i64 0, .int .i64 0] 30 := by rw [hv2]; exact Bk.new2 w2 _ _ _
          have bv : Below w2.heap.size w2 v2 := by rw [hv2]; exact below2 w2 _ _
          have hvs : v2.heap.size = w2.heap.size + 2 := by rw [hv2]; simp
          obtain ⟨w3, hw3⟩ : ∃ w3, w3 = (((((((((((((((v2.setCell ⟨w2.heap.size, 0, none⟩ (.slice a2 l2.length c2)).setCell ⟨w2.heap.size, 1, none⟩ (.int .i64 r2)).setCell ⟨w2.heap.size, 2, none⟩ (.int .i64 d2)).setCell ⟨w2.heap.size + 1, 0, none⟩ (.int .i64 0)).setCell ⟨w2.heap.size + 1, 1, none⟩ (.string ⟨#[]⟩)).setCell ⟨w2.heap.size + 1, 2, none⟩ (.int .i64 g2.k)).setCell ⟨w2.heap.size + 1, 3, none⟩ (.int .i64 g2.i)).setCell ⟨w2.heap.size + 1, 4, none⟩ (.int .u64 g2.u)).setCell ⟨w2.heap.size + 1, 5, none⟩ (.string g2.s)).setCell ⟨w2.heap.size + 1, 6, none⟩ (.slice g2.a g2.l g2.c)).setCell ⟨w2.heap.size + 1, 7, none⟩ (.int .i64 0)).setCell ⟨w2.heap.size + 1, 8, none⟩ (.int .i64 0)).setCell ⟨w2.heap.size + 1, 9, none⟩ (.string ⟨#[]⟩)).setCell ⟨w2.heap.size + 1, 10, none⟩ (.int .i64 0)).setCell ⟨w2.heap.size + 1, 11, none⟩ (.int .i64 0)).setCell ⟨w2.heap.size + 1, 12, none⟩ (.int .i64 0) := ⟨_, rfl⟩
          have I3 : Bk w3 w2.heap.size #[.slice a2 l2.length c2, .int .i64 r2, .int .i64 d2] 24 := by rw [hw3]; exact Bk.set13 (Bk.full3 Iv _ _ _) (by omega) _ _ _ _ _ _ _ _ _ _ _ _ _
          have T3 : Bk w3 (w2.heap.size + 1) #[.int .i64 0, .string ⟨#[]⟩, .int .i64 g2.k, .int .i64 g2.i, .int .u64 g2.u, .string g2.s, .slice g2.a g2.l g2.c, .int .i64 0, .int .i64 0, .string ⟨#[]⟩, .int .i64 0, .int .i64 0, .int .i64 0] 30 := by rw [hw3]; exact Bk.full13 (Bk.set3 Tv (by omega) _ _ _) _ _ _ _ _ _ _ _ _ _ _ _ _
          have b3 : Below w2.heap.size w2 w3 := by rw [hw3]; exact below_set13 (below_set3 bv (Nat.le_refl _) _ _ _) (by omega) _ _ _ _ _ _ _ _ _ _ _ _ _
          have s3 : w3.heap.size = w2.heap.size + 2 := by rw [hw3]; simp only [World.size_setCell]; exact hvs
          obtain ⟨q0, q1, q2⟩ := Iv.c3
          have qf := Iv.f
          obtain ⟨j0, j1, j2, j3, j4, j5, j6, j7, j8, j9, j10, j11, j12⟩ := (Bk.set3 (M := w2.heap.size) Tv (by omega) (.slice a2 l2.length c2) (.int .i64 r2) (.int .i64 d2)).c13
          have jf := (Bk.set3 (M := w2.heap.size) Tv (by omega) (.slice a2 l2.length c2) (.int .i64 r2) (.int .i64 d2)).f
          have HV3 := Lib.hid hv2.symm
          have HW3 := Lib.hid hw3.symm
          clear hv2 hw3 Iv Tv bv hvs
          have lo3 := lo2.step b3
          have m3 := mz_step m2' b3
          have f3 : w3.cell? ⟨w.heap.size + 1 + 1, 0, none⟩ = some (.slice (some ⟨w.heap.size + 1, 0, none⟩) n n) := lo3.f.c 0
          obtain ⟨k0, k1, k2⟩ := I3.c3
          obtain ⟨t0, t1, t2, t3, t4, t5, t6, t7, t8, t9, t10, t11, t12⟩ := T3.c13
          have hlr : decide (R < (l2.length : Int)) = false := decide_eq_false (by have := in2.c; omega)
          have a0 := lo3.t.c j hlt
          have af := lo3.t.f j
          rw [hf0] at a0
          obtain ⟨wm, hwm⟩ : ∃ wm, wm = w3.setCell ⟨w.heap.size + 1, j, none⟩ (.int .i64 1) := ⟨_, rfl⟩
          have km : Ke (w.heap.size + 1) w3 wm := by rw [hwm]; exact (Ke.refl _ _).set _ _
          have fm : Fq wm (w.heap.size + 1) n (inc ft j) := by
            have := lo3.t.inc j hlt
            rw [hf0] at this
            rw [hwm]; exact this
          have lom := lo3.fate km fm
          have mm := mz_ke m3 km (by omega)
          have Im : Bk wm w2.heap.size #[.slice a2 l2.length c2, .int .i64 r2, .int .i64 d2] 24 := (km.block _ (by omega) (by omega)).trans I3
          have Tm : Bk wm (w2.heap.size + 1) #[.int .i64 0, .string ⟨#[]⟩, .int .i64 g2.k, .int .i64 g2.i, .int .u64 g2.u, .string g2.s, .slice g2.a g2.l g2.c, .int .i64 0, .int .i64 0, .string ⟨#[]⟩, .int .i64 0, .int .i64 0, .int .i64 0] 30 := (km.block _ (by omega) (by omega)).trans T3
          obtain ⟨e0, e1, e2⟩ := Im.c3
          obtain ⟨o0, o1, o2, o3, o4, o5, o6, o7, o8, o9, o10, o11, o12⟩ := Tm.c13
          have hsm : wm.heap.size = w3.heap.size := by rw [hwm]; simp only [World.size_setCell]
          have HWM := Lib.hid hwm.symm
          have HMk : Hid (Calls Try.prog 18 #[.agg #[.int .i64 0, .string ⟨#[]⟩, .int .i64 g2.k, .int .i64 g2.i, .int .u64 g2.u, .string g2.s, .slice g2.a g2.l g2.c, .int .i64 0, .int .i64 0, .string ⟨#[]⟩, .int .i64 0, .int .i64 0, .int .i64 0], .bool false, .pointer (some ⟨w.heap.size + 1 + 1, 0, none⟩)] wm fun e w' => e = .returned (.bool true) ∧ Below wm.heap.size wm w') := mark_no mZ g2 (w.heap.size + 1 + 1) wm
          have LO3 := Lib.hid lom
          have M3 := Lib.hid mm
          clear lo2 lo3 m2' m3 b2 b3 hwm km fm lom mm I3 T3 Tm
          go_wp2_with (first | rw [HV3.out] | rw [HW3.out] | rw [HWM.out])
          refine HMk.out.mono ?_
          rintro e w4 ⟨rfl, b4⟩
          have lo4 := LO3.out.step b4
          have m4 := mz_step M3.out b4
          have I4 := Im.step b4
          clear e0 e1 e2 o0 o1 o2 o3 o4 o5 o6 o7 o8 o9 o10 o11 o12 a0 af HWM b4 Im
          clear q0 q1 q2 qf j0 j1 j2 j3 j4 j5 j6 j7 j8 j9 j10 j11 j12 jf k0 k1 k2 t0 t1 t2 t3 t4 t5 t6 t7 t8 t9 t10 t11 t12 f3 HV3 HW3 HMk LO3 M3 LO1 hlr
          obtain ⟨q0, q1, q2⟩ := lo4.q.c3
          have qf := lo4.q.f
          obtain ⟨k0, k1, k2⟩ := I4.c3
          obtain ⟨w5, hw5⟩ : ∃ w5, w5 = ((w4.setCell ⟨w.heap.size, 0, none⟩ (.slice a2 l2.length c2)).setCell ⟨w.heap.size, 1, none⟩ (.int .i64 r2)).setCell ⟨w.heap.size, 2, none⟩ (.int .i64 d2) := ⟨_, rfl⟩
          have lo5 : Lo w n l2 a2 c2 r2 d2 (inc ft j) lm w5 := by rw [hw5]; exact lo4.box m4
          have HW5 := Lib.hid hw5.symm
          clear lo4 m4 I4 hw5
          have LO5 := Lib.hid lo5
          have IN2 := Lib.hid in2
          have f5 : w5.cell? ⟨w.heap.size + 1 + 1, 0, none⟩ = some (.slice (some ⟨w.heap.size + 1, 0, none⟩) n n) := lo5.f.c 0
          by_cases htk : j < tk.length
          · have ltk : (j : Int) < (tk.length : Int) := by omega
            obtain ⟨tb, htb⟩ : ∃ b, tk[j]? = some b := ⟨_, List.getElem?_eq_getElem htk⟩
            have htc : ∃ g' o', ad2 = some ⟨g', o', none⟩ ∧ w5.cell? ⟨g', o' + j, none⟩ = some (.bool tb) := by
              rcases HT.out with h | ⟨g', o', e1, e2, e3⟩
              · rw [h] at htk; simp at htk
              · exact ⟨g', o', e1, (lo5.b.cell (p := ⟨g', o' + j, none⟩) e2).trans (e3 j tb htb)⟩
            obtain ⟨g', o', rfl, tc⟩ := htc
            cases tb with
            | false =>
              clear lo5 in2 htb
              go_wp2_with (rw [HW5.out])
              exact ⟨⟨j + 1, l2, a2, c2, r2, d2, inc ft j, lm, by go_num, by omega, LO5.out, IN2.out, by omega, by omega, by omega, by omega⟩, by simp [intOf]; omega⟩
            | true =>
              have hsm2 : Sm l2 := fun y hy => by
                obtain ⟨i, q, rfl, -⟩ := in2.v.1 y hy
                exact mN_pts _ _
              have HTk := Lib.hid (qtake_any l2 a2 c2 r2 d2 w5 (by have := in2.c; omega) lo5.m.mw hsm2)
              obtain ⟨i0, i1, i2⟩ := lo5.q.c3
              clear lo5 in2 htb hsm2
              go_wp2_with (rw [HW5.out])
              refine HTk.out.mono ?_
              rintro e w6 hk
              clear i0 i1 i2 q0 q1 q2 qf k0 k1 k2 HW5 f5 HTk
              have hz5 := LO5.out.z
              by_cases h0 : l2 = []
              · obtain ⟨a6, c6, g6, rfl, m6, -, b6⟩ := hk.1 h0
                have hs6 := b6.size
                rw [show (Value.agg (mZ.cs g6)) = .agg #[.int .i64 0, .string ⟨#[]⟩, .int .i64 g6.k, .int .i64 g6.i, .int .u64 g6.u, .string g6.s, .slice g6.a g6.l g6.c, .int .i64 0, .int .i64 0, .string ⟨#[]⟩, .int .i64 0, .int .i64 0, .int .i64 0] from rfl]
                simp only [List.length_nil]
                obtain ⟨v6, hv6⟩ : ∃ v6, v6 = (w6.alloc (.cells #[.slice none 0 0, .int .i64 0, .int .i64 0] 24)).alloc (.cells #[.int .i64 0, .string ⟨#[]⟩, .int .i64 0, .int .i64 0, .int .u64 0, .string ⟨#[]⟩, .slice none 0 0, .int .i64 0, .int .i64 0, .string ⟨#[]⟩, .int .i64 0, .int .i64 0, .int .i64 0] 30) := ⟨_, rfl⟩
                have Iv : Bk v6 w6.heap.size #[.slice none 0 0, .int .i64 0, .int .i64 0] 24 := by rw [hv6]; exact (Bk.new w6 _ _).alloc _
                have Tv : Bk v6 (w6.heap.size + 1) #[.int .i64 0, .string ⟨#[]⟩, .int .i64 0, .int .i64 0, .int .u64 0, .string ⟨#[]⟩, .slice none 0 0, .int .i64 0, .int .i64 0, .string ⟨#[]⟩, .int .i64 0, .int .i64 0, .int .i64 0] 30 := by rw [hv6]; exact Bk.new2 w6 _ _ _
                have bv : Below w6.heap.size w6 v6 := by rw [hv6]; exact below2 w6 _ _
                have hvs : v6.heap.size = w6.heap.size + 2 := by rw [hv6]; simp
                obtain ⟨w7, hw7⟩ : ∃ w7, w7 = (((((((((((((((v6.setCell ⟨w6.heap.size, 0, none⟩ (.slice a6 0 c6)).setCell ⟨w6.heap.size, 1, none⟩ (.int .i64 r2)).setCell ⟨w6.heap.size, 2, none⟩ (.int .i64 d2)).setCell ⟨w6.heap.size + 1, 0, none⟩ (.int .i64 0)).setCell ⟨w6.heap.size + 1, 1, none⟩ (.string ⟨#[]⟩)).setCell ⟨w6.heap.size + 1, 2, none⟩ (.int .i64 g6.k)).setCell ⟨w6.heap.size + 1, 3, none⟩ (.int .i64 g6.i)).setCell ⟨w6.heap.size + 1, 4, none⟩ (.int .u64 g6.u)).setCell ⟨w6.heap.size + 1, 5, none⟩ (.string g6.s)).setCell ⟨w6.heap.size + 1, 6, none⟩ (.slice g6.a g6.l g6.c)).setCell ⟨w6.heap.size + 1, 7, none⟩ (.int .i64 0)).setCell ⟨w6.heap.size + 1, 8, none⟩ (.int .i64 0)).setCell ⟨w6.heap.size + 1, 9, none⟩ (.string ⟨#[]⟩)).setCell ⟨w6.heap.size + 1, 10, none⟩ (.int .i64 0)).setCell ⟨w6.heap.size + 1, 11, none⟩ (.int .i64 0)).setCell ⟨w6.heap.size + 1, 12, none⟩ (.int .i64 0) := ⟨_, rfl⟩
                have I7 : Bk w7 w6.heap.size #[.slice a6 0 c6, .int .i64 r2, .int .i64 d2] 24 := by rw [hw7]; exact Bk.set13 (Bk.full3 Iv _ _ _) (by omega) _ _ _ _ _ _ _ _ _ _ _ _ _
                have T7 : Bk w7 (w6.heap.size + 1) #[.int .i64 0, .string ⟨#[]⟩, .int .i64 g6.k, .int .i64 g6.i, .int .u64 g6.u, .string g6.s, .slice g6.a g6.l g6.c, .int .i64 0, .int .i64 0, .string ⟨#[]⟩, .int .i64 0, .int .i64 0, .int .i64 0] 30 := by rw [hw7]; exact Bk.full13 (Bk.set3 Tv (by omega) _ _ _) _ _ _ _ _ _ _ _ _ _ _ _ _
                have b7 : Below w6.heap.size w6 w7 := by rw [hw7]; exact below_set13 (below_set3 bv (Nat.le_refl _) _ _ _) (by omega) _ _ _ _ _ _ _ _ _ _ _ _ _
                have s7 : w7.heap.size = w6.heap.size + 2 := by rw [hw7]; simp only [World.size_setCell]; exact hvs
                obtain ⟨q0, q1, q2⟩ := Iv.c3
                have qf := Iv.f
                obtain ⟨j0, j1, j2, j3, j4, j5, j6, j7, j8, j9, j10, j11, j12⟩ := (Bk.set3 (M := w6.heap.size) Tv (by omega) (.slice a6 0 c6) (.int .i64 r2) (.int .i64 d2)).c13
                have jf := (Bk.set3 (M := w6.heap.size) Tv (by omega) (.slice a6 0 c6) (.int .i64 r2) (.int .i64 d2)).f
                have HV7 := Lib.hid hv6.symm
                have HW7 := Lib.hid hw7.symm
                clear hv6 hw7 Iv Tv bv hvs
                have lo7 := (LO5.out.step b6).step b7
                have HMk : Hid (Calls Try.prog 18 #[.agg #[.int .i64 0, .string ⟨#[]⟩, .int .i64 g6.k, .int .i64 g6.i, .int .u64 g6.u, .string g6.s, .slice g6.a g6.l g6.c, .int .i64 0, .int .i64 0, .string ⟨#[]⟩, .int .i64 0, .int .i64 0, .int .i64 0], .bool false, .pointer (some ⟨w.heap.size + 1 + 1, 0, none⟩)] w7 fun e w' => e = .returned (.bool true) ∧ Below w7.heap.size w7 w') := mark_no mZ g6 (w.heap.size + 1 + 1) w7
                obtain ⟨t0, t1, t2, t3, t4, t5, t6, t7, t8, t9, t10, t11, t12⟩ := T7.c13
                have LO7 := Lib.hid lo7
                clear lo7 b6 b7 m6 hk
                go_wp2_with (first | rw [HV7.out] | rw [HW7.out])
                refine HMk.out.mono ?_
                rintro e w8 ⟨rfl, b8⟩
                have lo8 := LO7.out.step b8
                have I8 := I7.step b8
                clear q0 q1 q2 qf j0 j1 j2 j3 j4 j5 j6 j7 j8 j9 j10 j11 j12 jf t0 t1 t2 t3 t4 t5 t6 t7 t8 t9 t10 t11 t12 HV7 HW7
                obtain ⟨q0, q1, q2⟩ := lo8.q.c3
                have qf := lo8.q.f
                obtain ⟨k0, k1, k2⟩ := I8.c3
                have lo9 := lo8.box (l2 := []) (a2 := a6) (c2 := c6) (r2 := r2) (d2 := d2) (.inl rfl)
                have LO9 := Lib.hid lo9
                have hin := IN2.out
                rw [h0] at hin
                have IN9 := Lib.hid hin
                clear lo8 lo9 I7 T7 I8 b8 HMk hin h0
                go_wp2_with fail
                exact ⟨⟨j + 1, [], a6, c6, r2, d2, inc ft j, lm, by go_num, by omega, LO9.out, IN9.out, by omega, by omega, by omega, by omega⟩, by simp [intOf]; omega⟩
              · obtain ⟨k, y6, hb6, hy6, a6, c6, g6, rfl, m6, -, b6⟩ := hk.2 h0
                have hs6 := b6.size
                obtain ⟨i6, ey6, hi6, hf6, hls, hin6⟩ := IN2.out.take (by omega) k y6 hb6 hy6
                obtain ⟨v6, hv6⟩ : ∃ v6, v6 = (w6.alloc (.cells #[.slice none 0 0, .int .i64 0, .int .i64 0] 24)).alloc (.cells #[.int .i64 0, .string ⟨#[]⟩, .int .i64 0, .int .i64 0, .int .u64 0, .string ⟨#[]⟩, .slice none 0 0, .int .i64 0, .int .i64 0, .string ⟨#[]⟩, .int .i64 0, .int .i64 0, .int .i64 0] 30) := ⟨_, rfl⟩
                have Iv : Bk v6 w6.heap.size #[.slice none 0 0, .int .i64 0, .int .i64 0] 24 := by rw [hv6]; exact (Bk.new w6 _ _).alloc _
                have Tv : Bk v6 (w6.heap.size + 1) #[.int .i64 0, .string ⟨#[]⟩, .int .i64 0, .int .i64 0, .int .u64 0, .string ⟨#[]⟩, .slice none 0 0, .int .i64 0, .int .i64 0, .string ⟨#[]⟩, .int .i64 0, .int .i64 0, .int .i64 0] 30 := by rw [hv6]; exact Bk.new2 w6 _ _ _
                have bv : Below w6.heap.size w6 v6 := by rw [hv6]; exact below2 w6 _ _
                have hvs : v6.heap.size = w6.heap.size + 2 := by rw [hv6]; simp
                obtain ⟨w7, hw7⟩ : ∃ w7, w7 = (((((((((((((((v6.setCell ⟨w6.heap.size, 0, none⟩ (.slice a6 (l2.eraseIdx k).length c6)).setCell ⟨w6.heap.size, 1, none⟩ (.int .i64 r2)).setCell ⟨w6.heap.size, 2, none⟩ (.int .i64 d2)).setCell ⟨w6.heap.size + 1, 0, none⟩ (.int .i64 y6.id)).setCell ⟨w6.heap.size + 1, 1, none⟩ (.string y6.tp)).setCell ⟨w6.heap.size + 1, 2, none⟩ (.int .i64 g6.k)).setCell ⟨w6.heap.size + 1, 3, none⟩ (.int .i64 g6.i)).setCell ⟨w6.heap.size + 1, 4, none⟩ (.int .u64 g6.u)).setCell ⟨w6.heap.size + 1, 5, none⟩ (.string g6.s)).setCell ⟨w6.heap.size + 1, 6, none⟩ (.slice g6.a g6.l g6.c)).setCell ⟨w6.heap.size + 1, 7, none⟩ (.int .i64 y6.ti)).setCell ⟨w6.heap.size + 1, 8, none⟩ (.int .i64 y6.un)).setCell ⟨w6.heap.size + 1, 9, none⟩ (.string y6.rp)).setCell ⟨w6.heap.size + 1, 10, none⟩ (.int .i64 y6.co)).setCell ⟨w6.heap.size + 1, 11, none⟩ (.int .i64 y6.pr)).setCell ⟨w6.heap.size + 1, 12, none⟩ (.int .i64 y6.ho) := ⟨_, rfl⟩
                have I7 : Bk w7 w6.heap.size #[.slice a6 (l2.eraseIdx k).length c6, .int .i64 r2, .int .i64 d2] 24 := by rw [hw7]; exact Bk.set13 (Bk.full3 Iv _ _ _) (by omega) _ _ _ _ _ _ _ _ _ _ _ _ _
                have T7 : Bk w7 (w6.heap.size + 1) #[.int .i64 y6.id, .string y6.tp, .int .i64 g6.k, .int .i64 g6.i, .int .u64 g6.u, .string g6.s, .slice g6.a g6.l g6.c, .int .i64 y6.ti, .int .i64 y6.un, .string y6.rp, .int .i64 y6.co, .int .i64 y6.pr, .int .i64 y6.ho] 30 := by rw [hw7]; exact Bk.full13 (Bk.set3 Tv (by omega) _ _ _) _ _ _ _ _ _ _ _ _ _ _ _ _
                have b7 : Below w6.heap.size w6 w7 := by rw [hw7]; exact below_set13 (below_set3 bv (Nat.le_refl _) _ _ _) (by omega) _ _ _ _ _ _ _ _ _ _ _ _ _
                have s7 : w7.heap.size = w6.heap.size + 2 := by rw [hw7]; simp only [World.size_setCell]; exact hvs
                obtain ⟨q0, q1, q2⟩ := Iv.c3
                have qf := Iv.f
                obtain ⟨j0, j1, j2, j3, j4, j5, j6, j7, j8, j9, j10, j11, j12⟩ := (Bk.set3 (M := w6.heap.size) Tv (by omega) (.slice a6 (l2.eraseIdx k).length c6) (.int .i64 r2) (.int .i64 d2)).c13
                have jf := (Bk.set3 (M := w6.heap.size) Tv (by omega) (.slice a6 (l2.eraseIdx k).length c6) (.int .i64 r2) (.int .i64 d2)).f
                have HV7 := Lib.hid hv6.symm
                have HW7 := Lib.hid hw7.symm
                clear hv6 hw7 Iv Tv bv hvs
                have lo7 := (LO5.out.step b6).step b7
                have m7 : Mz (fun g => w.heap.size + 4 ≤ g ∧ g < w7.heap.size) w7 a6 (l2.eraseIdx k) := mz_step (Mz.to m6 fun g hg => ⟨⟨by omega, hg.2⟩, rfl⟩) b7
                have HMk : Hid (Calls Try.prog 18 #[.agg #[.int .i64 y6.id, .string y6.tp, .int .i64 g6.k, .int .i64 g6.i, .int .u64 g6.u, .string g6.s, .slice g6.a g6.l g6.c, .int .i64 y6.ti, .int .i64 y6.un, .string y6.rp, .int .i64 y6.co, .int .i64 y6.pr, .int .i64 y6.ho], .bool true, .pointer (some ⟨w.heap.size + 1 + 1, 0, none⟩)] w7 fun e w' => e = .returned (.bool true) ∧ Fq w' (w.heap.size + 1) n (inc (inc ft j) i6) ∧ Ke (w.heap.size + 1) w7 w') := mark_yes y6 g6 (w.heap.size + 1 + 1) (w.heap.size + 1) n i6 (inc ft j) w7 lo7.f lo7.t ey6 hi6 (by omega) hf6
                obtain ⟨t0, t1, t2, t3, t4, t5, t6, t7, t8, t9, t10, t11, t12⟩ := T7.c13
                have LO7 := Lib.hid lo7
                have M7 := Lib.hid m7
                have HIN := Lib.hid hin6
                have hcmp : decide (y6.id < lw lm y6.pr) = false := decide_eq_false (by omega)
                clear lo7 m7 b6 b7 m6 hk hin6 hls hb6 hy6 ey6 hf6
                go_wp2_with (first | rw [HV7.out] | rw [HW7.out])
                refine HMk.out.mono ?_
                rintro e w8 ⟨rfl, fq8, ke8⟩
                have hs8 := ke8.size
                have lo8 := LO7.out.fate ke8 fq8
                have m8 := mz_ke M7.out ke8 (by omega)
                have I8 : Bk w8 w6.heap.size #[.slice a6 (l2.eraseIdx k).length c6, .int .i64 r2, .int .i64 d2] 24 := (ke8.block _ (by omega) (by omega)).trans I7
                have T8 : Bk w8 (w6.heap.size + 1) #[.int .i64 y6.id, .string y6.tp, .int .i64 g6.k, .int .i64 g6.i, .int .u64 g6.u, .string g6.s, .slice g6.a g6.l g6.c, .int .i64 y6.ti, .int .i64 y6.un, .string y6.rp, .int .i64 y6.co, .int .i64 y6.pr, .int .i64 y6.ho] 30 := (ke8.block _ (by omega) (by omega)).trans T7
                clear q0 q1 q2 qf j0 j1 j2 j3 j4 j5 j6 j7 j8 j9 j10 j11 j12 jf t0 t1 t2 t3 t4 t5 t6 t7 t8 t9 t10 t11 t12 HV7 HW7
                have hlook := look_lm w8 (w.heap.size + 1 + 1 + 1) lm lo8.p y6.pr
                obtain ⟨w9, lm9, hupd, hm9, hlw, ke9, hs9⟩ := upd_lm w8 (w.heap.size + 1 + 1 + 1) lm lo8.p y6.pr y6.id
                have lo9 := lo8.map ke9 hm9
                have m9 := mz_ke m8 ke9 (by omega)
                have I9 : Bk w9 w6.heap.size #[.slice a6 (l2.eraseIdx k).length c6, .int .i64 r2, .int .i64 d2] 24 := (ke9.block _ (by omega) (by omega)).trans I8
                have u0 : w8.cell? ⟨w6.heap.size + 1, 0, none⟩ = some (.int .i64 y6.id) := T8.c 0
                have u11 : w8.cell? ⟨w6.heap.size + 1, 11, none⟩ = some (.int .i64 y6.pr) := T8.c 11
                obtain ⟨q0, q1, q2⟩ := lo9.q.c3
                have qf := lo9.q.f
                obtain ⟨k0, k1, k2⟩ := I9.c3
                have LO10 := Lib.hid (lo9.box (c2 := c6) (r2 := r2) (d2 := d2) m9)
                have IN10 := Lib.hid (HIN.out lm9 hlw)
                clear lo8 lo9 m8 m9 I7 T7 I8 T8 I9 fq8 ke8 HMk ke9 hm9 hlw hs9
                go_wp2_with fail
                exact ⟨⟨j + 1, l2.eraseIdx k, a6, c6, r2, d2, inc (inc ft j) i6, lm9, by go_num, by omega, LO10.out, IN10.out, by omega, by omega, by omega, by omega⟩, by simp [intOf]; omega⟩
          · have ltk : decide ((j : Int) < (tk.length : Int)) = false := decide_eq_false (by omega)
            clear lo5 in2
            go_wp2_with (rw [HW5.out])
            exact ⟨⟨j + 1, l2, a2, c2, r2, d2, inc ft j, lm, by go_num, by omega, LO5.out, IN2.out, by omega, by omega, by omega, by omega⟩, by simp [intOf]; omega⟩
      · have hje : j = n := by omega
        subst hje
        obtain ⟨k0, k1, k2⟩ := lo.q.c3
        have LO := Lib.hid lo
        have INV := Lib.hid inv
        have AW := Lib.hid awake_any
        have hl30 : l.length ≤ 30 := by have := inv.c; omega
        clear lo inv
        go_wp2_with fail
        go_loopw [125] (fun s125 wv => ∃ (i : Nat) (ft' : Nat → Int), s125 = .int .i64 i ∧ i ≤ l.length ∧ Lo w j l a c r dr ft' lm wv ∧ Ft j j (l.drop i) ft' ∧ Lv (l.drop i) j) (fun s125 _ => l.length - (intOf s125).toNat)
        case atStart => exact ⟨0, ft, rfl, Nat.zero_le _, LO.out, by simpa using INV.out.f, by simpa using INV.out.v⟩
        case round =>
          obtain ⟨wv, ewv⟩ : ∃ wv, wv = wr := ⟨_, rfl⟩
          subst ewv
          obtain ⟨i, ft', rfl, hi, lo', hft, hlv⟩ := hrel
          clear k0 k1 k2
          by_cases hil : i < l.length
          · obtain ⟨x, hx⟩ : ∃ x, l[i]? = some x := ⟨_, List.getElem?_eq_getElem hil⟩
            have hx2 : (l.drop i)[0]? = some x := by rw [List.getElem?_drop, Nat.add_zero]; exact hx
            obtain ⟨i6, p6, e6, hi6, hf6, hft6⟩ := hft.out hlv hx2 (Nat.le_refl _)
            have hlv6 := hlv.out 0
            have ed : (l.drop i).eraseIdx 0 = l.drop (i + 1) := by rw [List.drop_eq_getElem_cons hil]; rfl
            rw [ed] at hft6 hlv6
            rcases lo'.m with h | ⟨b, o, rfl, hbl, h2⟩
            · rw [h] at hil; simp at hil
            obtain ⟨d, cc, -⟩ := h2 i x hx
            have ey : x.id = (i6 : Int) + 1 := by rw [e6]; rfl
            obtain ⟨wb, hwb⟩ : ∃ wb, wb = wv.alloc (.cells #[.int .i64 x.id, .string x.tp, .int .i64 d.k, .int .i64 d.i, .int .u64 d.u, .string d.s, .slice d.a d.l d.c, .int .i64 x.ti, .int .i64 x.un, .string x.rp, .int .i64 x.co, .int .i64 x.pr, .int .i64 x.ho] 30) := ⟨_, rfl⟩
            have bb : Below wv.heap.size wv wb := by rw [hwb]; exact below1 wv _
            have Xb : Bk wb wv.heap.size #[.int .i64 x.id, .string x.tp, .int .i64 d.k, .int .i64 d.i, .int .u64 d.u, .string d.s, .slice d.a d.l d.c, .int .i64 x.ti, .int .i64 x.un, .string x.rp, .int .i64 x.co, .int .i64 x.pr, .int .i64 x.ho] 30 := by rw [hwb]; exact Bk.new wv _ _
            have lob := lo'.step bb
            have HMk : Hid (Calls Try.prog 18 #[.agg #[.int .i64 x.id, .string x.tp, .int .i64 d.k, .int .i64 d.i, .int .u64 d.u, .string d.s, .slice d.a d.l d.c, .int .i64 x.ti, .int .i64 x.un, .string x.rp, .int .i64 x.co, .int .i64 x.pr, .int .i64 x.ho], .bool true, .pointer (some ⟨w.heap.size + 1 + 1, 0, none⟩)] wb fun e w' => e = .returned (.bool true) ∧ Fq w' (w.heap.size + 1) j (inc ft' i6) ∧ Ke (w.heap.size + 1) wb w') := mark_yes x d (w.heap.size + 1 + 1) (w.heap.size + 1) j i6 ft' wb lob.f lob.t ey hi6 (by omega) hf6
            obtain ⟨x0, x1, x2, x3, x4, x5, x6, x7, x8, x9, x10, x11, x12⟩ := cc
            obtain ⟨t0, t1, t2, t3, t4, t5, t6, t7, t8, t9, t10, t11, t12⟩ := Xb.c13
            have i0 : (0 : Int) ≤ (i : Int) := by omega
            have i1 : (i : Int) < (l.length : Int) := by omega
            have LOB := Lib.hid lob
            have HFT := Lib.hid hft6
            have HLV := Lib.hid hlv6
            have HWB := Lib.hid hwb.symm
            clear lo' lob hft hlv hft6 hlv6 ed h2 hx hx2 e6 hf6 ey bb Xb hwb
            go_wp2_with (rw [HWB.out])
            refine HMk.out.mono ?_
            rintro e w8 ⟨rfl, fq8, ke8⟩
            have LO8 := Lib.hid (LOB.out.fate ke8 fq8)
            clear x0 x1 x2 x3 x4 x5 x6 x7 x8 x9 x10 x11 x12 t0 t1 t2 t3 t4 t5 t6 t7 t8 t9 t10 t11 t12 fq8 ke8 LOB HMk HWB
            go_wp2_with fail
            exact ⟨⟨i + 1, inc ft' i6, by go_num, by omega, LO8.out, HFT.out, HLV.out⟩, by simp [intOf]; omega⟩
          · have hil2 : i = l.length := by omega
            subst hil2
            rw [List.drop_length] at hft
            have all := hft.done
            have f0 : wv.cell? ⟨w.heap.size + 1 + 1, 0, none⟩ = some (.slice (some ⟨w.heap.size + 1, 0, none⟩) j j) := lo'.f.c 0
            have LO' := Lib.hid lo'
            have ALL := Lib.hid all
            clear lo' hft hlv all
            go_wp2_with fail
            go_loopw [136] (fun s136 wz => ∃ i : Nat, s136 = .int .i64 i ∧ i ≤ j ∧ wz = wv) (fun s136 _ => j - (intOf s136).toNat)
            case atStart => exact ⟨0, rfl, Nat.zero_le _, rfl⟩
            case round =>
              obtain ⟨i, rfl, hi', rfl⟩ := hrel
              by_cases hij : i < j
              · have c0 := LO'.out.t.c i hij
                rw [ALL.out i hij] at c0
                have i0 : (0 : Int) ≤ (i : Int) := by omega
                have i1 : (i : Int) < (j : Int) := by omega
                go_wp2_with fail
                exact ⟨⟨i + 1, by go_num, by omega, by trivial⟩, by simp [intOf]; omega⟩
              · have hij2 : i = j := by omega
                subst hij2
                have BW := Lib.hid LO'.out.b
                go_wp2_with (go_at_call 8; refine (AW.out _).mono ?_; rintro e w9 ⟨rfl, b9⟩)
                go_ret
                exact ⟨rfl, BW.out.trans (b9.mono BW.out.size)⟩
end Go.Proofs.Ytdgjhclncjoonaa
