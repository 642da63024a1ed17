/- The document's Same over two values' trees: every field alike, part by part; the condition: the trees in memory. -/
import Derived.Test.YtdgjhclncjoonaaDRv
import Derived.Deep.RegionHeld3
namespace Go.Proofs.Ytdgjhclncjoonaa.Dt
open Go.RowKit

/-- Two rows alike, place by place. -/
def smL {T U : Type} (c : T → U → Bool) : List T → List U → Bool
  | [], [] => true
  | a :: xs, b :: ys => c a b && smL c xs ys
  | _, _ => false
/-- Two values alike. -/
def sm : (n m : Nat) → Tr n → Tr m → Bool
  | 0, _, a, _ => a.elim
  | _ + 1, 0, _, b => b.elim
  | n + 1, m + 1, a, b => decide (a.kd = b.kd ∧ a.it = b.it ∧ a.ut = b.ut ∧ a.tx = b.tx) && smL (sm n m) a.ks b.ks

theorem smL_len {T U : Type} (c : T → U → Bool) : ∀ (xs : List T) (ys : List U), xs.length ≠ ys.length → smL c xs ys = false
  | [], [], h => absurd rfl h
  | [], _ :: _, _ => rfl
  | _ :: _, [], _ => rfl
  | a :: xs, b :: ys, h => by simp only [smL]; rw [smL_len c xs ys (by simpa using h), Bool.and_false]

theorem toList_ne {x y : ByteArray} (h : x ≠ y) : (x.toList == y.toList) = false := by
  rw [beq_eq_false_iff_ne]
  intro e
  rw [ByteArray.toList_eq, ByteArray.toList_eq] at e
  exact h (Go.WideShapes.bytes_inj e)

set_option maxRecDepth 100000 in
set_option maxHeartbeats 2000000 in
theorem same_any : ∀ (n m : Nat) (a : Tr n) (b : Tr m) (v0 v1 v2 v3 v4 x0 x1 x2 x3 x4 : Value) (w : World), Rep w n [v0, v1, v2, v3, v4] a → Rep w m [x0, x1, x2, x3, x4] b →
    Calls Try.prog 28 #[.agg #[v0, v1, v2, v3, v4], .agg #[x0, x1, x2, x3, x4]] w fun e w' => e = .returned (.bool (sm n m a b)) ∧ Below w.heap.size w w' := by
  intro n
  induction n with
  | zero => intro m a; exact a.elim
  | succ n ih =>
    intro m a b v0 v1 v2 v3 v4 x0 x1 x2 x3 x4 w ha hb
    match m, b, hb with
    | m + 1, b, hb =>
      obtain ⟨ad, cap, e, htx, hlen, hcap, hk⟩ := ha
      obtain ⟨bd, bcap, eb, htx', hlen', hcap', hk'⟩ := hb
      simp only [List.cons.injEq, and_true] at e eb
      obtain ⟨rfl, rfl, rfl, rfl, rfl⟩ := e
      obtain ⟨rfl, rfl, rfl, rfl, rfl⟩ := eb
      have HI := Lib.hid ih
      have HK := Lib.hid hk
      have HK' := Lib.hid hk'
      clear ih hk hk'
      have b0 : ∀ o1 o2 : Obj, Below w.heap.size w ((w.alloc o1).alloc o2) := fun o1 o2 => ((Below.refl _ w).alloc (Nat.le_refl _) _).alloc (by simp) _
      by_cases h1 : a.kd = b.kd
      case neg =>
        have hs : sm (n + 1) (m + 1) a b = false := by simp [sm, h1]
        rw [hs]
        have g : (a.kd != b.kd) = true := by simpa using h1
        clear hs
        go_enter Try.func28, Try.ntmps28
        go_wp2_with fail
        go_ret
        exact ⟨rfl, b0 _ _⟩
      by_cases h2 : a.it = b.it
      case neg =>
        have hs : sm (n + 1) (m + 1) a b = false := by simp [sm, h2]
        rw [hs]
        have g : (a.it != b.it) = true := by simpa using h2
        rw [h1]
        clear hs h1
        go_enter Try.func28, Try.ntmps28
        go_wp2_with fail
        go_ret
        exact ⟨rfl, b0 _ _⟩
      by_cases h3 : a.ut = b.ut
      case neg =>
        have hs : sm (n + 1) (m + 1) a b = false := by simp [sm, h3]
        rw [hs]
        have g : (a.ut != b.ut) = true := by simpa using h3
        rw [h1, h2]
        clear hs h1 h2
        go_enter Try.func28, Try.ntmps28
        go_wp2_with fail
        go_ret
        exact ⟨rfl, b0 _ _⟩
      by_cases h4 : a.tx = b.tx
      case neg =>
        have hs : sm (n + 1) (m + 1) a b = false := by simp [sm, h4]
        rw [hs]
        have g := toList_ne h4
        have g' : ¬ a.tx.toList = b.tx.toList := by simpa using g
        rw [h1, h2, h3]
        clear hs h1 h2 h3 h4
        go_enter Try.func28, Try.ntmps28
        go_wp2_with fail
        go_ret
        exact ⟨rfl, b0 _ _⟩
      by_cases h5 : a.ks.length = b.ks.length
      case neg =>
        have hs : sm (n + 1) (m + 1) a b = false := by simp [sm, smL_len _ _ _ h5]
        rw [hs]
        have g : ((a.ks.length : Int) != (b.ks.length : Int)) = true := by simp; omega
        rw [h1, h2, h3, h4]
        clear hs h1 h2 h3 h4 h5
        go_enter Try.func28, Try.ntmps28
        go_wp2_with fail
        go_ret
        exact ⟨rfl, b0 _ _⟩
      have hs : sm (n + 1) (m + 1) a b = smL (sm n m) a.ks b.ks := by simp [sm, h1, h2, h3, h4]
      rw [hs, h1, h2, h3, h4]
      have g5 : ((a.ks.length : Int) != (b.ks.length : Int)) = false := by simp; omega
      have H5 := Lib.hid h5
      clear hs h1 h2 h3 h4 h5
      unfold maxLen at hcap hcap'
      have da : D5 ((w.alloc (.cells #[.int .i64 b.kd, .int .i64 b.it, .int .u64 b.ut, .string b.tx, .slice ad a.ks.length cap] 28)).alloc (.cells #[.int .i64 b.kd, .int .i64 b.it, .int .u64 b.ut, .string b.tx, .slice bd b.ks.length bcap] 28)) w.heap.size (.int .i64 b.kd) (.int .i64 b.it) (.int .u64 b.ut) (.string b.tx) (.slice ad a.ks.length cap) := (D5.new w _ _ _ _ _).kept (b := w.heap.size + 1) (World.grownBy_alloc _ _ _) (by omega)
      have db : D5 ((w.alloc (.cells #[.int .i64 b.kd, .int .i64 b.it, .int .u64 b.ut, .string b.tx, .slice ad a.ks.length cap] 28)).alloc (.cells #[.int .i64 b.kd, .int .i64 b.it, .int .u64 b.ut, .string b.tx, .slice bd b.ks.length bcap] 28)) (w.heap.size + 1) (.int .i64 b.kd) (.int .i64 b.it) (.int .u64 b.ut) (.string b.tx) (.slice bd b.ks.length bcap) := by
        have := D5.new (w.alloc (.cells #[.int .i64 b.kd, .int .i64 b.it, .int .u64 b.ut, .string b.tx, .slice ad a.ks.length cap] 28)) (.int .i64 b.kd) (.int .i64 b.it) (.int .u64 b.ut) (.string b.tx) (.slice bd b.ks.length bcap)
        rw [World.size_alloc] at this
        exact this
      go_enter Try.func28, Try.ntmps28
      go_wp2_with fail
      go_loopw [44] (fun si wr => ∃ (j : Nat), si = .int .i64 j ∧ j ≤ a.ks.length ∧ smL (sm n m) (a.ks.drop j) (b.ks.drop j) = smL (sm n m) a.ks b.ks ∧ Below (w.heap.size + 2) ((w.alloc (.cells #[.int .i64 b.kd, .int .i64 b.it, .int .u64 b.ut, .string b.tx, .slice ad a.ks.length cap] 28)).alloc (.cells #[.int .i64 b.kd, .int .i64 b.it, .int .u64 b.ut, .string b.tx, .slice bd b.ks.length bcap] 28)) wr) (fun si _ => a.ks.length - (intOf si).toNat)
      case atStart => exact ⟨0, rfl, Nat.zero_le _, rfl, Below.refl _ _⟩
      case round =>
        obtain ⟨j, rfl, hj, hinv, hb⟩ := hrel
        have HV := Lib.hid hinv
        clear hinv
        have dra : D5 wr w.heap.size (.int .i64 b.kd) (.int .i64 b.it) (.int .u64 b.ut) (.string b.tx) (.slice ad a.ks.length cap) := (hb.block w.heap.size (by omega)).trans da
        have drb : D5 wr (w.heap.size + 1) (.int .i64 b.kd) (.int .i64 b.it) (.int .u64 b.ut) (.string b.tx) (.slice bd b.ks.length bcap) := (hb.block (w.heap.size + 1) (by omega)).trans db
        have ca := dra.c.2.2.2.2
        have cb := drb.c.2.2.2.2
        have bw : Below w.heap.size w wr := (b0 _ _).trans (hb.mono (by omega))
        have hsz : w.heap.size + 2 ≤ wr.heap.size := by have := hb.size; simp at this; omega
        by_cases hlt : j < a.ks.length
        · have hlt' : j < b.ks.length := by have := H5.out; omega
          have hne : a.ks ≠ [] := by intro e; rw [e] at hlt; exact absurd hlt (Nat.not_lt_zero _)
          have hne' : b.ks ≠ [] := by intro e; rw [e] at hlt'; exact absurd hlt' (Nat.not_lt_zero _)
          rcases HK.out with hk | ⟨g, o, hk1, hk2⟩
          · exact absurd hk hne
          rcases HK'.out with hk' | ⟨p, q, hk1', hk2'⟩
          · exact absurd hk' hne'
          subst hk1; subst hk1'
          obtain ⟨v0, v1, v2, v3, v4, e0, e1, e2, e3, e4, rk⟩ := hk2 j _ (List.getElem?_eq_getElem hlt)
          obtain ⟨y0, y1, y2, y3, y4, f0, f1, f2, f3, f4, rk'⟩ := hk2' j _ (List.getElem?_eq_getElem hlt')
          have hg : g < w.heap.size := World.block_lt_of_cell? w _ e0
          have hp : p < w.heap.size := World.block_lt_of_cell? w _ f0
          have r1 := Rep.below bw n _ _ rk
          have r2 := Rep.below bw m _ _ rk'
          have c0 := (bw.cell (p := ⟨g, o + j * 5, none⟩) hg).trans e0
          have c1 := (bw.cell (p := ⟨g, o + j * 5 + 1, none⟩) hg).trans e1
          have c2 := (bw.cell (p := ⟨g, o + j * 5 + 2, none⟩) hg).trans e2
          have c3 := (bw.cell (p := ⟨g, o + j * 5 + 3, none⟩) hg).trans e3
          have c4 := (bw.cell (p := ⟨g, o + j * 5 + 4, none⟩) hg).trans e4
          have k0 := (bw.cell (p := ⟨p, q + j * 5, none⟩) hp).trans f0
          have k1 := (bw.cell (p := ⟨p, q + j * 5 + 1, none⟩) hp).trans f1
          have k2 := (bw.cell (p := ⟨p, q + j * 5 + 2, none⟩) hp).trans f2
          have k3 := (bw.cell (p := ⟨p, q + j * 5 + 3, none⟩) hp).trans f3
          have k4 := (bw.cell (p := ⟨p, q + j * 5 + 4, none⟩) hp).trans f4
          clear e0 e1 e2 e3 e4 f0 f1 f2 f3 f4 rk rk' hk2 hk2' HK HK'
          have hz0 : w.heap.size < wr.heap.size := by omega
          have hz1 : w.heap.size + 1 < wr.heap.size := by omega
          have hgz : g < wr.heap.size := by omega
          have hpz : p < wr.heap.size := by omega
          have KS : Hid (∀ w' : World, Below wr.heap.size wr w' → w'.cell? ⟨w.heap.size, 4, none⟩ = some (.slice (some ⟨g, o, none⟩) a.ks.length cap) ∧ w'.cell? ⟨w.heap.size + 1, 4, none⟩ = some (.slice (some ⟨p, q, none⟩) b.ks.length bcap) ∧ w'.cell? ⟨g, o + j * 5, none⟩ = some v0 ∧ w'.cell? ⟨g, o + j * 5 + 1, none⟩ = some v1 ∧ w'.cell? ⟨g, o + j * 5 + 2, none⟩ = some v2 ∧ w'.cell? ⟨g, o + j * 5 + 3, none⟩ = some v3 ∧ w'.cell? ⟨g, o + j * 5 + 4, none⟩ = some v4 ∧ w'.cell? ⟨p, q + j * 5, none⟩ = some y0 ∧ w'.cell? ⟨p, q + j * 5 + 1, none⟩ = some y1 ∧ w'.cell? ⟨p, q + j * 5 + 2, none⟩ = some y2 ∧ w'.cell? ⟨p, q + j * 5 + 3, none⟩ = some y3 ∧ w'.cell? ⟨p, q + j * 5 + 4, none⟩ = some y4) := fun w' h' => ⟨(h'.cell (p := ⟨w.heap.size, 4, none⟩) hz0).trans ca, (h'.cell (p := ⟨w.heap.size + 1, 4, none⟩) hz1).trans cb, (h'.cell (p := ⟨g, o + j * 5, none⟩) hgz).trans c0, (h'.cell (p := ⟨g, o + j * 5 + 1, none⟩) hgz).trans c1, (h'.cell (p := ⟨g, o + j * 5 + 2, none⟩) hgz).trans c2, (h'.cell (p := ⟨g, o + j * 5 + 3, none⟩) hgz).trans c3, (h'.cell (p := ⟨g, o + j * 5 + 4, none⟩) hgz).trans c4, (h'.cell (p := ⟨p, q + j * 5, none⟩) hpz).trans k0, (h'.cell (p := ⟨p, q + j * 5 + 1, none⟩) hpz).trans k1, (h'.cell (p := ⟨p, q + j * 5 + 2, none⟩) hpz).trans k2, (h'.cell (p := ⟨p, q + j * 5 + 3, none⟩) hpz).trans k3, (h'.cell (p := ⟨p, q + j * 5 + 4, none⟩) hpz).trans k4⟩
          have KC : Hid (Calls Try.prog 28 #[.agg #[v0, v1, v2, v3, v4], .agg #[y0, y1, y2, y3, y4]] wr.drew fun e w' => e = .returned (.bool (sm n m a.ks[j] b.ks[j])) ∧ Below wr.heap.size wr w') :=
            (HI.out m a.ks[j] b.ks[j] v0 v1 v2 v3 v4 y0 y1 y2 y3 y4 wr.drew (Rep.below (Below.drew (Below.refl _ wr)) n _ _ r1) (Rep.below (Below.drew (Below.refl _ wr)) m _ _ r2)).mono fun e w' ⟨he, hb'⟩ => ⟨he, (Below.drew (Below.refl _ wr)).trans hb'⟩
          clear r1 r2 dra drb
          go_wp2_with fail
          go_region_held3 (fun w' => w'.cell? ⟨w.heap.size, 4, none⟩ = some (.slice (some ⟨g, o, none⟩) a.ks.length cap) ∧ w'.cell? ⟨w.heap.size + 1, 4, none⟩ = some (.slice (some ⟨p, q, none⟩) b.ks.length bcap) ∧ w'.cell? ⟨g, o + j * 5, none⟩ = some v0 ∧ w'.cell? ⟨g, o + j * 5 + 1, none⟩ = some v1 ∧ w'.cell? ⟨g, o + j * 5 + 2, none⟩ = some v2 ∧ w'.cell? ⟨g, o + j * 5 + 3, none⟩ = some v3 ∧ w'.cell? ⟨g, o + j * 5 + 4, none⟩ = some v4 ∧ w'.cell? ⟨p, q + j * 5, none⟩ = some y0 ∧ w'.cell? ⟨p, q + j * 5 + 1, none⟩ = some y1 ∧ w'.cell? ⟨p, q + j * 5 + 2, none⟩ = some y2 ∧ w'.cell? ⟨p, q + j * 5 + 3, none⟩ = some y3 ∧ w'.cell? ⟨p, q + j * 5 + 4, none⟩ = some y4) (first | go_keep | exact KS.out _ (by assumption)) ((go_at_call 28; refine KC.out.mono ?_; rintro e w1 ⟨rfl, b1⟩))
          have hv := HV.out
          rw [drop_at a.ks j hlt, drop_at b.ks j hlt'] at hv
          simp only [smL] at hv
          have b2 : Below (w.heap.size + 2) ((w.alloc (.cells #[.int .i64 b.kd, .int .i64 b.it, .int .u64 b.ut, .string b.tx, .slice (some ⟨g, o, none⟩) a.ks.length cap] 28)).alloc (.cells #[.int .i64 b.kd, .int .i64 b.it, .int .u64 b.ut, .string b.tx, .slice (some ⟨p, q, none⟩) b.ks.length bcap] 28)) w1 := hb.trans (b1.mono hsz)
          have bw1 : Below w.heap.size w w1 := bw.trans (b1.mono (by omega))
          cases hr : sm n m a.ks[j] b.ks[j] with
          | true =>
            rw [hr, Bool.true_and] at hv
            have HW := Lib.hid hv
            clear hv HV c0 c1 c2 c3 c4 k0 k1 k2 k3 k4 ca cb b1 KS KC hr
            go_wp2_with fail
            refine ⟨⟨j + 1, by go_num, by omega, HW.out, b2⟩, by simp [intOf]; omega⟩
          | false =>
            rw [hr, Bool.false_and] at hv
            have HW := Lib.hid hv
            clear hv HV c0 c1 c2 c3 c4 k0 k1 k2 k3 k4 ca cb b1 KS KC hr
            go_wp2_with fail
            go_ret
            exact ⟨ret_b HW.out, bw1⟩
        · have hje : j = a.ks.length := by omega
          have hv := HV.out
          rw [hje, List.drop_length, List.drop_of_length_le (by have := H5.out; omega)] at hv
          have HW := Lib.hid hv
          clear hv HV
          go_wp2_with fail
          go_ret
          exact ⟨ret_b HW.out, bw⟩
end Go.Proofs.Ytdgjhclncjoonaa.Dt
