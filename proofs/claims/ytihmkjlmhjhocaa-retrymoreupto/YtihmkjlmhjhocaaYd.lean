/- The tries made one after another: how many, and the last one's result in memory of its own; the conditions: the row in memory, the bodies' copies. -/
import Derived.Test.YtihmkjlmhjhocaaYc
import Derived.Test.YtihmkjlmhjhocaaHa
namespace Go.Proofs.Ytihmkjlmhjhocaa
open Go.RowKit Go.Shelf
attribute [local go_sem] Oper.semAt_some

theorem set10 {w : World} {A : Nat} {y0 y1 y2 y3 y4 y5 y6 y7 y8 y9 : Value} {T : TypeId} (h : Bk w A #[y0, y1, y2, y3, y4, y5, y6, y7, y8, y9] T) (x0 x1 x2 x3 x4 x5 x6 x7 x8 x9 : Value) {W : World} (hW : W = (((((((((w.setCell ⟨A, 0, none⟩ x0).setCell ⟨A, 1, none⟩ x1).setCell ⟨A, 2, none⟩ x2).setCell ⟨A, 3, none⟩ x3).setCell ⟨A, 4, none⟩ x4).setCell ⟨A, 5, none⟩ x5).setCell ⟨A, 6, none⟩ x6).setCell ⟨A, 7, none⟩ x7).setCell ⟨A, 8, none⟩ x8).setCell ⟨A, 9, none⟩ x9) :
    Bk W A #[x0, x1, x2, x3, x4, x5, x6, x7, x8, x9] T ∧ W.heap.size = w.heap.size ∧ (∀ g, g ≠ A → W.heap[g]? = w.heap[g]?) ∧ Below A w W := by
  subst hW
  have h0 : Bk _ A #[x0, y1, y2, y3, y4, y5, y6, y7, y8, y9] T := h.set 0 x0
  have h1 : Bk _ A #[x0, x1, y2, y3, y4, y5, y6, y7, y8, y9] T := h0.set 1 x1
  have h2 : Bk _ A #[x0, x1, x2, y3, y4, y5, y6, y7, y8, y9] T := h1.set 2 x2
  have h3 : Bk _ A #[x0, x1, x2, x3, y4, y5, y6, y7, y8, y9] T := h2.set 3 x3
  have h4 : Bk _ A #[x0, x1, x2, x3, x4, y5, y6, y7, y8, y9] T := h3.set 4 x4
  have h5 : Bk _ A #[x0, x1, x2, x3, x4, x5, y6, y7, y8, y9] T := h4.set 5 x5
  have h6 : Bk _ A #[x0, x1, x2, x3, x4, x5, x6, y7, y8, y9] T := h5.set 6 x6
  have h7 : Bk _ A #[x0, x1, x2, x3, x4, x5, x6, x7, y8, y9] T := h6.set 7 x7
  have h8 : Bk _ A #[x0, x1, x2, x3, x4, x5, x6, x7, x8, y9] T := h7.set 8 x8
  have h9 : Bk _ A #[x0, x1, x2, x3, x4, x5, x6, x7, x8, x9] T := h8.set 9 x9
  refine ⟨h9, by simp, fun g hg => ?_, ?_⟩
  · simp (disch := (simp; omega)) only [Below.heap_setCell]
  · exact ((((((((((Below.refl A w).setCell (Nat.le_refl A) _).setCell (Nat.le_refl A) _).setCell (Nat.le_refl A) _).setCell (Nat.le_refl A) _).setCell (Nat.le_refl A) _).setCell (Nat.le_refl A) _).setCell (Nat.le_refl A) _).setCell (Nat.le_refl A) _).setCell (Nat.le_refl A) _).setCell (Nat.le_refl A) _


/-- Is it worth another try. -/
def Re.ag (x : Re) : Bool := agB x.er x.co x.pk
/-- The last one of these. -/
def lastR (l : List Re) : Re := l.getLast?.getD Re.zero
theorem lastR_snoc (l : List Re) (x : Re) : lastR (l ++ [x]) = x := by simp [lastR]

/-- What Run tells: m tries, x the last one's result. -/
structure Md (M : Nat) (zs : List Re) (m : Nat) (x : Re) : Prop where
  le : m ≤ M
  ahead : ∀ j y, j + 1 < m → zs[j]? = some y → y.ag = true
  fin : m = M ∨ (0 < m ∧ x.ag = false)
  zero : m = 0 → x = Re.zero
  last : 0 < m → zs[m - 1]? = some x
theorem Md.done {zs : List Re} {M : Nat} (hM : M ≤ zs.length) (h : ∀ y ∈ zs.take M, y.ag = true) : Md M zs M (lastR (zs.take M)) := by
  refine ⟨Nat.le_refl _, fun j y hj hy => h y ?_, .inl rfl, fun e => by simp [lastR, e], fun h0 => ?_⟩
  · exact List.mem_of_getElem? (i := j) (by rw [List.getElem?_take_of_lt (by omega)]; exact hy)
  · have hl : M - 1 < zs.length := by omega
    rw [List.getElem?_eq_getElem hl]
    congr 1
    unfold lastR
    rw [List.getLast?_eq_getElem?, List.length_take, Nat.min_eq_left hM, List.getElem?_take_of_lt (by omega), List.getElem?_eq_getElem hl]
    rfl
theorem Md.left {zs : List Re} {M k : Nat} {pre : List Re} {x : Re} (hM : M ≤ zs.length) (hk : k ≤ M) (e : pre ++ [x] = zs.take k) (h : ∀ y ∈ pre, y.ag = true) (hx : x.ag = false) : Md M zs (pre.length + 1) x := by
  have hl : pre.length + 1 = k := by have := congrArg List.length e; simp at this; omega
  have hg : ∀ j, (pre ++ [x])[j]? = if j < k then zs[j]? else none := fun j => by rw [e, List.getElem?_take]
  refine ⟨by omega, fun j y hj hy => h y ?_, .inr ⟨by omega, hx⟩, fun h0 => by omega, fun _ => ?_⟩
  · have := hg j
    rw [if_pos (by omega), hy, List.getElem?_append_left (by omega)] at this
    exact List.mem_of_getElem? this
  · have := hg pre.length
    rw [if_pos (by omega)] at this
    simp at this
    simpa using this.symm

theorem bk_own {β : Type} (B : Nat) (cs : β → Array Value) (T : TypeId) : Own (fun (s : β) W => Bk W B (cs s) T) := fun s W W' row hs hg hr => by
  refine (hg.block B hs.lt fun e => ?_).trans hs
  obtain ⟨_, ho, hc⟩ := hr B e.symm
  rw [show W.heap[B]? = some (.cells (cs s) T (0, 0)) from hs] at ho
  cases ho
  cases hc
theorem keeps_below {W W' : World} (h : Below W.heap.size W W') : KeepsOthers W W' := ⟨h.size, fun k _ hk _ => (h.block k (Array.getElem?_eq_some_iff.1 hk).1).trans hk⟩

theorem keeps10 {w : World} {A : Nat} {x0 x1 x2 x3 x4 x5 x6 x7 x8 x9 : Value} {W : World} (hW : W = (((((((((w.setCell ⟨A, 0, none⟩ x0).setCell ⟨A, 1, none⟩ x1).setCell ⟨A, 2, none⟩ x2).setCell ⟨A, 3, none⟩ x3).setCell ⟨A, 4, none⟩ x4).setCell ⟨A, 5, none⟩ x5).setCell ⟨A, 6, none⟩ x6).setCell ⟨A, 7, none⟩ x7).setCell ⟨A, 8, none⟩ x8).setCell ⟨A, 9, none⟩ x9) : KeepsOthers w W := by
  subst hW
  exact ((((((((((KeepsOthers.setCell _ _ _).trans (KeepsOthers.setCell _ _ _)).trans (KeepsOthers.setCell _ _ _)).trans (KeepsOthers.setCell _ _ _)).trans (KeepsOthers.setCell _ _ _)).trans (KeepsOthers.setCell _ _ _)).trans (KeepsOthers.setCell _ _ _)).trans (KeepsOthers.setCell _ _ _)).trans (KeepsOthers.setCell _ _ _)).trans (KeepsOthers.setCell _ _ _))
/-- What a round leaves. -/
theorem round_step {W w' : World} {N : Nat} {A : Array Value} {y0 y1 y2 y3 y4 y5 y6 y7 y8 y9 v : Value} {T T' T3 : TypeId} (bA : Bk W N A T') (bB : Bk W (N + 1) #[y0, y1, y2, y3, y4, y5, y6, y7, y8, y9] T) (bC : Bk W (N + 1 + 1) #[v] T3) (x0 x1 x2 x3 x4 x5 x6 x7 x8 x9 v' : Value) {W1 W2 : World}
    (h1 : W1 = ((((((((((W.setCell ⟨N + 1, 0, none⟩ x0).setCell ⟨N + 1, 1, none⟩ x1).setCell ⟨N + 1, 2, none⟩ x2).setCell ⟨N + 1, 3, none⟩ x3).setCell ⟨N + 1, 4, none⟩ x4).setCell ⟨N + 1, 5, none⟩ x5).setCell ⟨N + 1, 6, none⟩ x6).setCell ⟨N + 1, 7, none⟩ x7).setCell ⟨N + 1, 8, none⟩ x8).setCell ⟨N + 1, 9, none⟩ x9)) (h2 : W2 = W1.setCell ⟨N + 1 + 1, 0, none⟩ v') (b : Below W2.heap.size W2 w') :
    KeepsOthers W w' ∧ Below N W w' ∧ Bk w' N A T' ∧ Bk w' (N + 1) #[x0, x1, x2, x3, x4, x5, x6, x7, x8, x9] T ∧ Bk w' (N + 1 + 1) #[v'] T3 := by
  obtain ⟨k1, k2, k3, k4⟩ := set10 bB x0 x1 x2 x3 x4 x5 x6 x7 x8 x9 h1
  have e := keeps10 h1
  have hC : Bk W1 (N + 1 + 1) #[v] T3 := (k3 _ (by omega)).trans bC
  have hA : Bk W1 N A T' := (k3 _ (by omega)).trans bA
  subst h2
  have hC2 : Bk (W1.setCell ⟨N + 1 + 1, 0, none⟩ v') (N + 1 + 1) #[v'] T3 := hC.set 0 v'
  have hlt := bC.lt
  refine ⟨(e.trans (KeepsOthers.setCell _ _ _)).trans (keeps_below b), ?_, (hA.other _ _ (by simp; omega)).step b, (k1.other _ _ (by simp)).step b, hC2.step b⟩
  exact ((k4.mono (by omega)).setCell (p := ⟨N + 1 + 1, 0, none⟩) (by simp; omega) _).trans (b.mono (by simp; omega))

/-- A body is stored. -/
theorem set5b {W : World} {N : Nat} {A : Array Value} {y0 y1 y2 y3 y4 y5 y6 y7 y8 y9 v : Value} {T T' T3 : TypeId} (bA : Bk W N A T') (bB : Bk W (N + 1) #[y0, y1, y2, y3, y4, y5, y6, y7, y8, y9] T) (bC : Bk W (N + 1 + 1) #[v] T3) (x5 x6 x7 x8 x9 : Value) {W2 : World}
    (h2 : W2 = ((((W.setCell ⟨N + 1, 5, none⟩ x5).setCell ⟨N + 1, 6, none⟩ x6).setCell ⟨N + 1, 7, none⟩ x7).setCell ⟨N + 1, 8, none⟩ x8).setCell ⟨N + 1, 9, none⟩ x9) :
    W2.heap.size = W.heap.size ∧ (∀ g, g ≠ N + 1 → W2.heap[g]? = W.heap[g]?) ∧ Bk W2 N A T' ∧ Bk W2 (N + 1) #[y0, y1, y2, y3, y4, x5, x6, x7, x8, x9] T ∧ Bk W2 (N + 1 + 1) #[v] T3 := by
  subst h2
  have h5 : Bk _ (N + 1) #[y0, y1, y2, y3, y4, x5, y6, y7, y8, y9] T := bB.set 5 x5
  have h6 : Bk _ (N + 1) #[y0, y1, y2, y3, y4, x5, x6, y7, y8, y9] T := h5.set 6 x6
  have h7 : Bk _ (N + 1) #[y0, y1, y2, y3, y4, x5, x6, x7, y8, y9] T := h6.set 7 x7
  have h8 : Bk _ (N + 1) #[y0, y1, y2, y3, y4, x5, x6, x7, x8, y9] T := h7.set 8 x8
  have h9 : Bk _ (N + 1) #[y0, y1, y2, y3, y4, x5, x6, x7, x8, x9] T := h8.set 9 x9
  have hg : ∀ g, g ≠ N + 1 → (((((W.setCell ⟨N + 1, 5, none⟩ x5).setCell ⟨N + 1, 6, none⟩ x6).setCell ⟨N + 1, 7, none⟩ x7).setCell ⟨N + 1, 8, none⟩ x8).setCell ⟨N + 1, 9, none⟩ x9).heap[g]? = W.heap[g]? := fun g hg => by
    simp (disch := (simp; omega)) only [Below.heap_setCell]
  exact ⟨by simp, hg, (hg _ (by omega)).trans bA, h9, (hg _ (by omega)).trans bC⟩

set_option maxRecDepth 100000 in
set_option maxHeartbeats 4000000 in
theorem run_any (tries : Int) (ad : Option Addr) (zs : List Re) (cap : Nat) (w : World) (hreach : zs.length ≤ 9223372036854775807) (hcap : zs.length ≤ cap) (hI : Rrow w ad zs)
    (T : Re → Int → Int → Int → ByteArray → Option Addr → Nat → Nat → Nat → World → Prop) (hT : ∀ x k i u s a n c L w' w'', T x k i u s a n c L w' → w'.heap.size ≤ w''.heap.size → (∀ g, L ≤ g → g < w'.heap.size → w''.heap[g]? = w'.heap[g]?) → T x k i u s a n c L w'')
    (hC : ∀ x, x ∈ zs ∨ x = Re.zero → ∀ wx, Below w.heap.size w wx → Calls Try.prog 21 #[.agg #[.int .i64 x.k, .int .i64 x.i, .int .u64 x.u, .string x.s, .slice x.a x.n x.c]] wx fun e w' => ∃ k i u s a n c, e = .returned (.agg #[.int .i64 k, .int .i64 i, .int .u64 u, .string s, .slice a n c]) ∧ T x k i u s a n c wx.heap.size w' ∧ Below wx.heap.size wx w') :
    Calls Try.prog 12 #[.int .i64 tries, .slice ad zs.length cap] w fun e w' => ∃ m x k i u s a n c L, Md (most tries zs.length) zs m x ∧ e = .returned (.tuple #[.agg #[.int .i64 x.er, .int .i64 x.co, .int .i64 x.pk, .int .i64 x.pn, .bool x.has, .int .i64 k, .int .i64 i, .int .u64 u, .string s, .slice a n c], .int .i64 m]) ∧ w.heap.size ≤ L ∧ T x k i u s a n c L w' ∧ Below w.heap.size w w' := by
  refine (callsIn_wide (n := 6)).1 ?_
  refine callsIn_of_wp_marks Try.func12 rfl trivial ?_ rfl
  simp only [Try.ntmps12, List.size_toArray, List.length_cons, List.length_nil, Nat.reduceAdd, Nat.reduceSub, Array.replicate_succ, Array.replicate_zero, List.push_toArray, List.append_toArray, List.nil_append, List.cons_append]
  have HC := Lib.hid hC
  have HT := Lib.hid hT
  have HI := Lib.hid hI
  clear hC hT hI
  gi_wp2_with (refine ⟨trivial, ?_⟩; gi_at_call 20; refine (allowed_in Fence.wide _ trivial rfl tries ad zs.length cap _).mono ?_; rintro e w' ⟨rfl, rfl⟩)
  have A0 := ((((Bk.new w #[.int .i64 0, .int .i64 0, .int .i64 0, .int .i64 0, .bool false, .int .i64 0, .int .i64 0, .int .u64 0, .string ⟨#[]⟩, .slice none 0 0] 30).alloc (.cells #[.int .i64 0, .int .i64 0, .int .i64 0, .int .i64 0, .bool false, .int .i64 0, .int .i64 0, .int .u64 0, .string ⟨#[]⟩, .slice none 0 0] 30)).alloc (.cells #[.int .i64 0] 3)).alloc (.cells #[.slice ad zs.length cap] 34)).alloc (.cells #[.int .i64 (most tries zs.length)] 2)
  have B0 := (((Bk.new (w.alloc (.cells #[.int .i64 0, .int .i64 0, .int .i64 0, .int .i64 0, .bool false, .int .i64 0, .int .i64 0, .int .u64 0, .string ⟨#[]⟩, .slice none 0 0] 30)) #[.int .i64 0, .int .i64 0, .int .i64 0, .int .i64 0, .bool false, .int .i64 0, .int .i64 0, .int .u64 0, .string ⟨#[]⟩, .slice none 0 0] 30).alloc (.cells #[.int .i64 0] 3)).alloc (.cells #[.slice ad zs.length cap] 34)).alloc (.cells #[.int .i64 (most tries zs.length)] 2)
  have C0 := ((Bk.new ((w.alloc (.cells #[.int .i64 0, .int .i64 0, .int .i64 0, .int .i64 0, .bool false, .int .i64 0, .int .i64 0, .int .u64 0, .string ⟨#[]⟩, .slice none 0 0] 30)).alloc (.cells #[.int .i64 0, .int .i64 0, .int .i64 0, .int .i64 0, .bool false, .int .i64 0, .int .i64 0, .int .u64 0, .string ⟨#[]⟩, .slice none 0 0] 30)) #[.int .i64 0] 3).alloc (.cells #[.slice ad zs.length cap] 34)).alloc (.cells #[.int .i64 (most tries zs.length)] 2)
  have D0 := (Bk.new (((w.alloc (.cells #[.int .i64 0, .int .i64 0, .int .i64 0, .int .i64 0, .bool false, .int .i64 0, .int .i64 0, .int .u64 0, .string ⟨#[]⟩, .slice none 0 0] 30)).alloc (.cells #[.int .i64 0, .int .i64 0, .int .i64 0, .int .i64 0, .bool false, .int .i64 0, .int .i64 0, .int .u64 0, .string ⟨#[]⟩, .slice none 0 0] 30)).alloc (.cells #[.int .i64 0] 3)) #[.slice ad zs.length cap] 34).alloc (.cells #[.int .i64 (most tries zs.length)] 2)
  have E0 := Bk.new ((((w.alloc (.cells #[.int .i64 0, .int .i64 0, .int .i64 0, .int .i64 0, .bool false, .int .i64 0, .int .i64 0, .int .u64 0, .string ⟨#[]⟩, .slice none 0 0] 30)).alloc (.cells #[.int .i64 0, .int .i64 0, .int .i64 0, .int .i64 0, .bool false, .int .i64 0, .int .i64 0, .int .u64 0, .string ⟨#[]⟩, .slice none 0 0] 30)).alloc (.cells #[.int .i64 0] 3)).alloc (.cells #[.slice ad zs.length cap] 34)) #[.int .i64 (most tries zs.length)] 2
  have hB0 : Below w.heap.size w (((((w.alloc (.cells #[.int .i64 0, .int .i64 0, .int .i64 0, .int .i64 0, .bool false, .int .i64 0, .int .i64 0, .int .u64 0, .string ⟨#[]⟩, .slice none 0 0] 30)).alloc (.cells #[.int .i64 0, .int .i64 0, .int .i64 0, .int .i64 0, .bool false, .int .i64 0, .int .i64 0, .int .u64 0, .string ⟨#[]⟩, .slice none 0 0] 30)).alloc (.cells #[.int .i64 0] 3)).alloc (.cells #[.slice ad zs.length cap] 34)).alloc (.cells #[.int .i64 (most tries zs.length)] 2)) := (((((Below.refl _ w).alloc (Nat.le_refl _) _).alloc (by simp) _).alloc (by simp; omega) _).alloc (by simp; omega) _).alloc (by simp; omega) _
  have hsz : (((((w.alloc (.cells #[.int .i64 0, .int .i64 0, .int .i64 0, .int .i64 0, .bool false, .int .i64 0, .int .i64 0, .int .u64 0, .string ⟨#[]⟩, .slice none 0 0] 30)).alloc (.cells #[.int .i64 0, .int .i64 0, .int .i64 0, .int .i64 0, .bool false, .int .i64 0, .int .i64 0, .int .u64 0, .string ⟨#[]⟩, .slice none 0 0] 30)).alloc (.cells #[.int .i64 0] 3)).alloc (.cells #[.slice ad zs.length cap] 34)).alloc (.cells #[.int .i64 (most tries zs.length)] 2)).heap.size = w.heap.size + 5 := by simp
  obtain ⟨W0, hW0⟩ : ∃ W0, ((((w.alloc (.cells #[.int .i64 0, .int .i64 0, .int .i64 0, .int .i64 0, .bool false, .int .i64 0, .int .i64 0, .int .u64 0, .string ⟨#[]⟩, .slice none 0 0] 30)).alloc (.cells #[.int .i64 0, .int .i64 0, .int .i64 0, .int .i64 0, .bool false, .int .i64 0, .int .i64 0, .int .u64 0, .string ⟨#[]⟩, .slice none 0 0] 30)).alloc (.cells #[.int .i64 0] 3)).alloc (.cells #[.slice ad zs.length cap] 34)).alloc (.cells #[.int .i64 (most tries zs.length)] 2) = W0 := ⟨_, rfl⟩
  simp only [World.size_alloc] at A0 B0 C0 D0 E0
  rw [hW0] at A0 B0 C0 D0 E0 hB0 hsz ⊢
  clear hW0
  refine wpIn_rangeFunc_ownH rfl (by decide) (gf := 23) (lb := #[.pointer (some ⟨w.heap.size + 1 + 1 + 1, 0, none⟩), .pointer (some ⟨w.heap.size + 1 + 1 + 1 + 1, 0, none⟩)]) rfl trivial (enters_of Try.func23 (by kernel_rfl) rfl)
    (allowed_stops Fence.wide (6 - 1) trivial rfl (by decide) (w.heap.size + 1 + 1 + 1) (w.heap.size + 1 + 1 + 1 + 1) w.heap.size cap ad tries zs hreach hcap W0 (by omega) (by omega) (by omega) (D0.c 0) (E0.c 0)
      (by
        rcases HI.out with h | ⟨b, o, e, h1, h2⟩
        · exact .inl h
        · exact .inr ⟨b, o, e, h1, fun j x hj => (h2 j x hj).below hB0 h1⟩)) belowK_t (belowK_b (by omega)) (Below.refl _ _) (fun _ => rfl)
    (fun pre W => (Bk W w.heap.size #[.int .i64 0, .int .i64 0, .int .i64 0, .int .i64 0, .bool false, .int .i64 0, .int .i64 0, .int .u64 0, .string ⟨#[]⟩, .slice none 0 0] 30 ∧ Bk W (w.heap.size + 1) (lastR pre).cs 30 ∧ Bk W (w.heap.size + 1 + 1) #[.int .i64 pre.length] 3 ∧ ∀ y ∈ pre, y.ag = true) ∧ Below w.heap.size w W)
    (fun c pre W => (Bk W w.heap.size #[.int .i64 0, .int .i64 0, .int .i64 0, .int .i64 0, .bool false, .int .i64 0, .int .i64 0, .int .u64 0, .string ⟨#[]⟩, .slice none 0 0] 30 ∧ Bk W (w.heap.size + 1) (lastR pre).cs 30 ∧ Bk W (w.heap.size + 1 + 1) #[.int .i64 pre.length] 3 ∧ (c = .exit 0 ∧ ∃ (p : List Re) (x : Re), pre = p ++ [x] ∧ (∀ y ∈ p, y.ag = true) ∧ x.ag = false)) ∧ Below w.heap.size w W)
    (OwnFrom.and (OwnFrom.and (Own.from (bk_own _ (fun _ => _) _) _) (OwnFrom.and (Own.from (bk_own _ (fun pre => (lastR pre).cs) _) _) (OwnFrom.and (Own.from (bk_own _ (fun pre : List Re => #[.int .i64 pre.length]) _) _) (fun _ _ _ _ h _ _ => h)))) (ownFrom_below (Nat.le_refl _) (by omega)))
    (fun c => OwnFrom.and (OwnFrom.and (Own.from (bk_own _ (fun _ => _) _) _) (OwnFrom.and (Own.from (bk_own _ (fun pre => (lastR pre).cs) _) _) (OwnFrom.and (Own.from (bk_own _ (fun pre : List Re => #[.int .i64 pre.length]) _) _) (fun _ _ _ _ h _ _ => h)))) (ownFrom_below (Nat.le_refl _) (by omega)))
    ⟨⟨A0, B0, C0, fun y hy => by cases hy⟩, hB0⟩
    (fun x a' W => ∃ Bx, w.heap.size + 3 ≤ Bx ∧ Bk W Bx x.cs 30 ∧ a' = { tmps := #[.int .i64 tries, .slice ad zs.length cap, undef, undef, .pointer (some ⟨w.heap.size, 0, none⟩), .int .i64 0, .pointer (some ⟨w.heap.size + 1, 0, none⟩), .pointer (some ⟨w.heap.size + 1 + 1, 0, none⟩), .pointer (some ⟨Bx, 0, none⟩), .int .i64 tries, .slice ad zs.length cap, .func (.func 23) #[] #[.pointer (some ⟨w.heap.size + 1 + 1 + 1, 0, none⟩), .pointer (some ⟨w.heap.size + 1 + 1 + 1 + 1, 0, none⟩)], .agg x.cs, undef, undef, undef, undef, undef, undef, undef, undef, undef, undef, undef, undef], defers := [] })
    (fun x a' _ X Y row hs hg hr => by obtain ⟨Bx, h1, h2, h3⟩ := hs; exact ⟨Bx, h1, bk_own Bx (fun (_ : Unit) => x.cs) _ () X Y row h2 hg (fun r e => (hr r e).2), h3⟩)
    ?assign ?body ?done ?stop
  case assign =>
    rintro l pre x W K ⟨⟨bA, bB, bC, hag⟩, hB⟩ hK
    have hs := hB.size
    have hlt := bC.lt
    gi_wp2
    exact hK _ _ ((KeepsOthers.alloc _ _).from _) ((Below.refl _ W).alloc hs _) ⟨⟨bA.alloc _, bB.alloc _, bC.alloc _, hag⟩, hB.alloc hs _⟩ ⟨W.heap.size, by omega, Bk.new W _ _, rfl⟩
  case body =>
    rintro l pre x a' W hl hr ⟨⟨bA, bB, bC, hag⟩, hB⟩ ⟨Bx, hBx, bX, rfl⟩ hlt
    have hlp : pre.length < 9223372036854775807 := by unfold most at hlt; omega
    obtain ⟨x0, x1, x2, x3, x4, x5, x6, x7, x8, x9⟩ := bX.c10
    obtain ⟨y0, y1, y2, y3, y4, y5, y6, y7, y8, y9⟩ := bB.c10
    have fB := bB.f
    have c0 := bC.c 0
    have fC := bC.f 0
    have hs := hB.size
    have hBl := bX.lt
    gi_wp2_with (refine ⟨trivial, ?_⟩; gi_at_call 9; refine (CallsIn.inRound l (callsIn_wide.2 (again_any x.er x.co x.pk x.pn x.has _ _ _ _ _ _))).mono ?_; rintro e w' ⟨rfl, b1⟩)
    all_goals obtain ⟨r1, r2, r3, r4, r5⟩ := round_step bA bB bC _ _ _ _ _ _ _ _ _ _ _ rfl rfl b1
    all_goals have hl1 : ((pre ++ [x]).length : Int) = (pre.length : Int) + 1 := by simp
    · rename_i hag2
      have hag3 : x.ag = false := by simpa [Re.ag] using hag2
      refine ⟨r1.from _, ⟨r3, ?_, ?_, rfl, pre, x, rfl, hag, hag3⟩, hB.trans r2⟩
      · rw [lastR_snoc]; exact r4
      · rw [hl1]; exact r5
    · rename_i hag2
      have hag3 : x.ag = true := by simpa [Re.ag] using hag2
      refine ⟨r1.from _, r2, ⟨r3, ?_, ?_, fun y hy => ?_⟩, hB.trans r2⟩
      · rw [lastR_snoc]; exact r4
      · rw [hl1]; exact r5
      · rcases List.mem_append.1 hy with h | h
        · exact hag y h
        · simp at h; rw [h]; exact hag3
  case done =>
    rintro D ys W hD rfl ⟨⟨bA, bB, bC, hag⟩, hB⟩ hK
    have hMd := Md.done (by unfold most; omega) hag
    have hml : (zs.take (most tries zs.length)).length = most tries zs.length := by rw [List.length_take]; unfold most; omega
    rw [hml] at bC
    have hx : lastR (zs.take (most tries zs.length)) ∈ zs ∨ lastR (zs.take (most tries zs.length)) = Re.zero := by
      rcases Nat.eq_zero_or_pos (most tries zs.length) with h | h
      · exact .inr (hMd.zero h)
      · exact .inl (List.mem_of_getElem? (hMd.last h))
    generalize lastR (zs.take (most tries zs.length)) = x at *
    obtain ⟨m, hmm⟩ : ∃ m, m = most tries zs.length := ⟨_, rfl⟩
    rw [← hmm] at bC
    have HM : Hid (Md (most tries zs.length) zs m x) := Lib.hid (by rw [hmm]; exact hMd)
    have HB := Lib.hid hB
    have HX := Lib.hid hx
    clear hMd hB hx hmm hml hag D0 E0 A0 B0 C0 hB0 HI
    obtain ⟨y0, y1, y2, y3, y4, y5, y6, y7, y8, y9⟩ := bB.c10
    have hWs : w.heap.size + 5 ≤ W.heap.size := by have := (Array.getElem?_eq_some_iff.1 hK).1; omega
    have HCx := Lib.hid (HC.out x HX.out W HB.out)
    have BB := Lib.hid bB
    have BC := Lib.hid bC
    have BA := Lib.hid bA
    have HK := Lib.hid hK
    clear bB bC bA hK HC
    gi_wp2_with (refine ⟨trivial, ?_⟩; gi_at_call 21; refine (callsIn_wide.2 HCx.out).mono ?_; rintro e w' ⟨k, i, u, s, a, n, c, rfl, t1, b1⟩; clear y0 y1 y2 y3 y4 y5 y6 y7 y8 y9; have bB := BB.out.step b1; have bC := BC.out.step b1; have bA := BA.out.step b1; obtain ⟨z0, z1, z2, z3, z4, z5, z6, z7, z8, z9⟩ := bB.c10; obtain ⟨a0, a1, a2, a3, a4, a5, a6, a7, a8, a9⟩ := bA.c10; have fB := bB.f; have fA := bA.f; have c0 := bC.c 0; have hKs := b1.block D (Array.getElem?_eq_some_iff.1 HK.out).1; have T1 := Lib.hid t1; clear t1 bB bC bA)
    have bB := BB.out.step b1
    have bC := BC.out.step b1
    have bA := BA.out.step b1
    obtain ⟨W5, hW5⟩ : ∃ W5, W5 = ((((w'.setCell ⟨w.heap.size + 1, 5, none⟩ (.int .i64 k)).setCell ⟨w.heap.size + 1, 6, none⟩ (.int .i64 i)).setCell ⟨w.heap.size + 1, 7, none⟩ (.int .u64 u)).setCell ⟨w.heap.size + 1, 8, none⟩ (.string s)).setCell ⟨w.heap.size + 1, 9, none⟩ (.slice a n c) := ⟨_, rfl⟩
    obtain ⟨q1, q2, q3, q4, q5⟩ := set5b bA bB bC _ _ _ _ _ hW5
    rw [← hW5]
    have hB5 : Below w.heap.size w' W5 := by rw [hW5]; exact (((((Below.refl _ w').setCell (p := ⟨w.heap.size + 1, 5, none⟩) (by simp) _).setCell (p := ⟨w.heap.size + 1, 6, none⟩) (by simp) _).setCell (p := ⟨w.heap.size + 1, 7, none⟩) (by simp) _).setCell (p := ⟨w.heap.size + 1, 8, none⟩) (by simp) _).setCell (p := ⟨w.heap.size + 1, 9, none⟩) (by simp) _
    clear z0 z1 z2 z3 z4 z5 z6 z7 z8 z9 a0 a1 a2 a3 a4 a5 a6 a7 a8 a9 fB fA c0 bA bB bC hW5
    obtain ⟨z0, z1, z2, z3, z4, z5, z6, z7, z8, z9⟩ := q4.c10
    obtain ⟨a0, a1, a2, a3, a4, a5, a6, a7, a8, a9⟩ := q3.c10
    have fA := q3.f
    have c0 := q5.c 0
    gi_region
    obtain ⟨W6, hW6⟩ : ∃ W6, W6 = (((((((((W5.setCell ⟨w.heap.size, 0, none⟩ (.int .i64 x.er)).setCell ⟨w.heap.size, 1, none⟩ (.int .i64 x.co)).setCell ⟨w.heap.size, 2, none⟩ (.int .i64 x.pk)).setCell ⟨w.heap.size, 3, none⟩ (.int .i64 x.pn)).setCell ⟨w.heap.size, 4, none⟩ (.bool x.has)).setCell ⟨w.heap.size, 5, none⟩ (.int .i64 k)).setCell ⟨w.heap.size, 6, none⟩ (.int .i64 i)).setCell ⟨w.heap.size, 7, none⟩ (.int .u64 u)).setCell ⟨w.heap.size, 8, none⟩ (.string s)).setCell ⟨w.heap.size, 9, none⟩ (.slice a n c) := ⟨_, rfl⟩
    obtain ⟨g1, g2, g3, g4⟩ := set10 q3 _ _ _ _ _ _ _ _ _ _ hW6
    rw [← hW6]
    clear z0 z1 z2 z3 z4 z5 z6 z7 z8 z9 a0 a1 a2 a3 a4 a5 a6 a7 a8 a9 fA c0 hW6
    have hD' : w.heap.size + 5 ≤ D := by omega
    have hK6 : W6.drew.heap[D]? = some (.deferred (some [])) := (((g3 D (by omega)).trans (q2 D (by omega))).trans hKs).trans HK.out
    have G1 : Bk (W6.drew.putObj D (.deferred none)) w.heap.size #[.int .i64 x.er, .int .i64 x.co, .int .i64 x.pk, .int .i64 x.pn, .bool x.has, .int .i64 k, .int .i64 i, .int .u64 u, .string s, .slice a n c] 30 := (World.putObj_heap_other (by omega)).trans g1
    have hb1 := b1.size
    have FIN : Hid (w.heap.size ≤ W.heap.size ∧ T x k i u s a n c W.heap.size (W6.drew.putObj D (.deferred none)) ∧ Below w.heap.size w (W6.drew.putObj D (.deferred none))) := by
      refine Lib.hid ⟨by omega, HT.out _ _ _ _ _ _ _ _ _ _ _ T1.out (by simp [g2, q1]) fun g h1 h2 => ?_, ?_⟩
      · have hne : g ≠ D := by have := (Array.getElem?_eq_some_iff.1 HK.out).1; omega
        exact (World.putObj_heap_other (fun e => hne (by first | exact e | exact e.symm))).trans ((g3 g (by omega)).trans (q2 g (by omega)))
      · have e1 : Below w.heap.size w w' := HB.out.trans (b1.mono (by omega))
        have e2 : Below w.heap.size w' W5 := hB5
        have e3 : Below w.heap.size w W6 := (e1.trans e2).trans g4
        exact e3.drew.trans (belowK_b (w := w) (Nat.le_refl _) _ D _ _ (by omega) hK6 rfl rfl)
    obtain ⟨r0, r1, r2, r3, r4, r5, r6, r7, r8, r9⟩ := G1.c10
    clear q1 q2 q3 q4 q5 g1 g2 g3 g4 G1 hKs
    gi_wp2
    refine ⟨by simp, .inl ⟨_, _, rfl, run_takeDeferred hK6, ?_⟩⟩
    obtain ⟨f1, f2, f3⟩ := FIN.out
    refine ⟨.tuple #[.agg #[.int .i64 x.er, .int .i64 x.co, .int .i64 x.pk, .int .i64 x.pn, .bool x.has, .int .i64 k, .int .i64 i, .int .u64 u, .string s, .slice a n c], .int .i64 m], ?_, m, x, k, i, u, s, a, n, c, W.heap.size, HM.out, rfl, f1, f2, f3⟩
    simp [results, Try.results12, go_sem, r0, r1, r2, r3, r4, r5, r6, r7, r8, r9]
  case stop =>
    rintro D cc pre W hD ⟨kk, hk, hpre⟩ ⟨⟨bA, bB, bC, rfl, p, x, rfl, hp, hx⟩, hB⟩ hK
    have hMd := Md.left (by unfold most; omega) hk hpre hp hx
    rw [lastR_snoc] at bB
    have hl1 : ((p ++ [x]).length : Int) = ((p.length + 1 : Nat) : Int) := by simp
    rw [hl1] at bC
    have hx' : x ∈ zs ∨ x = Re.zero := .inl (List.mem_of_getElem? (hMd.last (by omega)))
    generalize p.length + 1 = m at bC hMd
    have HM := Lib.hid hMd
    clear hp hx hpre hk hl1
    have HB := Lib.hid hB
    have HX := Lib.hid hx'
    clear hMd hB hx' D0 E0 A0 B0 C0 hB0 HI
    obtain ⟨y0, y1, y2, y3, y4, y5, y6, y7, y8, y9⟩ := bB.c10
    have hWs : w.heap.size + 5 ≤ W.heap.size := by have := (Array.getElem?_eq_some_iff.1 hK).1; omega
    have HCx := Lib.hid (HC.out x HX.out W HB.out)
    have BB := Lib.hid bB
    have BC := Lib.hid bC
    have BA := Lib.hid bA
    have HK := Lib.hid hK
    clear bB bC bA hK HC
    gi_wp2_with (refine ⟨trivial, ?_⟩; gi_at_call 21; refine (callsIn_wide.2 HCx.out).mono ?_; rintro e w' ⟨k, i, u, s, a, n, c, rfl, t1, b1⟩; clear y0 y1 y2 y3 y4 y5 y6 y7 y8 y9; have bB := BB.out.step b1; have bC := BC.out.step b1; have bA := BA.out.step b1; obtain ⟨z0, z1, z2, z3, z4, z5, z6, z7, z8, z9⟩ := bB.c10; obtain ⟨a0, a1, a2, a3, a4, a5, a6, a7, a8, a9⟩ := bA.c10; have fB := bB.f; have fA := bA.f; have c0 := bC.c 0; have hKs := b1.block D (Array.getElem?_eq_some_iff.1 HK.out).1; have T1 := Lib.hid t1; clear t1 bB bC bA)
    have bB := BB.out.step b1
    have bC := BC.out.step b1
    have bA := BA.out.step b1
    obtain ⟨W5, hW5⟩ : ∃ W5, W5 = ((((w'.setCell ⟨w.heap.size + 1, 5, none⟩ (.int .i64 k)).setCell ⟨w.heap.size + 1, 6, none⟩ (.int .i64 i)).setCell ⟨w.heap.size + 1, 7, none⟩ (.int .u64 u)).setCell ⟨w.heap.size + 1, 8, none⟩ (.string s)).setCell ⟨w.heap.size + 1, 9, none⟩ (.slice a n c) := ⟨_, rfl⟩
    obtain ⟨q1, q2, q3, q4, q5⟩ := set5b bA bB bC _ _ _ _ _ hW5
    rw [← hW5]
    have hB5 : Below w.heap.size w' W5 := by rw [hW5]; exact (((((Below.refl _ w').setCell (p := ⟨w.heap.size + 1, 5, none⟩) (by simp) _).setCell (p := ⟨w.heap.size + 1, 6, none⟩) (by simp) _).setCell (p := ⟨w.heap.size + 1, 7, none⟩) (by simp) _).setCell (p := ⟨w.heap.size + 1, 8, none⟩) (by simp) _).setCell (p := ⟨w.heap.size + 1, 9, none⟩) (by simp) _
    clear z0 z1 z2 z3 z4 z5 z6 z7 z8 z9 a0 a1 a2 a3 a4 a5 a6 a7 a8 a9 fB fA c0 bA bB bC hW5
    obtain ⟨z0, z1, z2, z3, z4, z5, z6, z7, z8, z9⟩ := q4.c10
    obtain ⟨a0, a1, a2, a3, a4, a5, a6, a7, a8, a9⟩ := q3.c10
    have fA := q3.f
    have c0 := q5.c 0
    gi_region
    obtain ⟨W6, hW6⟩ : ∃ W6, W6 = (((((((((W5.setCell ⟨w.heap.size, 0, none⟩ (.int .i64 x.er)).setCell ⟨w.heap.size, 1, none⟩ (.int .i64 x.co)).setCell ⟨w.heap.size, 2, none⟩ (.int .i64 x.pk)).setCell ⟨w.heap.size, 3, none⟩ (.int .i64 x.pn)).setCell ⟨w.heap.size, 4, none⟩ (.bool x.has)).setCell ⟨w.heap.size, 5, none⟩ (.int .i64 k)).setCell ⟨w.heap.size, 6, none⟩ (.int .i64 i)).setCell ⟨w.heap.size, 7, none⟩ (.int .u64 u)).setCell ⟨w.heap.size, 8, none⟩ (.string s)).setCell ⟨w.heap.size, 9, none⟩ (.slice a n c) := ⟨_, rfl⟩
    obtain ⟨g1, g2, g3, g4⟩ := set10 q3 _ _ _ _ _ _ _ _ _ _ hW6
    rw [← hW6]
    clear z0 z1 z2 z3 z4 z5 z6 z7 z8 z9 a0 a1 a2 a3 a4 a5 a6 a7 a8 a9 fA c0 hW6
    have hD' : w.heap.size + 5 ≤ D := by omega
    have hK6 : W6.drew.heap[D]? = some (.deferred (some [])) := (((g3 D (by omega)).trans (q2 D (by omega))).trans hKs).trans HK.out
    have G1 : Bk (W6.drew.putObj D (.deferred none)) w.heap.size #[.int .i64 x.er, .int .i64 x.co, .int .i64 x.pk, .int .i64 x.pn, .bool x.has, .int .i64 k, .int .i64 i, .int .u64 u, .string s, .slice a n c] 30 := (World.putObj_heap_other (by omega)).trans g1
    have hb1 := b1.size
    have FIN : Hid (w.heap.size ≤ W.heap.size ∧ T x k i u s a n c W.heap.size (W6.drew.putObj D (.deferred none)) ∧ Below w.heap.size w (W6.drew.putObj D (.deferred none))) := by
      refine Lib.hid ⟨by omega, HT.out _ _ _ _ _ _ _ _ _ _ _ T1.out (by simp [g2, q1]) fun g h1 h2 => ?_, ?_⟩
      · have hne : g ≠ D := by have := (Array.getElem?_eq_some_iff.1 HK.out).1; omega
        exact (World.putObj_heap_other (fun e => hne (by first | exact e | exact e.symm))).trans ((g3 g (by omega)).trans (q2 g (by omega)))
      · have e1 : Below w.heap.size w w' := HB.out.trans (b1.mono (by omega))
        have e2 : Below w.heap.size w' W5 := hB5
        have e3 : Below w.heap.size w W6 := (e1.trans e2).trans g4
        exact e3.drew.trans (belowK_b (w := w) (Nat.le_refl _) _ D _ _ (by omega) hK6 rfl rfl)
    obtain ⟨r0, r1, r2, r3, r4, r5, r6, r7, r8, r9⟩ := G1.c10
    clear q1 q2 q3 q4 q5 g1 g2 g3 g4 G1 hKs
    gi_wp2
    refine ⟨by simp, .inl ⟨_, _, rfl, run_takeDeferred hK6, ?_⟩⟩
    obtain ⟨f1, f2, f3⟩ := FIN.out
    refine ⟨.tuple #[.agg #[.int .i64 x.er, .int .i64 x.co, .int .i64 x.pk, .int .i64 x.pn, .bool x.has, .int .i64 k, .int .i64 i, .int .u64 u, .string s, .slice a n c], .int .i64 m], ?_, m, x, k, i, u, s, a, n, c, W.heap.size, HM.out, rfl, f1, f2, f3⟩
    simp [results, Try.results12, go_sem, r0, r1, r2, r3, r4, r5, r6, r7, r8, r9]
end Go.Proofs.Ytihmkjlmhjhocaa
