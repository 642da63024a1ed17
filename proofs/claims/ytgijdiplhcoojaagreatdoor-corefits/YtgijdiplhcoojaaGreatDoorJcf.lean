/- The same cells stand for one tree; both Fits by the state's trees at depth 16; the conditions: the state in memory, the table of fields as the text lays it. -/
import Derived.Test.YtgijdiplhcoojaaGreatDoorJce
import Derived.Test.YtgijdiplhcoojaaGreatDoorJaj
import Derived.Test.YtgijdiplhcoojaaGreatDoorJbc
import Derived.Test.YtgijdiplhcoojaaGreatDoorXRv
namespace Go.Proofs.YtgijdiplhcoojaaGreatDoor.Dt
open Go.RowKit

theorem vwL_map {T : Type} (c : T → Int → Bool × Int) : ∀ (ks : List T) (l : Int), vwL c ks l = vwL id (ks.map c) l
  | [], _ => rfl
  | t :: ts, l => by
    simp only [vwL, List.map_cons, id]
    rw [vwL_map c ts]

/-- Two trees behind the same cells: their kids stand behind the same cells. -/
theorem rep_kids {w : World} {n m : Nat} {cs : List Value} {t : Tr (n + 1)} {t' : Tr (m + 1)} (h : Rep w (n + 1) cs t) (h' : Rep w (m + 1) cs t') : t'.kd = t.kd ∧ t'.it = t.it ∧ t'.ut = t.ut ∧ t'.tx = t.tx ∧ t'.ks.length = t.ks.length ∧ ∀ (i : Nat) (y : Tr m) (x : Tr n), t'.ks[i]? = some y → t.ks[i]? = some x → ∃ cs, Rep w n cs x ∧ Rep w m cs y := by
  obtain ⟨ad, cap, e, -, -, -, hk⟩ := h
  obtain ⟨ad', cap', e', -, -, -, hk'⟩ := h'
  rw [e] at e'
  simp only [List.cons.injEq, Value.int.injEq, Value.string.injEq, Value.slice.injEq, true_and, and_true] at e'
  obtain ⟨h1, h2, h3, h4, rfl, h5, rfl⟩ := e'
  refine ⟨h1.symm, h2.symm, h3.symm, h4.symm, h5.symm, fun i y x hy hx => ?_⟩
  rcases hk with hk | ⟨g, o, ha, hk⟩
  · rw [hk] at hx; simp at hx
  rcases hk' with hk' | ⟨g', o', ha', hk'⟩
  · rw [hk'] at hy; simp at hy
  rw [ha] at ha'
  obtain ⟨rfl, rfl⟩ : g = g' ∧ o = o' := by simpa using ha'
  obtain ⟨v0, v1, v2, v3, v4, c0, c1, c2, c3, c4, r⟩ := hk i x hx
  obtain ⟨y0, y1, y2, y3, y4, d0, d1, d2, d3, d4, r'⟩ := hk' i y hy
  rw [c0] at d0; rw [c1] at d1; rw [c2] at d2; rw [c3] at d3; rw [c4] at d4
  obtain rfl := Option.some.inj d0
  obtain rfl := Option.some.inj d1
  obtain rfl := Option.some.inj d2
  obtain rfl := Option.some.inj d3
  obtain rfl := Option.some.inj d4
  exact ⟨_, r, r'⟩
theorem rep_uniq {w : World} : ∀ (n : Nat) (cs : List Value) (t t' : Tr n), Rep w n cs t → Rep w n cs t' → t' = t
  | 0, _, t, _, _, _ => t.elim
  | n + 1, cs, t, t', h, h' => by
    obtain ⟨h1, h2, h3, h4, h5, h6⟩ := rep_kids h h'
    have hks : t'.ks = t.ks := List.ext_getElem h5 fun i a b => by
      obtain ⟨c, r1, r2⟩ := h6 i _ _ (List.getElem?_eq_getElem a) (List.getElem?_eq_getElem b)
      exact rep_uniq n c _ _ r1 r2
    exact Prod.ext h1 (Prod.ext h2 (Prod.ext h3 (Prod.ext h4 hks)))
theorem rep_vw {w : World} : ∀ (n m : Nat) (cs : List Value) (t : Tr n) (t' : Tr m), Rep w n cs t → Rep w m cs t' → ∀ (f : Nat) (l : Int), vw f m t' l = vw f n t l
  | 0, _, _, t, _, _, _ => t.elim
  | _ + 1, 0, _, _, t', _, _ => t'.elim
  | n + 1, m + 1, cs, t, t', h, h' => by
    obtain ⟨h1, h2, h3, h4, h5, h6⟩ := rep_kids h h'
    intro f l
    cases f with
    | zero => rfl
    | succ f =>
      have hok : t'.ok = t.ok := by unfold Tr.ok; rw [h1, h2, h3, h4, h5]
      have hm : t'.ks.map (fun t l => vw f m t l) = t.ks.map (fun t l => vw f n t l) := map_at _ _ _ _ h5 fun i y x hy hx => by
        obtain ⟨c, r1, r2⟩ := h6 i y x hy hx
        exact funext fun l => rep_vw n m c x y r1 r2 f l
      simp only [vw]
      rw [hok, vwL_map, hm, ← vwL_map]
theorem rep_vB {w : World} {n m : Nat} {cs : List Value} {t : Tr n} {t' : Tr m} (h : Rep w n cs t) (h' : Rep w m cs t') : vB m t' = vB n t := by
  unfold vB
  rw [rep_vw n m cs t t' h h']
theorem rl_at {w : World} {n m : Nat} {a : Option Addr} {ts : List (Tr n)} {us : List (Tr m)} (h : Rl w n a ts) (h' : Rl w m a us) (i : Nat) (x : Tr n) (y : Tr m) (hx : ts[i]? = some x) (hy : us[i]? = some y) : ∃ cs, Rep w n cs x ∧ Rep w m cs y := by
  rcases h with rfl | ⟨g, o, rfl, hk⟩
  · simp at hx
  rcases h' with rfl | ⟨g', o', ha, hk'⟩
  · simp at hy
  obtain ⟨rfl, rfl⟩ : g = g' ∧ o = o' := by simpa using ha
  obtain ⟨v0, v1, v2, v3, v4, c0, c1, c2, c3, c4, r⟩ := hk i x hx
  obtain ⟨y0, y1, y2, y3, y4, d0, d1, d2, d3, d4, r'⟩ := hk' i y hy
  rw [c0] at d0; rw [c1] at d1; rw [c2] at d2; rw [c3] at d3; rw [c4] at d4
  obtain rfl := Option.some.inj d0
  obtain rfl := Option.some.inj d1
  obtain rfl := Option.some.inj d2
  obtain rfl := Option.some.inj d3
  obtain rfl := Option.some.inj d4
  exact ⟨_, r, r'⟩
theorem rl_uniq {w : World} {n : Nat} {a : Option Addr} {ts us : List (Tr n)} (h : Rl w n a ts) (h' : Rl w n a us) (hl : us.length = ts.length) : us = ts :=
  List.ext_getElem hl fun i a b => by
    obtain ⟨c, r1, r2⟩ := rl_at h h' i _ _ (List.getElem?_eq_getElem b) (List.getElem?_eq_getElem a)
    exact rep_uniq n c _ _ r1 r2

/-- The answer of both Fits at a state of right trees. -/
def fitB (cn ac un : Int) (us : List (Tr 16)) : Bool := cok cn ac un && (keysB us && decide (∀ k, k < us.length → refAt us k = k))
/-- Both Fits at one state answer R. -/
def Fits (R : Bool) (cn ac un k i u : Int) (s : ByteArray) (a : Option Addr) (len cap : Nat) (la : Option Addr) (ll lc : Nat) (cl : Bool) (w : World) : Prop :=
  (∀ wx, Below w.heap.size w wx → Calls Tryz.prog 5 #[.agg #[.int .i64 cn, .int .i64 ac, .int .i64 k, .int .i64 i, .int .u64 u, .string s, .slice a len cap, .slice la ll lc, .bool cl, .int .i64 un]] wx fun e w' => e = .returned (.bool R) ∧ Below wx.heap.size wx w') ∧
  (∀ wx, Below w.heap.size w wx → Calls Tryz.prog 6 #[.agg #[.int .i64 cn, .int .i64 ac, .int .i64 k, .int .i64 i, .int .u64 u, .string s, .slice a len cap, .slice la ll lc, .bool cl, .int .i64 un]] wx fun e w' => e = .returned (.bool R) ∧ Below wx.heap.size wx w')
theorem fit_right (cn ac un k i u : Int) (s : ByteArray) (a : Option Addr) (len cap : Nat) (la : Option Addr) (lc : Nat) (cl : Bool) (l : Tr 16) (us : List (Tr 16)) (w : World) (hS : FitT w l us k i u s a len cap la lc) (hl : vB 16 l = true) (hu : ∀ t ∈ us, vB 16 t = true) (hT : Tab14 w) :
    Fits (fitB cn ac un us) cn ac un k i u s a len cap la us.length lc cl w := by
  have hr : ∀ u ∈ us, rgt 16 u = true := fun u h => (hS.ur u h).1
  have hp : ∀ u ∈ us, (pts 16 u).1 ≤ 4096 := fun u h => (hS.ur u h).2
  refine ⟨fun wx hb => ?_, fun wx hb => ?_⟩
  · have h := fit_by cn ac un k i u s a len cap la us.length lc cl _ _ _ (vB 16 l) (keysB us && decide (∀ k, k < us.length → refAt us k = k)) wx rfl rfl rfl (fun wy hy => ownValid 16 l _ _ _ _ _ wy (Rep.below hy 16 _ _ (Rep.below hb 16 _ _ hS.m.last)) ((hT.below hb).below hy))
      (fun wy hy => areKeys_yes 16 (fun t v0 v1 v2 v3 v4 w h h' => ownValid 16 t v0 v1 v2 v3 v4 w h h') keysB (fun us => plc us us.length) refAt (fun _ => rfl) gr_own us us rfl la lc wy hS.m.lt ((hS.m.list.below hb).below hy) ((hS.m.list.below hb).below hy) hr hp ((hT.below hb).below hy) hu)
    exact h.mono fun e w' ⟨he, hb'⟩ => ⟨by rw [he, hl]; simp only [cok, fitB, Bool.and_assoc, Bool.true_and], hb'⟩
  · cases hc : cok cn ac un with
    | false => exact (rfit_count cn ac un k i u s a len cap la us.length lc cl wx hc).mono fun e w' ⟨he, hb'⟩ => ⟨by rw [he]; simp [fitB, hc], hb'⟩
    | true =>
      refine rfit_rest 16 cn ac un k i u s a len cap la lc cl l us wx hc (hS.m.below hb) _ (fun h => by rw [hl] at h; cases h) (fun ⟨t, ht, hv⟩ => by rw [hu t ht] at hv; cases hv) keysB (fun us => plc us us.length) refAt (fun _ => rfl) gr_doc us fun _ _ => ⟨rfl, hS.m.list.below hb, hr, hp, by simp [fitB, hc]⟩
/-- Every state: both answer no, or its trees are right at depth 16. -/
theorem fit_two (n : Nat) (cn ac un k i u : Int) (s : ByteArray) (a : Option Addr) (len cap : Nat) (la : Option Addr) (lc : Nat) (cl : Bool) (l : Tr n) (ts : List (Tr n)) (w : World) (hS : StR w n l ts k i u s a len cap la lc) (hT : Tab14 w) :
    Fits false cn ac un k i u s a len cap la ts.length lc cl w ∨ ∃ l' us, us.length = ts.length ∧ FitT w l' us k i u s a len cap la lc ∧ vB 16 l' = true ∧ (∀ t ∈ us, vB 16 t = true) ∧ fitB cn ac un us = true ∧ Fits true cn ac un k i u s a len cap la ts.length lc cl w := by
  have doc : ¬ (vB n l = true ∧ ∀ t ∈ ts, vB n t = true) → ∀ wx, Below w.heap.size w wx → Calls Tryz.prog 6 #[.agg #[.int .i64 cn, .int .i64 ac, .int .i64 k, .int .i64 i, .int .u64 u, .string s, .slice a len cap, .slice la ts.length lc, .bool cl, .int .i64 un]] wx fun e w' => e = .returned (.bool false) ∧ Below wx.heap.size wx w' := fun hbad wx hb => by
    cases hc : cok cn ac un with
    | false => exact rfit_count cn ac un k i u s a len cap la ts.length lc cl wx hc
    | true => exact rfit_rest n cn ac un k i u s a len cap la lc cl l ts wx hc (hS.below hb) false (fun _ => rfl) (fun _ => rfl) keysB (fun us => plc us us.length) refAt (fun _ => rfl) gr_doc [] fun h1 h2 => absurd ⟨h1, h2⟩ hbad
  by_cases hall : ∀ t ∈ ts, vB n t = true
  · obtain ⟨us, hl, hr, hp, hk⟩ := cut_all n ts hall la w hS.list
    by_cases hvl : vB n l = true
    · obtain ⟨l', q1, q2, q3⟩ := cut_one n l hvl
      have F : FitT w l' us k i u s a len cap la lc := ⟨⟨q3 _ _ hS.last, hk, by rw [hl]; exact hS.lt, by rw [hl]; exact hS.cap⟩, ⟨q1, q2⟩, fun x hx => ⟨hr x hx, hp x hx⟩⟩
      have v1 : vB 16 l' = true := (rep_vB hS.last F.m.last).trans hvl
      have v2 : ∀ t ∈ us, vB 16 t = true := fun t ht => by
        obtain ⟨j, hj, rfl⟩ := List.getElem_of_mem ht
        obtain ⟨c, r1, r2⟩ := rl_at hS.list hk j _ _ (List.getElem?_eq_getElem (by omega)) (List.getElem?_eq_getElem hj)
        exact (rep_vB r1 r2).trans (hall _ (List.getElem_mem _))
      have h := fit_right cn ac un k i u s a len cap la lc cl l' us w F v1 v2 hT
      rw [hl] at h
      cases hf : fitB cn ac un us with
      | false => rw [hf] at h; exact .inl h
      | true => rw [hf] at h; exact .inr ⟨l', us, hl, F, v1, v2, hf, h⟩
    · refine .inl ⟨fun wx hb => ?_, doc fun h => hvl h.1⟩
      have h := fit_by cn ac un k i u s a len cap la ts.length lc cl _ _ _ (vB n l) (keysB us && decide (∀ k, k < us.length → refAt us k = k)) wx rfl rfl rfl (fun wy hy => ownValid n l _ _ _ _ _ wy (Rep.below hy n _ _ (Rep.below hb n _ _ hS.last)) ((hT.below hb).below hy))
        (fun wy hy => areKeys_yes n (fun t v0 v1 v2 v3 v4 w h h' => ownValid n t v0 v1 v2 v3 v4 w h h') keysB (fun us => plc us us.length) refAt (fun _ => rfl) gr_own ts us hl la lc wy hS.lt ((hS.list.below hb).below hy) ((Rl.below hk hb).below hy) hr hp ((hT.below hb).below hy) hall)
      exact h.mono fun e w' ⟨he, hb'⟩ => ⟨by rw [he, Bool.eq_false_iff.2 hvl]; simp, hb'⟩
  · have hbad : ∃ t ∈ ts, vB n t = false := by
      apply Classical.byContradiction
      intro hc
      exact hall fun t ht => by
        cases hv : vB n t with
        | true => rfl
        | false => exact absurd ⟨t, ht, hv⟩ hc
    refine .inl ⟨fun wx hb => ?_, doc fun h => hall h.2⟩
    have h := fit_by cn ac un k i u s a len cap la ts.length lc cl _ _ _ (vB n l) false wx rfl rfl rfl (fun wy hy => ownValid n l _ _ _ _ _ wy (Rep.below hy n _ _ (Rep.below hb n _ _ hS.last)) ((hT.below hb).below hy))
      (fun wy hy => areKeys_no n (fun t v0 v1 v2 v3 v4 w h h' => ownValid n t v0 v1 v2 v3 v4 w h h') ts la lc wy hS.lt ((hS.list.below hb).below hy) ((hT.below hb).below hy) hbad)
    exact h.mono fun e w' ⟨he, hb'⟩ => ⟨by rw [he]; simp, hb'⟩
end Go.Proofs.YtgijdiplhcoojaaGreatDoor.Dt
/- The package's copyOf of a state in memory, and its Save; the conditions: the state in memory, its trees of 4096 parts at most, the table of fields as the text lays it. -/
namespace Go.Proofs.YtgijdiplhcoojaaGreatDoor.Dt
open Go.RowKit

/-- A copied state: its trees in blocks from L on. -/
def CoF (L n : Nat) (l : Tr n) (ts : List (Tr n)) (k i u : Int) (s : ByteArray) (a : Option Addr) (len cap : Nat) (a' : Option Addr) (n' c' : Nat) (w' : World) : Prop :=
  Rf (fun g => L ≤ g ∧ g < w'.heap.size) w' n [.int .i64 k, .int .i64 i, .int .u64 u, .string s, .slice a len cap] l ∧ n' = ts.length ∧ ts.length ≤ c' ∧ c' ≤ maxLen ∧ Rlf (fun g => L ≤ g ∧ g < w'.heap.size) w' n a' ts
theorem CoF.to {L L' n : Nat} {l : Tr n} {ts : List (Tr n)} {k i u : Int} {s : ByteArray} {a : Option Addr} {len cap : Nat} {a' : Option Addr} {n' c' : Nat} {w' w'' : World} (h : CoF L n l ts k i u s a len cap a' n' c' w') (hL : L' ≤ L) (hs : w'.heap.size ≤ w''.heap.size) (hg : ∀ g, L ≤ g → g < w'.heap.size → w''.heap[g]? = w'.heap[g]?) : CoF L' n l ts k i u s a len cap a' n' c' w'' :=
  ⟨Rf.to (fun g h => ⟨⟨Nat.le_trans hL h.1, Nat.lt_of_lt_of_le h.2 hs⟩, hg g h.1 h.2⟩) n _ _ h.1, h.2.1, h.2.2.1, h.2.2.2.1, Rlf.to (fun g h => ⟨⟨Nat.le_trans hL h.1, Nat.lt_of_lt_of_le h.2 hs⟩, hg g h.1 h.2⟩) h.2.2.2.2⟩
theorem CoF.st {L n : Nat} {l : Tr n} {ts : List (Tr n)} {k i u : Int} {s : ByteArray} {a : Option Addr} {len cap : Nat} {a' : Option Addr} {n' c' : Nat} {w' : World} (h : CoF L n l ts k i u s a len cap a' n' c' w') (hlt : ts.length ≤ 2199023255551) : StR w' n l ts k i u s a len cap a' c' := ⟨Rf.rep _ _ _ h.1, h.2.2.2.2.rl, hlt, h.2.2.1, h.2.2.2.1⟩
theorem copyOf_any (n : Nat) (cn ac un k i u : Int) (s : ByteArray) (a : Option Addr) (len cap : Nat) (la : Option Addr) (lc : Nat) (cl : Bool) (l : Tr n) (ts : List (Tr n)) (w : World) (hS : StR w n l ts k i u s a len cap la lc) (hl : (pts n l).1 ≤ 4096) (hp : ∀ t ∈ ts, (pts n t).1 ≤ 4096) :
    Calls Tryz.prog 37 #[.agg #[.int .i64 cn, .int .i64 ac, .int .i64 k, .int .i64 i, .int .u64 u, .string s, .slice a len cap, .slice la ts.length lc, .bool cl, .int .i64 un]] w fun e w' => ∃ k i u s a n1 c a' n' c', e = .returned (.agg #[.int .i64 cn, .int .i64 ac, .int .i64 k, .int .i64 i, .int .u64 u, .string s, .slice a n1 c, .slice a' n' c', .bool cl, .int .i64 un]) ∧ CoF (w.heap.size + 2) n l ts k i u s a n1 c a' n' c' w' ∧ Below w.heap.size w w' := by
  refine (copyOf_by cn ac k i u s a len cap la ts.length lc cl un w
    (fun k i u s a n1 c w' => Rf (fun g => w.heap.size + 2 ≤ g ∧ g < w'.heap.size) w' n [.int .i64 k, .int .i64 i, .int .u64 u, .string s, .slice a n1 c] l)
    (fun k i u s a n1 c w' w'' h hs hg => Rf.to (fun g h => ⟨⟨h.1, Nat.lt_of_lt_of_le h.2 hs⟩, hg g h.1 h.2⟩) n _ _ h)
    (fun a' n' c' w' => n' = ts.length ∧ ts.length ≤ c' ∧ c' ≤ maxLen ∧ Rlf (fun g => w.heap.size + 2 ≤ g ∧ g < w'.heap.size) w' n a' ts)
    (fun a' n' c' w' w'' ⟨h1, h2, h3, h⟩ hs hg => ⟨h1, h2, h3, Rlf.to (fun g h => ⟨⟨h.1, Nat.lt_of_lt_of_le h.2 hs⟩, hg g h.1 h.2⟩) h⟩)
    (fun wx hb hz => (vcopy n l _ _ _ _ _ wx (Rep.below hb n _ _ hS.last) hl).mono fun e w' ⟨k, i, u, s, a, n1, c, he, h, hb'⟩ => ⟨k, i, u, s, a, n1, c, he, Rf.to (fun g h => ⟨⟨Nat.le_trans hz h.1, h.2⟩, rfl⟩) n _ _ h, hb'⟩)
    (fun wx hb hz => (vall n (vcopy n) ts la lc wx hS.lt hp (hS.list.below hb)).mono fun e w' ⟨a', c', he, h1, h2, h, hb'⟩ => ⟨a', _, c', he, ⟨rfl, h1, h2, Rlf.to (fun g h => ⟨⟨Nat.le_trans hz h.1, h.2⟩, rfl⟩) h⟩, hb'⟩)).mono ?_
  rintro e w' ⟨k, i, u, s, a, n1, c, a', n', c', he, h1, h2, hb⟩
  obtain ⟨q1, q2, q3, q4⟩ := h2.out
  exact ⟨k, i, u, s, a, n1, c, a', n', c', he, ⟨h1.out, q1, q2, q3, q4⟩, hb⟩

/-- A saved value in blocks from L on. -/
def SvF (L : Nat) (cn ac un x : Int) (l : Tr 16) (ts : List (Tr 16)) (k i u : Int) (s : ByteArray) (a : Option Addr) (n c : Nat) (w' : World) : Prop :=
  ∃ k1 i1 u1 s1 a1 n1 c1 a1' n1' c1' gP g4 g2, (k = 9 ∧ i = 0 ∧ u = 0 ∧ s = ⟨#[]⟩ ∧ a = some ⟨gP, 0, none⟩ ∧ n = 2 ∧ c = 2) ∧ Bk w' gP #[.int .i64 8, .int .i64 0, .int .u64 0, .string ⟨#[]⟩, .slice (some ⟨g4, 0, none⟩) 4 4, .int .i64 9, .int .i64 0, .int .u64 0, .string ⟨#[]⟩, .slice (some ⟨g2, 0, none⟩) 2 2] 25 ∧ Bk w' g4 (nums cn ac un x) 25 ∧ Bk w' g2 #[.int .i64 k1, .int .i64 i1, .int .u64 u1, .string s1, .slice a1 n1 c1, .int .i64 8, .int .i64 0, .int .u64 0, .string ⟨#[]⟩, .slice a1' n1' c1'] 25 ∧ CoF L 16 l ts k1 i1 u1 s1 a1 n1 c1 a1' n1' c1' w' ∧ (L ≤ gP ∧ L ≤ g4 ∧ L ≤ g2)
theorem SvF.to {L : Nat} {cn ac un x : Int} {l : Tr 16} {ts : List (Tr 16)} {k i u : Int} {s : ByteArray} {a : Option Addr} {n c : Nat} {w' w'' : World} (h : SvF L cn ac un x l ts k i u s a n c w') (hs : w'.heap.size ≤ w''.heap.size) (hg : ∀ g, L ≤ g → g < w'.heap.size → w''.heap[g]? = w'.heap[g]?) : SvF L cn ac un x l ts k i u s a n c w'' := by
  obtain ⟨k1, i1, u1, s1, a1, n1, c1, a1', n1', c1', gP, g4, g2, e, p1, p2, p3, q, l1, l2, l3⟩ := h
  exact ⟨k1, i1, u1, s1, a1, n1, c1, a1', n1', c1', gP, g4, g2, e, (hg gP l1 p1.lt).trans p1, (hg g4 l2 p2.lt).trans p2, (hg g2 l3 p3.lt).trans p3, q.to (Nat.le_refl _) hs hg, l1, l2, l3⟩
theorem SvF.rep {L : Nat} {cn ac un x : Int} {l : Tr 16} {ts : List (Tr 16)} {k i u : Int} {s : ByteArray} {a : Option Addr} {n c : Nat} {w' : World} (h : SvF L cn ac un x l ts k i u s a n c w') (l17 : Tr 17) (h17 : ∀ w cs, Rep w 16 cs l → Rep w 17 cs l17) : Rep w' 19 [.int .i64 k, .int .i64 i, .int .u64 u, .string s, .slice a n c] (savT cn ac un x l17 ts) := by
  obtain ⟨k1, i1, u1, s1, a1, n1, c1, a1', n1', c1', gP, g4, g2, ⟨rfl, rfl, rfl, rfl, rfl, rfl, rfl⟩, p1, p2, p3, ⟨q1, rfl, q2, q3, q4⟩, l1, l2, l3⟩ := h
  exact savT_rep p1 p2 p3 (h17 _ _ (Rf.rep 16 _ _ q1)) q4.rl ⟨q2, q3⟩

/-- The package's Save, as the document's. -/
theorem own_save (cn ac un x k i u : Int) (s : ByteArray) (a : Option Addr) (len cap : Nat) (la : Option Addr) (lc : Nat) (cl : Bool) (hx : (if cl then (1 : Int) else 0) = x) (l : Tr 16) (ts : List (Tr 16)) (w : World) (hS : StR w 16 l ts k i u s a len cap la lc) (hl : (pts 16 l).1 ≤ 4096) (hp : ∀ t ∈ ts, (pts 16 t).1 ≤ 4096) (l17 : Tr 17) (h17 : ∀ w cs, Rep w 16 cs l → Rep w 17 cs l17) (hT : Tab14 w) (R : Bool) (hR : vB 19 (savT cn ac un x l17 ts) = R) :
    Calls Tryz.prog 7 #[.agg #[.int .i64 cn, .int .i64 ac, .int .i64 k, .int .i64 i, .int .u64 u, .string s, .slice a len cap, .slice la ts.length lc, .bool cl, .int .i64 un]] w fun e w' => RsP R (savT cn ac un x l17 ts) w e w' := by
  have hSv : ∀ wx, Below w.heap.size w wx → w.heap.size + 2 ≤ wx.heap.size → Calls Tryz.prog 22 #[.agg #[.int .i64 cn, .int .i64 ac, .int .i64 k, .int .i64 i, .int .u64 u, .string s, .slice a len cap, .slice la ts.length lc, .bool cl, .int .i64 un]] wx fun e w' => ∃ k i u s a n c, e = .returned (.agg #[.int .i64 k, .int .i64 i, .int .u64 u, .string s, .slice a n c]) ∧ SvF (w.heap.size + 2) cn ac un x l ts k i u s a n c w' ∧ Below wx.heap.size wx w' := fun wx hb hz => by
    refine (saved_by cn ac k i u s a len cap la ts.length lc cl un x hx wx (fun k i u s a n c a' n' c' w' => CoF (wx.heap.size + 2) 16 l ts k i u s a n c a' n' c' w') (fun k i u s a n c a' n' c' w' w'' h hs hg => h.to (Nat.le_refl _) hs hg)
      fun wy hb' hz' => (copyOf_any 16 cn ac un k i u s a len cap la lc cl l ts wy ((hS.below hb).below hb') hl hp).mono fun e w' ⟨k, i, u, s, a, n1, c, a', n', c', he, h, hb''⟩ => ⟨k, i, u, s, a, n1, c, a', n', c', he, h.to (by omega) (Nat.le_refl _) fun _ _ _ => rfl, hb''⟩).mono ?_
    rintro e w' ⟨k1, i1, u1, s1, a1, n1, c1, a1', n1', c1', gP, g4, g2, he, p1, p2, p3, q, ⟨l1, l2, l3⟩, hb'⟩
    exact ⟨_, _, _, _, _, _, _, he, ⟨k1, i1, u1, s1, a1, n1, c1, a1', n1', c1', gP, g4, g2, ⟨rfl, rfl, rfl, rfl, rfl, rfl, rfl⟩, p1, p2, p3, q.out.to (by omega) (Nat.le_refl _) fun _ _ _ => rfl, by omega, by omega, by omega⟩, hb'⟩
  have hV : ∀ k i u s a n c wx, SvF (w.heap.size + 2) cn ac un x l ts k i u s a n c wx → Below w.heap.size w wx → Calls Tryz.prog 19 #[.agg #[.int .i64 k, .int .i64 i, .int .u64 u, .string s, .slice a n c]] wx fun e w' => e = .returned (.bool R) ∧ Below wx.heap.size wx w' := fun k i u s a n c wx h hb =>
    (ownValid 19 _ _ _ _ _ _ wx (h.rep l17 h17) (hT.below hb)).mono fun e w' ⟨h1, h2⟩ => ⟨by rw [h1, hR], h2⟩
  cases R with
  | false => exact (save_no cn ac k i u s a len cap la ts.length lc cl un w _ (fun k i u s a n c w' w'' h hs hg => h.to hs hg) hSv hV).mono fun e w' ⟨he, hb⟩ => ⟨hb, (fun h => by cases h), fun _ => he⟩
  | true => exact (save_yes cn ac k i u s a len cap la ts.length lc cl un w _ (fun k i u s a n c w' w'' h hs hg => h.to hs hg) hSv hV).mono fun e w' ⟨k, i, u, s, a, n, c, he, h, hb⟩ => ⟨hb, fun _ => ⟨k, i, u, s, a, n, c, he, h.out.rep l17 h17⟩, (fun h => by cases h)⟩
end Go.Proofs.YtgijdiplhcoojaaGreatDoor.Dt
/- areOf: the kinds of a row of values; the conditions: the row and the kinds in memory. -/
namespace Go.Proofs.YtgijdiplhcoojaaGreatDoor.Dt
open Go.RowKit

theorem below_drewN {M : Nat} {w w' : World} (n : Nat) (h : Below M w w') : Below M w (w'.drewN n) := ⟨h.os, h.tape, h.output, h.size, h.block⟩
/-- A row of values in memory, of these kinds. -/
def Kd5 (w : World) (a : Option Addr) (qs : List Int) : Prop := ∀ (j : Nat) (h : j < qs.length), ∃ g o u1 u2 u3 a4 n4 c4, a = some ⟨g, o, none⟩ ∧ g < w.heap.size ∧ w.cell? ⟨g, o + j * 5, none⟩ = some (.int .i64 qs[j]) ∧ w.cell? ⟨g, o + j * 5 + 1, none⟩ = some (.int .i64 u1) ∧ w.cell? ⟨g, o + j * 5 + 2, none⟩ = some (.int .u64 u2) ∧ w.cell? ⟨g, o + j * 5 + 3, none⟩ = some (.string u3) ∧ w.cell? ⟨g, o + j * 5 + 4, none⟩ = some (.slice a4 n4 c4)
theorem Kd5.below {w w' : World} {a : Option Addr} {qs : List Int} (h : Kd5 w a qs) (hb : Below w.heap.size w w') : Kd5 w' a qs := fun j hj => by
  obtain ⟨g, o, u1, u2, u3, a4, n4, c4, e, hg, c0, c1, c2, c3, c4'⟩ := h j hj
  exact ⟨g, o, u1, u2, u3, a4, n4, c4, e, Nat.lt_of_lt_of_le hg hb.size, (hb.cell (p := ⟨g, _, none⟩) hg).trans c0, (hb.cell (p := ⟨g, _, none⟩) hg).trans c1, (hb.cell (p := ⟨g, _, none⟩) hg).trans c2, (hb.cell (p := ⟨g, _, none⟩) hg).trans c3, (hb.cell (p := ⟨g, _, none⟩) hg).trans c4'⟩
theorem kd_of_rl {w : World} {n : Nat} {a : Option Addr} {ts : List (Tr (n + 1))} (h : Rl w (n + 1) a ts) : Kd5 w a (ts.map Tr.kd) := fun j hj => by
  have hj' : j < ts.length := by simpa using hj
  obtain ⟨g, o, u0, u1, u2, u3, a4, n4, c4, e, hg, c0, c1, c2, c3, c4', r⟩ := h.at hj'
  obtain ⟨ad, cap, e', -⟩ := r
  simp only [List.cons.injEq, Value.int.injEq, true_and] at e'
  refine ⟨g, o, u1, u2, u3, a4, n4, c4, e, hg, ?_, c1, c2, c3, c4'⟩
  rw [c0, List.getElem_map, e'.1]

set_option maxRecDepth 100000 in
set_option maxHeartbeats 1000000 in
theorem areOf_any (qs ks : List Int) (a : Option Addr) (c gk c' : Nat) (w : World) (hn : qs.length ≤ 2199023255551) (hq : Kd5 w a qs) (hk : ∀ (j : Nat) (h : j < ks.length), w.cell? ⟨gk, j, none⟩ = some (.int .i64 ks[j])) (hgk : gk < w.heap.size) :
    Calls Tryz.prog 42 #[.slice a qs.length c, .slice (some ⟨gk, 0, none⟩) ks.length c'] w fun e w' => e = .returned (.bool (decide (qs = ks))) ∧ Below w.heap.size w w' := by
  have HQ := Lib.hid hq
  have HK := Lib.hid hk
  clear hq hk
  by_cases hl : qs.length = ks.length
  · have hl2 : ks.length = qs.length := hl.symm
    rw [hl2]
    have HL := Lib.hid hl
    clear hl hl2
    go_enter Tryz.func42, Tryz.ntmps42
    go_wp2_with fail
    go_loopw [14] (fun si wr => ∃ (j : Nat), si = .int .i64 j ∧ j ≤ qs.length ∧ (∀ (q : Nat) (h : q < qs.length) (h' : q < ks.length), q < j → qs[q] = ks[q]) ∧ Below w.heap.size w wr) (fun si _ => qs.length - (intOf si).toNat)
    case atStart => exact ⟨0, rfl, Nat.zero_le _, fun q _ _ h => absurd h (Nat.not_lt_zero _), Below.refl _ _⟩
    case round =>
      obtain ⟨j, rfl, hj, hall, b1⟩ := hrel
      have HA := Lib.hid hall
      clear hall
      by_cases hlt : j < qs.length
      · have hltk : j < ks.length := HL.out ▸ hlt
        obtain ⟨g, o, u1, u2, u3, a4, n4, c4, rfl, hg, e0, e1, e2, e3, e4⟩ := HQ.out j hlt
        have ek := HK.out j hltk
        have y0 := (b1.cell (p := ⟨g, o + j * 5, none⟩) hg).trans e0
        have y1 := (b1.cell (p := ⟨g, o + j * 5 + 1, none⟩) hg).trans e1
        have y2 := (b1.cell (p := ⟨g, o + j * 5 + 2, none⟩) hg).trans e2
        have y3 := (b1.cell (p := ⟨g, o + j * 5 + 3, none⟩) hg).trans e3
        have y4 := (b1.cell (p := ⟨g, o + j * 5 + 4, none⟩) hg).trans e4
        have yk : wr.cell? ⟨gk, 0 + j, none⟩ = some (.int .i64 ks[j]) := by rw [Nat.zero_add]; exact (b1.cell (p := ⟨gk, j, none⟩) hgk).trans ek
        have yk' := (b1.cell (p := ⟨gk, j, none⟩) hgk).trans ek
        have hjl : (0 : Int) ≤ j ∧ (j : Int) < qs.length := by omega
        have hgr : gk < wr.heap.size := Nat.lt_of_lt_of_le hgk b1.size
        have B2 := b1.trans ((below1 wr (.cells #[.int .i64 qs[j], .int .i64 u1, .int .u64 u2, .string u3, .slice a4 n4 c4] 25)).mono b1.size)
        clear e0 e1 e2 e3 e4 ek
        by_cases he : qs[j] = ks[j]
        · have gne : (qs[j] != ks[j]) = false := by simpa using he
          have HE := Lib.hid he
          clear he
          go_wp2_with fail
          go_quiet (fail)
          go_wp2_with fail
          exact ⟨⟨j + 1, by go_num, by omega, fun q h h' hqj => by
            by_cases hq : q < j
            · exact HA.out q h h' hq
            · have : q = j := by omega
              subst this; exact HE.out, below_drewN _ B2⟩, by simp [intOf]; omega⟩
        · have gne : (qs[j] != ks[j]) = true := by simpa using he
          have HE := Lib.hid he
          clear he
          go_wp2_with fail
          go_quiet (fail)
          go_wp2_with fail
          go_ret
          refine ⟨?_, below_drewN _ B2⟩
          have hf : decide (qs = ks) = false := decide_eq_false fun h => by
            subst h
            exact HE.out rfl
          rw [hf]; rfl
      · have hje : j = qs.length := by omega
        subst hje
        go_wp2_with fail
        go_ret
        refine ⟨?_, b1⟩
        have hf : decide (qs = ks) = true := decide_eq_true (List.ext_getElem HL.out fun q h h' => HA.out q h h' h)
        rw [hf]; rfl
  · have hd : decide (qs = ks) = false := decide_eq_false fun h => hl (by rw [h])
    have gne : ((qs.length : Int) != (ks.length : Int)) = true := by simp; omega
    rw [hd]
    clear HQ HK hd
    go_enter Tryz.func42, Tryz.ntmps42
    go_wp2_with fail
    go_ret
    exact ⟨rfl, Below.refl _ _⟩
end Go.Proofs.YtgijdiplhcoojaaGreatDoor.Dt
