/- The law of states whole; the conditions: the state and the value in memory, the two tables as the text lays them. -/
import Derived.Test.YtgijdiplhcoojaaGreatDoorJdb
import Derived.Test.YtgijdiplhcoojaaGreatDoorXLx
import Derived.Test.YtgijdiplhcoojaaGreatDoorJba
import Derived.ProofKit
import Derived.OpenShut
import Derived.Test.YtgijdiplhcoojaaGreatDoorJbi
namespace Go.Proofs.YtgijdiplhcoojaaGreatDoor.Dt
open Go.RowKit

/-- A loaded state or the empty one. -/
def LdQ (R : Bool) (cn ac un : Int) (cl : Bool) (l : Tr 16) (us : List (Tr 16)) (cn1 ac1 k1 i1 u1 : Int) (s1 : ByteArray) (a1 : Option Addr) (n1 c1 : Nat) (la1 : Option Addr) (ll1 lc1 : Nat) (cl1 : Bool) (un1 : Int) (w' : World) : Prop :=
  (R = true → cn1 = cn ∧ ac1 = ac ∧ un1 = un ∧ cl1 = cl ∧ StQ l us k1 i1 u1 s1 a1 n1 c1 la1 ll1 lc1 w') ∧ (R = false → cn1 = 0 ∧ ac1 = 0 ∧ k1 = 0 ∧ i1 = 0 ∧ u1 = 0 ∧ s1 = ⟨#[]⟩ ∧ a1 = none ∧ n1 = 0 ∧ c1 = 0 ∧ la1 = none ∧ ll1 = 0 ∧ lc1 = 0 ∧ cl1 = false ∧ un1 = 0)
theorem LdQ.below {R : Bool} {cn ac un : Int} {cl : Bool} {l : Tr 16} {us : List (Tr 16)} (cn1 ac1 k1 i1 u1 : Int) (s1 : ByteArray) (a1 : Option Addr) (n1 c1 : Nat) (la1 : Option Addr) (ll1 lc1 : Nat) (cl1 : Bool) (un1 : Int) (w' w'' : World) (h : LdQ R cn ac un cl l us cn1 ac1 k1 i1 u1 s1 a1 n1 c1 la1 ll1 lc1 cl1 un1 w') (hb : Below w'.heap.size w' w'') : LdQ R cn ac un cl l us cn1 ac1 k1 i1 u1 s1 a1 n1 c1 la1 ll1 lc1 cl1 un1 w'' :=
  ⟨fun hR => by obtain ⟨h1, h2, h3, h4, h5, h6⟩ := h.1 hR; exact ⟨h1, h2, h3, h4, h5, h6.below hb⟩, h.2⟩
theorem ldq_of {R : Bool} {cn ac un : Int} {cl : Bool} {l : Tr 16} {us : List (Tr 16)} {w : World} {e : Ending} {w' : World} (h : LdP R cn ac un cl (StQ l us) w e w') : ∃ cn1 ac1 k1 i1 u1 s1 a1 n1 c1 la1 ll1 lc1 cl1 un1, e = .returned (.tuple #[.agg #[.int .i64 cn1, .int .i64 ac1, .int .i64 k1, .int .i64 i1, .int .u64 u1, .string s1, .slice a1 n1 c1, .slice la1 ll1 lc1, .bool cl1, .int .i64 un1], .bool R]) ∧ Hid (LdQ R cn ac un cl l us cn1 ac1 k1 i1 u1 s1 a1 n1 c1 la1 ll1 lc1 cl1 un1 w') ∧ Below w.heap.size w w' := by
  obtain ⟨hb, h1, h2⟩ := h
  cases R with
  | true =>
    obtain ⟨k, i, u, s, a, n, c, a', n', c', he, hq⟩ := h1 rfl
    exact ⟨_, _, _, _, _, _, _, _, _, _, _, _, _, _, he, ⟨fun _ => ⟨rfl, rfl, rfl, rfl, hq⟩, (fun h => by cases h)⟩, hb⟩
  | false =>
    exact ⟨_, _, _, _, _, _, _, _, _, _, _, _, _, _, h2 rfl, ⟨(fun h => by cases h), fun _ => ⟨rfl, rfl, rfl, rfl, rfl, rfl, rfl, rfl, rfl, rfl, rfl, rfl, rfl, rfl⟩⟩, hb⟩
theorem ldq_same {R : Bool} {cn ac un : Int} {cl : Bool} {l : Tr 16} {us : List (Tr 16)} (cn1 ac1 k1 i1 u1 : Int) (s1 : ByteArray) (a1 : Option Addr) (n1 c1 : Nat) (la1 : Option Addr) (ll1 lc1 : Nat) (cl1 : Bool) (un1 : Int) (cn2 ac2 k2 i2 u2 : Int) (s2 : ByteArray) (a2 : Option Addr) (n2 c2 : Nat) (la2 : Option Addr) (ll2 lc2 : Nat) (cl2 : Bool) (un2 : Int) (wx : World) (h1 : LdQ R cn ac un cl l us cn1 ac1 k1 i1 u1 s1 a1 n1 c1 la1 ll1 lc1 cl1 un1 wx) (h2 : LdQ R cn ac un cl l us cn2 ac2 k2 i2 u2 s2 a2 n2 c2 la2 ll2 lc2 cl2 un2 wx) :
    Calls Tryz.prog 11 #[.agg #[.int .i64 cn1, .int .i64 ac1, .int .i64 k1, .int .i64 i1, .int .u64 u1, .string s1, .slice a1 n1 c1, .slice la1 ll1 lc1, .bool cl1, .int .i64 un1], .agg #[.int .i64 cn2, .int .i64 ac2, .int .i64 k2, .int .i64 i2, .int .u64 u2, .string s2, .slice a2 n2 c2, .slice la2 ll2 lc2, .bool cl2, .int .i64 un2]] wx fun e w' => e = .returned (.bool true) ∧ Below wx.heap.size wx w' := by
  cases R with
  | true =>
    obtain ⟨rfl, rfl, rfl, rfl, rfl, q1⟩ := h1.1 rfl
    obtain ⟨rfl, rfl, rfl, rfl, rfl, q2⟩ := h2.1 rfl
    exact rsame_true 16 16 _ _ _ _ _ _ _ _ _ _ _ _ _ _ _ _ _ _ _ _ _ _ l l us us wx q1 q2 (sm_refl 16 l) rfl fun j x y hx hy => by rw [hx] at hy; obtain rfl := Option.some.inj hy; exact sm_refl 16 x
  | false =>
    obtain ⟨rfl, rfl, rfl, rfl, rfl, rfl, rfl, rfl, rfl, rfl, rfl, rfl, rfl, rfl⟩ := h1.2 rfl
    obtain ⟨rfl, rfl, rfl, rfl, rfl, rfl, rfl, rfl, rfl, rfl, rfl, rfl, rfl, rfl⟩ := h2.2 rfl
    have q : StR wx 16 (leafT 15 0 0) [] 0 0 0 ⟨#[]⟩ none 0 0 none 0 := ⟨leaf_rep wx 15 0 0, .inl rfl, Nat.zero_le _, Nat.le_refl _, Nat.zero_le _⟩
    exact rsame_true 16 16 _ _ _ _ _ _ _ _ _ _ _ _ _ _ _ _ _ _ _ _ _ _ (leafT 15 0 0) (leafT 15 0 0) [] [] wx q q (sm_refl 16 _) rfl fun j x y hx hy => by simp at hx
end Go.Proofs.YtgijdiplhcoojaaGreatDoor.Dt
/- The law of states whole; the conditions: the state and the value in memory, the two tables as the text lays them. -/
namespace Go.Proofs.YtgijdiplhcoojaaGreatDoor.Dt
open Go.RowKit

/-- A saved value or the empty one. -/
def SvQ (R : Bool) (t : Tr 19) (k1 i1 u1 : Int) (s1 : ByteArray) (a1 : Option Addr) (n1 c1 : Nat) (w' : World) : Prop := (R = true → Rep w' 19 [.int .i64 k1, .int .i64 i1, .int .u64 u1, .string s1, .slice a1 n1 c1] t) ∧ (R = false → k1 = 0 ∧ i1 = 0 ∧ u1 = 0 ∧ s1 = ⟨#[]⟩ ∧ a1 = none ∧ n1 = 0 ∧ c1 = 0)
theorem SvQ.below {R : Bool} {t : Tr 19} (k1 i1 u1 : Int) (s1 : ByteArray) (a1 : Option Addr) (n1 c1 : Nat) (w' w'' : World) (h : SvQ R t k1 i1 u1 s1 a1 n1 c1 w') (hb : Below w'.heap.size w' w'') : SvQ R t k1 i1 u1 s1 a1 n1 c1 w'' := ⟨fun hR => Rep.below hb _ _ _ (h.1 hR), h.2⟩
theorem svq_of {R : Bool} {t : Tr 19} {w : World} {e : Ending} {w' : World} (h : RsP R t w e w') : ∃ k1 i1 u1 s1 a1 n1 c1, e = .returned (.tuple #[.agg #[.int .i64 k1, .int .i64 i1, .int .u64 u1, .string s1, .slice a1 n1 c1], .bool R]) ∧ Hid (SvQ R t k1 i1 u1 s1 a1 n1 c1 w') ∧ Below w.heap.size w w' := by
  obtain ⟨hb, h1, h2⟩ := h
  cases R with
  | true =>
    obtain ⟨k, i, u, s, a, n, c, he, hq⟩ := h1 rfl
    exact ⟨_, _, _, _, _, _, _, he, ⟨fun _ => hq, (fun h => by cases h)⟩, hb⟩
  | false => exact ⟨_, _, _, _, _, _, _, h2 rfl, ⟨(fun h => by cases h), fun _ => ⟨rfl, rfl, rfl, rfl, rfl, rfl, rfl⟩⟩, hb⟩
theorem svq_same {R : Bool} {t : Tr 19} (k1 i1 u1 : Int) (s1 : ByteArray) (a1 : Option Addr) (n1 c1 : Nat) (k2 i2 u2 : Int) (s2 : ByteArray) (a2 : Option Addr) (n2 c2 : Nat) (wx : World) (h1 : SvQ R t k1 i1 u1 s1 a1 n1 c1 wx) (h2 : SvQ R t k2 i2 u2 s2 a2 n2 c2 wx) :
    Calls Tryz.prog 9 #[.agg #[.int .i64 k1, .int .i64 i1, .int .u64 u1, .string s1, .slice a1 n1 c1], .agg #[.int .i64 k2, .int .i64 i2, .int .u64 u2, .string s2, .slice a2 n2 c2]] wx fun e w' => e = .returned (.bool true) ∧ Below wx.heap.size wx w' := by
  cases R with
  | true => exact (same_any 19 19 t t _ _ _ _ _ _ _ _ _ _ wx (h1.1 rfl) (h2.1 rfl)).mono fun e w' ⟨q1, q2⟩ => ⟨by rw [q1, sm_refl], q2⟩
  | false =>
    obtain ⟨rfl, rfl, rfl, rfl, rfl, rfl, rfl⟩ := h1.2 rfl
    obtain ⟨rfl, rfl, rfl, rfl, rfl, rfl, rfl⟩ := h2.2 rfl
    exact (same_any 19 19 (leafT 18 0 0) (leafT 18 0 0) _ _ _ _ _ _ _ _ _ _ wx (leaf_rep wx 18 0 0) (leaf_rep wx 18 0 0)).mono fun e w' ⟨q1, q2⟩ => ⟨by rw [q1, sm_refl], q2⟩

theorem law_fits (n m : Nat) (cn ac un k i u : Int) (s : ByteArray) (a : Option Addr) (len cap : Nat) (la : Option Addr) (lc : Nat) (cl : Bool) (l0 : Tr n) (ts : List (Tr n)) (dk di du : Int) (ds : ByteArray) (da : Option Addr) (dn dc : Nat) (d : Tr m) (w : World)
    (hS : StR w n l0 ts k i u s a len cap la lc) (hD : Rep w m [.int .i64 dk, .int .i64 di, .int .u64 du, .string ds, .slice da dn dc] d) (hT : Tab14 w) (hW : Wc w) :
    Calls Tryz.prog 3 #[.agg #[.int .i64 cn, .int .i64 ac, .int .i64 k, .int .i64 i, .int .u64 u, .string s, .slice a len cap, .slice la ts.length lc, .bool cl, .int .i64 un], .agg #[.int .i64 dk, .int .i64 di, .int .u64 du, .string ds, .slice da dn dc]] w fun e w' => e = .returned (.bool true) ∧ Below w.heap.size w w' := by
  have hA : ∀ wx, Below w.heap.size w wx → Calls Tryz.prog 13 #[] wx fun e w' => e = .returned (.bool true) ∧ Below wx.heap.size wx w' := fun wx hb => awake_any wx (hW.below hb)
  have hV : ∀ wx, Below w.heap.size w wx → Calls Tryz.prog 12 #[.agg #[.int .i64 dk, .int .i64 di, .int .u64 du, .string ds, .slice da dn dc]] wx fun e w' => e = .returned (.bool (vB m d)) ∧ Below wx.heap.size wx w' := fun wx hb => refValid m d _ _ _ _ _ wx (Rep.below hb _ _ _ hD)
  have two : vB m d = true → ∃ R cn1 ac1 un1 cl1 l1 us1, (∀ wx, Below w.heap.size w wx → Calls Tryz.prog 10 #[.agg #[.int .i64 dk, .int .i64 di, .int .u64 du, .string ds, .slice da dn dc]] wx fun e w' => LdP R cn1 ac1 un1 cl1 (StQ l1 us1) wx e w') ∧ (∀ wx, Below w.heap.size w wx → Calls Tryz.prog 14 #[.agg #[.int .i64 dk, .int .i64 di, .int .u64 du, .string ds, .slice da dn dc]] wx fun e w' => LdP R cn1 ac1 un1 cl1 (StQ l1 us1) wx e w') := fun hv => by
    obtain ⟨d', q1, q2, q3⟩ := cut_one m d hv
    have RD := q3 w _ hD
    have v16 : vB 16 d' = true := (rep_vB hD RD).trans hv
    obtain ⟨a', c', e, -⟩ := id RD
    simp only [List.cons.injEq, Value.slice.injEq, Value.int.injEq, Value.string.injEq, true_and, and_true] at e
    obtain ⟨rfl, rfl, rfl, rfl, rfl, rfl, rfl⟩ := e
    obtain ⟨R, cn1, ac1, un1, cl1, l1, us1, -, g1, g2⟩ := load_two d' _ _ w RD v16 hT
    exact ⟨R, cn1, ac1, un1, cl1, l1, us1, g1, g2⟩
  rcases fit_two n cn ac un k i u s a len cap la lc cl l0 ts w hS hT with hF | ⟨l, us, e1, F, v1, v2, fb, hF⟩
  · cases hv : vB m d with
    | false =>
      rw [hv] at hV
      exact fits_no_no cn ac un k i u s a len cap la ts.length lc cl dk di du ds da dn dc w hF hA hV
    | true =>
      rw [hv] at hV
      obtain ⟨R, cn1, ac1, un1, cl1, l1, us1, g1, g2⟩ := two hv
      exact fits_no_yes cn ac un k i u s a len cap la ts.length lc cl dk di du ds da dn dc w hF hA hV R (LdQ R cn1 ac1 un1 cl1 l1 us1) (LdQ R cn1 ac1 un1 cl1 l1 us1) LdQ.below LdQ.below (fun wx hb => (g1 wx hb).mono fun e w' h => ldq_of h) (fun wx hb => (g2 wx hb).mono fun e w' h => ldq_of h) ldq_same
  · have dl : (pts 16 l).2 ≤ 16 := by
      have S := say 16 16 l 1 4096 (by decide) (by decide) (by decide)
      obtain ⟨-, hC, -⟩ := S.down v1
      obtain ⟨f1, f2, f3, f4, f5⟩ := S.fit hC
      rw [f1]; show (cnt 16 16 l 1 4096).2 - 1 + 1 ≤ 16; omega
    obtain ⟨l17, -, r2, r3⟩ := shrink 17 16 l (by omega)
    obtain ⟨l', -, -, t3⟩ := shrink 16 17 l17 (by rw [r2]; exact dl)
    have el : l' = l := rep_uniq 16 _ _ _ F.m.last (t3 _ _ (r3 _ _ F.m.last))
    subst el
    have pl := F.lr.2
    have pu : ∀ t ∈ us, (pts 16 t).1 ≤ 4096 := fun t ht => (F.ur t ht).2
    obtain ⟨x, hx⟩ : ∃ x, (if cl then (1 : Int) else 0) = x := ⟨_, rfl⟩
    have hxc : (x == 1) = cl := by rw [← hx]; cases cl <;> rfl
    obtain ⟨R, hR⟩ : ∃ R, vB 19 (savT cn ac un x l17 us) = R := ⟨_, rfl⟩
    have hfit : fitR cn ac un l' us = true := by unfold fitR; rw [v1, List.all_eq_true.2 v2, fb]; rfl
    have hS1 : ∀ wx, Below w.heap.size w wx → Calls Tryz.prog 7 #[.agg #[.int .i64 cn, .int .i64 ac, .int .i64 k, .int .i64 i, .int .u64 u, .string s, .slice a len cap, .slice la ts.length lc, .bool cl, .int .i64 un]] wx fun e w' => RsP R (savT cn ac un x l17 us) wx e w' := fun wx hb => by
      have := own_save cn ac un x k i u s a len cap la lc cl hx l' us wx (F.m.below hb) pl pu l17 r3 (hT.below hb) R hR
      rw [e1] at this; exact this
    have hS2 : ∀ wx, Below w.heap.size w wx → Calls Tryz.prog 8 #[.agg #[.int .i64 cn, .int .i64 ac, .int .i64 k, .int .i64 i, .int .u64 u, .string s, .slice a len cap, .slice la ts.length lc, .bool cl, .int .i64 un]] wx fun e w' => RsP R (savT cn ac un x l17 us) wx e w' := fun wx hb => by
      have := rsave_any cn ac un x k i u s a len cap la lc cl hx l' us wx (F.m.below hb) pl pu l17 r3 R hR
      rw [e1] at this; exact this
    have hLx : ∀ k1 i1 u1 s1 a1 n1 c1 wx, SvQ R (savT cn ac un x l17 us) k1 i1 u1 s1 a1 n1 c1 wx → Below w.heap.size w wx → Calls Tryz.prog 10 #[.agg #[.int .i64 k1, .int .i64 i1, .int .u64 u1, .string s1, .slice a1 n1 c1]] wx fun e w' => LdP R cn ac un cl (StQ l' us) wx e w' := fun k1 i1 u1 s1 a1 n1 c1 wx h hb => by
      cases R with
      | true =>
        have := load_sav cn ac un x l17 l' us t3 pl pu F.m.lt _ _ _ _ _ _ _ wx (h.1 rfl) hR (hT.below hb) wx (Below.refl _ _)
        rw [hfit, hxc] at this
        exact this
      | false =>
        obtain ⟨rfl, rfl, rfl, rfl, rfl, rfl, rfl⟩ := h.2 rfl
        exact (load_zero wx (hT.below hb) wx (Below.refl _ _)).mono fun e w' ⟨q1, q2⟩ => ⟨q2, (fun h => by cases h), fun _ => q1⟩
    have hSs : R = true → ∀ cn1 ac1 k1 i1 u1 s1 a1 n1 c1 la1 ll1 lc1 cl1 un1 wx, LdQ R cn ac un cl l' us cn1 ac1 k1 i1 u1 s1 a1 n1 c1 la1 ll1 lc1 cl1 un1 wx → Below w.heap.size w wx → Calls Tryz.prog 11 #[.agg #[.int .i64 cn1, .int .i64 ac1, .int .i64 k1, .int .i64 i1, .int .u64 u1, .string s1, .slice a1 n1 c1, .slice la1 ll1 lc1, .bool cl1, .int .i64 un1], .agg #[.int .i64 cn, .int .i64 ac, .int .i64 k, .int .i64 i, .int .u64 u, .string s, .slice a len cap, .slice la ts.length lc, .bool cl, .int .i64 un]] wx fun e w' => e = .returned (.bool true) ∧ Below wx.heap.size wx w' := fun hRt cn1 ac1 k1 i1 u1 s1 a1 n1 c1 la1 ll1 lc1 cl1 un1 wx h hb => by
      obtain ⟨rfl, rfl, rfl, rfl, rfl, q1⟩ := h.1 hRt
      rw [← e1]
      exact rsame_true 16 16 _ _ _ _ _ _ _ _ _ _ _ _ _ _ _ _ _ _ _ _ _ _ l' l' us us wx q1 (F.m.below hb) (sm_refl 16 l') rfl fun j x y hx hy => by rw [hx] at hy; obtain rfl := Option.some.inj hy; exact sm_refl 16 x
    cases hv : vB m d with
    | false =>
      rw [hv] at hV
      exact fits_yes_no cn ac un k i u s a len cap la ts.length lc cl dk di du ds da dn dc w hF hA hV R R (fun h => h) (SvQ R (savT cn ac un x l17 us)) (SvQ R (savT cn ac un x l17 us)) (LdQ R cn ac un cl l' us) SvQ.below SvQ.below LdQ.below (fun wx hb => (hS1 wx hb).mono fun e w' h => svq_of h) (fun wx hb => (hS2 wx hb).mono fun e w' h => svq_of h) svq_same (fun _ _ _ _ _ _ _ wx h hb => (hLx _ _ _ _ _ _ _ wx h hb).mono fun e w' h => ldq_of h) hSs
    | true =>
      rw [hv] at hV
      obtain ⟨R2, cn1, ac1, un1, cl1, l1, us1, g1, g2⟩ := two hv
      exact fits_yes_yes cn ac un k i u s a len cap la ts.length lc cl dk di du ds da dn dc w hF hA hV R2 (LdQ R2 cn1 ac1 un1 cl1 l1 us1) (LdQ R2 cn1 ac1 un1 cl1 l1 us1) LdQ.below LdQ.below (fun wx hb => (g1 wx hb).mono fun e w' h => ldq_of h) (fun wx hb => (g2 wx hb).mono fun e w' h => ldq_of h) ldq_same R R (fun h => h) (SvQ R (savT cn ac un x l17 us)) (SvQ R (savT cn ac un x l17 us)) (LdQ R cn ac un cl l' us) SvQ.below SvQ.below LdQ.below (fun wx hb => (hS1 wx hb).mono fun e w' h => svq_of h) (fun wx hb => (hS2 wx hb).mono fun e w' h => svq_of h) svq_same (fun _ _ _ _ _ _ _ wx h hb => (hLx _ _ _ _ _ _ _ wx h hb).mono fun e w' h => ldq_of h) hSs
end Go.Proofs.YtgijdiplhcoojaaGreatDoor.Dt
/- Whatever reads as a Datum is a tree that lies in memory; no condition. -/
namespace Go.Proofs.YtgijdiplhcoojaaGreatDoor.Dt
open Go.ChangeShapes Go.WideShapes Go.ChangeAt Go.WideMaps Go.WideElems Go.RowKit

theorem list_of {T : Type} (P : Nat → T → Prop) : ∀ (len : Nat), (∀ i, i < len → ∃ t, P i t) → ∃ l : List T, l.length = len ∧ ∀ i t, l[i]? = some t → P i t := by
  intro len
  induction len with
  | zero => intro _; exact ⟨[], rfl, fun i t h => by simp at h⟩
  | succ len ih =>
    intro h
    obtain ⟨l, hl, hp⟩ := ih (fun i hi => h i (by omega))
    obtain ⟨t, ht⟩ := h len (by omega)
    refine ⟨l ++ [t], by simp [hl], fun i t' hi => ?_⟩
    by_cases hlt : i < l.length
    · rw [List.getElem?_append_left hlt] at hi; exact hp i t' hi
    · rw [List.getElem?_append_right (by omega)] at hi
      have h0 : i - l.length = 0 := by
        by_cases h1 : i - l.length = 0
        · exact h1
        · rw [List.getElem?_eq_none (by simp; omega)] at hi; cases hi
      rw [h0] at hi
      simp at hi
      have : i = len := by omega
      subst this; subst hi; exact ht

theorem tcellsN25 : Tryz.prog.cellsOf 25 = 5 := by kernel_rfl
theorem tcellsN3 : Tryz.prog.cellsOf 3 = 1 := by kernel_rfl
theorem tcellsN2 : Tryz.prog.cellsOf 2 = 1 := by kernel_rfl
theorem tcellsN22 : Tryz.prog.cellsOf 22 = 1 := by kernel_rfl
theorem tcellsN9 : Tryz.prog.cellsOf 9 = 1 := by kernel_rfl
theorem tcellsN23 : Tryz.prog.cellsOf 23 = 1 := by kernel_rfl

set_option maxRecDepth 100000 in
theorem rep_of_trod {H : Type} {enc : TypeId × Value → H} {w : World} {base : Nat} {sp : Nat → Bool} {held : Bool} : ∀ (fuel : Nat) (cs : List Value) (x : DataW H × List MemPlace),
    DataW.trod enc Tryz.prog w base sp held fuel 25 cs = some x → ∃ t : Tr fuel, Rep w fuel cs t := by
  intro fuel
  induction fuel with
  | zero => intro cs x h; simp [DataW.trod] at h
  | succ fuel ih =>
    intro cs x h
    obtain ⟨xs, n, hn, -, hlen, hxl, hf⟩ := DataW.trod_struct Tryz.underlying25 h
    have hn' : fuel = n := by omega
    subst hn'
    rw [tcellsN25] at hlen
    match cs, hlen with
    | [c0, c1, c2, c3, c4], _ =>
      have g : ∀ i, i < 5 → ∃ y, xs[i]? = some y := fun i hi => ⟨_, List.getElem?_eq_getElem (by rw [hxl]; exact hi)⟩
      obtain ⟨y0, hy0⟩ := g 0 (by decide)
      obtain ⟨y1, hy1⟩ := g 1 (by decide)
      obtain ⟨y2, hy2⟩ := g 2 (by decide)
      obtain ⟨y3, hy3⟩ := g 3 (by decide)
      obtain ⟨y4, hy4⟩ := g 4 (by decide)
      have h0 : DataW.trod enc Tryz.prog w base sp held fuel 3 (([c0, c1, c2, c3, c4].drop 0).take (Tryz.prog.cellsOf 3)) = some y0 := (hf 0 _ rfl).trans hy0
      rw [tcellsN3] at h0
      have h1 : DataW.trod enc Tryz.prog w base sp held fuel 2 (([c0, c1, c2, c3, c4].drop 1).take (Tryz.prog.cellsOf 2)) = some y1 := (hf 1 _ rfl).trans hy1
      rw [tcellsN2] at h1
      have h2 : DataW.trod enc Tryz.prog w base sp held fuel 22 (([c0, c1, c2, c3, c4].drop 2).take (Tryz.prog.cellsOf 22)) = some y2 := (hf 2 _ rfl).trans hy2
      rw [tcellsN22] at h2
      have h3 : DataW.trod enc Tryz.prog w base sp held fuel 9 (([c0, c1, c2, c3, c4].drop 3).take (Tryz.prog.cellsOf 9)) = some y3 := (hf 3 _ rfl).trans hy3
      rw [tcellsN9] at h3
      have h4 : DataW.trod enc Tryz.prog w base sp held fuel 23 (([c0, c1, c2, c3, c4].drop 4).take (Tryz.prog.cellsOf 23)) = some y4 := (hf 4 _ rfl).trans hy4
      rw [tcellsN23] at h4
      obtain ⟨k, e0, -, -⟩ := DataW.trod_int Tryz.underlying3 h0
      obtain ⟨i, e1, -, -⟩ := DataW.trod_int Tryz.underlying2 h1
      obtain ⟨u, e2, -, -⟩ := DataW.trod_int Tryz.underlying22 h2
      obtain ⟨s, e3, -, hs⟩ := DataW.trod_string Tryz.underlying9 h3
      simp at e0 e1 e2 e3
      subst e0 e1 e2 e3
      rcases DataW.trod_slice Tryz.underlying23 h4 with ⟨e4, -⟩ | ⟨a, len, cap, elems, rest, m, hm, e4, -, -, hlc, hcm, hel, hat, -, -⟩
      · simp at e4
        subst e4
        exact ⟨((k, i, u, s, []) : Int × Int × Int × ByteArray × List (Tr fuel)), none, 0, rfl, hs, Nat.le_refl _, by unfold maxLen; omega, .inl rfl⟩
      · simp at e4
        subst e4
        rw [tcellsN25] at hat
        have kid : ∀ j, j < len → ∃ t : Tr fuel, ∃ v0 v1 v2 v3 v4, w.cell? (a.add (j * 5)) = some v0 ∧ w.cell? ((a.add (j * 5)).add 1) = some v1 ∧ w.cell? ((a.add (j * 5)).add 2) = some v2 ∧ w.cell? ((a.add (j * 5)).add 3) = some v3 ∧ w.cell? ((a.add (j * 5)).add 4) = some v4 ∧ Rep w fuel [v0, v1, v2, v3, v4] t := by
          intro j hj
          have hx := hat j hj
          rw [List.getElem?_eq_getElem (by omega)] at hx
          obtain ⟨cs', hc, ht⟩ := Option.bind_eq_some_iff.1 hx
          obtain ⟨-, hcl, hcc⟩ := World.cells?_some hc
          obtain ⟨t, ht'⟩ := ih cs' _ (DataW.trod_le (by omega) ht)
          match cs', hcl with
          | [v0, v1, v2, v3, v4], _ =>
            exact ⟨t, v0, v1, v2, v3, v4, by simpa [Addr.add] using hcc 0 (by decide), hcc 1 (by decide), hcc 2 (by decide), hcc 3 (by decide), hcc 4 (by decide), ht'⟩
        obtain ⟨ks, hkl, hkp⟩ := list_of _ len kid
        refine ⟨((k, i, u, s, ks) : Int × Int × Int × ByteArray × List (Tr fuel)), some a, cap, ?_, hs, by show ks.length ≤ cap; omega, hcm, ?_⟩
        · show _ = [_, _, _, _, Value.slice (some a) ks.length cap]
          rw [hkl]; rfl
        · cases hks : ks with
          | nil => exact .inl rfl
          | cons t0 ts =>
            right
            have h00 := hkp 0 t0 (by rw [hks]; rfl)
            obtain ⟨b, off, spot⟩ := a
            obtain ⟨v0, _, _, _, _, hc0, _⟩ := h00
            have hspot : spot = none := by simpa [Addr.add] using World.cell?_spot hc0
            subst hspot
            refine ⟨b, off, rfl, fun j t' hj => ?_⟩
            obtain ⟨v0, v1, v2, v3, v4, x0, x1, x2, x3, x4, r⟩ := hkp j t' (by rw [hks]; exact hj)
            simp only [add_plain] at x0 x1 x2 x3 x4
            exact ⟨v0, v1, v2, v3, v4, x0, x1, x2, x3, x4, r⟩
theorem array5 {cs : Array Value} (h : cs.size = 5) : ∃ c0 c1 c2 c3 c4, cs = #[c0, c1, c2, c3, c4] := by
  obtain ⟨l⟩ := cs
  match l, h with
  | [c0, c1, c2, c3, c4], _ => exact ⟨c0, c1, c2, c3, c4, rfl⟩
end Go.Proofs.YtgijdiplhcoojaaGreatDoor.Dt
/- Whatever reads as a state is a state that lies in memory, where no slice takes more bytes than a process can address; no other condition. -/
namespace Go.Proofs.YtgijdiplhcoojaaGreatDoor.Dt
open Go.ChangeShapes Go.WideShapes Go.ChangeAt Go.WideMaps Go.WideElems Go.RowKit

theorem scells : Tryz.prog.cellsOf 27 = 10 := by kernel_rfl
theorem bcells : Tryz.prog.cellsOf 4 = 1 := by kernel_rfl
theorem dbytes : Tryz.prog.bytesOf 25 = 64 := by kernel_rfl

set_option maxRecDepth 100000 in
theorem row_of_trod {H : Type} {enc : TypeId × Value → H} {w : World} {base : Nat} {sp : Nat → Bool} {held : Bool} (n : Nat) (c : Value) (x : DataW H × List MemPlace)
    (h : DataW.trod enc Tryz.prog w base sp held n 23 [c] = some x) (hw : (x.1.weights Tryz.prog 23).all (· ≤ reachBytes) = true) :
    ∃ (ts : List (Tr n)) (a0 : Option Addr) (cap : Nat), c = .slice a0 ts.length cap ∧ Rl w n a0 ts ∧ ts.length ≤ 2199023255551 ∧ ts.length ≤ cap ∧ cap ≤ maxLen := by
  rcases DataW.trod_slice Tryz.underlying23 h with ⟨e4, -⟩ | ⟨a, len, cap, elems, rest, m, hm, e4, ex, -, hlc, hcm, hel, hat, -, -⟩
  · simp at e4
    subst e4
    exact ⟨[], none, 0, rfl, .inl rfl, by simp, Nat.le_refl _, by unfold maxLen; omega⟩
  · simp at e4
    subst e4
    rw [tcellsN25] at hat
    have hlen : len ≤ 2199023255551 := by
      rw [ex] at hw
      unfold DataW.weights at hw
      rw [Tryz.underlying23] at hw
      simp only [List.all_cons, Bool.and_eq_true, decide_eq_true_eq, List.length_map, dbytes, hel] at hw
      have h1 := hw.1
      simp only [reachBytes] at h1
      omega
    have kid : ∀ j, j < len → ∃ t : Tr n, ∃ v0 v1 v2 v3 v4, w.cell? (a.add (j * 5)) = some v0 ∧ w.cell? ((a.add (j * 5)).add 1) = some v1 ∧ w.cell? ((a.add (j * 5)).add 2) = some v2 ∧ w.cell? ((a.add (j * 5)).add 3) = some v3 ∧ w.cell? ((a.add (j * 5)).add 4) = some v4 ∧ Rep w n [v0, v1, v2, v3, v4] t := by
      intro j hj
      have hx := hat j hj
      rw [List.getElem?_eq_getElem (by omega)] at hx
      obtain ⟨cs', hc, ht⟩ := Option.bind_eq_some_iff.1 hx
      obtain ⟨-, hcl, hcc⟩ := World.cells?_some hc
      obtain ⟨t, ht'⟩ := rep_of_trod n cs' _ (DataW.trod_le (by omega) ht)
      match cs', hcl with
      | [v0, v1, v2, v3, v4], _ =>
        exact ⟨t, v0, v1, v2, v3, v4, by simpa [Addr.add] using hcc 0 (by decide), hcc 1 (by decide), hcc 2 (by decide), hcc 3 (by decide), hcc 4 (by decide), ht'⟩
    obtain ⟨ks, hkl, hkp⟩ := list_of _ len kid
    refine ⟨ks, some a, cap, by rw [hkl], ?_, by omega, by omega, hcm⟩
    cases hks : ks with
    | nil => exact .inl rfl
    | cons t0 ts =>
      right
      have h00 := hkp 0 t0 (by rw [hks]; rfl)
      obtain ⟨b, off, spot⟩ := a
      obtain ⟨v0, _, _, _, _, hc0, _⟩ := h00
      have hspot : spot = none := by simpa [Addr.add] using World.cell?_spot hc0
      subst hspot
      refine ⟨b, off, rfl, fun j t' hj => ?_⟩
      obtain ⟨v0, v1, v2, v3, v4, x0, x1, x2, x3, x4, r⟩ := hkp j t' (by rw [hks]; exact hj)
      simp only [add_plain] at x0 x1 x2 x3 x4
      exact ⟨v0, v1, v2, v3, v4, x0, x1, x2, x3, x4, r⟩

theorem rep_cells {w : World} : ∀ {n : Nat} {c0 c1 c2 c3 c4 : Value} {t : Tr n}, Rep w n [c0, c1, c2, c3, c4] t → ∃ k i u s a len cap, c0 = .int .i64 k ∧ c1 = .int .i64 i ∧ c2 = .int .u64 u ∧ c3 = .string s ∧ c4 = .slice a len cap := by
  intro n c0 c1 c2 c3 c4 t h
  cases n with
  | zero => cases h
  | succ n =>
    obtain ⟨a, cap, e, -⟩ := h
    simp only [List.cons.injEq, and_true] at e
    obtain ⟨rfl, rfl, rfl, rfl, rfl⟩ := e
    exact ⟨_, _, _, _, _, _, _, rfl, rfl, rfl, rfl, rfl⟩

set_option maxRecDepth 100000 in
theorem state_of_trod {H : Type} {enc : TypeId × Value → H} {w : World} {base : Nat} {sp : Nat → Bool} {held : Bool} (fuel : Nat) (c0 c1 c2 c3 c4 c5 c6 c7 c8 c9 : Value) (x : DataW H × List MemPlace)
    (h : DataW.trod enc Tryz.prog w base sp held fuel 27 [c0, c1, c2, c3, c4, c5, c6, c7, c8, c9] = some x) (hw : (x.1.weights Tryz.prog 27).all (· ≤ reachBytes) = true) :
    ∃ (n : Nat) (cn ac un k i u : Int) (s : ByteArray) (a : Option Addr) (len cap : Nat) (la : Option Addr) (lc : Nat) (cl : Bool) (l0 : Tr n) (ts : List (Tr n)), c0 = .int .i64 cn ∧ c1 = .int .i64 ac ∧ c2 = .int .i64 k ∧ c3 = .int .i64 i ∧ c4 = .int .u64 u ∧ c5 = .string s ∧ c6 = .slice a len cap ∧ c7 = .slice la ts.length lc ∧ c8 = .bool cl ∧ c9 = .int .i64 un ∧ StR w n l0 ts k i u s a len cap la lc := by
  obtain ⟨xs, n, hn, ex, hlen, hxl, hf⟩ := DataW.trod_struct Tryz.underlying27 h
  have g : ∀ i, i < 6 → ∃ y, xs[i]? = some y := fun i hi => ⟨_, List.getElem?_eq_getElem (by rw [hxl]; exact hi)⟩
  match xs, hxl with
  | [y0, y1, y2, y3, y4, y5], _ =>
    have h0 : DataW.trod enc Tryz.prog w base sp held n 2 (([c0, c1, c2, c3, c4, c5, c6, c7, c8, c9].drop 0).take (Tryz.prog.cellsOf 2)) = some y0 := hf 0 _ rfl
    have h1 : DataW.trod enc Tryz.prog w base sp held n 2 (([c0, c1, c2, c3, c4, c5, c6, c7, c8, c9].drop 1).take (Tryz.prog.cellsOf 2)) = some y1 := hf 1 _ rfl
    have h2 : DataW.trod enc Tryz.prog w base sp held n 25 (([c0, c1, c2, c3, c4, c5, c6, c7, c8, c9].drop 2).take (Tryz.prog.cellsOf 25)) = some y2 := hf 2 _ rfl
    have h3 : DataW.trod enc Tryz.prog w base sp held n 23 (([c0, c1, c2, c3, c4, c5, c6, c7, c8, c9].drop 7).take (Tryz.prog.cellsOf 23)) = some y3 := hf 3 _ rfl
    have h4 : DataW.trod enc Tryz.prog w base sp held n 4 (([c0, c1, c2, c3, c4, c5, c6, c7, c8, c9].drop 8).take (Tryz.prog.cellsOf 4)) = some y4 := hf 4 _ rfl
    have h5 : DataW.trod enc Tryz.prog w base sp held n 2 (([c0, c1, c2, c3, c4, c5, c6, c7, c8, c9].drop 9).take (Tryz.prog.cellsOf 2)) = some y5 := hf 5 _ rfl
    rw [tcellsN2] at h0 h1 h5
    rw [tcellsN25] at h2
    rw [tcellsN23] at h3
    rw [bcells] at h4
    obtain ⟨cn, e0, -, -⟩ := DataW.trod_int Tryz.underlying2 h0
    obtain ⟨ac, e1, -, -⟩ := DataW.trod_int Tryz.underlying2 h1
    obtain ⟨un, e5, -, -⟩ := DataW.trod_int Tryz.underlying2 h5
    obtain ⟨cl, e4, -⟩ := DataW.trod_bool Tryz.underlying4 h4
    simp at e0 e1 e4 e5
    subst e0 e1 e4 e5
    obtain ⟨l0, R⟩ := rep_of_trod n _ _ h2
    have R' : Rep w n [c2, c3, c4, c5, c6] l0 := R
    obtain ⟨k, i, u, s, a, len, cap, rfl, rfl, rfl, rfl, rfl⟩ := rep_cells R'
    have hw3 : (y3.1.weights Tryz.prog 23).all (· ≤ reachBytes) = true := by
      rw [ex] at hw
      unfold DataW.weights at hw
      rw [Tryz.underlying27] at hw
      simp only [List.map_cons, List.map_nil, DataW.weightsEach, List.all_append, Bool.and_eq_true] at hw
      exact hw.2.2.2.1
    obtain ⟨ts, la, lc, rfl, hl, b1, b2, b3⟩ := row_of_trod n c7 y3 h3 hw3
    exact ⟨n, cn, ac, un, k, i, u, s, a, len, cap, la, lc, cl, l0, ts, rfl, rfl, rfl, rfl, rfl, rfl, rfl, rfl, rfl, rfl, R', hl, b1, b2, b3⟩
theorem array10 {cs : Array Value} (h : cs.size = 10) : ∃ c0 c1 c2 c3 c4 c5 c6 c7 c8 c9, cs = #[c0, c1, c2, c3, c4, c5, c6, c7, c8, c9] := by
  obtain ⟨l⟩ := cs
  match l, h with
  | [c0, c1, c2, c3, c4, c5, c6, c7, c8, c9], _ => exact ⟨c0, c1, c2, c3, c4, c5, c6, c7, c8, c9, rfl⟩
end Go.Proofs.YtgijdiplhcoojaaGreatDoor.Dt
