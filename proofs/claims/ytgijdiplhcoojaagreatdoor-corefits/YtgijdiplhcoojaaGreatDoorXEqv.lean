/- The == of two values that the package makes of trees, with boxes by number: what the document says, or the panic of a type that is not comparable; the conditions: the trees valid, the boxes alive and apart. -/
import Derived.Test.YtgijdiplhcoojaaGreatDoorJbb
import Derived.Laws.StructEq
import Derived.LaidEql
namespace Go.Proofs.YtgijdiplhcoojaaGreatDoor.Dt
open Go.RowKit
theorem q1 (d : Nat) (i j : Int) (w : World) : (Op.equalIn (d + 2) 20 (.iface 94 (.int .i64 i)) (.iface 94 (.int .i64 j))).run Tryz.prog w = .ok (i == j) w := by kernel_rfl
theorem q2 (d : Nat) (i j : Int) (w : World) : (Op.equalIn (d + 2) 20 (.iface 107 (.int .i64 i)) (.iface 107 (.int .i64 j))).run Tryz.prog w = .ok (i == j) w := by kernel_rfl
theorem q3 (d : Nat) (i j : Nat) (w : World) : (Op.equalIn (d + 2) 20 (.iface 108 (.float .f64 i)) (.iface 108 (.float .f64 j))).run Tryz.prog w = .ok (FloatKind.f64.format.order i j == some .eq) w := by kernel_rfl
theorem q4 (d : Nat) (i j : ByteArray) (w : World) : (Op.equalIn (d + 2) 20 (.iface 109 (.string i)) (.iface 109 (.string j))).run Tryz.prog w = .ok (i == j) w := by kernel_rfl
theorem q5 (d : Nat) (i j : ByteArray) (w : World) : (Op.equalIn (d + 2) 20 (.iface 110 (.string i)) (.iface 110 (.string j))).run Tryz.prog w = .ok (i == j) w := by kernel_rfl
theorem q6 (d : Nat) (i j : Bool) (w : World) : (Op.equalIn (d + 2) 20 (.iface 95 (.bool i)) (.iface 95 (.bool j))).run Tryz.prog w = .ok (i == j) w := by kernel_rfl
theorem q0 (d : Nat) (w : World) : (Op.equalIn (d + 2) 20 .nilIface .nilIface).run Tryz.prog w = .ok true w := by kernel_rfl
theorem q12 (d : Nat) (w : World) : (Op.equalIn (d + 2) 20 (.iface 121 (.pointer none)) (.iface 121 (.pointer none))).run Tryz.prog w = .ok true w := by kernel_rfl
theorem qpn (d : Nat) (a : Addr) (w : World) : (Op.equalIn (d + 2) 20 (.iface 121 (.pointer (some a))) (.iface 121 (.pointer none))).run Tryz.prog w = .ok false w := by kernel_rfl
theorem qnp (d : Nat) (a : Addr) (w : World) : (Op.equalIn (d + 2) 20 (.iface 121 (.pointer none)) (.iface 121 (.pointer (some a)))).run Tryz.prog w = .ok false w := by kernel_rfl
theorem qnv (d : Nat) (t : TypeId) (x : Value) (w : World) : (Op.equalIn (d + 2) 20 .nilIface (.iface t x)).run Tryz.prog w = .ok false w := by kernel_rfl
theorem qvn (d : Nat) (t : TypeId) (x : Value) (w : World) : (Op.equalIn (d + 2) 20 (.iface t x) .nilIface).run Tryz.prog w = .ok false w := by kernel_rfl
theorem qtt (d : Nat) (t u : TypeId) (x y : Value) (w : World) (h : t ≠ u) : (Op.equalIn (d + 2) 20 (.iface t x) (.iface u y)).run Tryz.prog w = .ok false w := by
  simp [Op.equalIn, run_underlying Tryz.underlying20, h]
theorem pt2 (x y : Value) (w : World) : (part 2 #[x, y] 0).run Tryz.prog w = .ok x w := by kernel_rfl
theorem pt9 (x y : Value) (w : World) : (part 9 #[x, y] 1).run Tryz.prog w = .ok y w := by kernel_rfl
theorem q10 (d : Nat) (i j : Int) (s z : ByteArray) (w : World) : (Op.equalIn (d + 3) 20 (.iface 120 (.agg #[.int .i64 i, .string s])) (.iface 120 (.agg #[.int .i64 j, .string z]))).run Tryz.prog w = .ok (i == j && s == z) w := by
  have e : (Op.equalIn (d + 3) 20 (.iface 120 (.agg #[.int .i64 i, .string s])) (.iface 120 (.agg #[.int .i64 j, .string z]))).run Tryz.prog w = (Op.equalIn (d + 2) 120 (.agg #[.int .i64 i, .string s]) (.agg #[.int .i64 j, .string z])).run Tryz.prog w := by kernel_rfl
  have e1 : ∀ w, (Op.equalIn (d + 1) 2 (.int .i64 i) (.int .i64 j)).run Tryz.prog w = .ok (i == j) w := fun _ => by kernel_rfl
  have e2 : ∀ w, (Op.equalIn (d + 1) 9 (.string s) (.string z)).run Tryz.prog w = .ok (s == z) w := fun _ => by kernel_rfl
  rw [e, run_equalIn_struct w (d + 1) 120 _ _ (by kernel_rfl) (by kernel_rfl)]
  have hf : ∃ b1 b2, (Tryz.prog.fieldsOf 120).toList = [⟨"Code", 2, 0, false, "", "", b1⟩, ⟨"Words", 9, 1, false, "", "", b2⟩] := ⟨0, 8, by kernel_rfl⟩
  obtain ⟨b1, b2, hf⟩ := hf
  rw [hf]
  simp only [Op.eqFields]
  simp only [Sem.run_bind, pt2, pt9, Result.andThen_ok, e1, e2, Sem.run_ite, Sem.run_pure]
  cases i == j <;> cases s == z <;> rfl
theorem q7 (d : Nat) (x y : Value) (w : World) : ∃ pv, (Op.equalIn (d + 2) 20 (.iface 112 x) (.iface 112 y)).run Tryz.prog w = .halt (.panic (.iface 10 pv)) w :=
  ⟨strVal ("comparing uncomparable type " ++ "value.Octets"), by kernel_rfl⟩
theorem q8 (d : Nat) (x y : Value) (w : World) : ∃ pv, (Op.equalIn (d + 2) 20 (.iface 114 x) (.iface 114 y)).run Tryz.prog w = .halt (.panic (.iface 10 pv)) w :=
  ⟨strVal ("comparing uncomparable type " ++ "value.Row"), by kernel_rfl⟩
theorem q13 (d : Nat) (w : World) : (Op.equalIn (d + 3) 20 (.iface 124 (.agg #[])) (.iface 124 (.agg #[]))).run Tryz.prog w = .ok true w := by kernel_rfl
theorem pt20 (x y : Value) (w : World) : (part 20 #[x, y] 0).run Tryz.prog w = .ok x w := by kernel_rfl
theorem pt20' (x y : Value) (w : World) : (part 20 #[x, y] 1).run Tryz.prog w = .ok y w := by kernel_rfl
theorem q9 (d : Nat) (x y x' y' : Value) (w : World) : (Op.equalIn (d + 3) 20 (.iface 118 (.agg #[x, y])) (.iface 118 (.agg #[x', y']))).run Tryz.prog w = ((Op.equalIn (d + 1) 20 x x').run Tryz.prog w).andThen fun b w' => if b then ((Op.equalIn (d + 1) 20 y y').run Tryz.prog w').andThen fun b w' => .ok b w' else .ok false w' := by
  have e : (Op.equalIn (d + 3) 20 (.iface 118 (.agg #[x, y])) (.iface 118 (.agg #[x', y']))).run Tryz.prog w = (Op.equalIn (d + 2) 118 (.agg #[x, y]) (.agg #[x', y'])).run Tryz.prog w := by kernel_rfl
  rw [e, run_equalIn_struct w (d + 1) 118 _ _ (by kernel_rfl) (by kernel_rfl)]
  have hf : ∃ b1 b2, (Tryz.prog.fieldsOf 118).toList = [⟨"First", 20, 0, false, "", "", b1⟩, ⟨"Second", 20, 1, false, "", "", b2⟩] := ⟨0, 16, by kernel_rfl⟩
  obtain ⟨b1, b2, hf⟩ := hf
  rw [hf]
  simp only [Op.eqFields]
  simp [pt20, pt20']
  refine congrArg _ (funext fun a => funext fun w' => ?_)
  cases a
  · rfl
  · simp only [Bool.true_eq_false, if_false, if_true]
    refine congrArg _ (funext fun a => funext fun w' => ?_)
    cases a <;> rfl

/-- A value that the package makes of a tree, its boxes by number. -/
def VS (l : List (Int × Nat)) : (n : Nat) → Value → Tr n → Prop
  | 0, _, _ => False
  | n + 1, v, t =>
    (t.kd = 0 ∧ v = .nilIface) ∨ (t.kd = 1 ∧ v = .iface 94 (.int .i64 t.it)) ∨ (t.kd = 2 ∧ v = .iface 107 (.int .i64 t.it)) ∨ (t.kd = 3 ∧ v = .iface 108 (.float .f64 t.ut.toNat)) ∨
    (t.kd = 4 ∧ v = .iface 109 (.string t.tx)) ∨ (t.kd = 5 ∧ v = .iface 110 (.string t.tx)) ∨ (t.kd = 6 ∧ v = .iface 95 (.bool (t.it != 0))) ∨ (t.kd = 7 ∧ ∃ x, v = .iface 112 x) ∨ (t.kd = 8 ∧ ∃ x, v = .iface 114 x) ∨
    (t.kd = 9 ∧ ∃ x y t0 t1, v = .iface 118 (.agg #[x, y]) ∧ t.ks = [t0, t1] ∧ VS l n x t0 ∧ VS l n y t1) ∨ (t.kd = 10 ∧ v = .iface 120 (.agg #[.int .i64 t.it, .string t.tx])) ∨
    (t.kd = 11 ∧ ∃ b, (t.it, b) ∈ l ∧ v = .iface 121 (.pointer (some ⟨b, 0, none⟩))) ∨ (t.kd = 12 ∧ v = .iface 121 (.pointer none)) ∨ (t.kd = 13 ∧ v = .iface 124 (.agg #[]))

/-- The document's Equal. -/
def eqP {T U : Type} (c : T → U → Bool × Int) : List T → List U → Bool × Int
  | [a0, a1], [b0, b1] => if (c a0 b0).2 ≠ 0 ∨ (c a0 b0).1 = false then (false, (c a0 b0).2) else c a1 b1
  | _, _ => (false, 0)
def eqT : (n m : Nat) → Tr n → Tr m → Bool × Int
  | 0, _, a, _ => a.elim
  | _ + 1, 0, _, b => b.elim
  | n + 1, m + 1, a, b =>
    if a.kd ≠ b.kd then (false, 0) else if a.kd = 7 ∨ a.kd = 8 then (false, 10) else if a.kd = 3 then (FloatKind.f64.format.order a.ut.toNat b.ut.toNat == some .eq, 0)
    else if a.kd = 9 then eqP (eqT n m) a.ks b.ks else (a.it == b.it && a.tx == b.tx, 0)

/-- The boxes: one number one block, one block one number. -/
def Bx (w : World) (l : List (Int × Nat)) : Prop :=
  (∀ i b, (i, b) ∈ l → ∃ cs, w.heap[b]? = some (.cells cs 151 (0, 0))) ∧ (∀ i b j c, (i, b) ∈ l → (j, c) ∈ l → (i = j ↔ b = c))

theorem qptr (d : Nat) (w : World) (l : List (Int × Nat)) (hb : Bx w l) (i j : Int) (b c : Nat) (h1 : (i, b) ∈ l) (h2 : (j, c) ∈ l) :
    (Op.equalIn (d + 2) 20 (.iface 121 (.pointer (some ⟨b, 0, none⟩))) (.iface 121 (.pointer (some ⟨c, 0, none⟩)))).run Tryz.prog w = .ok (i == j) w := by
  have hi : Tryz.prog.underlying 20 = some (.interface #[]) := by kernel_rfl
  have hp : Tryz.prog.underlying 121 = some (.pointer 151) := by kernel_rfl
  have hii : Tryz.prog.info? 121 = some Tryz.t121 := by kernel_rfl
  have hic : Tryz.t121.comparable = true := by kernel_rfl
  have hjj : Tryz.prog.info? 151 = some Tryz.t151 := by kernel_rfl
  have hjs : Tryz.t151.size ≠ 0 := by
    have : Tryz.t151.size = 2 := by kernel_rfl
    rw [this]; decide
  have hiff := hb.2 i b j c h1 h2
  by_cases e : i = j
  · have := hiff.1 e
    subst this
    rw [show (i == j) = true by simpa using e]
    exact run_equalIn_iface_ptr_same w d _ hi hp hii hic hjj
  · have hne : b ≠ c := fun x => e (hiff.2 x)
    rw [show (i == j) = false by simpa using e]
    obtain ⟨c1, g1⟩ := hb.1 i b h1
    obtain ⟨c2, g2⟩ := hb.1 j c h2
    exact run_equalIn_iface_ptr_other w d hi hp hii hic hjj hjs (by simp only [ne_eq, Addr.mk.injEq]; exact fun h => hne h.1) g1 g2

theorem ba_beq (s z : ByteArray) : (s == z) = true ↔ s = z := by
  have : (s == z) = (s.data == z.data) := by cases s; cases z; rfl
  rw [this, beq_iff_eq]
  exact ⟨ByteArray.ext, fun h => h ▸ rfl⟩
theorem ok_plain {k i u : Int} {sz len : Nat} (h : okB k i u sz len = true) : (k = 6 → i = 0 ∨ i = 1) ∧ (k = 9 → len = 2) ∧ (k ≠ 1 → k ≠ 2 → k ≠ 6 → k ≠ 10 → k ≠ 11 → i = 0) ∧ (k ≠ 4 → k ≠ 5 → k ≠ 7 → k ≠ 10 → sz = 0) ∧ 0 ≤ k ∧ k ≤ 13 := by
  unfold okB at h
  repeat' split at h
  all_goals (try simp only [decide_eq_true_eq] at h)
  all_goals (first | omega | cases h)
theorem tx_of {n m : Nat} {a : Tr (n + 1)} {b : Tr (m + 1)} (h1 : a.tx.size = 0) (h2 : b.tx.size = 0) : a.tx = b.tx := by
  rw [ByteArray.size_eq_zero_iff.1 h1, ByteArray.size_eq_zero_iff.1 h2]

/-- The type by the kind. -/
def tyK (k : Int) : TypeId := if k = 1 then 94 else if k = 2 then 107 else if k = 3 then 108 else if k = 4 then 109 else if k = 5 then 110 else if k = 6 then 95 else if k = 7 then 112 else if k = 8 then 114 else if k = 9 then 118 else if k = 10 then 120 else if k = 13 then 124 else 121
theorem vs_ty {l : List (Int × Nat)} {n : Nat} {v : Value} {t : Tr (n + 1)} (h : VS l (n + 1) v t) : (t.kd = 0 ∧ v = .nilIface) ∨ (1 ≤ t.kd ∧ t.kd ≤ 13 ∧ ∃ z, v = .iface (tyK t.kd) z) := by
  simp only [VS] at h
  rcases h with ⟨k, e⟩ | ⟨k, e⟩ | ⟨k, e⟩ | ⟨k, e⟩ | ⟨k, e⟩ | ⟨k, e⟩ | ⟨k, e⟩ | ⟨k, z, e⟩ | ⟨k, z, e⟩ | ⟨k, z, z', t0, t1, e, -⟩ | ⟨k, e⟩ | ⟨k, z, -, e⟩ | ⟨k, e⟩ | ⟨k, e⟩
  · exact .inl ⟨k, e⟩
  all_goals (right; rw [k]; exact ⟨by decide, by decide, _, e⟩)
theorem tyK_inj (i j : Int) (h1 : 1 ≤ i) (h2 : i ≤ 13) (h3 : 1 ≤ j) (h4 : j ≤ 13) (h : i ≠ j) (h5 : ¬ (i = 11 ∧ j = 12)) (h6 : ¬ (i = 12 ∧ j = 11)) : tyK i ≠ tyK j := by
  obtain h | h | h | h | h | h | h | h | h | h | h | h | h : i = 1 ∨ i = 2 ∨ i = 3 ∨ i = 4 ∨ i = 5 ∨ i = 6 ∨ i = 7 ∨ i = 8 ∨ i = 9 ∨ i = 10 ∨ i = 11 ∨ i = 12 ∨ i = 13 := by omega
  all_goals (subst h; obtain h | h | h | h | h | h | h | h | h | h | h | h | h : j = 1 ∨ j = 2 ∨ j = 3 ∨ j = 4 ∨ j = 5 ∨ j = 6 ∨ j = 7 ∨ j = 8 ∨ j = 9 ∨ j = 10 ∨ j = 11 ∨ j = 12 ∨ j = 13 := by omega)
  all_goals (subst h; first | (exfalso; omega) | decide)
theorem vs_11 {l : List (Int × Nat)} {n : Nat} {v : Value} {t : Tr (n + 1)} (h : VS l (n + 1) v t) (k : t.kd = 11) : ∃ b, (t.it, b) ∈ l ∧ v = .iface 121 (.pointer (some ⟨b, 0, none⟩)) := by
  simp only [VS, k] at h; simpa using h
theorem vs_12 {l : List (Int × Nat)} {n : Nat} {v : Value} {t : Tr (n + 1)} (h : VS l (n + 1) v t) (k : t.kd = 12) : v = .iface 121 (.pointer none) := by
  simp only [VS, k] at h; simpa using h
theorem vs_9 {l : List (Int × Nat)} {n : Nat} {v : Value} {t : Tr (n + 1)} (h : VS l (n + 1) v t) (k : t.kd = 9) : ∃ x y t0 t1, v = .iface 118 (.agg #[x, y]) ∧ t.ks = [t0, t1] ∧ VS l n x t0 ∧ VS l n y t1 := by
  simp only [VS, k] at h; simpa using h

theorem eq_run (l : List (Int × Nat)) (w : World) (hb : Bx w l) : ∀ (n m : Nat) (a : Tr n) (b : Tr m) (x y : Value) (d : Nat), rgt n a = true → rgt m b = true → VS l n x a → VS l m y b → 2 * n ≤ d →
    ((eqT n m a b).2 = 0 ∧ (Op.equalIn (d + 3) 20 x y).run Tryz.prog w = .ok (eqT n m a b).1 w) ∨ ((eqT n m a b).2 = 10 ∧ (eqT n m a b).1 = false ∧ ∃ pv, (Op.equalIn (d + 3) 20 x y).run Tryz.prog w = .halt (.panic (.iface 10 pv)) w) := by
  intro n
  induction n with
  | zero => intro m a; exact a.elim
  | succ n ih =>
    intro m a b x y d ra rb hx hy hd
    match m, b, rb, hy with
    | m + 1, b, rb, hy =>
      simp only [rgt, Bool.and_eq_true] at ra rb
      have oa := ok_plain ra.1
      have ob := ok_plain rb.1
      by_cases hk : a.kd = b.kd
      case neg =>
        left
        have e : eqT (n + 1) (m + 1) a b = (false, 0) := by simp [eqT, hk]
        rw [e]
        refine ⟨rfl, ?_⟩
        rcases vs_ty hx with ⟨ka, rfl⟩ | ⟨ka, ka', z, ex⟩
        · rcases vs_ty hy with ⟨kb, rfl⟩ | ⟨kb, kb', z', ey⟩
          · exact absurd (ka.trans kb.symm) hk
          · rw [ey]; exact qnv (d + 1) _ _ w
        · rcases vs_ty hy with ⟨kb, rfl⟩ | ⟨kb, kb', z', ey⟩
          · rw [ex]; exact qvn (d + 1) _ _ w
          · by_cases h1 : a.kd = 11 ∧ b.kd = 12
            · obtain ⟨c, -, e1⟩ := vs_11 hx h1.1
              rw [e1, vs_12 hy h1.2]
              exact qpn (d + 1) _ w
            · by_cases h2 : a.kd = 12 ∧ b.kd = 11
              · obtain ⟨c, -, e1⟩ := vs_11 hy h2.2
                rw [e1, vs_12 hx h2.1]
                exact qnp (d + 1) _ w
              · rw [ex, ey]
                exact qtt (d + 1) _ _ _ _ w (tyK_inj _ _ ka ka' kb kb' hk h1 h2)
      case pos =>
        obtain ⟨oa1, oa2, oa3, oa4, oa5, oa6⟩ := oa
        obtain ⟨ob1, ob2, ob3, ob4, ob5, ob6⟩ := ob
        by_cases h9 : a.kd = 9
        · obtain ⟨x0, x1, s0, s1, rfl, es, hx0, hx1⟩ := vs_9 hx h9
          obtain ⟨y0, y1, r0, r1, rfl, er, hy0, hy1⟩ := vs_9 hy (hk ▸ h9)
          have e : eqT (n + 1) (m + 1) a b = eqP (eqT n m) [s0, s1] [r0, r1] := by simp [eqT, hk.symm, h9, es, er]
          rw [e]
          have ra2 := ra.2
          have rb2 := rb.2
          rw [es] at ra2
          rw [er] at rb2
          simp only [List.all_cons, List.all_nil, Bool.and_true, Bool.and_eq_true] at ra2 rb2
          obtain ⟨dd, rfl⟩ : ∃ dd, d = dd + 2 := ⟨d - 2, by omega⟩
          rw [q9 (dd + 2)]
          have I0 := ih m s0 r0 x0 y0 dd ra2.1 rb2.1 hx0 hy0 (by omega)
          have I1 := ih m s1 r1 x1 y1 dd ra2.2 rb2.2 hx1 hy1 (by omega)
          simp only [eqP]
          generalize eqT n m s0 r0 = E0 at I0 ⊢
          generalize eqT n m s1 r1 = E1 at I1 ⊢
          rcases I0 with ⟨z0, i0⟩ | ⟨z0, f0, pv, i0⟩
          · rw [i0]
            cases hE : E0.1 with
            | false =>
              rw [if_pos (Or.inr rfl)]
              left
              exact ⟨z0, rfl⟩
            | true =>
              rw [if_neg (by simp [z0])]
              rcases I1 with ⟨z1, i1⟩ | ⟨z1, f1, pv, i1⟩
              · left
                refine ⟨z1, ?_⟩
                simp [i1]
              · right
                refine ⟨z1, f1, pv, ?_⟩
                simp [i1]
          · right
            rw [if_pos (Or.inl (by rw [z0]; decide))]
            refine ⟨z0, rfl, pv, ?_⟩
            rw [i0]; rfl
        · by_cases h78 : a.kd = 7 ∨ a.kd = 8
          · right
            have e : eqT (n + 1) (m + 1) a b = (false, 10) := by simp [eqT, hk.symm, h78]
            rw [e]
            refine ⟨rfl, rfl, ?_⟩
            rcases vs_ty hx with ⟨ka, rfl⟩ | ⟨ka, ka', z, ex⟩
            · omega
            · rcases vs_ty hy with ⟨kb, rfl⟩ | ⟨kb, kb', z', ey⟩
              · omega
              · rw [ex, ey, ← hk]
                rcases h78 with h | h
                · rw [h]; exact q7 (d + 1) _ _ w
                · rw [h]; exact q8 (d + 1) _ _ w
          · left
            by_cases h3 : a.kd = 3
            · have e : eqT (n + 1) (m + 1) a b = (FloatKind.f64.format.order a.ut.toNat b.ut.toNat == some .eq, 0) := by
                have hb3 : b.kd = 3 := by omega
                simp [eqT, h3, hb3]
              rw [e]
              have e1 : x = .iface 108 (.float .f64 a.ut.toNat) := by simp only [VS, h3] at hx; simpa using hx
              have e2 : y = .iface 108 (.float .f64 b.ut.toNat) := by
                have hb3 : b.kd = 3 := by omega
                simp only [VS, hb3] at hy; simpa using hy
              rw [e1, e2]
              exact ⟨rfl, q3 (d + 1) _ _ w⟩
            · have e : eqT (n + 1) (m + 1) a b = (a.it == b.it && a.tx == b.tx, 0) := by
                simp only [eqT]
                rw [if_neg (by simp [hk]), if_neg h78, if_neg h3, if_neg h9]
              rw [e]
              refine ⟨rfl, ?_⟩
              show (Op.equalIn (d + 3) 20 x y).run Tryz.prog w = .ok (a.it == b.it && a.tx == b.tx) w
              have tt : a.kd ≠ 4 → a.kd ≠ 5 → a.kd ≠ 10 → (a.tx == b.tx) = true := fun h4 h5 h10 => by
                rw [tx_of (oa4 h4 h5 (by omega) h10) (ob4 (by omega) (by omega) (by omega) (by omega))]
                exact (ba_beq _ _).2 rfl
              have ii : a.kd ≠ 1 → a.kd ≠ 2 → a.kd ≠ 6 → a.kd ≠ 10 → a.kd ≠ 11 → (a.it == b.it) = true := fun h1 h2 h6 h10 h11 => by
                rw [oa3 h1 h2 h6 h10 h11, ob3 (by omega) (by omega) (by omega) (by omega) (by omega)]; rfl
              obtain h | h | h | h | h | h | h | h | h | h : a.kd = 0 ∨ a.kd = 1 ∨ a.kd = 2 ∨ a.kd = 4 ∨ a.kd = 5 ∨ a.kd = 6 ∨ a.kd = 10 ∨ a.kd = 11 ∨ a.kd = 12 ∨ a.kd = 13 := by omega
              all_goals have hb' : b.kd = _ := hk.symm.trans h
              all_goals simp only [VS, h] at hx
              all_goals simp only [VS, hb'] at hy
              · obtain rfl : x = .nilIface := by simpa using hx
                obtain rfl : y = .nilIface := by simpa using hy
                rw [tt (by omega) (by omega) (by omega), ii (by omega) (by omega) (by omega) (by omega) (by omega)]
                exact q0 (d + 1) w
              · obtain rfl : x = .iface 94 (.int .i64 a.it) := by simpa using hx
                obtain rfl : y = .iface 94 (.int .i64 b.it) := by simpa using hy
                rw [tt (by omega) (by omega) (by omega), Bool.and_true]
                exact q1 (d + 1) _ _ w
              · obtain rfl : x = .iface 107 (.int .i64 a.it) := by simpa using hx
                obtain rfl : y = .iface 107 (.int .i64 b.it) := by simpa using hy
                rw [tt (by omega) (by omega) (by omega), Bool.and_true]
                exact q2 (d + 1) _ _ w
              · obtain rfl : x = .iface 109 (.string a.tx) := by simpa using hx
                obtain rfl : y = .iface 109 (.string b.tx) := by simpa using hy
                rw [ii (by omega) (by omega) (by omega) (by omega) (by omega), Bool.true_and]
                exact q4 (d + 1) _ _ w
              · obtain rfl : x = .iface 110 (.string a.tx) := by simpa using hx
                obtain rfl : y = .iface 110 (.string b.tx) := by simpa using hy
                rw [ii (by omega) (by omega) (by omega) (by omega) (by omega), Bool.true_and]
                exact q5 (d + 1) _ _ w
              · obtain rfl : x = .iface 95 (.bool (a.it != 0)) := by simpa using hx
                obtain rfl : y = .iface 95 (.bool (b.it != 0)) := by simpa using hy
                rw [tt (by omega) (by omega) (by omega), Bool.and_true]
                have eb : (a.it == b.it) = ((a.it != 0) == (b.it != 0)) := by
                  rcases oa1 h with h1 | h1 <;> rcases ob1 hb' with h2 | h2 <;> rw [h1, h2] <;> rfl
                rw [eb]
                exact q6 (d + 1) _ _ w
              · obtain rfl : x = .iface 120 (.agg #[.int .i64 a.it, .string a.tx]) := by simpa using hx
                obtain rfl : y = .iface 120 (.agg #[.int .i64 b.it, .string b.tx]) := by simpa using hy
                exact q10 d _ _ _ _ w
              · obtain ⟨p, hp, rfl⟩ : ∃ p, (a.it, p) ∈ l ∧ x = .iface 121 (.pointer (some ⟨p, 0, none⟩)) := by simpa using hx
                obtain ⟨q, hq, rfl⟩ : ∃ p, (b.it, p) ∈ l ∧ y = .iface 121 (.pointer (some ⟨p, 0, none⟩)) := by simpa using hy
                rw [tt (by omega) (by omega) (by omega), Bool.and_true]
                exact qptr (d + 1) w l hb _ _ _ _ hp hq
              · obtain rfl : x = .iface 121 (.pointer none) := by simpa using hx
                obtain rfl : y = .iface 121 (.pointer none) := by simpa using hy
                rw [tt (by omega) (by omega) (by omega), ii (by omega) (by omega) (by omega) (by omega) (by omega)]
                exact q12 (d + 1) w
              · obtain rfl : x = .iface 124 (.agg #[]) := by simpa using hx
                obtain rfl : y = .iface 124 (.agg #[]) := by simpa using hy
                rw [tt (by omega) (by omega) (by omega), ii (by omega) (by omega) (by omega) (by omega) (by omega)]
                exact q13 d w
end Go.Proofs.YtgijdiplhcoojaaGreatDoor.Dt
