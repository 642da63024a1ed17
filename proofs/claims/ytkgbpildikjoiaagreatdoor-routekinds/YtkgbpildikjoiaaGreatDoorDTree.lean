/- Plain trees of a value's parts, and four plain functions on them: the document's count and its look at each part, the package's one walk that counts down, and the package's parts and depth: they say the same. No program, no condition but those that each theorem names. -/


namespace Go.Proofs.YtkgbpildikjoiaaGreatDoor.Dt

/-- Values of depth n at most. -/
def Tr : Nat → Type
  | 0 => Empty
  | n + 1 => Int × Int × Int × ByteArray × List (Tr n)

def Tr.kd {n : Nat} (t : Tr (n + 1)) : Int := (show Int × Int × Int × ByteArray × List (Tr n) from t).1
def Tr.it {n : Nat} (t : Tr (n + 1)) : Int := (show Int × Int × Int × ByteArray × List (Tr n) from t).2.1
def Tr.ut {n : Nat} (t : Tr (n + 1)) : Int := (show Int × Int × Int × ByteArray × List (Tr n) from t).2.2.1
def Tr.tx {n : Nat} (t : Tr (n + 1)) : ByteArray := (show Int × Int × Int × ByteArray × List (Tr n) from t).2.2.2.1
def Tr.ks {n : Nat} (t : Tr (n + 1)) : List (Tr n) := (show Int × Int × Int × ByteArray × List (Tr n) from t).2.2.2.2

/-- One part by itself, as the document's table has it. -/
def okB (k i u : Int) (sz len : Nat) : Bool :=
  if k = 0 ∨ k = 12 ∨ k = 13 then decide (i = 0 ∧ u = 0 ∧ sz = 0 ∧ len = 0)
  else if k = 1 ∨ k = 2 then decide (u = 0 ∧ sz = 0 ∧ len = 0)
  else if k = 6 then decide ((i = 0 ∨ i = 1) ∧ u = 0 ∧ sz = 0 ∧ len = 0)
  else if k = 3 then decide (i = 0 ∧ sz = 0 ∧ len = 0)
  else if k = 4 ∨ k = 5 ∨ k = 7 then decide (i = 0 ∧ u = 0 ∧ len = 0 ∧ sz ≤ 65535)
  else if k = 8 then decide (i = 0 ∧ u = 0 ∧ sz = 0)
  else if k = 9 then decide (i = 0 ∧ u = 0 ∧ sz = 0 ∧ len = 2)
  else if k = 10 then decide (u = 0 ∧ len = 0 ∧ sz ≤ 65535)
  else if k = 11 then decide (1 ≤ i ∧ u = 0 ∧ sz = 0 ∧ len = 1)
  else false
def Tr.ok {n : Nat} (t : Tr (n + 1)) : Bool := okB t.kd t.it t.ut t.tx.size t.ks.length

/-- The document's look at each part. -/
def rgt : (n : Nat) → Tr n → Bool
  | 0, t => t.elim
  | n + 1, t => t.ok && t.ks.all (rgt n)

/-- The document's count over a row of parts. -/
def cntL {T : Type} (c : T → Int → Int × Int) (left : Int) : List T → Int → Int → Int × Int
  | [], m, most => (m, most)
  | t :: ts, m, most => if left < m + (c t (left - m)).1 ∨ 16 < max most (c t (left - m)).2 then (4097, max most (c t (left - m)).2) else cntL c left ts (m + (c t (left - m)).1) (max most (c t (left - m)).2)
def cnt : Nat → (n : Nat) → Tr n → Int → Int → Int × Int
  | 0, _, _, deep, _ => (4097, deep)
  | _ + 1, 0, t, _, _ => t.elim
  | f + 1, n + 1, t, deep, left => if left ≤ 0 then (4097, deep) else cntL (fun t l => cnt f n t (deep + 1) l) left t.ks 1 deep

/-- The package's walk that counts down. -/
def vwL {T : Type} (c : T → Int → Bool × Int) : List T → Int → Bool × Int
  | [], l => (true, l)
  | t :: ts, l => if (c t l).1 = true then vwL c ts (c t l).2 else (false, (c t l).2)
def vw : Nat → (n : Nat) → Tr n → Int → Bool × Int
  | 0, _, _, left => (false, left)
  | _ + 1, 0, t, _ => t.elim
  | f + 1, n + 1, t, left => if left = 0 ∨ t.ok = false then (false, left) else vwL (fun t l => vw f n t l) t.ks (left - 1)

/-- The package's parts and depth. -/
def ptsL {T : Type} (c : T → Int × Int) : List T → Int → Int → Int × Int
  | [], p, d => (p, d + 1)
  | t :: ts, p, d => ptsL c ts (p + (c t).1) (max d (c t).2)
def pts : (n : Nat) → Tr n → Int × Int
  | 0, t => t.elim
  | n + 1, t => ptsL (pts n) t.ks 1 0

/-- What the four say of one value, at one depth and with so many left. -/
structure Say (c : Int × Int) (v : Bool × Int) (r : Bool) (p : Int × Int) (deep left : Int) : Prop where
  down : v.1 = true → r = true ∧ c.1 ≠ 4097 ∧ v.2 = left - c.1
  up : c.1 ≠ 4097 → r = true → v.1 = true
  fit : c.1 ≠ 4097 → p = (c.1, c.2 - deep + 1) ∧ 1 ≤ c.1 ∧ c.1 ≤ left ∧ c.2 ≤ 16 ∧ deep ≤ c.2

theorem say_row {T : Type} (c : T → Int → Int × Int) (v : T → Int → Bool × Int) (r : T → Bool) (p : T → Int × Int) (deep left : Int) (hl : left ≤ 4096)
    (ih : ∀ t l, 0 ≤ l → l ≤ 4096 → Say (c t l) (v t l) (r t) (p t) (deep + 1) l) :
    ∀ (ts : List T) (m most : Int), 1 ≤ m → m ≤ left → deep ≤ most → most ≤ 16 →
      Say (cntL c left ts m most) (vwL v ts (left - m)) (ts.all r) (ptsL p ts m (most - deep)) deep left := by
  intro ts
  induction ts with
  | nil =>
    intro m most h1 h2 h3 h4
    refine ⟨fun _ => ⟨rfl, by simp [cntL]; omega, by simp [vwL, cntL]⟩, fun _ _ => rfl, fun _ => ⟨by simp [ptsL, cntL], by simp [cntL]; omega, by simp [cntL]; omega, by simp [cntL]; omega, by simp [cntL]; omega⟩⟩
  | cons t ts IH =>
    intro m most h1 h2 h3 h4
    have S := ih t (left - m) (by omega) (by omega)
    simp only [cntL, vwL, ptsL, List.all_cons]
    generalize c t (left - m) = C at S
    generalize v t (left - m) = V at S
    generalize p t = Q at S
    by_cases hC : C.1 = 4097
    · have hbad : left < m + C.1 ∨ 16 < max most C.2 := by omega
      rw [if_pos hbad]
      have hV : ¬ V.1 = true := fun h => (S.down h).2.1 hC
      rw [if_neg hV]
      exact ⟨fun h => by simp at h, fun h => absurd rfl h, fun h => absurd rfl h⟩
    · obtain ⟨f1, f2, f3, f4, f5⟩ := S.fit hC
      have hgood : ¬ (left < m + C.1 ∨ 16 < max most C.2) := by omega
      rw [if_neg hgood]
      have hQ : max (most - deep) Q.2 = max most C.2 - deep := by rw [f1]; omega
      have hQ1 : m + Q.1 = m + C.1 := by rw [f1]
      rw [hQ, hQ1]
      have N := IH (m + C.1) (max most C.2) (by omega) (by omega) (by omega) (by omega)
      by_cases hV : V.1 = true
      · obtain ⟨d1, d2, d3⟩ := S.down hV
        rw [if_pos hV, d3, d1, Bool.true_and]
        rw [show left - m - C.1 = left - (m + C.1) from by omega]
        exact N
      · rw [if_neg hV]
        have hr : r t = false := by
          cases e : r t with
          | false => rfl
          | true => exact absurd (S.up hC e) hV
        rw [hr]
        exact ⟨fun h => by simp at h, fun _ h => by simp at h, N.fit⟩

theorem say : ∀ (f n : Nat) (t : Tr n) (deep left : Int), deep + f = 17 → 0 ≤ left → left ≤ 4096 →
    Say (cnt f n t deep left) (vw f n t left) (rgt n t) (pts n t) deep left := by
  intro f
  induction f with
  | zero => intro n t deep left _ _ _; exact ⟨fun h => by simp [vw] at h, fun h => absurd rfl h, fun h => absurd rfl h⟩
  | succ f ih =>
    intro n t deep left hd h0 hl
    match n, t with
    | 0, t => exact t.elim
    | n + 1, t =>
      simp only [cnt, vw, rgt, pts]
      by_cases hz : left ≤ 0
      · have hz' : left = 0 := by omega
        rw [if_pos hz, if_pos (Or.inl hz')]
        exact ⟨fun h => by simp at h, fun h => absurd rfl h, fun h => absurd rfl h⟩
      · rw [if_neg hz]
        have R := say_row (fun t l => cnt f n t (deep + 1) l) (fun t l => vw f n t l) (rgt n) (pts n) deep left hl (fun t l h1 h2 => ih n t (deep + 1) l (by omega) h1 h2) t.ks 1 deep (by omega) (by omega) (Int.le_refl _) (by omega)
        rw [show deep - deep = 0 from by omega] at R
        cases ho : t.ok with
        | true =>
          rw [if_neg (by simp; omega), Bool.true_and]
          exact R
        | false =>
          rw [if_pos (Or.inr rfl), Bool.false_and]
          exact ⟨fun h => by simp at h, fun _ h => by simp at h, R.fit⟩

theorem cntL_bd {T : Type} (c : T → Int → Int × Int) (deep left : Int) (hl : left ≤ 4096) (ih : ∀ t l, l ≤ 4096 → 1 ≤ (c t l).1 ∧ (c t l).1 ≤ 4097 ∧ deep + 1 ≤ (c t l).2 ∧ (c t l).2 ≤ 17) :
    ∀ (ts : List T) (m most : Int), 1 ≤ m → m ≤ 4096 → deep ≤ most → most ≤ 17 → 1 ≤ (cntL c left ts m most).1 ∧ (cntL c left ts m most).1 ≤ 4097 ∧ deep ≤ (cntL c left ts m most).2 ∧ (cntL c left ts m most).2 ≤ 17 := by
  intro ts
  induction ts with
  | nil => intro m most h1 h2 h3 h4; simp only [cntL]; omega
  | cons t ts IH =>
    intro m most h1 h2 h3 h4
    have S := ih t (left - m) (by omega)
    simp only [cntL]
    generalize c t (left - m) = C at S
    by_cases hb : left < m + C.1 ∨ 16 < max most C.2
    · rw [if_pos hb]; show 1 ≤ (4097 : Int) ∧ (4097 : Int) ≤ 4097 ∧ deep ≤ max most C.2 ∧ max most C.2 ≤ 17; omega
    · rw [if_neg hb]; exact IH _ _ (by omega) (by omega) (by omega) (by omega)

theorem cnt_bd : ∀ (f n : Nat) (t : Tr n) (deep left : Int), deep + f = 17 → left ≤ 4096 → 1 ≤ (cnt f n t deep left).1 ∧ (cnt f n t deep left).1 ≤ 4097 ∧ deep ≤ (cnt f n t deep left).2 ∧ (cnt f n t deep left).2 ≤ 17 := by
  intro f
  induction f with
  | zero => intro n t deep left hd hl; simp only [cnt]; omega
  | succ f ih =>
    intro n t deep left hd hl
    match n, t with
    | 0, t => exact t.elim
    | n + 1, t =>
      simp only [cnt]
      by_cases hz : left ≤ 0
      · rw [if_pos hz]; show 1 ≤ (4097 : Int) ∧ (4097 : Int) ≤ 4097 ∧ deep ≤ deep ∧ deep ≤ 17; omega
      · rw [if_neg hz]; exact cntL_bd _ deep left hl (fun t l h => ih n t (deep + 1) l (by omega) h) _ 1 deep (by omega) (by omega) (Int.le_refl _) (by omega)

theorem cntL_cons {T : Type} (c : T → Int → Int × Int) (left : Int) (t : T) (ts : List T) (m most : Int) :
    cntL c left (t :: ts) m most = if left < m + (c t (left - m)).1 ∨ 16 < max most (c t (left - m)).2 then (4097, max most (c t (left - m)).2) else cntL c left ts (m + (c t (left - m)).1) (max most (c t (left - m)).2) := rfl
theorem drop_at {T : Type} (l : List T) (j : Nat) (h : j < l.length) : l.drop j = l[j] :: l.drop (j + 1) := List.drop_eq_getElem_cons h
end Go.Proofs.YtkgbpildikjoiaaGreatDoor.Dt
