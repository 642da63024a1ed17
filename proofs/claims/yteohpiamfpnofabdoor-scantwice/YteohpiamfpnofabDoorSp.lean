/- The plain theory of scanning: lists of bytes alone; no run of the model in this text. -/
import Derived.Lib.ParseIntB
import Derived.Lib.Strings
namespace Go.Proofs.YteohpiamfpnofabDoor
abbrev Bs := List UInt8

def dig (b : UInt8) : Bool := decide (48 ≤ b.toNat ∧ b.toNat ≤ 57)
def ltr (b : UInt8) : Bool := decide ((97 ≤ b.toNat ∧ b.toNat ≤ 122) ∨ (65 ≤ b.toNat ∧ b.toNat ≤ 90) ∨ b.toNat = 95)
def blk (b : UInt8) : Bool := decide (b.toNat = 32 ∨ b.toNat = 9 ∨ b.toNat = 13 ∨ b.toNat = 10)
def wch (b : UInt8) : Bool := dig b || ltr b
/-- A byte's class. -/
def cls (b : UInt8) : Nat := if dig b then 3 else if ltr b then 2 else if blk b then 4 else 0
/-- A hexadecimal digit's number; 16: it is none. -/
def hx (b : UInt8) : Nat := if 48 ≤ b.toNat ∧ b.toNat ≤ 57 then b.toNat - 48 else if 97 ≤ b.toNat ∧ b.toNat ≤ 102 then b.toNat - 87 else if 65 ≤ b.toNat ∧ b.toNat ≤ 70 then b.toNat - 55 else 16

/-- Words and marks at their kinds. -/
def spl : List Bs := [[], [], [], [], [97, 102, 116, 101, 114], [99, 97, 112, 115], [100, 114, 111, 112], [101, 108, 115, 101], [104, 97, 110, 100, 108, 101, 114], [105, 110, 98, 111, 120], [111, 102], [111, 112, 101, 110], [114, 111, 117, 116, 101], [119, 104, 101, 110], [119, 105, 116, 104], [33], [38], [40], [41], [44], [45], [45, 62], [58], [59], [61], [124]]
def sp (k : Nat) : Bs := spl.getD k []
def kdF : List Bs → Nat → Bs → Nat
  | [], _, _ => 0
  | x :: r, k, s => if x = s then k else kdF r (k + 1) s
def kd (s : Bs) : Nat := kdF (spl.drop 4) 4 s

/-- Up to the end of a line. -/
def lineN (r : Bs) : Nat := (r.takeWhile fun b => decide (b.toNat ≠ 10)).length
/-- Past the end of a comment. -/
def cEnd : Bs → Option Nat
  | [] => none
  | a :: t => if a.toNat = 42 ∧ t.head? = some 47 then some 2 else (cEnd t).map (· + 1)
/-- How many bytes a blank or a comment has that stands ahead; none: it does not end. -/
def skip : Bs → Option Nat
  | [] => some 0
  | b :: t => if blk b then some 1 else if b.toNat = 35 then some (lineN (b :: t)) else if b.toNat = 47 ∧ t.head? = some 42 then (cEnd t.tail).map (· + 2) else some 0

/-- What a text says whose first quote is passed, and its length from there. -/
def txt : Bs → Option (Bs × Nat)
  | [] => none
  | c :: t =>
    if c.toNat < 32 ∨ 126 < c.toNat then none
    else if c.toNat = 34 then some ([], 1)
    else if c.toNat ≠ 92 then (txt t).map fun p => (c :: p.1, p.2 + 1)
    else match t with
      | [] => none
      | x :: t' =>
        if x.toNat = 34 ∨ x.toNat = 92 then (txt t').map fun p => (x :: p.1, p.2 + 2)
        else match t' with
          | h :: l :: t'' => if x.toNat = 120 ∧ hx h < 16 ∧ hx l < 16 then (txt t'').map fun p => (UInt8.ofNat (16 * hx h + hx l) :: p.1, p.2 + 4) else none
          | _ => none

/-- The longest mark that stands ahead, among those from a kind on. -/
def mkF (r : Bs) : Nat → Nat → Nat → Nat
  | 0, _, best => best
  | n + 1, k, best => mkF r n (k + 1) (if (sp best).length < (sp k).length ∧ Lib.hasPrefix r (sp k) = true then k else best)
def mk (r : Bs) : Nat := mkF r 11 15 0

/-- A token that stands ahead: its kind, length, number, text; or the number of what is wrong. -/
abbrev One := Sum Nat (Nat × Nat × Nat × Bs)

def numO (d : Bs) : One := match Lib.parseUintB 64 d with
  | .ok u => .inr (2, d.length, u, [])
  | _ => .inl 64
def numT (d : Bs) : One := if d.head? = some 48 ∧ 1 < d.length then .inl 64 else numO d
def wrdT (d : Bs) : One := if 32 < d.length then .inl 63 else .inr ((if kd d = 0 then 1 else kd d), d.length, 0, [])
def txtT (t : Bs) : One := match txt t with
  | none => .inl 65
  | some p => .inr (3, (p.2 + 1), 0, p.1)
def mrkT (r : Bs) : One := if mk r = 0 then .inl 61 else .inr ((mk r), (sp (mk r)).length, 0, [])

/-- The token that stands ahead. -/
def one : Bs → One
  | [] => .inl 61
  | b :: t => if dig b then numT ((b :: t).takeWhile dig) else if ltr b then wrdT ((b :: t).takeWhile wch) else if b.toNat = 34 then txtT t else mrkT (b :: t)

structure Tok where
  kind : Nat
  pos : Nat
  fin : Nat
  num : Nat
  text : Bs

/-- The tokens; or the place and the number of what is wrong. -/
abbrev Res := Sum (Nat × Nat) (List Tok)

def ansF : Nat → Bs → Nat → List Tok → Res
  | 0, _, _, acc => .inr acc
  | f + 1, r, at', acc =>
    if r = [] then .inr acc else
    match skip r with
    | none => .inl (at', 62)
    | some (k + 1) => ansF f (r.drop (k + 1)) (at' + (k + 1)) acc
    | some 0 => match one r with
      | .inl e => .inl (at', (if acc.length = 16384 ∧ e ≠ 61 then 66 else e))
      | .inr (k, n, v, s) => if acc.length = 16384 then .inl (at', 66) else ansF f (r.drop n) (at' + n) (acc ++ [⟨k, at', at' + n, v, s⟩])
def ans (r : Bs) (p : Nat) (acc : List Tok) : Res := ansF r.length r p acc
def scan (l : Bs) : Res := if 65536 < l.length then .inl (0, 60) else ans l 0 []

theorem lineN_le (r : Bs) : lineN r ≤ r.length := by
  unfold lineN
  exact (List.takeWhile_sublist _).length_le
theorem tw_le (p : UInt8 → Bool) (r : Bs) : (r.takeWhile p).length ≤ r.length := (List.takeWhile_sublist _).length_le

theorem cEnd_le : ∀ (r : Bs) k, cEnd r = some k → 2 ≤ k ∧ k ≤ r.length
  | [], _, h => by simp [cEnd] at h
  | a :: t, k, h => by
    unfold cEnd at h
    split at h
    · rename_i hc
      obtain rfl : 2 = k := by simpa using h
      cases t with
      | nil => simp at hc
      | cons b u => simp
    · cases e : cEnd t with
      | none => simp [e] at h
      | some m =>
        obtain rfl : m + 1 = k := by simpa [e] using h
        have := cEnd_le t m e
        simp; omega

theorem skip_le (r : Bs) (k : Nat) (h : skip r = some k) : k ≤ r.length := by
  cases r with
  | nil => simp [skip] at h; omega
  | cons b t =>
    simp only [skip] at h
    split at h
    · simp at h; subst h; simp
    · split at h
      · simp at h; subst h; exact lineN_le _
      · split at h
        · cases e : cEnd t.tail with
          | none => simp [e] at h
          | some m =>
            obtain rfl : m + 2 = k := by simpa [e] using h
            have := cEnd_le _ _ e
            cases t <;> simp_all <;> omega
        · simp at h; subst h; simp

theorem txt_len : ∀ (n : Nat) (r : Bs), r.length ≤ n → ∀ p, txt r = some p → 0 < p.2 ∧ p.2 ≤ r.length := by
  intro n
  induction n with
  | zero => intro r hr p h; cases r with
    | nil => simp [txt] at h
    | cons => simp at hr
  | succ n ih =>
    intro r hr p h
    cases r with
    | nil => simp [txt] at h
    | cons c t =>
      rw [txt.eq_def] at h
      simp only at h
      split at h
      · cases h
      split at h
      · simp at h; subst h; simp
      split at h
      · cases e : txt t with
        | none => simp [e] at h
        | some q =>
          rw [e] at h; simp at h; subst h
          have := ih t (by simp at hr; omega) q e
          simp; omega
      · cases t with
        | nil => simp at h
        | cons x t' =>
          simp only at h
          split at h
          · cases e : txt t' with
            | none => simp [e] at h
            | some q =>
              rw [e] at h; simp at h; subst h
              have := ih t' (by simp at hr; omega) q e
              simp; omega
          · match t', h with
            | [], h => simp at h
            | [_], h => simp at h
            | h1 :: h2 :: t'', h =>
              simp only at h
              split at h
              · cases e : txt t'' with
                | none => simp [e] at h
                | some q =>
                  rw [e] at h; simp at h; subst h
                  have := ih t'' (by simp at hr; omega) q e
                  simp; omega
              · cases h

theorem mkF_or (r : Bs) : ∀ (n k best : Nat), mkF r n k best = best ∨ (k ≤ mkF r n k best ∧ mkF r n k best < k + n ∧ Lib.hasPrefix r (sp (mkF r n k best)) = true)
  | 0, _, _ => Or.inl rfl
  | n + 1, k, best => by
    unfold mkF
    split
    · rename_i h
      rcases mkF_or r n (k + 1) k with e | ⟨h1, h2, h3⟩
      · rw [e]; exact Or.inr ⟨Nat.le_refl _, by omega, h.2⟩
      · exact Or.inr ⟨by omega, by omega, h3⟩
    · rcases mkF_or r n (k + 1) best with e | ⟨h1, h2, h3⟩
      · exact Or.inl e
      · exact Or.inr ⟨by omega, by omega, h3⟩

theorem sp_pos (k : Nat) (h : 4 ≤ k) (h2 : k < 26) : 0 < (sp k).length ∧ (sp k).length ≤ 7 := by
  have : ∀ k : Fin 26, 4 ≤ k.val → 0 < (sp k.val).length ∧ (sp k.val).length ≤ 7 := by decide
  exact this ⟨k, h2⟩ h

theorem pre_le {r s : Bs} (h : Lib.hasPrefix r s = true) : s.length ≤ r.length := by
  unfold Lib.hasPrefix at h
  exact (List.isPrefixOf_iff_prefix.1 h).length_le

theorem one_len (r : Bs) (k n v : Nat) (s : Bs) (h : one r = .inr (k, n, v, s)) : 0 < n ∧ n ≤ r.length := by
  cases r with
  | nil => simp [one] at h
  | cons b t =>
    simp only [one] at h
    split at h
    · rename_i hd
      unfold numT numO at h
      have h1 : ((b :: t).takeWhile dig).length ≤ (b :: t).length := tw_le _ _
      have h2 : 0 < ((b :: t).takeWhile dig).length := by simp [List.takeWhile, hd]
      generalize (b :: t).takeWhile dig = d at h h1 h2
      split at h
      · cases h
      · split at h
        · cases h; exact ⟨h2, h1⟩
        · cases h
    · split at h
      · rename_i hd
        unfold wrdT at h
        have h1 : ((b :: t).takeWhile wch).length ≤ (b :: t).length := tw_le _ _
        have h2 : 0 < ((b :: t).takeWhile wch).length := by simp [List.takeWhile, wch, hd]
        generalize (b :: t).takeWhile wch = d at h h1 h2
        split at h
        · cases h
        · cases h; exact ⟨h2, h1⟩
      · split at h
        · unfold txtT at h
          cases e : txt t with
          | none => rw [e] at h; cases h
          | some p =>
            rw [e] at h; cases h
            have := txt_len t.length t (Nat.le_refl _) p e
            simp; omega
        · unfold mrkT at h
          split at h
          · cases h
          · rename_i hk
            have hm := mkF_or (b :: t) 11 15 0
            unfold mk at h hk
            generalize mkF (b :: t) 11 15 0 = m at h hk hm
            simp only [Sum.inr.injEq, Prod.mk.injEq] at h
            obtain ⟨_, hn, _⟩ := h
            rw [← hn]
            rcases hm with e | ⟨h1, h2, h3⟩
            · exact absurd e hk
            · exact ⟨(sp_pos m (by omega) (by omega)).1, pre_le h3⟩

theorem ansF_stable : ∀ (f g : Nat) (r : Bs) (p : Nat) (acc : List Tok), r.length ≤ f → r.length ≤ g → ansF f r p acc = ansF g r p acc
  | 0, 0, _, _, _, _, _ => rfl
  | 0, g + 1, r, p, acc, h, _ => by
    obtain rfl : r = [] := List.length_eq_zero_iff.1 (by omega)
    simp [ansF]
  | f + 1, 0, r, p, acc, _, h => by
    obtain rfl : r = [] := List.length_eq_zero_iff.1 (by omega)
    simp [ansF]
  | f + 1, g + 1, r, p, acc, hf, hg => by
    unfold ansF
    by_cases hr : r = []
    · rw [if_pos hr, if_pos hr]
    · rw [if_neg hr, if_neg hr]
      cases e : skip r with
      | none => rfl
      | some k =>
        cases k with
        | zero =>
          simp only
          cases e1 : one r with
          | inl x => rfl
          | inr qq4 =>
            obtain ⟨k, n, v, s⟩ := qq4
            simp only
            have hn := one_len _ _ _ _ _ e1
            rw [ansF_stable f g (r.drop n) (p + n) _ (by simp; omega) (by simp; omega)]
        | succ k =>
          simp only
          have hk := skip_le _ _ e
          exact ansF_stable f g (r.drop (k + 1)) _ _ (by simp; omega) (by simp; omega)

theorem ans_nil (p : Nat) (acc : List Tok) : ans [] p acc = .inr acc := rfl
theorem ans_step (r : Bs) (p : Nat) (acc : List Tok) (hr : r ≠ []) : ans r p acc = (match skip r with
    | none => .inl (p, 62)
    | some (k + 1) => ans (r.drop (k + 1)) (p + (k + 1)) acc
    | some 0 => match one r with
      | .inl e => .inl (p, (if acc.length = 16384 ∧ e ≠ 61 then 66 else e))
      | .inr (k, n, v, s) => if acc.length = 16384 then .inl (p, 66) else ans (r.drop n) (p + n) (acc ++ [⟨k, p, p + n, v, s⟩])) := by
  obtain ⟨f, hf⟩ : ∃ f, r.length = f + 1 := ⟨r.length - 1, by have := List.length_pos_iff.2 hr; omega⟩
  unfold ans
  rw [hf, ansF, if_neg hr]
  cases e : skip r with
  | none => rfl
  | some k =>
    cases k with
    | zero =>
      simp only
      cases e1 : one r with
      | inl x => rfl
      | inr qq4 =>
        obtain ⟨k, n, v, s⟩ := qq4
        simp only
        have hn := one_len _ _ _ _ _ e1
        rw [ansF_stable f _ (r.drop n) (p + n) _ (by simp; omega) (Nat.le_refl _)]
    | succ k =>
      simp only
      have hk := skip_le _ _ e
      exact ansF_stable f _ (r.drop (k + 1)) _ _ (by simp; omega) (Nat.le_refl _)
theorem ans_skip {r : Bs} {k : Nat} (h : skip r = some (k + 1)) (p : Nat) (acc : List Tok) : ans r p acc = ans (r.drop (k + 1)) (p + (k + 1)) acc := by
  have hr : r ≠ [] := by intro e; subst e; simp [skip] at h
  rw [ans_step r p acc hr, h]
theorem ans_gap {r : Bs} (h : skip r = none) (p : Nat) (acc : List Tok) : ans r p acc = .inl (p, 62) := by
  have hr : r ≠ [] := by intro e; subst e; simp [skip] at h
  rw [ans_step r p acc hr, h]
theorem ans_bad {r : Bs} {e : Nat} (hr : r ≠ []) (h : skip r = some 0) (h1 : one r = .inl e) (p : Nat) (acc : List Tok) : ans r p acc = .inl (p, (if acc.length = 16384 ∧ e ≠ 61 then 66 else e)) := by
  rw [ans_step r p acc hr, h]; simp only; rw [h1]
theorem ans_tok {r : Bs} {k n v : Nat} {s : Bs} (h : skip r = some 0) (h1 : one r = .inr (k, n, v, s)) (p : Nat) (acc : List Tok) : ans r p acc = if acc.length = 16384 then .inl (p, 66) else ans (r.drop n) (p + n) (acc ++ [⟨k, p, p + n, v, s⟩]) := by
  have hr : r ≠ [] := by intro e; subst e; simp [one] at h1
  rw [ans_step r p acc hr, h]; simp only; rw [h1]

/-- What Quote writes. -/
def hxd (n : Nat) : UInt8 := if n < 10 then UInt8.ofNat (48 + n) else UInt8.ofNat (87 + n)
def qb (b : UInt8) : Bs := if b.toNat = 34 ∨ b.toNat = 92 then [92, b] else if b.toNat < 32 ∨ 126 < b.toNat then [92, 120, hxd (b.toNat / 16), hxd (b.toNat % 16)] else [b]
def qt (l : Bs) : Bs := 34 :: (l.flatMap qb ++ [34])
end Go.Proofs.YteohpiamfpnofabDoor
