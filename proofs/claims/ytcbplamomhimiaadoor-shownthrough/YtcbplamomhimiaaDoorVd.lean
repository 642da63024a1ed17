/- A pattern of words: the count of its parts, its nesting as it is printed, and its text; plain functions; no program, no condition but those that each theorem names. -/
import Derived.Test.YtcbplamomhimiaaDoorVp
namespace Go.Proofs.YtcbplamomhimiaaDoor

/-- The words of kinds and of interfaces. -/
def kwd : List (List UInt8) := [[110, 105, 108], [105, 110, 116], [107, 101, 121], [102, 108, 111, 97, 116], [116, 101, 120, 116], [110, 97, 109, 101], [98, 111, 111, 108], [98, 121, 116, 101, 115], [108, 105, 115, 116], [112, 97, 105, 114], [101, 114, 114, 111, 114], [112, 111, 105, 110, 116, 101, 114], [110, 111, 112, 111, 105, 110, 116, 101, 114], [117, 110, 105, 116]]
def fwd : List (List UInt8) := [[115, 105, 122, 101, 100], [110, 97, 109, 101, 100], [102, 97, 105, 108, 105, 110, 103], [111, 112, 101, 110, 105, 110, 103], [111, 114, 100, 101, 114, 101, 100], [97, 100, 100, 105, 110, 103], [108, 97, 98, 101, 108, 108, 101, 100], [109, 101, 97, 115, 117, 114, 101, 100], [110, 117, 109, 98, 101, 114], [119, 104, 111, 108, 101]]
/-- Whether parentheses stand around an operand. -/
def prn (outer inner : Int) : Bool := if outer = 5 ∨ outer = 6 then decide (inner = 4 ∨ inner = 5) else decide (inner = 4)
def topW : (n : Nat) → Wt n → Int
  | 0, t => t.elim
  | _ + 1, t => t.op

/-- The document's count. -/
def ctL {T : Type} (f : T → Int → Int) : List T → Int → Int → Int
  | [], a, _ => a
  | t :: ts, a, l => if l < a + f t (l - a) then 16385 else ctL f ts (a + f t (l - a)) l
def ct : (n : Nat) → Wt n → Int → Int → Int
  | 0, t, _, _ => t.elim
  | n + 1, t, deep, left => if 68 < deep ∨ left ≤ 0 then 16385 else ctL (fun t l => ct n t (deep + 1) l) t.ks 1 left
theorem ctL_bd {T : Type} (f : T → Int → Int) (hf : ∀ t l, l ≤ 16384 → 1 ≤ f t l ∧ f t l ≤ 16385) : ∀ (ts : List T) (a l : Int), 1 ≤ a → a ≤ l → l ≤ 16384 → 1 ≤ ctL f ts a l ∧ ctL f ts a l ≤ 16385
  | [], a, l, h1, h2, h3 => by simp only [ctL]; omega
  | t :: ts, a, l, h1, h2, h3 => by
    have h := hf t (l - a) (by omega)
    simp only [ctL]
    split
    · omega
    · exact ctL_bd f hf ts _ l (by omega) (by omega) h3
theorem ct_bd : ∀ (n : Nat) (t : Wt n) (deep left : Int), left ≤ 16384 → 1 ≤ ct n t deep left ∧ ct n t deep left ≤ 16385
  | 0, t, _, _, _ => t.elim
  | n + 1, t, deep, left, h => by
    simp only [ct]
    split
    · omega
    · exact ctL_bd _ (fun t l hl => ct_bd n t (deep + 1) l hl) t.ks 1 left (by omega) (by omega) h

/-- How many parts there are. -/
def szL {T : Type} (f : T → Nat) : List T → Nat
  | [] => 0
  | t :: ts => f t + szL f ts
def sz : (n : Nat) → Wt n → Nat
  | 0, t => t.elim
  | n + 1, t => 1 + szL (fun t => sz n t) t.ks
theorem ctL_sz {T : Type} (f : T → Int → Int) (s : T → Nat) (hf : ∀ t l, l ≤ 16384 → f t l ≤ 16384 → f t l = s t) : ∀ (ts : List T) (a l : Int), 1 ≤ a → l ≤ 16384 → ctL f ts a l ≤ 16384 → ctL f ts a l = a + (szL s ts : Nat)
  | [], a, l, _, _, _ => by simp [ctL, szL]
  | t :: ts, a, l, h1, h2, h3 => by
    simp only [ctL] at h3 ⊢
    by_cases hq : l < a + f t (l - a)
    · rw [if_pos hq] at h3; omega
    · rw [if_neg hq] at h3 ⊢
      have e := hf t (l - a) (by omega) (by omega)
      rw [ctL_sz f s hf ts _ l (by omega) h2 h3, e]
      simp only [szL]; omega
theorem ct_sz : ∀ (n : Nat) (t : Wt n) (deep left : Int), left ≤ 16384 → ct n t deep left ≤ 16384 → ct n t deep left = (sz n t : Nat)
  | 0, t, _, _, _, _ => t.elim
  | n + 1, t, deep, left, h, h2 => by
    simp only [ct] at h2 ⊢
    by_cases hq : 68 < deep ∨ left ≤ 0
    · rw [if_pos hq] at h2; omega
    · rw [if_neg hq] at h2 ⊢
      rw [ctL_sz _ (fun t => sz n t) (fun t l hl h3 => ct_sz n t (deep + 1) l hl h3) t.ks 1 left (by omega) h h2]
      simp only [sz]; omega

/-- Its nesting. -/
def pt : (n : Nat) → Wt n → Int → Bool
  | 0, t, _ => t.elim
  | n + 1, t, d => if 32 < d then false else t.ok && t.ks.all fun t' => pt n t' (d + (if t.op = 6 then 1 else 0) + (if prn t.op (topW n t') = true then 1 else 0))
theorem pt_wgt : ∀ (n : Nat) (t : Wt n) (d : Int), pt n t d = true → wgt n t = true
  | 0, t, _, _ => t.elim
  | n + 1, t, d, h => by
    simp only [pt] at h
    split at h
    · cases h
    · rw [Bool.and_eq_true, List.all_eq_true] at h
      simp only [wgt, Bool.and_eq_true, List.all_eq_true]
      exact ⟨h.1, fun x hx => pt_wgt n x _ (h.2 x hx)⟩
def rgtW (n : Nat) (t : Wt n) : Bool := decide (ct n t 0 16384 ≤ 16384) && pt n t 0

/-- Its text. -/
def wtL {T : Type} (f : T → List UInt8) (o : Int) : List T → Nat → List UInt8 → List UInt8
  | [], _, s => s
  | t :: ts, i, s => wtL f o ts (i + 1) (if o = 6 then 33 :: f t else if i = 0 then f t else if o = 5 then s ++ [32, 38, 32] ++ f t else s ++ [32, 124, 32] ++ f t)
def wt1 (n : Nat) (g : Wt n → List UInt8) (o : Int) (t : Wt n) : List UInt8 := if prn o (topW n t) = true then 40 :: (g t ++ [41]) else g t
def wtx : (n : Nat) → Wt n → List UInt8
  | 0, t => t.elim
  | n + 1, t => if t.op = 1 then [97, 110, 121] else if t.op = 2 then kwd.getD t.nm.toNat [] else if t.op = 3 then fwd.getD t.nm.toNat [] else wtL (wt1 n (fun t => wtx n t) t.op) t.op t.ks 0 []
theorem wt1_len (n : Nat) (g : Wt n → List UInt8) (o : Int) (t : Wt n) : (wt1 n g o t).length ≤ (g t).length + 2 := by unfold wt1; split <;> simp
theorem wtL_len {T : Type} (f : T → List UInt8) (s : T → Nat) (o : Int) (hf : ∀ t, (f t).length + 3 ≤ 20 * s t) : ∀ (ts : List T) (i : Nat) (a : List UInt8), (wtL f o ts i a).length ≤ a.length + 20 * szL s ts
  | [], _, _ => by simp [wtL]
  | t :: ts, i, a => by
    have h := hf t
    have h2 := wtL_len f s o hf ts (i + 1) (if o = 6 then 33 :: f t else if i = 0 then f t else if o = 5 then a ++ [32, 38, 32] ++ f t else a ++ [32, 124, 32] ++ f t)
    simp only [wtL, szL]
    refine Nat.le_trans h2 ?_
    have h3 : (if o = 6 then 33 :: f t else if i = 0 then f t else if o = 5 then a ++ [32, 38, 32] ++ f t else a ++ [32, 124, 32] ++ f t).length ≤ a.length + (f t).length + 3 := by
      repeat' split
      all_goals (try simp only [List.length_append, List.length_cons, List.length_nil])
      all_goals omega
    omega
theorem getD_len (l : List (List UInt8)) (i b : Nat) (h : ∀ x ∈ l, x.length ≤ b) : (l.getD i []).length ≤ b := by
  unfold List.getD
  cases hq : l[i]? with
  | none => simp
  | some x => exact h x (List.mem_of_getElem? hq)
theorem wtx_len : ∀ (n : Nat) (t : Wt n), (wtx n t).length + 5 ≤ 20 * sz n t
  | 0, t => t.elim
  | n + 1, t => by
    simp only [wtx, sz]
    split
    · simp; omega
    · split
      · have := getD_len kwd t.nm.toNat 9 (by decide); omega
      · split
        · have := getD_len fwd t.nm.toNat 9 (by decide); omega
        · have := wtL_len (wt1 n (fun t => wtx n t) t.op) (fun t => sz n t) t.op (fun t' => by have := wt1_len n (fun t => wtx n t) t.op t'; have := wtx_len n t'; omega) t.ks 0 []
          simp at this; omega
end Go.Proofs.YtcbplamomhimiaaDoor
