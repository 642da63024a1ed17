/- Routes: what agrees, what is found, and how a row of routes lies in memory; no condition. -/
import Derived.Test.YtkgbpildikjoiaaGreatDoorFit
import Derived.Test.YtkgbpildikjoiaaGreatDoorRe
namespace Go.Proofs.YtkgbpildikjoiaaGreatDoor
open Go.RowKit Tp

/-- A route. -/
structure Ro where
  f : ByteArray
  n : Nat
  t : Wt n
  o : Int
  a : Int
  wd : Option Addr
  wl : Nat
  wc : Nat
  h : Int
  e : Bool

abbrev Ro.wv (x : Ro) : List Value := [.int .i64 x.o, .int .i64 x.a, .slice x.wd x.wl x.wc]
abbrev Ro.ca (x : Ro) : Value := .agg #[.string x.f, .int .i64 x.o, .int .i64 x.a, .slice x.wd x.wl x.wc, .int .i64 x.h, .bool x.e]
/-- A route without a pattern. -/
def Ro.z (x : Ro) : Bool := x.o == 0 && x.a == 0 && x.wl == 0
def Ro.ok (x : Ro) : Bool := isFilter (tl x.f) && decide (0 ≤ x.h) && (x.z || fitW x.n x.t)
/-- Its pattern lets bodies of a kind through. -/
def Ro.ty (x : Ro) (k : Int) : Bool := x.z || evk x.n x.t k
def Ro.tp (x : Ro) (tp : Bs) : Bool := matches' (tl x.f) tp
def Ro.ag (x : Ro) (tp : Bs) (k : Int) : Bool := x.tp tp && x.ty k

/-- The six cells of a route. -/
def C6 (w : World) (b o : Nat) (x : Ro) : Prop := w.cell? ⟨b, o, none⟩ = some (.string x.f) ∧ w.cell? ⟨b, o + 1, none⟩ = some (.int .i64 x.o) ∧ w.cell? ⟨b, o + 2, none⟩ = some (.int .i64 x.a) ∧ w.cell? ⟨b, o + 3, none⟩ = some (.slice x.wd x.wl x.wc) ∧ w.cell? ⟨b, o + 4, none⟩ = some (.int .i64 x.h) ∧ w.cell? ⟨b, o + 5, none⟩ = some (.bool x.e)
/-- A row of routes, from the cell o of the block b on. -/
def Rr (w : World) (b o : Nat) (L : List Ro) : Prop := ∀ (j : Nat) x, L[j]? = some x → C6 w b (o + j * 6) x ∧ RepW w x.n x.wv x.t ∧ x.f.size ≤ maxLen
theorem C6.lt {w : World} {b o : Nat} {x : Ro} (h : C6 w b o x) : b < w.heap.size := World.block_lt_of_cell? w _ h.1
theorem C6.below {w w' : World} {b o : Nat} {x : Ro} (h : C6 w b o x) (hb : Below w.heap.size w w') : C6 w' b o x := by
  have hl := h.lt
  obtain ⟨h0, h1, h2, h3, h4, h5⟩ := h
  exact ⟨(hb.cell (p := ⟨b, _, none⟩) hl).trans h0, (hb.cell (p := ⟨b, _, none⟩) hl).trans h1, (hb.cell (p := ⟨b, _, none⟩) hl).trans h2, (hb.cell (p := ⟨b, _, none⟩) hl).trans h3, (hb.cell (p := ⟨b, _, none⟩) hl).trans h4, (hb.cell (p := ⟨b, _, none⟩) hl).trans h5⟩
/-- A slice of routes. -/
def Rs (w : World) (ad : Option Addr) (L : List Ro) : Prop := L = [] ∨ ∃ b o, ad = some ⟨b, o, none⟩ ∧ Rr w b o L
theorem Rr.below {w w' : World} {b o : Nat} {L : List Ro} (h : Rr w b o L) (hb : Below w.heap.size w w') : Rr w' b o L := fun j x hj => by
  obtain ⟨c, r, s⟩ := h j x hj
  exact ⟨c.below hb, RepW.below hb _ _ _ r, s⟩
theorem Rs.below {w w' : World} {ad : Option Addr} {L : List Ro} (h : Rs w ad L) (hb : Below w.heap.size w w') : Rs w' ad L := by
  rcases h with h | ⟨b, o, e, h⟩
  · exact .inl h
  · exact .inr ⟨b, o, e, h.below hb⟩
theorem Rs.at {w : World} {ad : Option Addr} {L : List Ro} (h : Rs w ad L) (j : Nat) (x : Ro) (hj : L[j]? = some x) : ∃ b o, ad = some ⟨b, o, none⟩ ∧ C6 w b (o + j * 6) x ∧ RepW w x.n x.wv x.t ∧ x.f.size ≤ maxLen := by
  rcases h with h | ⟨b, o, e, h⟩
  · subst h; simp at hj
  · exact ⟨b, o, e, h j x hj⟩

/-- The places of those of a row for which p holds, the first one being i. -/
def fnd (p : Ro → Bool) : Nat → List Ro → List Nat
  | _, [] => []
  | i, x :: r => if p x then i :: fnd p (i + 1) r else fnd p (i + 1) r
theorem fnd_app (p : Ro → Bool) : ∀ (l m : List Ro) (i : Nat), fnd p i (l ++ m) = fnd p i l ++ fnd p (i + l.length) m
  | [], m, i => by simp [fnd]
  | x :: r, m, i => by
    simp only [List.cons_append, fnd, fnd_app p r m (i + 1), List.length_cons]
    rw [show i + 1 + r.length = i + (r.length + 1) by omega]
    split <;> simp
theorem fnd_len (p : Ro → Bool) : ∀ (l : List Ro) (i : Nat), (fnd p i l).length ≤ l.length
  | [], _ => Nat.le_refl _
  | x :: r, i => by
    have := fnd_len p r (i + 1)
    simp only [fnd]
    split <;> simp <;> omega
theorem fnd_in (p : Ro → Bool) : ∀ (l : List Ro) (i q : Nat), q ∈ fnd p i l ↔ i ≤ q ∧ ∃ x, l[q - i]? = some x ∧ p x = true
  | [], i, q => by simp [fnd]
  | x :: r, i, q => by
    have ih := fnd_in p r (i + 1) q
    have key : (q ∈ fnd p (i + 1) r) ↔ i < q ∧ ∃ y, (x :: r)[q - i]? = some y ∧ p y = true := by
      rw [ih]
      constructor
      · rintro ⟨h, y, hy, hp⟩
        refine ⟨by omega, y, ?_, hp⟩
        rw [show q - i = q - (i + 1) + 1 by omega]; simpa using hy
      · rintro ⟨h, y, hy, hp⟩
        refine ⟨by omega, y, ?_, hp⟩
        rw [show q - i = q - (i + 1) + 1 by omega] at hy; simpa using hy
    simp only [fnd]
    split
    · next hp =>
      rw [List.mem_cons, key]
      constructor
      · rintro (rfl | ⟨h, y, hy, hq⟩)
        · exact ⟨Nat.le_refl _, x, by simp, hp⟩
        · exact ⟨by omega, y, hy, hq⟩
      · rintro ⟨h, y, hy, hq⟩
        by_cases e : q = i
        · exact .inl e
        · exact .inr ⟨by omega, y, hy, hq⟩
    · next hp =>
      rw [key]
      constructor
      · rintro ⟨h, y, hy, hq⟩; exact ⟨by omega, y, hy, hq⟩
      · rintro ⟨h, y, hy, hq⟩
        by_cases e : q = i
        · subst e; simp at hy; subst hy; rw [hq] at hp; simp at hp
        · exact ⟨by omega, y, hy, hq⟩
/-- One more of a row, looked at from its front. -/
theorem fnd_take (p : Ro → Bool) (L : List Ro) (j : Nat) (x : Ro) (hj : L[j]? = some x) : fnd p 0 (L.take (j + 1)) = fnd p 0 (L.take j) ++ (if p x then [j] else []) := by
  obtain ⟨hl, rfl⟩ := List.getElem?_eq_some_iff.1 hj
  rw [List.take_succ_eq_append_getElem hl, fnd_app]
  simp only [fnd, List.length_take, Nat.zero_add]
  rw [Nat.min_eq_left (by omega)]

/-- Which routes of one sort agree with a message of a topic and a kind. -/
def fn (r : Bool) (tp : Bs) (k : Int) (L : List Ro) : List Nat := fnd (fun x => (x.e == r) && x.ag tp k) 0 L
/-- Which routes take it. -/
def tkR (tp : Bs) (k : Int) (L : List Ro) : List Nat := if fn false tp k L = [] then fn true tp k L else fn false tp k L
def tkE (tp : Bs) (k : Int) (L : List Ro) : Bool := decide (fn false tp k L = []) && !decide (fn true tp k L = [])
/-- A row of numbers as values. -/
abbrev nv (l : List Nat) : List Value := l.map fun (i : Nat) => .int .i64 (i : Int)

/-- A block of cells. -/
def Bk (w : World) (N : Nat) (cs : Array Value) (T : TypeId) : Prop := w.heap[N]? = some (.cells cs T (0, 0))
theorem Bk.new (w : World) (cs : Array Value) (T : TypeId) : Bk (w.alloc (.cells cs T)) w.heap.size cs T := heap_alloc_new w _
theorem Bk.lt {w : World} {N : Nat} {cs : Array Value} {T : TypeId} (h : Bk w N cs T) : N < w.heap.size := (Array.getElem?_eq_some_iff.1 h).1
theorem Bk.c {w : World} {N : Nat} {cs : Array Value} {T : TypeId} (h : Bk w N cs T) (o : Nat) : w.cell? ⟨N, o, none⟩ = cs[o]? := by
  unfold Bk at h
  simp [World.cell?, h]
theorem Bk.f {w : World} {N : Nat} {cs : Array Value} {T : TypeId} (h : Bk w N cs T) (o : Nat) : w.frozen? ⟨N, o, none⟩ = false := by
  unfold Bk at h
  simp [World.frozen?, h]
theorem Bk.set {w : World} {N : Nat} {cs : Array Value} {T : TypeId} (h : Bk w N cs T) (o : Nat) (v : Value) : Bk (w.setCell ⟨N, o, none⟩ v) N (cs.setIfInBounds o v) T := by
  unfold Bk at h ⊢
  simp [World.setCell, Array.getElem?_modify, h]
theorem Bk.other {w : World} {N : Nat} {cs : Array Value} {T : TypeId} (h : Bk w N cs T) (a : Addr) (v : Value) (hne : N ≠ a.block) : Bk (w.setCell a v) N cs T := (Below.heap_setCell w a v N hne).trans h
theorem Bk.below {w w' : World} {N : Nat} {cs : Array Value} {T : TypeId} (h : Bk w N cs T) (hb : Below w.heap.size w w') : Bk w' N cs T := (hb.block N h.lt).trans h
theorem Bk.grown {w w' : World} {N : Nat} {cs : Array Value} {T : TypeId} {row : Option Nat} (h : Bk w N cs T) (hb : w.grownBy w' row) (hne : row ≠ some N) : Bk w' N cs T := (hb.block N h.lt (fun e => hne e.symm)).trans h

theorem Bk.c2 {w : World} {N : Nat} {v0 v1 : Value} {T : TypeId} (h : Bk w N #[v0, v1] T) : w.cell? ⟨N, 0, none⟩ = some v0 ∧ w.cell? ⟨N, 1, none⟩ = some v1 :=
  ⟨h.c 0, h.c 1⟩
theorem Bk.c3 {w : World} {N : Nat} {v0 v1 v2 : Value} {T : TypeId} (h : Bk w N #[v0, v1, v2] T) : w.cell? ⟨N, 0, none⟩ = some v0 ∧ w.cell? ⟨N, 1, none⟩ = some v1 ∧ w.cell? ⟨N, 2, none⟩ = some v2 :=
  ⟨h.c 0, h.c 1, h.c 2⟩
theorem Bk.c5 {w : World} {N : Nat} {v0 v1 v2 v3 v4 : Value} {T : TypeId} (h : Bk w N #[v0, v1, v2, v3, v4] T) : w.cell? ⟨N, 0, none⟩ = some v0 ∧ w.cell? ⟨N, 1, none⟩ = some v1 ∧ w.cell? ⟨N, 2, none⟩ = some v2 ∧ w.cell? ⟨N, 3, none⟩ = some v3 ∧ w.cell? ⟨N, 4, none⟩ = some v4 :=
  ⟨h.c 0, h.c 1, h.c 2, h.c 3, h.c 4⟩
theorem Bk.c6 {w : World} {N : Nat} {v0 v1 v2 v3 v4 v5 : Value} {T : TypeId} (h : Bk w N #[v0, v1, v2, v3, v4, v5] T) : w.cell? ⟨N, 0, none⟩ = some v0 ∧ w.cell? ⟨N, 1, none⟩ = some v1 ∧ w.cell? ⟨N, 2, none⟩ = some v2 ∧ w.cell? ⟨N, 3, none⟩ = some v3 ∧ w.cell? ⟨N, 4, none⟩ = some v4 ∧ w.cell? ⟨N, 5, none⟩ = some v5 :=
  ⟨h.c 0, h.c 1, h.c 2, h.c 3, h.c 4, h.c 5⟩
theorem Bk.c13 {w : World} {N : Nat} {v0 v1 v2 v3 v4 v5 v6 v7 v8 v9 v10 v11 v12 : Value} {T : TypeId} (h : Bk w N #[v0, v1, v2, v3, v4, v5, v6, v7, v8, v9, v10, v11, v12] T) : w.cell? ⟨N, 0, none⟩ = some v0 ∧ w.cell? ⟨N, 1, none⟩ = some v1 ∧ w.cell? ⟨N, 2, none⟩ = some v2 ∧ w.cell? ⟨N, 3, none⟩ = some v3 ∧ w.cell? ⟨N, 4, none⟩ = some v4 ∧ w.cell? ⟨N, 5, none⟩ = some v5 ∧ w.cell? ⟨N, 6, none⟩ = some v6 ∧ w.cell? ⟨N, 7, none⟩ = some v7 ∧ w.cell? ⟨N, 8, none⟩ = some v8 ∧ w.cell? ⟨N, 9, none⟩ = some v9 ∧ w.cell? ⟨N, 10, none⟩ = some v10 ∧ w.cell? ⟨N, 11, none⟩ = some v11 ∧ w.cell? ⟨N, 12, none⟩ = some v12 :=
  ⟨h.c 0, h.c 1, h.c 2, h.c 3, h.c 4, h.c 5, h.c 6, h.c 7, h.c 8, h.c 9, h.c 10, h.c 11, h.c 12⟩

/-- A route that is copied into a block of its own. -/
theorem bx6 (w : World) (f : ByteArray) (o a : Int) (wd : Option Addr) (wl wc : Nat) (h : Int) (e : Bool) : ∃ w1, Hid (w.alloc (.cells #[.string f, .int .i64 o, .int .i64 a, .slice wd wl wc, .int .i64 h, .bool e] 45) = w1) ∧ Below w.heap.size w w1 ∧ Bk w1 w.heap.size #[.string f, .int .i64 o, .int .i64 a, .slice wd wl wc, .int .i64 h, .bool e] 45 ∧ w1.heap.size = w.heap.size + 1 :=
  ⟨_, rfl, below1 _ _, Bk.new _ _ _, by simp⟩
end Go.Proofs.YtkgbpildikjoiaaGreatDoor
