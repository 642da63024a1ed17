/- Values' trees, mapped: what comes of each map, as the document's table has it, and that what comes is valid; no program, no condition but those that each theorem names. -/
import Derived.Test.YtajagjcfmaggiaaGreatDoorKCdb
import Derived.Test.YtajagjcfmaggiaaGreatDoorKCag
import Derived.Test.YtajagjcfmaggiaaGreatDoorKCdc
import Derived.Test.YtajagjcfmaggiaaGreatDoorKCce
import Derived.Test.YtajagjcfmaggiaaGreatDoorKCaa
import Derived.Test.YtajagjcfmaggiaaGreatDoorKCae
namespace Go.Proofs.YtajagjcfmaggiaaGreatDoor
open Go.RowKit

theorem vwL_of {T : Type} (v : T → Int → Bool × Int) (p : T → Int × Int) : ∀ (ts : List T) (l a d : Int), (∀ t ∈ ts, ∀ l', (p t).1 ≤ l' → v t l' = (true, l' - (p t).1)) → (∀ t, 1 ≤ (p t).1) → (Dt.ptsL p ts a d).1 - a ≤ l → Dt.vwL v ts l = (true, l - ((Dt.ptsL p ts a d).1 - a)) := by
  intro ts
  induction ts with
  | nil => intro l a d _ _ _; simp [Dt.vwL, Dt.ptsL]
  | cons t ts ih =>
    intro l a d hv hp hl
    simp only [Dt.ptsL] at hl ⊢
    have h1 := Dt.ptsL_fst p hp ts (a + (p t).1) (max d (p t).2)
    have hb := h1.1
    have e := hv t (List.mem_cons_self ..) l (by omega)
    rw [Dt.vwL_cons, e]
    simp only [if_true]
    rw [ih (l - (p t).1) (a + (p t).1) (max d (p t).2) (fun t' ht' => hv t' (List.mem_cons_of_mem _ ht')) hp (by omega)]
    congr 1
    omega
theorem vw_of : ∀ (f n : Nat) (t : Dt.Tr n) (left : Int), Dt.rgt n t = true → (Dt.pts n t).1 ≤ left → (Dt.pts n t).2 ≤ f → Dt.vw f n t left = (true, left - (Dt.pts n t).1) := by
  intro f
  induction f with
  | zero =>
    intro n t left _ _ h
    cases n with
    | zero => exact t.elim
    | succ n =>
      have := (Dt.ptsL_snd (Dt.pts n) t.ks 1 0).1
      simp only [Dt.pts] at h
      omega
  | succ f ih =>
    intro n t left hr hp hd
    cases n with
    | zero => exact t.elim
    | succ n =>
      simp only [Dt.rgt, Bool.and_eq_true, List.all_eq_true] at hr
      have h1 := Dt.pts_pos1 (n + 1) t
      have h2 := (Dt.ptsL_snd (Dt.pts n) t.ks 1 0).2
      simp only [Dt.pts] at hp hd h1
      simp only [Dt.vw, Dt.pts]
      rw [if_neg (by rintro (h | h); · omega
                     · rw [hr.1] at h; cases h)]
      have e := vwL_of (fun t l => Dt.vw f n t l) (Dt.pts n) t.ks (left - 1) 1 0 (fun t' ht' l' hl' => ih n t' l' (hr.2 t' ht') hl' (by have := h2 t' ht'; omega)) (Dt.pts_pos1 n) (by omega)
      rw [e]
      congr 1
      omega
theorem vB_of {n : Nat} {t : Dt.Tr n} (h1 : Dt.rgt n t = true) (h2 : (Dt.pts n t).1 ≤ 4096) (h3 : (Dt.pts n t).2 ≤ 16) : Dt.vB n t = true := by
  have := vw_of 16 n t 4096 h1 h2 h3
  show (Dt.vw 16 n t 4096).1 = true
  rw [this]
theorem vB_to {n : Nat} {t : Dt.Tr n} (h : Dt.vB n t = true) : Dt.rgt n t = true ∧ (Dt.pts n t).1 ≤ 4096 ∧ (Dt.pts n t).2 ≤ 16 := by
  have S := Dt.say 16 n t 1 4096 (by decide) (by decide) (by decide)
  obtain ⟨a, b, -⟩ := S.down h
  obtain ⟨p, c, d, e, f⟩ := S.fit b
  rw [p]
  exact ⟨a, by simpa using d, by simp; omega⟩

/-- The numbers within 64 bits. -/
def i64A : (n : Nat) → Dt.Tr n → Prop
  | 0, _ => False
  | n + 1, t => Dt.I64 t.it ∧ ∀ s ∈ t.ks, i64A n s
/-- A valid value as it reads. -/
structure Ok (n : Nat) (t : Dt.Tr n) : Prop where
  v : Dt.vB n t = true
  r6 : Dt.r64 n t
  i6 : i64A n t
def nd {n : Nat} (k i u : Int) (s : ByteArray) (ks : List (Dt.Tr n)) : Dt.Tr (n + 1) := ((k, i, u, s, ks) : Int × Int × Int × ByteArray × List (Dt.Tr n))
def lsT {n : Nat} (t : Dt.Tr n) : Dt.Tr (n + 1) := nd 8 0 0 ⟨#[]⟩ [t]
def txT (n : Nat) (s : ByteArray) : Dt.Tr (n + 1) := nd 4 0 0 s []
def prT {n : Nat} (s : ByteArray) (t : Dt.Tr (n + 1)) : Dt.Tr (n + 1 + 1) := nd 9 0 0 ⟨#[]⟩ [txT n s, t]
def kyK (k : Int) : Int := if k = 1 then 2 else if k = 4 then 5 else k
def kyT {n : Nat} (t : Dt.Tr (n + 1)) : Dt.Tr (n + 1) := nd (kyK t.kd) t.it t.ut t.tx t.ks
/-- A result. -/
structure Rs where
  er : Int
  pk : Int
  pn : Int
  has : Bool
  n : Nat
  t : Dt.Tr n
def bad (er pk pn : Int) : Rs := ⟨er, pk, pn, false, 1, lfT 0 0⟩
def good {n : Nat} (t : Dt.Tr n) : Rs := ⟨0, 0, 0, true, n, t⟩
def hd1 {n : Nat} : List (Dt.Tr n) → Rs
  | [] => bad 110 3 0
  | t :: _ => good t
/-- The name of a key. -/
def Lb : Type := { f : Int → ByteArray // ∀ i, Dt.I64 i → (f i).size ≤ 65535 }
def labL (L : Lb) (k i : Int) (s : ByteArray) : ByteArray × Int := if k = 5 ∨ k = 10 then (s, 0) else if k = 2 then (L.1 i, 0) else (⟨#[]⟩, 12)
theorem key_size (i : Int) (h : Dt.I64 i) : (Dt.wnum Dt.keyW i).size ≤ 65535 := by
  have := Lib.itoa_length_le i h.1 h.2
  simp [Dt.wnum, Dt.keyW, ByteArray.size_append]
  have e : (ByteArray.mk (Lib.itoa i).toArray).size = (Lib.itoa i).length := by simp [ByteArray.size]
  have e' : (ByteArray.mk #[107, 101, 121, 32]).size = 4 := rfl
  omega
/-- The name that the document gives a key. -/
def keyL : Lb := ⟨Dt.wnum Dt.keyW, key_size⟩
/-- What comes of a map. -/
def mapP (L : Lb) (op : Int) (tp : ByteArray) {m : Nat} (t : Dt.Tr (m + 1)) : Rs :=
  if op = 1 then (if impl t.kd 5 = true then good (Dt.addT t.kd t.it t.ut t.kd t.it t.ut) else bad 110 2 (lackM t.kd 5))
  else if op = 2 then (if Dt.vB _ (lsT t) = true then good (lsT t) else bad 14 0 0)
  else if op = 3 then (if t.kd = 11 then hd1 t.ks else if t.kd = 12 then bad 110 3 0 else bad 110 2 (lackM t.kd 3))
  else if op = 4 then (if (Dt.lenP t.kd t.tx.size t.ks.length).2 = 0 then good (lfT 1 (Dt.lenP t.kd t.tx.size t.ks.length).1) else bad 12 0 0)
  else if op = 5 then (if (labL L t.kd t.it t.tx).2 = 0 then good (txT 0 (labL L t.kd t.it t.tx).1) else bad 12 0 0)
  else if op = 6 then (if t.kd = 6 then good (nd 6 (wrap64 (1 - t.it)) t.ut t.tx t.ks) else bad 110 2 t.kd)
  else if op = 7 then (if Dt.vB _ (prT tp t) = true then good (prT tp t) else bad 14 0 0)
  else if op = 8 then good (kyT t)
  else bad 12 0 0

theorem Ok.kind {m : Nat} {t : Dt.Tr (m + 1)} (h : Ok (m + 1) t) : 0 ≤ t.kd ∧ t.kd ≤ 13 := by
  have := (vB_to h.v).1
  simp only [Dt.rgt, Bool.and_eq_true] at this
  exact kind_in this.1
theorem Ok.ok {m : Nat} {t : Dt.Tr (m + 1)} (h : Ok (m + 1) t) : Dt.okB t.kd t.it t.ut t.tx.size t.ks.length = true := by
  have := (vB_to h.v).1
  simp only [Dt.rgt, Bool.and_eq_true] at this
  exact this.1
theorem Ok.kid {m : Nat} {t : Dt.Tr (m + 1)} (h : Ok (m + 1) t) {s : Dt.Tr m} (hs : s ∈ t.ks) : Ok m s := by
  obtain ⟨a, b, c⟩ := vB_to h.v
  simp only [Dt.rgt, Bool.and_eq_true, List.all_eq_true] at a
  have d := (Dt.pts_kids b).2 s hs
  have e := (Dt.ptsL_snd (Dt.pts m) t.ks 1 0).2 s hs
  simp only [Dt.pts] at c
  exact ⟨vB_of (a.2 s hs) d (by omega), h.r6.2 s hs, h.i6.2 s hs⟩
theorem ok_leaf {m : Nat} (k i u : Int) (s : ByteArray) (h : Dt.okB k i u s.size 0 = true) (h6 : 0 ≤ u ∧ u < 18446744073709551616) (hi : Dt.I64 i) : Ok (m + 1) (nd k i u s []) :=
  ⟨vB_of (by simp only [Dt.rgt, Bool.and_eq_true]; exact ⟨h, rfl⟩) (by simp [Dt.pts, Dt.ptsL, nd, Dt.Tr.ks]) (by simp [Dt.pts, Dt.ptsL, nd, Dt.Tr.ks]), ⟨h6, fun _ h => by cases h⟩, ⟨hi, fun _ h => by cases h⟩⟩
theorem ok_like {m : Nat} {t : Dt.Tr (m + 1)} (h : Ok (m + 1) t) (k i : Int) (hk : Dt.okB k i t.ut t.tx.size t.ks.length = true) (hi : Dt.I64 i) : Ok (m + 1) (nd k i t.ut t.tx t.ks) := by
  obtain ⟨a, b, c⟩ := vB_to h.v
  simp only [Dt.rgt, Bool.and_eq_true] at a
  exact ⟨vB_of (by simp only [Dt.rgt, Bool.and_eq_true]; exact ⟨hk, a.2⟩) b c, ⟨h.r6.1, h.r6.2⟩, ⟨hi, h.i6.2⟩⟩
theorem kind_cases {k : Int} (h : 0 ≤ k ∧ k ≤ 13) : k = 0 ∨ k = 1 ∨ k = 2 ∨ k = 3 ∨ k = 4 ∨ k = 5 ∨ k = 6 ∨ k = 7 ∨ k = 8 ∨ k = 9 ∨ k = 10 ∨ k = 11 ∨ k = 12 ∨ k = 13 := by omega
theorem impl5 {k : Int} (h : 0 ≤ k ∧ k ≤ 13) : impl k 5 = decide (k = 1 ∨ k = 3) := by
  rcases kind_cases h with rfl | rfl | rfl | rfl | rfl | rfl | rfl | rfl | rfl | rfl | rfl | rfl | rfl | rfl <;> decide
theorem bad_ok (er pk pn : Int) : Ok (bad er pk pn).n (bad er pk pn).t := ok_leaf (m := 0) 0 0 0 ⟨#[]⟩ (by decide) (by decide) (by constructor <;> decide)
theorem wrap_I64 (x : Int) : Dt.I64 (wrap64 x) := by
  unfold wrap64 Dt.I64
  omega
theorem u00 : (0 : Int) ≤ 0 ∧ (0 : Int) < 18446744073709551616 := by decide
theorem i00 : Dt.I64 0 := by constructor <;> decide
theorem okB_size {k i u : Int} {z len : Nat} (h : Dt.okB k i u z len = true) : z ≤ 65535 := by
  rcases kind_cases (kind_in h) with rfl | rfl | rfl | rfl | rfl | rfl | rfl | rfl | rfl | rfl | rfl | rfl | rfl | rfl <;> simp [Dt.okB] at h <;> omega
theorem Ok.list {n : Nat} {t : Dt.Tr n} (h : Ok n t) (hv : Dt.vB _ (lsT t) = true) : Ok (n + 1) (lsT t) :=
  ⟨hv, ⟨u00, fun s hs => by
    have : s = t := by simpa [lsT, nd, Dt.Tr.ks] using hs
    rw [this]; exact h.r6⟩, ⟨i00, fun s hs => by
    have : s = t := by simpa [lsT, nd, Dt.Tr.ks] using hs
    rw [this]; exact h.i6⟩⟩
theorem Ok.pair {m : Nat} {t : Dt.Tr (m + 1)} (h : Ok (m + 1) t) (tp : ByteArray) (hv : Dt.vB _ (prT tp t) = true) : Ok (m + 1 + 1) (prT tp t) :=
  ⟨hv, ⟨u00, fun s hs => by
    have : s = txT m tp ∨ s = t := by simpa [prT, nd, Dt.Tr.ks] using hs
    rcases this with rfl | rfl
    · exact ⟨u00, fun _ h => by cases h⟩
    · exact h.r6⟩, ⟨i00, fun s hs => by
    have : s = txT m tp ∨ s = t := by simpa [prT, nd, Dt.Tr.ks] using hs
    rcases this with rfl | rfl
    · exact ⟨i00, fun _ h => by cases h⟩
    · exact h.i6⟩⟩
theorem Ok.size {m : Nat} {t : Dt.Tr (m + 1)} (h : Ok (m + 1) t) : t.tx.size ≤ 65535 ∧ t.ks.length ≤ 4096 := ⟨okB_size h.ok, (Dt.pts_kids (vB_to h.v).2.1).1⟩
theorem okB_key {k i u : Int} {z len : Nat} (h : Dt.okB k i u z len = true) : Dt.okB (kyK k) i u z len = true := by
  rcases kind_cases (kind_in h) with rfl | rfl | rfl | rfl | rfl | rfl | rfl | rfl | rfl | rfl | rfl | rfl | rfl | rfl <;> simpa [kyK, Dt.okB] using h
theorem lab_size (L : Lb) {m : Nat} {t : Dt.Tr (m + 1)} (h : Ok (m + 1) t) : (labL L t.kd t.it t.tx).1.size ≤ 65535 := by
  unfold labL
  split
  · exact h.size.1
  · split
    · exact L.2 t.it h.i6.1
    · decide
theorem okB6_to {i u : Int} {z len : Nat} (h : Dt.okB 6 i u z len = true) : (i = 0 ∨ i = 1) ∧ u = 0 ∧ z = 0 ∧ len = 0 := by simpa [Dt.okB] using h
theorem okB6 {i u : Int} {z len : Nat} (e : i = 0 ∨ i = 1) (h : u = 0 ∧ z = 0 ∧ len = 0) : Dt.okB 6 i u z len = true := by
  obtain ⟨rfl, rfl, rfl⟩ := h
  simp [Dt.okB]; exact e
def OkR (r : Rs) : Prop := Ok r.n r.t
theorem map_ok (L : Lb) (op : Int) (tp : ByteArray) {m : Nat} (t : Dt.Tr (m + 1)) (h : Ok (m + 1) t) : OkR (mapP L op tp t) := by
  unfold mapP
  split
  · split
    · rename_i hi
      rw [impl5 h.kind] at hi
      have hi := of_decide_eq_true hi
      show Ok 1 (Dt.addT t.kd t.it t.ut t.kd t.it t.ut)
      rcases hi with e | e
      · rw [e]
        exact ok_leaf (m := 0) 1 (wrap64 (t.it + t.it)) 0 ⟨#[]⟩ (by simp [Dt.okB]; rfl) (by decide) (wrap_I64 _)
      · rw [e]
        exact ok_leaf (m := 0) 3 0 _ ⟨#[]⟩ (by simp [Dt.okB]; rfl) ⟨by omega, by have := Dt.addF_lt t.ut.toNat t.ut.toNat; omega⟩ (by constructor <;> decide)
    · exact bad_ok _ _ _
  split
  · split
    · rename_i hv
      exact h.list hv
    · exact bad_ok _ _ _
  split
  · split
    · cases hk : t.ks with
      | nil => exact bad_ok _ _ _
      | cons s l => exact h.kid (by rw [hk]; exact List.mem_cons_self ..)
    · split <;> exact bad_ok _ _ _
  split
  · split
    · refine ok_leaf (m := 0) 1 _ 0 ⟨#[]⟩ (by simp [Dt.okB]; rfl) (by decide) ?_
      have := h.size
      unfold Dt.lenP Dt.I64
      repeat' split
      all_goals simp
      all_goals omega
    · exact bad_ok _ _ _
  split
  · split
    · exact ok_leaf (m := 0) 4 0 0 _ (by simp [Dt.okB]; exact lab_size L h) (by decide) (by constructor <;> decide)
    · exact bad_ok _ _ _
  split
  · split
    · rename_i hk
      have := h.ok
      rw [hk] at this
      have hb := okB6_to this
      have e : wrap64 (1 - t.it) = 0 ∨ wrap64 (1 - t.it) = 1 := by unfold wrap64; omega
      exact ok_like h 6 _ (okB6 e hb.2) (wrap_I64 _)
    · exact bad_ok _ _ _
  split
  · split
    · rename_i hv
      exact h.pair tp hv
    · exact bad_ok _ _ _
  split
  · exact ok_like h _ _ (okB_key h.ok) h.i6.1
  · exact bad_ok _ _ _
end Go.Proofs.YtajagjcfmaggiaaGreatDoor
/- What the package's inner look at one part answers at the kinds 0 to 6: the document's table's answer; the condition: the table of fields as the text lays it. -/
namespace Go.Proofs.YtajagjcfmaggiaaGreatDoor.Dt
open Go.RowKit



/-- The table of fields, whatever is done from block B on. -/
def Tab14 (w : World) : Prop := 4 < w.heap.size ∧ ∀ j, j < 14 → w.cell? ⟨4, j, none⟩ = some (.int .u8 (([0, 1, 1, 2, 4, 4, 1, 4, 8, 8, 5, 9, 0, 0] : List Int).getD j 0))

theorem tab2 {w : World} (h : Tab14 w) (j : Nat) (hj : j < 14) (o1 o2 : Obj) : ((w.alloc o1).alloc o2).cell? ⟨4, j, none⟩ = some (.int .u8 (([0, 1, 1, 2, 4, 4, 1, 4, 8, 8, 5, 9, 0, 0] : List Int).getD j 0)) :=
  (Below.cell (((Below.refl w.heap.size w).alloc (Nat.le_refl _) o1).alloc (by simp) o2) (p := ⟨4, j, none⟩) h.1).trans (h.2 j hj)

set_option maxRecDepth 100000 in
set_option maxHeartbeats 1000000 in
theorem formed0 (i u : Int) (s : ByteArray) (ad : Option Addr) (len cap : Nat) (w : World) (h : Tab14 w) (_hs : s.size ≤ maxLen) (_hl : len ≤ maxLen) :
    Calls Tryz.prog 128 #[.agg #[.int .i64 0, .int .i64 i, .int .u64 u, .string s, .slice ad len cap]] w fun e w' => e = .returned (.bool (okB 0 i u s.size len)) ∧ Below w.heap.size w w' := by
  have m1 : ∀ o1 o2 : Obj, ((w.alloc o1).alloc o2).cell? ⟨4, 0, none⟩ = some (.int .u8 0) := tab2 h 0 (by decide)
  have b1 : bits BinOp.and IntKind.u8 0 1 = 0 := by kernel_rfl
  have b2 : bits BinOp.and IntKind.u8 0 2 = 0 := by kernel_rfl
  have b3 : bits BinOp.and IntKind.u8 0 4 = 0 := by kernel_rfl
  have b4 : bits BinOp.and IntKind.u8 0 8 = 0 := by kernel_rfl
  unfold maxLen at _hs _hl
  clear h
  go_enter Tryz.func128, Tryz.ntmps128
  go_wp2
  all_goals go_ret
  all_goals refine ⟨ret_b ?_, ((Below.refl _ w).alloc (Nat.le_refl _) _).alloc (by simp) _⟩
  all_goals clear m1 b1 b2 b3 b4
  all_goals have hz := nil_size s
  all_goals generalize s.toList = L at *
  all_goals generalize s.size = z at *
  all_goals (simp_all [okB] <;> first | omega | (rw [Bool.eq_iff_iff]; simp; omega))
set_option maxRecDepth 100000 in
set_option maxHeartbeats 1000000 in
theorem formed1 (i u : Int) (s : ByteArray) (ad : Option Addr) (len cap : Nat) (w : World) (h : Tab14 w) (_hs : s.size ≤ maxLen) (_hl : len ≤ maxLen) :
    Calls Tryz.prog 128 #[.agg #[.int .i64 1, .int .i64 i, .int .u64 u, .string s, .slice ad len cap]] w fun e w' => e = .returned (.bool (okB 1 i u s.size len)) ∧ Below w.heap.size w w' := by
  have m1 : ∀ o1 o2 : Obj, ((w.alloc o1).alloc o2).cell? ⟨4, 1, none⟩ = some (.int .u8 1) := tab2 h 1 (by decide)
  have b1 : bits BinOp.and IntKind.u8 1 1 = 1 := by kernel_rfl
  have b2 : bits BinOp.and IntKind.u8 1 2 = 0 := by kernel_rfl
  have b3 : bits BinOp.and IntKind.u8 1 4 = 0 := by kernel_rfl
  have b4 : bits BinOp.and IntKind.u8 1 8 = 0 := by kernel_rfl
  unfold maxLen at _hs _hl
  clear h
  go_enter Tryz.func128, Tryz.ntmps128
  go_wp2
  all_goals go_ret
  all_goals refine ⟨ret_b ?_, ((Below.refl _ w).alloc (Nat.le_refl _) _).alloc (by simp) _⟩
  all_goals clear m1 b1 b2 b3 b4
  all_goals have hz := nil_size s
  all_goals generalize s.toList = L at *
  all_goals generalize s.size = z at *
  all_goals (simp_all [okB] <;> first | omega | (rw [Bool.eq_iff_iff]; simp; omega))
set_option maxRecDepth 100000 in
set_option maxHeartbeats 1000000 in
theorem formed2 (i u : Int) (s : ByteArray) (ad : Option Addr) (len cap : Nat) (w : World) (h : Tab14 w) (_hs : s.size ≤ maxLen) (_hl : len ≤ maxLen) :
    Calls Tryz.prog 128 #[.agg #[.int .i64 2, .int .i64 i, .int .u64 u, .string s, .slice ad len cap]] w fun e w' => e = .returned (.bool (okB 2 i u s.size len)) ∧ Below w.heap.size w w' := by
  have m1 : ∀ o1 o2 : Obj, ((w.alloc o1).alloc o2).cell? ⟨4, 2, none⟩ = some (.int .u8 1) := tab2 h 2 (by decide)
  have b1 : bits BinOp.and IntKind.u8 1 1 = 1 := by kernel_rfl
  have b2 : bits BinOp.and IntKind.u8 1 2 = 0 := by kernel_rfl
  have b3 : bits BinOp.and IntKind.u8 1 4 = 0 := by kernel_rfl
  have b4 : bits BinOp.and IntKind.u8 1 8 = 0 := by kernel_rfl
  unfold maxLen at _hs _hl
  clear h
  go_enter Tryz.func128, Tryz.ntmps128
  go_wp2
  all_goals go_ret
  all_goals refine ⟨ret_b ?_, ((Below.refl _ w).alloc (Nat.le_refl _) _).alloc (by simp) _⟩
  all_goals clear m1 b1 b2 b3 b4
  all_goals have hz := nil_size s
  all_goals generalize s.toList = L at *
  all_goals generalize s.size = z at *
  all_goals (simp_all [okB] <;> first | omega | (rw [Bool.eq_iff_iff]; simp; omega))
set_option maxRecDepth 100000 in
set_option maxHeartbeats 1000000 in
theorem formed3 (i u : Int) (s : ByteArray) (ad : Option Addr) (len cap : Nat) (w : World) (h : Tab14 w) (_hs : s.size ≤ maxLen) (_hl : len ≤ maxLen) :
    Calls Tryz.prog 128 #[.agg #[.int .i64 3, .int .i64 i, .int .u64 u, .string s, .slice ad len cap]] w fun e w' => e = .returned (.bool (okB 3 i u s.size len)) ∧ Below w.heap.size w w' := by
  have m1 : ∀ o1 o2 : Obj, ((w.alloc o1).alloc o2).cell? ⟨4, 3, none⟩ = some (.int .u8 2) := tab2 h 3 (by decide)
  have b1 : bits BinOp.and IntKind.u8 2 1 = 0 := by kernel_rfl
  have b2 : bits BinOp.and IntKind.u8 2 2 = 2 := by kernel_rfl
  have b3 : bits BinOp.and IntKind.u8 2 4 = 0 := by kernel_rfl
  have b4 : bits BinOp.and IntKind.u8 2 8 = 0 := by kernel_rfl
  unfold maxLen at _hs _hl
  clear h
  go_enter Tryz.func128, Tryz.ntmps128
  go_wp2
  all_goals go_ret
  all_goals refine ⟨ret_b ?_, ((Below.refl _ w).alloc (Nat.le_refl _) _).alloc (by simp) _⟩
  all_goals clear m1 b1 b2 b3 b4
  all_goals have hz := nil_size s
  all_goals generalize s.toList = L at *
  all_goals generalize s.size = z at *
  all_goals (simp_all [okB] <;> first | omega | (rw [Bool.eq_iff_iff]; simp; omega))
set_option maxRecDepth 100000 in
set_option maxHeartbeats 1000000 in
theorem formed4 (i u : Int) (s : ByteArray) (ad : Option Addr) (len cap : Nat) (w : World) (h : Tab14 w) (_hs : s.size ≤ maxLen) (_hl : len ≤ maxLen) :
    Calls Tryz.prog 128 #[.agg #[.int .i64 4, .int .i64 i, .int .u64 u, .string s, .slice ad len cap]] w fun e w' => e = .returned (.bool (okB 4 i u s.size len)) ∧ Below w.heap.size w w' := by
  have m1 : ∀ o1 o2 : Obj, ((w.alloc o1).alloc o2).cell? ⟨4, 4, none⟩ = some (.int .u8 4) := tab2 h 4 (by decide)
  have b1 : bits BinOp.and IntKind.u8 4 1 = 0 := by kernel_rfl
  have b2 : bits BinOp.and IntKind.u8 4 2 = 0 := by kernel_rfl
  have b3 : bits BinOp.and IntKind.u8 4 4 = 4 := by kernel_rfl
  have b4 : bits BinOp.and IntKind.u8 4 8 = 0 := by kernel_rfl
  unfold maxLen at _hs _hl
  clear h
  go_enter Tryz.func128, Tryz.ntmps128
  go_wp2
  all_goals go_ret
  all_goals refine ⟨ret_b ?_, ((Below.refl _ w).alloc (Nat.le_refl _) _).alloc (by simp) _⟩
  all_goals clear m1 b1 b2 b3 b4
  all_goals have hz := nil_size s
  all_goals generalize s.toList = L at *
  all_goals generalize s.size = z at *
  all_goals (simp_all [okB] <;> first | omega | (rw [Bool.eq_iff_iff]; simp; omega))
set_option maxRecDepth 100000 in
set_option maxHeartbeats 1000000 in
theorem formed5 (i u : Int) (s : ByteArray) (ad : Option Addr) (len cap : Nat) (w : World) (h : Tab14 w) (_hs : s.size ≤ maxLen) (_hl : len ≤ maxLen) :
    Calls Tryz.prog 128 #[.agg #[.int .i64 5, .int .i64 i, .int .u64 u, .string s, .slice ad len cap]] w fun e w' => e = .returned (.bool (okB 5 i u s.size len)) ∧ Below w.heap.size w w' := by
  have m1 : ∀ o1 o2 : Obj, ((w.alloc o1).alloc o2).cell? ⟨4, 5, none⟩ = some (.int .u8 4) := tab2 h 5 (by decide)
  have b1 : bits BinOp.and IntKind.u8 4 1 = 0 := by kernel_rfl
  have b2 : bits BinOp.and IntKind.u8 4 2 = 0 := by kernel_rfl
  have b3 : bits BinOp.and IntKind.u8 4 4 = 4 := by kernel_rfl
  have b4 : bits BinOp.and IntKind.u8 4 8 = 0 := by kernel_rfl
  unfold maxLen at _hs _hl
  clear h
  go_enter Tryz.func128, Tryz.ntmps128
  go_wp2
  all_goals go_ret
  all_goals refine ⟨ret_b ?_, ((Below.refl _ w).alloc (Nat.le_refl _) _).alloc (by simp) _⟩
  all_goals clear m1 b1 b2 b3 b4
  all_goals have hz := nil_size s
  all_goals generalize s.toList = L at *
  all_goals generalize s.size = z at *
  all_goals (simp_all [okB] <;> first | omega | (rw [Bool.eq_iff_iff]; simp; omega))
set_option maxRecDepth 100000 in
set_option maxHeartbeats 1000000 in
theorem formed6 (i u : Int) (s : ByteArray) (ad : Option Addr) (len cap : Nat) (w : World) (h : Tab14 w) (_hs : s.size ≤ maxLen) (_hl : len ≤ maxLen) :
    Calls Tryz.prog 128 #[.agg #[.int .i64 6, .int .i64 i, .int .u64 u, .string s, .slice ad len cap]] w fun e w' => e = .returned (.bool (okB 6 i u s.size len)) ∧ Below w.heap.size w w' := by
  have m1 : ∀ o1 o2 : Obj, ((w.alloc o1).alloc o2).cell? ⟨4, 6, none⟩ = some (.int .u8 1) := tab2 h 6 (by decide)
  have b1 : bits BinOp.and IntKind.u8 1 1 = 1 := by kernel_rfl
  have b2 : bits BinOp.and IntKind.u8 1 2 = 0 := by kernel_rfl
  have b3 : bits BinOp.and IntKind.u8 1 4 = 0 := by kernel_rfl
  have b4 : bits BinOp.and IntKind.u8 1 8 = 0 := by kernel_rfl
  unfold maxLen at _hs _hl
  clear h
  go_enter Tryz.func128, Tryz.ntmps128
  go_wp2
  all_goals go_ret
  all_goals refine ⟨ret_b ?_, ((Below.refl _ w).alloc (Nat.le_refl _) _).alloc (by simp) _⟩
  all_goals clear m1 b1 b2 b3 b4
  all_goals have hz := nil_size s
  all_goals generalize s.toList = L at *
  all_goals generalize s.size = z at *
  all_goals (simp_all [okB] <;> first | omega | (rw [Bool.eq_iff_iff]; simp; omega))
end Go.Proofs.YtajagjcfmaggiaaGreatDoor.Dt
