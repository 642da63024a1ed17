/- Two values held against each other: what == says, or its panic; the conditions: the trees in memory and valid, of 4096 parts and 16 deep at most. -/
import Derived.Test.YthamafijjflfbaaGreatMbf
import Derived.Test.YthamafijjflfbaaGreatMac
import Derived.Test.YthamafijjflfbaaGreatMah
import Derived.Deep.Cut
import Derived.Deep.CutRange
namespace Go.Proofs.YthamafijjflfbaaGreat.Dt
open Go.RowKit
set_option maxRecDepth 100000 in
set_option maxHeartbeats 1000000 in
theorem sharing (w : World) : Calls Tryz.prog 62 #[] w fun e w' => ∃ k, e = .returned (.agg #[.map (some k)]) ∧ Below w.heap.size w w' ∧ w.heap.size ≤ k ∧ Mp w' k [] := by
  have hmm := @run_makeMap Tryz.prog
  go_enter Tryz.func62, Tryz.ntmps62
  go_wp2
  refine bodyPost_ret (v := .agg #[.map (some (w.heap.size+1))]) (by simp [results, Tryz.results62, go_sem]) rfl ⟨_, rfl, ?_, by omega, ?_⟩
  · exact ((Below.refl _ w).alloc (Nat.le_refl _) _).alloc (by simp) _
  · refine ⟨#[], 0, ?_, rfl⟩
    have := heap_alloc_new (w.alloc (.cells #[.map (some (w.heap.size + 1))] 107)) (.map #[] 0)
    rw [World.size_alloc] at this
    exact this

theorem beq_run (x y : Value) (hx : Sx x) (hy : Sx y) (w : World) : (binOp .eql 20 x y).run Tryz.prog w = ((Op.equal 20 x y).run Tryz.prog w).andThen fun b w => .ok (.bool b) w := by
  rcases hx with rfl | ⟨T, z, rfl⟩ <;> rcases hy with rfl | ⟨T', z', rfl⟩ <;> simp [binOp]

theorem bnn (w : World) : (binOp .eql 20 .nilIface .nilIface).run Tryz.prog w = .ok (.bool true) w := by kernel_rfl
theorem bnv (T : TypeId) (z : Value) (w : World) : (binOp .eql 20 .nilIface (.iface T z)).run Tryz.prog w = .ok (.bool false) w := by kernel_rfl
theorem bvn (T : TypeId) (z : Value) (w : World) : (binOp .eql 20 (.iface T z) .nilIface).run Tryz.prog w = .ok (.bool false) w := by kernel_rfl

/-- What a call of value leaves as it is. -/
structure Kq (w : World) (k M : Nat) (v0 v1 v2 v3 v4 x0 x1 x2 x3 x4 : Value) (l' : List (Int × Nat)) (w' : World) : Prop where
  m : Mp w' k l'
  x : Bx w' l'
  b : Below w.heap.size w w'
  p : D5 w' w.heap.size v0 v1 v2 v3 v4
  q : D5 w' (w.heap.size + 1) x0 x1 x2 x3 x4
  c : D5 w' (w.heap.size + 1 + 1) (.int .i64 0) (.int .i64 0) (.int .u64 0) (.string ⟨#[]⟩) (.slice none 0 0)
  e : C1 w' M 107 (.map (some k))
theorem Kq.drew {w : World} {k M : Nat} {v0 v1 v2 v3 v4 x0 x1 x2 x3 x4 : Value} {l' : List (Int × Nat)} {w' : World} (h : Kq w k M v0 v1 v2 v3 v4 x0 x1 x2 x3 x4 l' w') : Kq w k M v0 v1 v2 v3 v4 x0 x1 x2 x3 x4 l' w'.drew :=
  have y : Below w'.heap.size w' w'.drew := Below.drew (Below.refl _ _)
  ⟨h.m.below y, h.x.below y, h.b.drew, h.p.below y, h.q.below y, h.c.below y, h.e.below y⟩
theorem Kq.step {w : World} {k M : Nat} {v0 v1 v2 v3 v4 x0 x1 x2 x3 x4 : Value} {l1 l2 : List (Int × Nat)} {w1 w2 : World} (h : Kq w k M v0 v1 v2 v3 v4 x0 x1 x2 x3 x4 l1 w1) (hk : w.heap.size + 3 ≤ k) (hM : M ≠ k) (sh : ShT w1 w2 k l1 l2) : Kq w k M v0 v1 v2 v3 v4 x0 x1 x2 x3 x4 l2 w2 := by
  obtain ⟨a1, a2, a3, a4⟩ := sh
  exact ⟨a1, a2, h.b.grown a4 h.b.size (fun j hj => by have := Option.some.inj hj; omega), h.p.kept a4 (by omega), h.q.kept a4 (by omega), h.c.kept a4 (by omega), h.e.kept a4 hM⟩


theorem Kq.keep {w : World} {k M : Nat} {v0 v1 v2 v3 v4 x0 x1 x2 x3 x4 : Value} {l' : List (Int × Nat)} {w1 w2 : World} (h : Kq w k M v0 v1 v2 v3 v4 x0 x1 x2 x3 x4 l' w1) (hb : Below w1.heap.size w1 w2) : Kq w k M v0 v1 v2 v3 v4 x0 x1 x2 x3 x4 l' w2 :=
  ⟨h.m.below hb, h.x.below hb, h.b.trans (hb.mono h.b.size), h.p.below hb, h.q.below hb, h.c.below hb, h.e.below hb⟩
theorem Kq.cell {w : World} {k M : Nat} {v0 v1 v2 v3 v4 x0 x1 x2 x3 x4 : Value} {l' : List (Int × Nat)} {w1 : World} (h : Kq w k M v0 v1 v2 v3 v4 x0 x1 x2 x3 x4 l' w1) {N : Nat} {v : Value} (hN : Bk w1 N #[v] 20) (hL : w.heap.size + 3 ≤ N) (hM : M ≠ N) (u : Value) : Kq w k M v0 v1 v2 v3 v4 x0 x1 x2 x3 x4 l' (w1.setCell ⟨N, 0, none⟩ u) := by
  have hk : k ≠ N := fun e => by
    subst e
    obtain ⟨es, cl, h1, -⟩ := h.m
    have := h1.symm.trans hN
    cases this
  exact ⟨h.m.set _ _ hk, h.x.set N 0 u, h.b.setCell (by show w.heap.size ≤ N; omega) u, (Below.heap_setCell _ _ _ _ (by show w.heap.size ≠ N; omega)).trans h.p, (Below.heap_setCell _ _ _ _ (by show w.heap.size + 1 ≠ N; omega)).trans h.q, (Below.heap_setCell _ _ _ _ (by show w.heap.size + 1 + 1 ≠ N; omega)).trans h.c, h.e.set _ _ hM⟩

set_option maxRecDepth 100000 in
set_option maxHeartbeats 2000000 in
theorem cmp1_any (X Y : Nat) (l : List (Int × Nat)) (n m : Nat) (a : Tr n) (b : Tr m) (va vb : Value) (w : World) (hn : n ≤ 16) (ra : rgt n a = true) (rb : rgt m b = true) (hx : Bx w l) (sa : Sx va) (sb : Sx vb) (VA : VS l n va a) (VB : VS l m vb b)
    (hX : Bk w X #[va] 20) (hY : Bk w Y #[vb] 20) :
    Calls Tryz.prog 65 #[.pointer (some ⟨X, 0, none⟩), .pointer (some ⟨Y, 0, none⟩)] w fun e w' => (((eqT n m a b).2 = 0 ∧ e = .returned (.bool (eqT n m a b).1)) ∨ ((eqT n m a b).2 ≠ 0 ∧ ∃ T z, Pn T z e)) ∧ Below w.heap.size w w' := by
  have R := eq_run l w hx n m a b va vb 9997 ra rb VA VB (by omega)
  have br := beq_run va vb sa sb w
  rw [show Op.equal 20 va vb = Op.equalIn (9997 + 3) 20 va vb from rfl] at br
  have x0 := hX.c 0
  have y0 := hY.c 0
  clear VA VB hx
  rcases R with ⟨hz, hr⟩ | ⟨hz, hfa, pv, hr⟩
  · rw [hr] at br
    simp only [Result.andThen_ok] at br
    have HZ := Lib.hid hz
    generalize hres : (eqT n m a b).1 = res at br
    have HR := Lib.hid hres
    clear hr hz hres
    rcases sa with rfl | ⟨T, z1, rfl⟩
    · rcases sb with rfl | ⟨T', z2, rfl⟩
      · have hq := bnn w
        rw [hq] at br
        obtain rfl : res = true := by injection br with h; injection h with h'; exact h'.symm
        have heq := fun w => bnn w
        have hg : ∀ w, (eqGuard .eql 20 (.tmp 3) (.tmp 4) .nilIface .nilIface).run Tryz.prog w = .ok () w := fun _ => by kernel_rfl
        clear br hq
        go_enter Tryz.func65, Tryz.ntmps65
        go_wp2
        go_ret
        exact ⟨.inl ⟨HZ.out, rfl⟩, Below.refl _ _⟩
      · have hq := bnv T' z2 w
        rw [hq] at br
        obtain rfl : res = false := by injection br with h; injection h with h'; exact h'.symm
        have heq := fun w => bnv T' z2 w
        have hg : ∀ w, (eqGuard .eql 20 (.tmp 3) (.tmp 4) .nilIface (.iface T' z2)).run Tryz.prog w = .ok () w := fun _ => by kernel_rfl
        clear br hq
        go_enter Tryz.func65, Tryz.ntmps65
        go_wp2
        go_ret
        exact ⟨.inl ⟨HZ.out, rfl⟩, Below.refl _ _⟩
    · rcases sb with rfl | ⟨T', z2, rfl⟩
      · have hq := bvn T z1 w
        rw [hq] at br
        obtain rfl : res = false := by injection br with h; injection h with h'; exact h'.symm
        have heq := fun w => bvn T z1 w
        have hg : ∀ w, (eqGuard .eql 20 (.tmp 3) (.tmp 4) (.iface T z1) .nilIface).run Tryz.prog w = .ok () w := fun _ => by kernel_rfl
        clear br hq
        go_enter Tryz.func65, Tryz.ntmps65
        go_wp2
        go_ret
        exact ⟨.inl ⟨HZ.out, rfl⟩, Below.refl _ _⟩
      · go_enter Tryz.func65, Tryz.ntmps65
        go_wp2
        go_ret
        exact ⟨.inl ⟨HZ.out, rfl⟩, Below.refl _ _⟩
  · rw [hr] at br
    simp only [Result.andThen_halt] at br
    have hz' : (eqT n m a b).2 ≠ 0 := by rw [hz]; decide
    have HZ := Lib.hid hz'
    clear hr hz hfa hz'
    rcases sa with rfl | ⟨T, z1, rfl⟩
    · rcases sb with rfl | ⟨T', z2, rfl⟩
      · rw [bnn] at br; cases br
      · rw [bnv] at br; cases br
    · rcases sb with rfl | ⟨T', z2, rfl⟩
      · rw [bvn] at br; cases br
      · go_enter Tryz.func65, Tryz.ntmps65
        go_wp2_with fail
        exact ⟨rfl, .inr ⟨HZ.out, _, _, Pn.one _ _⟩, Below.refl _ _⟩

/-- A truth as a number. -/
def bI (b : Bool) : Int := if b then 1 else 0

set_option maxRecDepth 100000 in
set_option maxHeartbeats 2000000 in
theorem compared_any (n m : Nat) (a : Tr n) (b : Tr m) (k i u : Int) (s : ByteArray) (ad : Option Addr) (len cap : Nat) (j i' v : Int) (z : ByteArray) (bd : Option Addr) (len' cap' : Nat) (res : Bool) (code : Int) (hE : eqT n m a b = (res, code)) (w : World) (hn : n ≤ 16) (ra : rgt n a = true) (rb : rgt m b = true) (pa : (pts n a).1 ≤ 4096) (pb : (pts m b).1 ≤ 4096) (ha : Rep w n [.int .i64 k, .int .i64 i, .int .u64 u, .string s, .slice ad len cap] a) (hb : Rep w m [.int .i64 j, .int .i64 i', .int .u64 v, .string z, .slice bd len' cap'] b) :
    Calls Tryz.prog 44 #[.agg #[.int .i64 k, .int .i64 i, .int .u64 u, .string s, .slice ad len cap], .agg #[.int .i64 j, .int .i64 i', .int .u64 v, .string z, .slice bd len' cap']] w fun e w' => ((code = 0 ∧ e = .returned (.agg #[.int .i64 6, .int .i64 (bI res), .int .u64 0, .string ⟨#[]⟩, .slice none 0 0])) ∨ (code ≠ 0 ∧ Pn 88 (.agg #[]) e)) ∧ Below w.heap.size w w' := by
  have hmf : ∀ (fn : Fn) (first cap : Array Value) (w : World), (Instr.makeFunc fn first cap).run Tryz.prog w = .ok (.func fn first cap) w := fun _ _ _ _ => rfl
  have b0 : ∀ o1 o2 o3 : Obj, Below w.heap.size w (((w.alloc o1).alloc o2).alloc o3) := fun o1 o2 o3 => (((Below.refl _ w).alloc (Nat.le_refl _) _).alloc (by simp) _).alloc (by simp; omega) _
  have da : ∀ o2 o3 : Obj, D5 (((w.alloc (.cells #[.int .i64 k, .int .i64 i, .int .u64 u, .string s, .slice ad len cap] 25)).alloc o2).alloc o3) w.heap.size (.int .i64 k) (.int .i64 i) (.int .u64 u) (.string s) (.slice ad len cap) := fun o2 o3 =>
    ((D5.new w _ _ _ _ _).below (below1 _ o2)).below (below1 _ o3)
  have db : ∀ o1 o3 : Obj, D5 (((w.alloc o1).alloc (.cells #[.int .i64 j, .int .i64 i', .int .u64 v, .string z, .slice bd len' cap'] 25)).alloc o3) (w.heap.size + 1) (.int .i64 j) (.int .i64 i') (.int .u64 v) (.string z) (.slice bd len' cap') := fun o1 o3 => by
    have := D5.new (w.alloc o1) (.int .i64 j) (.int .i64 i') (.int .u64 v) (.string z) (.slice bd len' cap')
    rw [World.size_alloc] at this
    exact this.below (below1 _ o3)
  have dc : ∀ o1 o2 : Obj, D5 (((w.alloc o1).alloc o2).alloc (.cells #[.int .i64 0, .int .i64 0, .int .u64 0, .string ⟨#[]⟩, .slice none 0 0] 25)) (w.heap.size + 1 + 1) (.int .i64 0) (.int .i64 0) (.int .u64 0) (.string ⟨#[]⟩) (.slice none 0 0) := fun o1 o2 => by
    have := D5.new ((w.alloc o1).alloc o2) (.int .i64 0) (.int .i64 0) (.int .u64 0) (.string ⟨#[]⟩) (.slice none 0 0)
    rw [World.size_alloc, World.size_alloc] at this
    exact this
  have HE := Lib.hid hE
  clear hE
  have HV := Lib.hid (And.intro ra (And.intro rb (And.intro pa (And.intro pb (And.intro ha hb)))))
  clear ra rb pa pb ha hb
  go_enter Tryz.func44, Tryz.ntmps44
  go_wp2_with fail
  refine (sharing _).mono ?_
  rintro e w1 ⟨mk, rfl, b1, hmk, mp1⟩
  have hmk' : w.heap.size + 3 ≤ mk := by simp at hmk; omega
  have mpl := mp1.lt
  have bm := below1 w1 (.cells #[.map (some mk)] 107)
  have kq0 : Kq w mk w1.heap.size (.int .i64 k) (.int .i64 i) (.int .u64 u) (.string s) (.slice ad len cap) (.int .i64 j) (.int .i64 i') (.int .u64 v) (.string z) (.slice bd len' cap') [] (w1.alloc (.cells #[.map (some mk)] 107)) :=
    ⟨mp1.below bm, ⟨fun _ _ h => by simp at h, fun _ _ _ _ h => by simp at h⟩, ((b0 _ _ _).trans (b1.mono (by simp; omega))).trans (bm.mono (Nat.le_trans (by simp; omega) b1.size)), ((da _ _).below b1).below bm, ((db _ _).below b1).below bm, ((dc _ _).below b1).below bm, C1.new w1 107 _⟩
  have hMk : w1.heap.size ≠ mk := by omega
  clear da db dc b0 b1 bm mp1 hmk
  -- REGION
  obtain ⟨M, hM⟩ : ∃ M, w1.heap.size = M := ⟨_, rfl⟩
  have hM3 : w.heap.size + 3 ≤ M := by omega
  have hs0 : M < (w1.alloc (.cells #[.map (some mk)] 107)).heap.size := by simp; omega
  rw [hM] at kq0 hMk
  have KS : Hid (∀ (l' : List (Int × Nat)) (w' : World), Kq w mk M (.int .i64 k) (.int .i64 i) (.int .u64 u) (.string s) (.slice ad len cap) (.int .i64 j) (.int .i64 i') (.int .u64 v) (.string z) (.slice bd len' cap') l' w' → w'.cell? ⟨M, 0, none⟩ = some (.map (some mk)) ∧ (w'.cell? ⟨w.heap.size, 0, none⟩ = some (.int .i64 k) ∧ w'.cell? ⟨w.heap.size, 1, none⟩ = some (.int .i64 i) ∧ w'.cell? ⟨w.heap.size, 2, none⟩ = some (.int .u64 u) ∧ w'.cell? ⟨w.heap.size, 3, none⟩ = some (.string s) ∧ w'.cell? ⟨w.heap.size, 4, none⟩ = some (.slice ad len cap)) ∧ w'.cell? ⟨w.heap.size + 1, 0, none⟩ = some (.int .i64 j) ∧ w'.cell? ⟨w.heap.size + 1, 1, none⟩ = some (.int .i64 i') ∧ w'.cell? ⟨w.heap.size + 1, 2, none⟩ = some (.int .u64 v) ∧ w'.cell? ⟨w.heap.size + 1, 3, none⟩ = some (.string z) ∧ w'.cell? ⟨w.heap.size + 1, 4, none⟩ = some (.slice bd len' cap')) := fun l' w' h => ⟨h.e.c, h.p.c, h.q.c⟩
  have bkF : ∀ (l1 l2 : List (Int × Nat)) (wx w' : World), Kq w mk M (.int .i64 k) (.int .i64 i) (.int .u64 u) (.string s) (.slice ad len cap) (.int .i64 j) (.int .i64 i') (.int .u64 v) (.string z) (.slice bd len' cap') l1 wx → ShT wx w' mk l1 l2 → ∀ (N : Nat) (v : Value), Bk wx N #[v] 20 → Bk w' N #[v] 20 := fun l1 l2 wx w' h sh N v hN => by
    have hk : N ≠ mk := fun e => by
      subst e
      obtain ⟨es, cl, h1, -⟩ := h.m
      have := h1.symm.trans hN
      cases this
    exact (sh.2.2.2.block N hN.lt (fun e => hk (Option.some.inj e))).trans hN
  have KA : Hid (∀ (l1 : List (Int × Nat)) (wx : World), Kq w mk M (.int .i64 k) (.int .i64 i) (.int .u64 u) (.string s) (.slice ad len cap) (.int .i64 j) (.int .i64 i') (.int .u64 v) (.string z) (.slice bd len' cap') l1 wx → Calls Tryz.prog 63 #[.agg #[.map (some mk)], .agg #[.int .i64 k, .int .i64 i, .int .u64 u, .string s, .slice ad len cap]] wx fun e w' => ∃ v' l', e = .returned v' ∧ Sx v' ∧ Hid (VS l' n v' a) ∧ Hid (∀ x ∈ l1, x ∈ l') ∧ Kq w mk M (.int .i64 k) (.int .i64 i) (.int .u64 u) (.string s) (.slice ad len cap) (.int .i64 j) (.int .i64 i') (.int .u64 v) (.string z) (.slice bd len' cap') l' w' ∧ Hid (∀ (N : Nat) (v : Value), Bk wx N #[v] 20 → Bk w' N #[v] 20) ∧ wx.heap.size ≤ w'.heap.size) := fun l1 wx kx =>
    (value_sh w mk (by omega) n a _ _ _ _ _ l1 wx HV.out.1 HV.out.2.2.1 HV.out.2.2.2.2.1 kx.b kx.m kx.x).mono fun e w' ⟨v', l', he, vs, sh⟩ => ⟨v', l', he, vs_any vs, vs, sh.2.2.1, kx.step hmk' hMk sh, bkF l1 l' wx w' kx sh, sh.2.2.2.size⟩
  have KB : Hid (∀ (l1 : List (Int × Nat)) (wx : World), Kq w mk M (.int .i64 k) (.int .i64 i) (.int .u64 u) (.string s) (.slice ad len cap) (.int .i64 j) (.int .i64 i') (.int .u64 v) (.string z) (.slice bd len' cap') l1 wx → Calls Tryz.prog 63 #[.agg #[.map (some mk)], .agg #[.int .i64 j, .int .i64 i', .int .u64 v, .string z, .slice bd len' cap']] wx fun e w' => ∃ v' l', e = .returned v' ∧ Sx v' ∧ Hid (VS l' m v' b) ∧ Hid (∀ x ∈ l1, x ∈ l') ∧ Kq w mk M (.int .i64 k) (.int .i64 i) (.int .u64 u) (.string s) (.slice ad len cap) (.int .i64 j) (.int .i64 i') (.int .u64 v) (.string z) (.slice bd len' cap') l' w' ∧ Hid (∀ (N : Nat) (v : Value), Bk wx N #[v] 20 → Bk w' N #[v] 20) ∧ wx.heap.size ≤ w'.heap.size) := fun l1 wx kx =>
    (value_sh w mk (by omega) m b _ _ _ _ _ l1 wx HV.out.2.1 HV.out.2.2.2.1 HV.out.2.2.2.2.2 kx.b kx.m kx.x).mono fun e w' ⟨v', l', he, vs, sh⟩ => ⟨v', l', he, vs_any vs, vs, sh.2.2.1, kx.step hmk' hMk sh, bkF l1 l' wx w' kx sh, sh.2.2.2.size⟩
  clear bkF
  go_wp2_with fail
  generalize hwz : (w1.alloc (.cells #[.map (some mk)] 107)) = wz at *
  clear hwz hM
  go_cut [6, 7] from 9 (fun s6 s7 wc => ∃ (X Y : Nat) (va vb : Value) (l : List (Int × Nat)), s6 = .pointer (some ⟨X, 0, none⟩) ∧ s7 = .pointer (some ⟨Y, 0, none⟩) ∧ Sx va ∧ Sx vb ∧ VS l n va a ∧ VS l m vb b ∧ Bk wc X #[va] 20 ∧ Bk wc Y #[vb] 20 ∧ Kq w mk M (.int .i64 k) (.int .i64 i) (.int .u64 u) (.string s) (.slice ad len cap) (.int .i64 j) (.int .i64 i') (.int .u64 v) (.string z) (.slice bd len' cap') l wc ∧ w.heap.size + 3 ≤ wc.heap.size)
  case first =>
    refine wp_region_held_drew (S := fun w' => w'.cell? ⟨M, 0, none⟩ = some (.map (some mk)) ∧ (w'.cell? ⟨w.heap.size, 0, none⟩ = some (.int .i64 k) ∧ w'.cell? ⟨w.heap.size, 1, none⟩ = some (.int .i64 i) ∧ w'.cell? ⟨w.heap.size, 2, none⟩ = some (.int .u64 u) ∧ w'.cell? ⟨w.heap.size, 3, none⟩ = some (.string s) ∧ w'.cell? ⟨w.heap.size, 4, none⟩ = some (.slice ad len cap)) ∧ w'.cell? ⟨w.heap.size + 1, 0, none⟩ = some (.int .i64 j) ∧ w'.cell? ⟨w.heap.size + 1, 1, none⟩ = some (.int .i64 i') ∧ w'.cell? ⟨w.heap.size + 1, 2, none⟩ = some (.int .u64 v) ∧ w'.cell? ⟨w.heap.size + 1, 3, none⟩ = some (.string z) ∧ w'.cell? ⟨w.heap.size + 1, 4, none⟩ = some (.slice bd len' cap')) (by kernel_rfl) (KS.out _ _ (kq0.keep (Below.drew (Below.refl _ _)))) (fun hHeld => ?_)
    have J0 := kq0.keep (Below.drew (Below.refl _ _))
    have hs1 : M < wz.drew.heap.size := hs0
    clear kq0
    generalize wz.drew = wd at *
    refine wpAnyH_take (i := 0) (oi := { dst := some 10, op := Op.load 107 (Operand.tmp 5), type := 107, pos := "acts.go:41", after := #[], guard := none }) (v := ?tG0) rfl (by kernel_rfl) (by kernel_rfl) (by kernel_rfl) (fun _ _ _ h => h) (Or.inl ⟨by rfl, ?uG0⟩) (by assumption) ?rG0
    case uG0 => (intro w hSw; (try dsimp only at hSw); go_simp; (try with_reducible rfl))
    simp only [Act.put, List.setIfInBounds_toArray, List.set_cons_zero, List.set_cons_succ]
    refine wpAnyH_take (i := 1) (oi := { dst := some 11, op := Op.load 25 (Operand.tmp 2), type := 25, pos := "acts.go:41", after := #[], guard := none }) (v := ?tG1) rfl (by kernel_rfl) (by kernel_rfl) (by kernel_rfl) (fun _ _ _ h => h) (Or.inl ⟨by rfl, ?uG1⟩) (by assumption) ?rG1
    case uG1 => (intro w hSw; (try dsimp only at hSw); go_simp; (try with_reducible rfl))
    simp only [Act.put, List.setIfInBounds_toArray, List.set_cons_zero, List.set_cons_succ]
    refine wpAnyH_take (i := 3) (oi := { dst := some 13, op := Op.load 107 (Operand.tmp 5), type := 107, pos := "acts.go:41", after := #[], guard := none }) (v := ?tG3) rfl (by kernel_rfl) (by kernel_rfl) (by kernel_rfl) (fun _ _ _ h => h) (Or.inl ⟨by rfl, ?uG3⟩) (by assumption) ?rG3
    case uG3 => (intro w hSw; (try dsimp only at hSw); go_simp; (try with_reducible rfl))
    simp only [Act.put, List.setIfInBounds_toArray, List.set_cons_zero, List.set_cons_succ]
    refine wpAnyH_take (i := 4) (oi := { dst := some 14, op := Op.load 25 (Operand.tmp 3), type := 25, pos := "acts.go:41", after := #[], guard := none }) (v := ?tG4) rfl (by kernel_rfl) (by kernel_rfl) (by kernel_rfl) (fun _ _ _ h => h) (Or.inl ⟨by rfl, ?uG4⟩) (by assumption) ?rG4
    case uG4 => (intro w hSw; (try dsimp only at hSw); go_simp; (try with_reducible rfl))
    simp only [Act.put, List.setIfInBounds_toArray, List.set_cons_zero, List.set_cons_succ]
    refine wpAnyH_ready (rs := [2, 6, 7]) (by kernel_rfl) (by simp) ?_
    refine AllReadyH.cons (o := { dst := some 12, op := Op.call { callee := Callee.value (Operand.func 63), args := #[Operand.tmp 10, Operand.tmp 11], argTypes := #[107, 25] }, type := 20, pos := "acts.go:41", after := #[{ on := 0, ground := Ground.data }, { on := 1, ground := Ground.data }], guard := none }) rfl (fun K hK => ?_) (AllReadyH.cons (o := { dst := some 6, op := Op.alloc 20, type := 0, pos := "acts.go:41", after := #[], guard := none }) rfl (fun K hK => ?_) (AllReadyH.cons (o := { dst := some 7, op := Op.alloc 20, type := 0, pos := "acts.go:41", after := #[], guard := none }) rfl (fun K hK => ?_) (AllReadyH.nil)))
    · go_simp
      refine (KA.out _ _ J0).mono ?_
      rintro e wy1 ⟨va, ly1, rfl, sva, Vva, m1, Jy1, F1, z1⟩
      have hs1 : M < wy1.heap.size := by omega
      go_wp2_with fail
      refine hK.out _ _ (KS.out _ _ Jy1) (fun hH1 => ?_)
      clear hK K
      (try simp only [Act.put, List.setIfInBounds_toArray, List.set_cons_zero, List.set_cons_succ])
      refine wpAnyH_ready (rs := [5, 6, 7]) (by kernel_rfl) (by simp) ?_
      refine AllReadyH.cons (o := { dst := some 15, op := Op.call { callee := Callee.value (Operand.func 63), args := #[Operand.tmp 13, Operand.tmp 14], argTypes := #[107, 25] }, type := 20, pos := "acts.go:41", after := #[{ on := 3, ground := Ground.data }, { on := 4, ground := Ground.data }, { on := 2, ground := Ground.chain }], guard := none }) rfl (fun K hK => ?_) (AllReadyH.cons (o := { dst := some 6, op := Op.alloc 20, type := 0, pos := "acts.go:41", after := #[], guard := none }) rfl (fun K hK => ?_) (AllReadyH.cons (o := { dst := some 7, op := Op.alloc 20, type := 0, pos := "acts.go:41", after := #[], guard := none }) rfl (fun K hK => ?_) (AllReadyH.nil)))
      · go_simp
        refine (KB.out _ _ Jy1).mono ?_
        rintro e wy2 ⟨vb, ly2, rfl, svb, Vvb, m2, Jy2, F2, z2⟩
        have hs2 : M < wy2.heap.size := by omega
        go_wp2_with fail
        refine hK.out _ _ (KS.out _ _ Jy2) (fun hH2 => ?_)
        clear hK K
        (try simp only [Act.put, List.setIfInBounds_toArray, List.set_cons_zero, List.set_cons_succ])
        refine wpAnyH_ready (rs := [6, 7]) (by kernel_rfl) (by simp) ?_
        refine AllReadyH.cons (o := { dst := some 6, op := Op.alloc 20, type := 0, pos := "acts.go:41", after := #[], guard := none }) rfl (fun K hK => ?_) (AllReadyH.cons (o := { dst := some 7, op := Op.alloc 20, type := 0, pos := "acts.go:41", after := #[], guard := none }) rfl (fun K hK => ?_) (AllReadyH.nil))
        · go_simp
          have e3 := below1 (wy2) (.cells #[.nilIface] 20)
          have bX3 := Bk.new (wy2) #[.nilIface] 20
          have J3 := Jy2.keep e3
          have hs3 : M < ((wy2).alloc (.cells #[.nilIface] 20)).heap.size := Nat.lt_of_lt_of_le hs2 e3.size
          have q3 := hs2
          clear e3
          generalize hN3 : (wy2).heap.size = N3 at *
          generalize hW3 : (wy2).alloc (.cells #[.nilIface] 20) = wv3 at *
          refine hK.out _ _ (KS.out _ _ J3) (fun hH3 => ?_)
          clear hK K
          (try simp only [Act.put, List.setIfInBounds_toArray, List.set_cons_zero, List.set_cons_succ])
          refine wpAnyH_ready (rs := [7]) (by kernel_rfl) (by simp) ?_
          refine AllReadyH.cons (o := { dst := some 7, op := Op.alloc 20, type := 0, pos := "acts.go:41", after := #[], guard := none }) rfl (fun K hK => ?_) (AllReadyH.nil)
          go_simp
          have e4 := below1 (wv3) (.cells #[.nilIface] 20)
          have bY4 := Bk.new (wv3) #[.nilIface] 20
          have J4 := J3.keep e4
          have bX4 := bX3.step e4
          have hs4 : M < ((wv3).alloc (.cells #[.nilIface] 20)).heap.size := Nat.lt_of_lt_of_le hs3 e4.size
          have q4 := hs3
          have lt4 := bX3.lt
          clear e4
          generalize hN4 : (wv3).heap.size = N4 at *
          generalize hW4 : (wv3).alloc (.cells #[.nilIface] 20) = wv4 at *
          refine hK.out _ _ (KS.out _ _ J4) (fun hH4 => ?_)
          clear hK K
          (try simp only [Act.put, List.setIfInBounds_toArray, List.set_cons_zero, List.set_cons_succ])
          have nXY : N3 ≠ N4 := by omega
          have VA9 := Lib.hid (vs_mono m2.out n _ _ Vva.out)
          have VB9 := Vvb
          have MX : M ≠ N3 := by omega
          have MY : M ≠ N4 := by omega
          have LX : w.heap.size + 3 ≤ N3 := by omega
          have LY : w.heap.size + 3 ≤ N4 := by omega
          have cX := bX4.c 0
          have fX := bX4.f 0
          have cY := bY4.c 0
          have fY := bY4.f 0
          have hsW : w.heap.size + 3 ≤ wv4.heap.size := by omega
          have sva9 := Lib.hid sva
          have svb9 := Lib.hid svb
          rcases sva with rfl | ⟨Ta, za, rfl⟩
          · rcases svb with rfl | ⟨Tb, zb, rfl⟩
            · refine wpAnyH_ready (rs := [8]) (by kernel_rfl) (by simp) ?_
              refine AllReadyH.cons (o := { dst := none, op := Op.store 20 (Operand.tmp 6) (Operand.tmp 12), type := 0, pos := "acts.go:41", after := #[{ on := 6, ground := Ground.data }, { on := 2, ground := Ground.data }, { on := 5, ground := Ground.chain }, { on := 0, ground := Ground.phase }, { on := 1, ground := Ground.phase }, { on := 2, ground := Ground.phase }, { on := 3, ground := Ground.textOnly Departure.lateStores }, { on := 4, ground := Ground.textOnly Departure.lateStores }, { on := 5, ground := Ground.textOnly Departure.lateStoresUnsure }, { on := 6, ground := Ground.phase }, { on := 7, ground := Ground.phase }], guard := none }) rfl (fun K hK => ?_) AllReadyH.nil
              go_simp
              have J8 := J4.cell bX4 LX MX (.nilIface)
              have X8 : Bk _ N3 #[.nilIface] 20 := bX4.set 0 (.nilIface)
              have Y8 := bY4.other ⟨N3, 0, none⟩ (.nilIface) (by show N4 ≠ N3; omega)
              have z8 : w.heap.size + 3 ≤ (wv4.setCell ⟨N3, 0, none⟩ (.nilIface)).heap.size := by simpa using hsW
              clear cX fX cY fY
              generalize wv4.setCell ⟨N3, 0, none⟩ (.nilIface) = w8 at *
              refine hK.out _ _ (KS.out _ _ J8) (fun hH8 => ?_)
              clear hK K
              (try simp only [Act.put, List.setIfInBounds_toArray, List.set_cons_zero, List.set_cons_succ])
              have cY := Y8.c 0
              have fY := Y8.f 0
              refine wpAnyH_ready (rs := [9]) (by kernel_rfl) (by simp) ?_
              refine AllReadyH.cons (o := { dst := none, op := Op.store 20 (Operand.tmp 7) (Operand.tmp 15), type := 0, pos := "acts.go:41", after := #[{ on := 7, ground := Ground.data }, { on := 5, ground := Ground.data }, { on := 8, ground := Ground.chain }, { on := 0, ground := Ground.phase }, { on := 1, ground := Ground.phase }, { on := 2, ground := Ground.phase }, { on := 3, ground := Ground.phase }, { on := 4, ground := Ground.phase }, { on := 5, ground := Ground.phase }, { on := 6, ground := Ground.phase }, { on := 7, ground := Ground.phase }, { on := 8, ground := Ground.phase }], guard := none }) rfl (fun K hK => ?_) AllReadyH.nil
              go_simp
              have J9 := J8.cell Y8 LY MY (.nilIface)
              have Y9 : Bk _ N4 #[.nilIface] 20 := Y8.set 0 (.nilIface)
              have X9 := X8.other ⟨N4, 0, none⟩ (.nilIface) (by show N3 ≠ N4; omega)
              have z9 : w.heap.size + 3 ≤ (w8.setCell ⟨N4, 0, none⟩ (.nilIface)).heap.size := by simpa using z8
              clear cY fY
              generalize w8.setCell ⟨N4, 0, none⟩ (.nilIface) = w9 at *
              refine hK.out _ _ (KS.out _ _ J9) (fun hH9 => ?_)
              clear hK K
              (try simp only [Act.put, List.setIfInBounds_toArray, List.set_cons_zero, List.set_cons_succ])
              refine wpAnyH_done (by kernel_rfl) ?_ _
              go_wp2_with fail
              go_meet
              exact ⟨_, _, _, _, _, rfl, rfl, sva9.out, svb9.out, VA9.out, VB9.out, X9, Y9, J9, z9⟩
            · refine wpAnyH_ready (rs := [8]) (by kernel_rfl) (by simp) ?_
              refine AllReadyH.cons (o := { dst := none, op := Op.store 20 (Operand.tmp 6) (Operand.tmp 12), type := 0, pos := "acts.go:41", after := #[{ on := 6, ground := Ground.data }, { on := 2, ground := Ground.data }, { on := 5, ground := Ground.chain }, { on := 0, ground := Ground.phase }, { on := 1, ground := Ground.phase }, { on := 2, ground := Ground.phase }, { on := 3, ground := Ground.textOnly Departure.lateStores }, { on := 4, ground := Ground.textOnly Departure.lateStores }, { on := 5, ground := Ground.textOnly Departure.lateStoresUnsure }, { on := 6, ground := Ground.phase }, { on := 7, ground := Ground.phase }], guard := none }) rfl (fun K hK => ?_) AllReadyH.nil
              go_simp
              have J8 := J4.cell bX4 LX MX (.nilIface)
              have X8 : Bk _ N3 #[.nilIface] 20 := bX4.set 0 (.nilIface)
              have Y8 := bY4.other ⟨N3, 0, none⟩ (.nilIface) (by show N4 ≠ N3; omega)
              have z8 : w.heap.size + 3 ≤ (wv4.setCell ⟨N3, 0, none⟩ (.nilIface)).heap.size := by simpa using hsW
              clear cX fX cY fY
              generalize wv4.setCell ⟨N3, 0, none⟩ (.nilIface) = w8 at *
              refine hK.out _ _ (KS.out _ _ J8) (fun hH8 => ?_)
              clear hK K
              (try simp only [Act.put, List.setIfInBounds_toArray, List.set_cons_zero, List.set_cons_succ])
              have cY := Y8.c 0
              have fY := Y8.f 0
              refine wpAnyH_ready (rs := [9]) (by kernel_rfl) (by simp) ?_
              refine AllReadyH.cons (o := { dst := none, op := Op.store 20 (Operand.tmp 7) (Operand.tmp 15), type := 0, pos := "acts.go:41", after := #[{ on := 7, ground := Ground.data }, { on := 5, ground := Ground.data }, { on := 8, ground := Ground.chain }, { on := 0, ground := Ground.phase }, { on := 1, ground := Ground.phase }, { on := 2, ground := Ground.phase }, { on := 3, ground := Ground.phase }, { on := 4, ground := Ground.phase }, { on := 5, ground := Ground.phase }, { on := 6, ground := Ground.phase }, { on := 7, ground := Ground.phase }, { on := 8, ground := Ground.phase }], guard := none }) rfl (fun K hK => ?_) AllReadyH.nil
              go_simp
              have J9 := J8.cell Y8 LY MY (.iface Tb zb)
              have Y9 : Bk _ N4 #[.iface Tb zb] 20 := Y8.set 0 (.iface Tb zb)
              have X9 := X8.other ⟨N4, 0, none⟩ (.iface Tb zb) (by show N3 ≠ N4; omega)
              have z9 : w.heap.size + 3 ≤ (w8.setCell ⟨N4, 0, none⟩ (.iface Tb zb)).heap.size := by simpa using z8
              clear cY fY
              generalize w8.setCell ⟨N4, 0, none⟩ (.iface Tb zb) = w9 at *
              refine hK.out _ _ (KS.out _ _ J9) (fun hH9 => ?_)
              clear hK K
              (try simp only [Act.put, List.setIfInBounds_toArray, List.set_cons_zero, List.set_cons_succ])
              refine wpAnyH_done (by kernel_rfl) ?_ _
              go_wp2_with fail
              go_meet
              exact ⟨_, _, _, _, _, rfl, rfl, sva9.out, svb9.out, VA9.out, VB9.out, X9, Y9, J9, z9⟩
          · rcases svb with rfl | ⟨Tb, zb, rfl⟩
            · refine wpAnyH_ready (rs := [8]) (by kernel_rfl) (by simp) ?_
              refine AllReadyH.cons (o := { dst := none, op := Op.store 20 (Operand.tmp 6) (Operand.tmp 12), type := 0, pos := "acts.go:41", after := #[{ on := 6, ground := Ground.data }, { on := 2, ground := Ground.data }, { on := 5, ground := Ground.chain }, { on := 0, ground := Ground.phase }, { on := 1, ground := Ground.phase }, { on := 2, ground := Ground.phase }, { on := 3, ground := Ground.textOnly Departure.lateStores }, { on := 4, ground := Ground.textOnly Departure.lateStores }, { on := 5, ground := Ground.textOnly Departure.lateStoresUnsure }, { on := 6, ground := Ground.phase }, { on := 7, ground := Ground.phase }], guard := none }) rfl (fun K hK => ?_) AllReadyH.nil
              go_simp
              have J8 := J4.cell bX4 LX MX (.iface Ta za)
              have X8 : Bk _ N3 #[.iface Ta za] 20 := bX4.set 0 (.iface Ta za)
              have Y8 := bY4.other ⟨N3, 0, none⟩ (.iface Ta za) (by show N4 ≠ N3; omega)
              have z8 : w.heap.size + 3 ≤ (wv4.setCell ⟨N3, 0, none⟩ (.iface Ta za)).heap.size := by simpa using hsW
              clear cX fX cY fY
              generalize wv4.setCell ⟨N3, 0, none⟩ (.iface Ta za) = w8 at *
              refine hK.out _ _ (KS.out _ _ J8) (fun hH8 => ?_)
              clear hK K
              (try simp only [Act.put, List.setIfInBounds_toArray, List.set_cons_zero, List.set_cons_succ])
              have cY := Y8.c 0
              have fY := Y8.f 0
              refine wpAnyH_ready (rs := [9]) (by kernel_rfl) (by simp) ?_
              refine AllReadyH.cons (o := { dst := none, op := Op.store 20 (Operand.tmp 7) (Operand.tmp 15), type := 0, pos := "acts.go:41", after := #[{ on := 7, ground := Ground.data }, { on := 5, ground := Ground.data }, { on := 8, ground := Ground.chain }, { on := 0, ground := Ground.phase }, { on := 1, ground := Ground.phase }, { on := 2, ground := Ground.phase }, { on := 3, ground := Ground.phase }, { on := 4, ground := Ground.phase }, { on := 5, ground := Ground.phase }, { on := 6, ground := Ground.phase }, { on := 7, ground := Ground.phase }, { on := 8, ground := Ground.phase }], guard := none }) rfl (fun K hK => ?_) AllReadyH.nil
              go_simp
              have J9 := J8.cell Y8 LY MY (.nilIface)
              have Y9 : Bk _ N4 #[.nilIface] 20 := Y8.set 0 (.nilIface)
              have X9 := X8.other ⟨N4, 0, none⟩ (.nilIface) (by show N3 ≠ N4; omega)
              have z9 : w.heap.size + 3 ≤ (w8.setCell ⟨N4, 0, none⟩ (.nilIface)).heap.size := by simpa using z8
              clear cY fY
              generalize w8.setCell ⟨N4, 0, none⟩ (.nilIface) = w9 at *
              refine hK.out _ _ (KS.out _ _ J9) (fun hH9 => ?_)
              clear hK K
              (try simp only [Act.put, List.setIfInBounds_toArray, List.set_cons_zero, List.set_cons_succ])
              refine wpAnyH_done (by kernel_rfl) ?_ _
              go_wp2_with fail
              go_meet
              exact ⟨_, _, _, _, _, rfl, rfl, sva9.out, svb9.out, VA9.out, VB9.out, X9, Y9, J9, z9⟩
            · refine wpAnyH_ready (rs := [8]) (by kernel_rfl) (by simp) ?_
              refine AllReadyH.cons (o := { dst := none, op := Op.store 20 (Operand.tmp 6) (Operand.tmp 12), type := 0, pos := "acts.go:41", after := #[{ on := 6, ground := Ground.data }, { on := 2, ground := Ground.data }, { on := 5, ground := Ground.chain }, { on := 0, ground := Ground.phase }, { on := 1, ground := Ground.phase }, { on := 2, ground := Ground.phase }, { on := 3, ground := Ground.textOnly Departure.lateStores }, { on := 4, ground := Ground.textOnly Departure.lateStores }, { on := 5, ground := Ground.textOnly Departure.lateStoresUnsure }, { on := 6, ground := Ground.phase }, { on := 7, ground := Ground.phase }], guard := none }) rfl (fun K hK => ?_) AllReadyH.nil
              go_simp
              have J8 := J4.cell bX4 LX MX (.iface Ta za)
              have X8 : Bk _ N3 #[.iface Ta za] 20 := bX4.set 0 (.iface Ta za)
              have Y8 := bY4.other ⟨N3, 0, none⟩ (.iface Ta za) (by show N4 ≠ N3; omega)
              have z8 : w.heap.size + 3 ≤ (wv4.setCell ⟨N3, 0, none⟩ (.iface Ta za)).heap.size := by simpa using hsW
              clear cX fX cY fY
              generalize wv4.setCell ⟨N3, 0, none⟩ (.iface Ta za) = w8 at *
              refine hK.out _ _ (KS.out _ _ J8) (fun hH8 => ?_)
              clear hK K
              (try simp only [Act.put, List.setIfInBounds_toArray, List.set_cons_zero, List.set_cons_succ])
              have cY := Y8.c 0
              have fY := Y8.f 0
              refine wpAnyH_ready (rs := [9]) (by kernel_rfl) (by simp) ?_
              refine AllReadyH.cons (o := { dst := none, op := Op.store 20 (Operand.tmp 7) (Operand.tmp 15), type := 0, pos := "acts.go:41", after := #[{ on := 7, ground := Ground.data }, { on := 5, ground := Ground.data }, { on := 8, ground := Ground.chain }, { on := 0, ground := Ground.phase }, { on := 1, ground := Ground.phase }, { on := 2, ground := Ground.phase }, { on := 3, ground := Ground.phase }, { on := 4, ground := Ground.phase }, { on := 5, ground := Ground.phase }, { on := 6, ground := Ground.phase }, { on := 7, ground := Ground.phase }, { on := 8, ground := Ground.phase }], guard := none }) rfl (fun K hK => ?_) AllReadyH.nil
              go_simp
              have J9 := J8.cell Y8 LY MY (.iface Tb zb)
              have Y9 : Bk _ N4 #[.iface Tb zb] 20 := Y8.set 0 (.iface Tb zb)
              have X9 := X8.other ⟨N4, 0, none⟩ (.iface Tb zb) (by show N3 ≠ N4; omega)
              have z9 : w.heap.size + 3 ≤ (w8.setCell ⟨N4, 0, none⟩ (.iface Tb zb)).heap.size := by simpa using z8
              clear cY fY
              generalize w8.setCell ⟨N4, 0, none⟩ (.iface Tb zb) = w9 at *
              refine hK.out _ _ (KS.out _ _ J9) (fun hH9 => ?_)
              clear hK K
              (try simp only [Act.put, List.setIfInBounds_toArray, List.set_cons_zero, List.set_cons_succ])
              refine wpAnyH_done (by kernel_rfl) ?_ _
              go_wp2_with fail
              go_meet
              exact ⟨_, _, _, _, _, rfl, rfl, sva9.out, svb9.out, VA9.out, VB9.out, X9, Y9, J9, z9⟩
        · go_simp
          have e5 := below1 (wy2) (.cells #[.nilIface] 20)
          have bY5 := Bk.new (wy2) #[.nilIface] 20
          have J5 := Jy2.keep e5
          have hs5 : M < ((wy2).alloc (.cells #[.nilIface] 20)).heap.size := Nat.lt_of_lt_of_le hs2 e5.size
          have q5 := hs2
          clear e5
          generalize hN5 : (wy2).heap.size = N5 at *
          generalize hW5 : (wy2).alloc (.cells #[.nilIface] 20) = wv5 at *
          refine hK.out _ _ (KS.out _ _ J5) (fun hH5 => ?_)
          clear hK K
          (try simp only [Act.put, List.setIfInBounds_toArray, List.set_cons_zero, List.set_cons_succ])
          refine wpAnyH_ready (rs := [6]) (by kernel_rfl) (by simp) ?_
          refine AllReadyH.cons (o := { dst := some 6, op := Op.alloc 20, type := 0, pos := "acts.go:41", after := #[], guard := none }) rfl (fun K hK => ?_) (AllReadyH.nil)
          go_simp
          have e6 := below1 (wv5) (.cells #[.nilIface] 20)
          have bX6 := Bk.new (wv5) #[.nilIface] 20
          have J6 := J5.keep e6
          have bY6 := bY5.step e6
          have hs6 : M < ((wv5).alloc (.cells #[.nilIface] 20)).heap.size := Nat.lt_of_lt_of_le hs5 e6.size
          have q6 := hs5
          have lt6 := bY5.lt
          clear e6
          generalize hN6 : (wv5).heap.size = N6 at *
          generalize hW6 : (wv5).alloc (.cells #[.nilIface] 20) = wv6 at *
          refine hK.out _ _ (KS.out _ _ J6) (fun hH6 => ?_)
          clear hK K
          (try simp only [Act.put, List.setIfInBounds_toArray, List.set_cons_zero, List.set_cons_succ])
          have nXY : N6 ≠ N5 := by omega
          have VA9 := Lib.hid (vs_mono m2.out n _ _ Vva.out)
          have VB9 := Vvb
          have MX : M ≠ N6 := by omega
          have MY : M ≠ N5 := by omega
          have LX : w.heap.size + 3 ≤ N6 := by omega
          have LY : w.heap.size + 3 ≤ N5 := by omega
          have cX := bX6.c 0
          have fX := bX6.f 0
          have cY := bY6.c 0
          have fY := bY6.f 0
          have hsW : w.heap.size + 3 ≤ wv6.heap.size := by omega
          have sva9 := Lib.hid sva
          have svb9 := Lib.hid svb
          rcases sva with rfl | ⟨Ta, za, rfl⟩
          · rcases svb with rfl | ⟨Tb, zb, rfl⟩
            · refine wpAnyH_ready (rs := [8]) (by kernel_rfl) (by simp) ?_
              refine AllReadyH.cons (o := { dst := none, op := Op.store 20 (Operand.tmp 6) (Operand.tmp 12), type := 0, pos := "acts.go:41", after := #[{ on := 6, ground := Ground.data }, { on := 2, ground := Ground.data }, { on := 5, ground := Ground.chain }, { on := 0, ground := Ground.phase }, { on := 1, ground := Ground.phase }, { on := 2, ground := Ground.phase }, { on := 3, ground := Ground.textOnly Departure.lateStores }, { on := 4, ground := Ground.textOnly Departure.lateStores }, { on := 5, ground := Ground.textOnly Departure.lateStoresUnsure }, { on := 6, ground := Ground.phase }, { on := 7, ground := Ground.phase }], guard := none }) rfl (fun K hK => ?_) AllReadyH.nil
              go_simp
              have J8 := J6.cell bX6 LX MX (.nilIface)
              have X8 : Bk _ N6 #[.nilIface] 20 := bX6.set 0 (.nilIface)
              have Y8 := bY6.other ⟨N6, 0, none⟩ (.nilIface) (by show N5 ≠ N6; omega)
              have z8 : w.heap.size + 3 ≤ (wv6.setCell ⟨N6, 0, none⟩ (.nilIface)).heap.size := by simpa using hsW
              clear cX fX cY fY
              generalize wv6.setCell ⟨N6, 0, none⟩ (.nilIface) = w8 at *
              refine hK.out _ _ (KS.out _ _ J8) (fun hH8 => ?_)
              clear hK K
              (try simp only [Act.put, List.setIfInBounds_toArray, List.set_cons_zero, List.set_cons_succ])
              have cY := Y8.c 0
              have fY := Y8.f 0
              refine wpAnyH_ready (rs := [9]) (by kernel_rfl) (by simp) ?_
              refine AllReadyH.cons (o := { dst := none, op := Op.store 20 (Operand.tmp 7) (Operand.tmp 15), type := 0, pos := "acts.go:41", after := #[{ on := 7, ground := Ground.data }, { on := 5, ground := Ground.data }, { on := 8, ground := Ground.chain }, { on := 0, ground := Ground.phase }, { on := 1, ground := Ground.phase }, { on := 2, ground := Ground.phase }, { on := 3, ground := Ground.phase }, { on := 4, ground := Ground.phase }, { on := 5, ground := Ground.phase }, { on := 6, ground := Ground.phase }, { on := 7, ground := Ground.phase }, { on := 8, ground := Ground.phase }], guard := none }) rfl (fun K hK => ?_) AllReadyH.nil
              go_simp
              have J9 := J8.cell Y8 LY MY (.nilIface)
              have Y9 : Bk _ N5 #[.nilIface] 20 := Y8.set 0 (.nilIface)
              have X9 := X8.other ⟨N5, 0, none⟩ (.nilIface) (by show N6 ≠ N5; omega)
              have z9 : w.heap.size + 3 ≤ (w8.setCell ⟨N5, 0, none⟩ (.nilIface)).heap.size := by simpa using z8
              clear cY fY
              generalize w8.setCell ⟨N5, 0, none⟩ (.nilIface) = w9 at *
              refine hK.out _ _ (KS.out _ _ J9) (fun hH9 => ?_)
              clear hK K
              (try simp only [Act.put, List.setIfInBounds_toArray, List.set_cons_zero, List.set_cons_succ])
              refine wpAnyH_done (by kernel_rfl) ?_ _
              go_wp2_with fail
              go_meet
              exact ⟨_, _, _, _, _, rfl, rfl, sva9.out, svb9.out, VA9.out, VB9.out, X9, Y9, J9, z9⟩
            · refine wpAnyH_ready (rs := [8]) (by kernel_rfl) (by simp) ?_
              refine AllReadyH.cons (o := { dst := none, op := Op.store 20 (Operand.tmp 6) (Operand.tmp 12), type := 0, pos := "acts.go:41", after := #[{ on := 6, ground := Ground.data }, { on := 2, ground := Ground.data }, { on := 5, ground := Ground.chain }, { on := 0, ground := Ground.phase }, { on := 1, ground := Ground.phase }, { on := 2, ground := Ground.phase }, { on := 3, ground := Ground.textOnly Departure.lateStores }, { on := 4, ground := Ground.textOnly Departure.lateStores }, { on := 5, ground := Ground.textOnly Departure.lateStoresUnsure }, { on := 6, ground := Ground.phase }, { on := 7, ground := Ground.phase }], guard := none }) rfl (fun K hK => ?_) AllReadyH.nil
              go_simp
              have J8 := J6.cell bX6 LX MX (.nilIface)
              have X8 : Bk _ N6 #[.nilIface] 20 := bX6.set 0 (.nilIface)
              have Y8 := bY6.other ⟨N6, 0, none⟩ (.nilIface) (by show N5 ≠ N6; omega)
              have z8 : w.heap.size + 3 ≤ (wv6.setCell ⟨N6, 0, none⟩ (.nilIface)).heap.size := by simpa using hsW
              clear cX fX cY fY
              generalize wv6.setCell ⟨N6, 0, none⟩ (.nilIface) = w8 at *
              refine hK.out _ _ (KS.out _ _ J8) (fun hH8 => ?_)
              clear hK K
              (try simp only [Act.put, List.setIfInBounds_toArray, List.set_cons_zero, List.set_cons_succ])
              have cY := Y8.c 0
              have fY := Y8.f 0
              refine wpAnyH_ready (rs := [9]) (by kernel_rfl) (by simp) ?_
              refine AllReadyH.cons (o := { dst := none, op := Op.store 20 (Operand.tmp 7) (Operand.tmp 15), type := 0, pos := "acts.go:41", after := #[{ on := 7, ground := Ground.data }, { on := 5, ground := Ground.data }, { on := 8, ground := Ground.chain }, { on := 0, ground := Ground.phase }, { on := 1, ground := Ground.phase }, { on := 2, ground := Ground.phase }, { on := 3, ground := Ground.phase }, { on := 4, ground := Ground.phase }, { on := 5, ground := Ground.phase }, { on := 6, ground := Ground.phase }, { on := 7, ground := Ground.phase }, { on := 8, ground := Ground.phase }], guard := none }) rfl (fun K hK => ?_) AllReadyH.nil
              go_simp
              have J9 := J8.cell Y8 LY MY (.iface Tb zb)
              have Y9 : Bk _ N5 #[.iface Tb zb] 20 := Y8.set 0 (.iface Tb zb)
              have X9 := X8.other ⟨N5, 0, none⟩ (.iface Tb zb) (by show N6 ≠ N5; omega)
              have z9 : w.heap.size + 3 ≤ (w8.setCell ⟨N5, 0, none⟩ (.iface Tb zb)).heap.size := by simpa using z8
              clear cY fY
              generalize w8.setCell ⟨N5, 0, none⟩ (.iface Tb zb) = w9 at *
              refine hK.out _ _ (KS.out _ _ J9) (fun hH9 => ?_)
              clear hK K
              (try simp only [Act.put, List.setIfInBounds_toArray, List.set_cons_zero, List.set_cons_succ])
              refine wpAnyH_done (by kernel_rfl) ?_ _
              go_wp2_with fail
              go_meet
              exact ⟨_, _, _, _, _, rfl, rfl, sva9.out, svb9.out, VA9.out, VB9.out, X9, Y9, J9, z9⟩
          · rcases svb with rfl | ⟨Tb, zb, rfl⟩
            · refine wpAnyH_ready (rs := [8]) (by kernel_rfl) (by simp) ?_
              refine AllReadyH.cons (o := { dst := none, op := Op.store 20 (Operand.tmp 6) (Operand.tmp 12), type := 0, pos := "acts.go:41", after := #[{ on := 6, ground := Ground.data }, { on := 2, ground := Ground.data }, { on := 5, ground := Ground.chain }, { on := 0, ground := Ground.phase }, { on := 1, ground := Ground.phase }, { on := 2, ground := Ground.phase }, { on := 3, ground := Ground.textOnly Departure.lateStores }, { on := 4, ground := Ground.textOnly Departure.lateStores }, { on := 5, ground := Ground.textOnly Departure.lateStoresUnsure }, { on := 6, ground := Ground.phase }, { on := 7, ground := Ground.phase }], guard := none }) rfl (fun K hK => ?_) AllReadyH.nil
              go_simp
              have J8 := J6.cell bX6 LX MX (.iface Ta za)
              have X8 : Bk _ N6 #[.iface Ta za] 20 := bX6.set 0 (.iface Ta za)
              have Y8 := bY6.other ⟨N6, 0, none⟩ (.iface Ta za) (by show N5 ≠ N6; omega)
              have z8 : w.heap.size + 3 ≤ (wv6.setCell ⟨N6, 0, none⟩ (.iface Ta za)).heap.size := by simpa using hsW
              clear cX fX cY fY
              generalize wv6.setCell ⟨N6, 0, none⟩ (.iface Ta za) = w8 at *
              refine hK.out _ _ (KS.out _ _ J8) (fun hH8 => ?_)
              clear hK K
              (try simp only [Act.put, List.setIfInBounds_toArray, List.set_cons_zero, List.set_cons_succ])
              have cY := Y8.c 0
              have fY := Y8.f 0
              refine wpAnyH_ready (rs := [9]) (by kernel_rfl) (by simp) ?_
              refine AllReadyH.cons (o := { dst := none, op := Op.store 20 (Operand.tmp 7) (Operand.tmp 15), type := 0, pos := "acts.go:41", after := #[{ on := 7, ground := Ground.data }, { on := 5, ground := Ground.data }, { on := 8, ground := Ground.chain }, { on := 0, ground := Ground.phase }, { on := 1, ground := Ground.phase }, { on := 2, ground := Ground.phase }, { on := 3, ground := Ground.phase }, { on := 4, ground := Ground.phase }, { on := 5, ground := Ground.phase }, { on := 6, ground := Ground.phase }, { on := 7, ground := Ground.phase }, { on := 8, ground := Ground.phase }], guard := none }) rfl (fun K hK => ?_) AllReadyH.nil
              go_simp
              have J9 := J8.cell Y8 LY MY (.nilIface)
              have Y9 : Bk _ N5 #[.nilIface] 20 := Y8.set 0 (.nilIface)
              have X9 := X8.other ⟨N5, 0, none⟩ (.nilIface) (by show N6 ≠ N5; omega)
              have z9 : w.heap.size + 3 ≤ (w8.setCell ⟨N5, 0, none⟩ (.nilIface)).heap.size := by simpa using z8
              clear cY fY
              generalize w8.setCell ⟨N5, 0, none⟩ (.nilIface) = w9 at *
              refine hK.out _ _ (KS.out _ _ J9) (fun hH9 => ?_)
              clear hK K
              (try simp only [Act.put, List.setIfInBounds_toArray, List.set_cons_zero, List.set_cons_succ])
              refine wpAnyH_done (by kernel_rfl) ?_ _
              go_wp2_with fail
              go_meet
              exact ⟨_, _, _, _, _, rfl, rfl, sva9.out, svb9.out, VA9.out, VB9.out, X9, Y9, J9, z9⟩
            · refine wpAnyH_ready (rs := [8]) (by kernel_rfl) (by simp) ?_
              refine AllReadyH.cons (o := { dst := none, op := Op.store 20 (Operand.tmp 6) (Operand.tmp 12), type := 0, pos := "acts.go:41", after := #[{ on := 6, ground := Ground.data }, { on := 2, ground := Ground.data }, { on := 5, ground := Ground.chain }, { on := 0, ground := Ground.phase }, { on := 1, ground := Ground.phase }, { on := 2, ground := Ground.phase }, { on := 3, ground := Ground.textOnly Departure.lateStores }, { on := 4, ground := Ground.textOnly Departure.lateStores }, { on := 5, ground := Ground.textOnly Departure.lateStoresUnsure }, { on := 6, ground := Ground.phase }, { on := 7, ground := Ground.phase }], guard := none }) rfl (fun K hK => ?_) AllReadyH.nil
              go_simp
              have J8 := J6.cell bX6 LX MX (.iface Ta za)
              have X8 : Bk _ N6 #[.iface Ta za] 20 := bX6.set 0 (.iface Ta za)
              have Y8 := bY6.other ⟨N6, 0, none⟩ (.iface Ta za) (by show N5 ≠ N6; omega)
              have z8 : w.heap.size + 3 ≤ (wv6.setCell ⟨N6, 0, none⟩ (.iface Ta za)).heap.size := by simpa using hsW
              clear cX fX cY fY
              generalize wv6.setCell ⟨N6, 0, none⟩ (.iface Ta za) = w8 at *
              refine hK.out _ _ (KS.out _ _ J8) (fun hH8 => ?_)
              clear hK K
              (try simp only [Act.put, List.setIfInBounds_toArray, List.set_cons_zero, List.set_cons_succ])
              have cY := Y8.c 0
              have fY := Y8.f 0
              refine wpAnyH_ready (rs := [9]) (by kernel_rfl) (by simp) ?_
              refine AllReadyH.cons (o := { dst := none, op := Op.store 20 (Operand.tmp 7) (Operand.tmp 15), type := 0, pos := "acts.go:41", after := #[{ on := 7, ground := Ground.data }, { on := 5, ground := Ground.data }, { on := 8, ground := Ground.chain }, { on := 0, ground := Ground.phase }, { on := 1, ground := Ground.phase }, { on := 2, ground := Ground.phase }, { on := 3, ground := Ground.phase }, { on := 4, ground := Ground.phase }, { on := 5, ground := Ground.phase }, { on := 6, ground := Ground.phase }, { on := 7, ground := Ground.phase }, { on := 8, ground := Ground.phase }], guard := none }) rfl (fun K hK => ?_) AllReadyH.nil
              go_simp
              have J9 := J8.cell Y8 LY MY (.iface Tb zb)
              have Y9 : Bk _ N5 #[.iface Tb zb] 20 := Y8.set 0 (.iface Tb zb)
              have X9 := X8.other ⟨N5, 0, none⟩ (.iface Tb zb) (by show N6 ≠ N5; omega)
              have z9 : w.heap.size + 3 ≤ (w8.setCell ⟨N5, 0, none⟩ (.iface Tb zb)).heap.size := by simpa using z8
              clear cY fY
              generalize w8.setCell ⟨N5, 0, none⟩ (.iface Tb zb) = w9 at *
              refine hK.out _ _ (KS.out _ _ J9) (fun hH9 => ?_)
              clear hK K
              (try simp only [Act.put, List.setIfInBounds_toArray, List.set_cons_zero, List.set_cons_succ])
              refine wpAnyH_done (by kernel_rfl) ?_ _
              go_wp2_with fail
              go_meet
              exact ⟨_, _, _, _, _, rfl, rfl, sva9.out, svb9.out, VA9.out, VB9.out, X9, Y9, J9, z9⟩
      · go_simp
        have e7 := below1 (wy1) (.cells #[.nilIface] 20)
        have bX7 := Bk.new (wy1) #[.nilIface] 20
        have J7 := Jy1.keep e7
        have hs7 : M < ((wy1).alloc (.cells #[.nilIface] 20)).heap.size := Nat.lt_of_lt_of_le hs1 e7.size
        have q7 := hs1
        clear e7
        generalize hN7 : (wy1).heap.size = N7 at *
        generalize hW7 : (wy1).alloc (.cells #[.nilIface] 20) = wv7 at *
        refine hK.out _ _ (KS.out _ _ J7) (fun hH7 => ?_)
        clear hK K
        (try simp only [Act.put, List.setIfInBounds_toArray, List.set_cons_zero, List.set_cons_succ])
        refine wpAnyH_ready (rs := [5, 7]) (by kernel_rfl) (by simp) ?_
        refine AllReadyH.cons (o := { dst := some 15, op := Op.call { callee := Callee.value (Operand.func 63), args := #[Operand.tmp 13, Operand.tmp 14], argTypes := #[107, 25] }, type := 20, pos := "acts.go:41", after := #[{ on := 3, ground := Ground.data }, { on := 4, ground := Ground.data }, { on := 2, ground := Ground.chain }], guard := none }) rfl (fun K hK => ?_) (AllReadyH.cons (o := { dst := some 7, op := Op.alloc 20, type := 0, pos := "acts.go:41", after := #[], guard := none }) rfl (fun K hK => ?_) (AllReadyH.nil))
        · go_simp
          refine (KB.out _ _ J7).mono ?_
          rintro e wy8 ⟨vb, ly8, rfl, svb, Vvb, m8, Jy8, F8, z8⟩
          have bX8 := F8.out _ _ bX7
          have hs8 : M < wy8.heap.size := by omega
          go_wp2_with fail
          refine hK.out _ _ (KS.out _ _ Jy8) (fun hH8 => ?_)
          clear hK K
          (try simp only [Act.put, List.setIfInBounds_toArray, List.set_cons_zero, List.set_cons_succ])
          refine wpAnyH_ready (rs := [7]) (by kernel_rfl) (by simp) ?_
          refine AllReadyH.cons (o := { dst := some 7, op := Op.alloc 20, type := 0, pos := "acts.go:41", after := #[], guard := none }) rfl (fun K hK => ?_) (AllReadyH.nil)
          go_simp
          have e9 := below1 (wy8) (.cells #[.nilIface] 20)
          have bY9 := Bk.new (wy8) #[.nilIface] 20
          have J9 := Jy8.keep e9
          have bX9 := bX8.step e9
          have hs9 : M < ((wy8).alloc (.cells #[.nilIface] 20)).heap.size := Nat.lt_of_lt_of_le hs8 e9.size
          have q9 := hs8
          have lt9 := bX8.lt
          clear e9
          generalize hN9 : (wy8).heap.size = N9 at *
          generalize hW9 : (wy8).alloc (.cells #[.nilIface] 20) = wv9 at *
          refine hK.out _ _ (KS.out _ _ J9) (fun hH9 => ?_)
          clear hK K
          (try simp only [Act.put, List.setIfInBounds_toArray, List.set_cons_zero, List.set_cons_succ])
          have nXY : N7 ≠ N9 := by omega
          have VA9 := Lib.hid (vs_mono m8.out n _ _ Vva.out)
          have VB9 := Vvb
          have MX : M ≠ N7 := by omega
          have MY : M ≠ N9 := by omega
          have LX : w.heap.size + 3 ≤ N7 := by omega
          have LY : w.heap.size + 3 ≤ N9 := by omega
          have cX := bX9.c 0
          have fX := bX9.f 0
          have cY := bY9.c 0
          have fY := bY9.f 0
          have hsW : w.heap.size + 3 ≤ wv9.heap.size := by omega
          have sva9 := Lib.hid sva
          have svb9 := Lib.hid svb
          rcases sva with rfl | ⟨Ta, za, rfl⟩
          · rcases svb with rfl | ⟨Tb, zb, rfl⟩
            · refine wpAnyH_ready (rs := [8]) (by kernel_rfl) (by simp) ?_
              refine AllReadyH.cons (o := { dst := none, op := Op.store 20 (Operand.tmp 6) (Operand.tmp 12), type := 0, pos := "acts.go:41", after := #[{ on := 6, ground := Ground.data }, { on := 2, ground := Ground.data }, { on := 5, ground := Ground.chain }, { on := 0, ground := Ground.phase }, { on := 1, ground := Ground.phase }, { on := 2, ground := Ground.phase }, { on := 3, ground := Ground.textOnly Departure.lateStores }, { on := 4, ground := Ground.textOnly Departure.lateStores }, { on := 5, ground := Ground.textOnly Departure.lateStoresUnsure }, { on := 6, ground := Ground.phase }, { on := 7, ground := Ground.phase }], guard := none }) rfl (fun K hK => ?_) AllReadyH.nil
              go_simp
              have J8 := J9.cell bX9 LX MX (.nilIface)
              have X8 : Bk _ N7 #[.nilIface] 20 := bX9.set 0 (.nilIface)
              have Y8 := bY9.other ⟨N7, 0, none⟩ (.nilIface) (by show N9 ≠ N7; omega)
              have z8 : w.heap.size + 3 ≤ (wv9.setCell ⟨N7, 0, none⟩ (.nilIface)).heap.size := by simpa using hsW
              clear cX fX cY fY
              generalize wv9.setCell ⟨N7, 0, none⟩ (.nilIface) = w8 at *
              refine hK.out _ _ (KS.out _ _ J8) (fun hH8 => ?_)
              clear hK K
              (try simp only [Act.put, List.setIfInBounds_toArray, List.set_cons_zero, List.set_cons_succ])
              have cY := Y8.c 0
              have fY := Y8.f 0
              refine wpAnyH_ready (rs := [9]) (by kernel_rfl) (by simp) ?_
              refine AllReadyH.cons (o := { dst := none, op := Op.store 20 (Operand.tmp 7) (Operand.tmp 15), type := 0, pos := "acts.go:41", after := #[{ on := 7, ground := Ground.data }, { on := 5, ground := Ground.data }, { on := 8, ground := Ground.chain }, { on := 0, ground := Ground.phase }, { on := 1, ground := Ground.phase }, { on := 2, ground := Ground.phase }, { on := 3, ground := Ground.phase }, { on := 4, ground := Ground.phase }, { on := 5, ground := Ground.phase }, { on := 6, ground := Ground.phase }, { on := 7, ground := Ground.phase }, { on := 8, ground := Ground.phase }], guard := none }) rfl (fun K hK => ?_) AllReadyH.nil
              go_simp
              have J9 := J8.cell Y8 LY MY (.nilIface)
              have Y9 : Bk _ N9 #[.nilIface] 20 := Y8.set 0 (.nilIface)
              have X9 := X8.other ⟨N9, 0, none⟩ (.nilIface) (by show N7 ≠ N9; omega)
              have z9 : w.heap.size + 3 ≤ (w8.setCell ⟨N9, 0, none⟩ (.nilIface)).heap.size := by simpa using z8
              clear cY fY
              generalize w8.setCell ⟨N9, 0, none⟩ (.nilIface) = w9 at *
              refine hK.out _ _ (KS.out _ _ J9) (fun hH9 => ?_)
              clear hK K
              (try simp only [Act.put, List.setIfInBounds_toArray, List.set_cons_zero, List.set_cons_succ])
              refine wpAnyH_done (by kernel_rfl) ?_ _
              go_wp2_with fail
              go_meet
              exact ⟨_, _, _, _, _, rfl, rfl, sva9.out, svb9.out, VA9.out, VB9.out, X9, Y9, J9, z9⟩
            · refine wpAnyH_ready (rs := [8]) (by kernel_rfl) (by simp) ?_
              refine AllReadyH.cons (o := { dst := none, op := Op.store 20 (Operand.tmp 6) (Operand.tmp 12), type := 0, pos := "acts.go:41", after := #[{ on := 6, ground := Ground.data }, { on := 2, ground := Ground.data }, { on := 5, ground := Ground.chain }, { on := 0, ground := Ground.phase }, { on := 1, ground := Ground.phase }, { on := 2, ground := Ground.phase }, { on := 3, ground := Ground.textOnly Departure.lateStores }, { on := 4, ground := Ground.textOnly Departure.lateStores }, { on := 5, ground := Ground.textOnly Departure.lateStoresUnsure }, { on := 6, ground := Ground.phase }, { on := 7, ground := Ground.phase }], guard := none }) rfl (fun K hK => ?_) AllReadyH.nil
              go_simp
              have J8 := J9.cell bX9 LX MX (.nilIface)
              have X8 : Bk _ N7 #[.nilIface] 20 := bX9.set 0 (.nilIface)
              have Y8 := bY9.other ⟨N7, 0, none⟩ (.nilIface) (by show N9 ≠ N7; omega)
              have z8 : w.heap.size + 3 ≤ (wv9.setCell ⟨N7, 0, none⟩ (.nilIface)).heap.size := by simpa using hsW
              clear cX fX cY fY
              generalize wv9.setCell ⟨N7, 0, none⟩ (.nilIface) = w8 at *
              refine hK.out _ _ (KS.out _ _ J8) (fun hH8 => ?_)
              clear hK K
              (try simp only [Act.put, List.setIfInBounds_toArray, List.set_cons_zero, List.set_cons_succ])
              have cY := Y8.c 0
              have fY := Y8.f 0
              refine wpAnyH_ready (rs := [9]) (by kernel_rfl) (by simp) ?_
              refine AllReadyH.cons (o := { dst := none, op := Op.store 20 (Operand.tmp 7) (Operand.tmp 15), type := 0, pos := "acts.go:41", after := #[{ on := 7, ground := Ground.data }, { on := 5, ground := Ground.data }, { on := 8, ground := Ground.chain }, { on := 0, ground := Ground.phase }, { on := 1, ground := Ground.phase }, { on := 2, ground := Ground.phase }, { on := 3, ground := Ground.phase }, { on := 4, ground := Ground.phase }, { on := 5, ground := Ground.phase }, { on := 6, ground := Ground.phase }, { on := 7, ground := Ground.phase }, { on := 8, ground := Ground.phase }], guard := none }) rfl (fun K hK => ?_) AllReadyH.nil
              go_simp
              have J9 := J8.cell Y8 LY MY (.iface Tb zb)
              have Y9 : Bk _ N9 #[.iface Tb zb] 20 := Y8.set 0 (.iface Tb zb)
              have X9 := X8.other ⟨N9, 0, none⟩ (.iface Tb zb) (by show N7 ≠ N9; omega)
              have z9 : w.heap.size + 3 ≤ (w8.setCell ⟨N9, 0, none⟩ (.iface Tb zb)).heap.size := by simpa using z8
              clear cY fY
              generalize w8.setCell ⟨N9, 0, none⟩ (.iface Tb zb) = w9 at *
              refine hK.out _ _ (KS.out _ _ J9) (fun hH9 => ?_)
              clear hK K
              (try simp only [Act.put, List.setIfInBounds_toArray, List.set_cons_zero, List.set_cons_succ])
              refine wpAnyH_done (by kernel_rfl) ?_ _
              go_wp2_with fail
              go_meet
              exact ⟨_, _, _, _, _, rfl, rfl, sva9.out, svb9.out, VA9.out, VB9.out, X9, Y9, J9, z9⟩
          · rcases svb with rfl | ⟨Tb, zb, rfl⟩
            · refine wpAnyH_ready (rs := [8]) (by kernel_rfl) (by simp) ?_
              refine AllReadyH.cons (o := { dst := none, op := Op.store 20 (Operand.tmp 6) (Operand.tmp 12), type := 0, pos := "acts.go:41", after := #[{ on := 6, ground := Ground.data }, { on := 2, ground := Ground.data }, { on := 5, ground := Ground.chain }, { on := 0, ground := Ground.phase }, { on := 1, ground := Ground.phase }, { on := 2, ground := Ground.phase }, { on := 3, ground := Ground.textOnly Departure.lateStores }, { on := 4, ground := Ground.textOnly Departure.lateStores }, { on := 5, ground := Ground.textOnly Departure.lateStoresUnsure }, { on := 6, ground := Ground.phase }, { on := 7, ground := Ground.phase }], guard := none }) rfl (fun K hK => ?_) AllReadyH.nil
              go_simp
              have J8 := J9.cell bX9 LX MX (.iface Ta za)
              have X8 : Bk _ N7 #[.iface Ta za] 20 := bX9.set 0 (.iface Ta za)
              have Y8 := bY9.other ⟨N7, 0, none⟩ (.iface Ta za) (by show N9 ≠ N7; omega)
              have z8 : w.heap.size + 3 ≤ (wv9.setCell ⟨N7, 0, none⟩ (.iface Ta za)).heap.size := by simpa using hsW
              clear cX fX cY fY
              generalize wv9.setCell ⟨N7, 0, none⟩ (.iface Ta za) = w8 at *
              refine hK.out _ _ (KS.out _ _ J8) (fun hH8 => ?_)
              clear hK K
              (try simp only [Act.put, List.setIfInBounds_toArray, List.set_cons_zero, List.set_cons_succ])
              have cY := Y8.c 0
              have fY := Y8.f 0
              refine wpAnyH_ready (rs := [9]) (by kernel_rfl) (by simp) ?_
              refine AllReadyH.cons (o := { dst := none, op := Op.store 20 (Operand.tmp 7) (Operand.tmp 15), type := 0, pos := "acts.go:41", after := #[{ on := 7, ground := Ground.data }, { on := 5, ground := Ground.data }, { on := 8, ground := Ground.chain }, { on := 0, ground := Ground.phase }, { on := 1, ground := Ground.phase }, { on := 2, ground := Ground.phase }, { on := 3, ground := Ground.phase }, { on := 4, ground := Ground.phase }, { on := 5, ground := Ground.phase }, { on := 6, ground := Ground.phase }, { on := 7, ground := Ground.phase }, { on := 8, ground := Ground.phase }], guard := none }) rfl (fun K hK => ?_) AllReadyH.nil
              go_simp
              have J9 := J8.cell Y8 LY MY (.nilIface)
              have Y9 : Bk _ N9 #[.nilIface] 20 := Y8.set 0 (.nilIface)
              have X9 := X8.other ⟨N9, 0, none⟩ (.nilIface) (by show N7 ≠ N9; omega)
              have z9 : w.heap.size + 3 ≤ (w8.setCell ⟨N9, 0, none⟩ (.nilIface)).heap.size := by simpa using z8
              clear cY fY
              generalize w8.setCell ⟨N9, 0, none⟩ (.nilIface) = w9 at *
              refine hK.out _ _ (KS.out _ _ J9) (fun hH9 => ?_)
              clear hK K
              (try simp only [Act.put, List.setIfInBounds_toArray, List.set_cons_zero, List.set_cons_succ])
              refine wpAnyH_done (by kernel_rfl) ?_ _
              go_wp2_with fail
              go_meet
              exact ⟨_, _, _, _, _, rfl, rfl, sva9.out, svb9.out, VA9.out, VB9.out, X9, Y9, J9, z9⟩
            · refine wpAnyH_ready (rs := [8]) (by kernel_rfl) (by simp) ?_
              refine AllReadyH.cons (o := { dst := none, op := Op.store 20 (Operand.tmp 6) (Operand.tmp 12), type := 0, pos := "acts.go:41", after := #[{ on := 6, ground := Ground.data }, { on := 2, ground := Ground.data }, { on := 5, ground := Ground.chain }, { on := 0, ground := Ground.phase }, { on := 1, ground := Ground.phase }, { on := 2, ground := Ground.phase }, { on := 3, ground := Ground.textOnly Departure.lateStores }, { on := 4, ground := Ground.textOnly Departure.lateStores }, { on := 5, ground := Ground.textOnly Departure.lateStoresUnsure }, { on := 6, ground := Ground.phase }, { on := 7, ground := Ground.phase }], guard := none }) rfl (fun K hK => ?_) AllReadyH.nil
              go_simp
              have J8 := J9.cell bX9 LX MX (.iface Ta za)
              have X8 : Bk _ N7 #[.iface Ta za] 20 := bX9.set 0 (.iface Ta za)
              have Y8 := bY9.other ⟨N7, 0, none⟩ (.iface Ta za) (by show N9 ≠ N7; omega)
              have z8 : w.heap.size + 3 ≤ (wv9.setCell ⟨N7, 0, none⟩ (.iface Ta za)).heap.size := by simpa using hsW
              clear cX fX cY fY
              generalize wv9.setCell ⟨N7, 0, none⟩ (.iface Ta za) = w8 at *
              refine hK.out _ _ (KS.out _ _ J8) (fun hH8 => ?_)
              clear hK K
              (try simp only [Act.put, List.setIfInBounds_toArray, List.set_cons_zero, List.set_cons_succ])
              have cY := Y8.c 0
              have fY := Y8.f 0
              refine wpAnyH_ready (rs := [9]) (by kernel_rfl) (by simp) ?_
              refine AllReadyH.cons (o := { dst := none, op := Op.store 20 (Operand.tmp 7) (Operand.tmp 15), type := 0, pos := "acts.go:41", after := #[{ on := 7, ground := Ground.data }, { on := 5, ground := Ground.data }, { on := 8, ground := Ground.chain }, { on := 0, ground := Ground.phase }, { on := 1, ground := Ground.phase }, { on := 2, ground := Ground.phase }, { on := 3, ground := Ground.phase }, { on := 4, ground := Ground.phase }, { on := 5, ground := Ground.phase }, { on := 6, ground := Ground.phase }, { on := 7, ground := Ground.phase }, { on := 8, ground := Ground.phase }], guard := none }) rfl (fun K hK => ?_) AllReadyH.nil
              go_simp
              have J9 := J8.cell Y8 LY MY (.iface Tb zb)
              have Y9 : Bk _ N9 #[.iface Tb zb] 20 := Y8.set 0 (.iface Tb zb)
              have X9 := X8.other ⟨N9, 0, none⟩ (.iface Tb zb) (by show N7 ≠ N9; omega)
              have z9 : w.heap.size + 3 ≤ (w8.setCell ⟨N9, 0, none⟩ (.iface Tb zb)).heap.size := by simpa using z8
              clear cY fY
              generalize w8.setCell ⟨N9, 0, none⟩ (.iface Tb zb) = w9 at *
              refine hK.out _ _ (KS.out _ _ J9) (fun hH9 => ?_)
              clear hK K
              (try simp only [Act.put, List.setIfInBounds_toArray, List.set_cons_zero, List.set_cons_succ])
              refine wpAnyH_done (by kernel_rfl) ?_ _
              go_wp2_with fail
              go_meet
              exact ⟨_, _, _, _, _, rfl, rfl, sva9.out, svb9.out, VA9.out, VB9.out, X9, Y9, J9, z9⟩
        · go_simp
          have e10 := below1 (wv7) (.cells #[.nilIface] 20)
          have bY10 := Bk.new (wv7) #[.nilIface] 20
          have J10 := J7.keep e10
          have bX10 := bX7.step e10
          have hs10 : M < ((wv7).alloc (.cells #[.nilIface] 20)).heap.size := Nat.lt_of_lt_of_le hs7 e10.size
          have q10 := hs7
          have lt10 := bX7.lt
          clear e10
          generalize hN10 : (wv7).heap.size = N10 at *
          generalize hW10 : (wv7).alloc (.cells #[.nilIface] 20) = wv10 at *
          refine hK.out _ _ (KS.out _ _ J10) (fun hH10 => ?_)
          clear hK K
          (try simp only [Act.put, List.setIfInBounds_toArray, List.set_cons_zero, List.set_cons_succ])
          refine wpAnyH_ready (rs := [5]) (by kernel_rfl) (by simp) ?_
          refine AllReadyH.cons (o := { dst := some 15, op := Op.call { callee := Callee.value (Operand.func 63), args := #[Operand.tmp 13, Operand.tmp 14], argTypes := #[107, 25] }, type := 20, pos := "acts.go:41", after := #[{ on := 3, ground := Ground.data }, { on := 4, ground := Ground.data }, { on := 2, ground := Ground.chain }], guard := none }) rfl (fun K hK => ?_) (AllReadyH.nil)
          go_simp
          refine (KB.out _ _ J10).mono ?_
          rintro e wy11 ⟨vb, ly11, rfl, svb, Vvb, m11, Jy11, F11, z11⟩
          have bX11 := F11.out _ _ bX10
          have bY11 := F11.out _ _ bY10
          have hs11 : M < wy11.heap.size := by omega
          go_wp2_with fail
          refine hK.out _ _ (KS.out _ _ Jy11) (fun hH11 => ?_)
          clear hK K
          (try simp only [Act.put, List.setIfInBounds_toArray, List.set_cons_zero, List.set_cons_succ])
          have nXY : N7 ≠ N10 := by omega
          have VA9 := Lib.hid (vs_mono m11.out n _ _ Vva.out)
          have VB9 := Vvb
          have MX : M ≠ N7 := by omega
          have MY : M ≠ N10 := by omega
          have LX : w.heap.size + 3 ≤ N7 := by omega
          have LY : w.heap.size + 3 ≤ N10 := by omega
          have cX := bX11.c 0
          have fX := bX11.f 0
          have cY := bY11.c 0
          have fY := bY11.f 0
          have hsW : w.heap.size + 3 ≤ wy11.heap.size := by omega
          have sva9 := Lib.hid sva
          have svb9 := Lib.hid svb
          rcases sva with rfl | ⟨Ta, za, rfl⟩
          · rcases svb with rfl | ⟨Tb, zb, rfl⟩
            · refine wpAnyH_ready (rs := [8]) (by kernel_rfl) (by simp) ?_
              refine AllReadyH.cons (o := { dst := none, op := Op.store 20 (Operand.tmp 6) (Operand.tmp 12), type := 0, pos := "acts.go:41", after := #[{ on := 6, ground := Ground.data }, { on := 2, ground := Ground.data }, { on := 5, ground := Ground.chain }, { on := 0, ground := Ground.phase }, { on := 1, ground := Ground.phase }, { on := 2, ground := Ground.phase }, { on := 3, ground := Ground.textOnly Departure.lateStores }, { on := 4, ground := Ground.textOnly Departure.lateStores }, { on := 5, ground := Ground.textOnly Departure.lateStoresUnsure }, { on := 6, ground := Ground.phase }, { on := 7, ground := Ground.phase }], guard := none }) rfl (fun K hK => ?_) AllReadyH.nil
              go_simp
              have J8 := Jy11.cell bX11 LX MX (.nilIface)
              have X8 : Bk _ N7 #[.nilIface] 20 := bX11.set 0 (.nilIface)
              have Y8 := bY11.other ⟨N7, 0, none⟩ (.nilIface) (by show N10 ≠ N7; omega)
              have z8 : w.heap.size + 3 ≤ (wy11.setCell ⟨N7, 0, none⟩ (.nilIface)).heap.size := by simpa using hsW
              clear cX fX cY fY
              generalize wy11.setCell ⟨N7, 0, none⟩ (.nilIface) = w8 at *
              refine hK.out _ _ (KS.out _ _ J8) (fun hH8 => ?_)
              clear hK K
              (try simp only [Act.put, List.setIfInBounds_toArray, List.set_cons_zero, List.set_cons_succ])
              have cY := Y8.c 0
              have fY := Y8.f 0
              refine wpAnyH_ready (rs := [9]) (by kernel_rfl) (by simp) ?_
              refine AllReadyH.cons (o := { dst := none, op := Op.store 20 (Operand.tmp 7) (Operand.tmp 15), type := 0, pos := "acts.go:41", after := #[{ on := 7, ground := Ground.data }, { on := 5, ground := Ground.data }, { on := 8, ground := Ground.chain }, { on := 0, ground := Ground.phase }, { on := 1, ground := Ground.phase }, { on := 2, ground := Ground.phase }, { on := 3, ground := Ground.phase }, { on := 4, ground := Ground.phase }, { on := 5, ground := Ground.phase }, { on := 6, ground := Ground.phase }, { on := 7, ground := Ground.phase }, { on := 8, ground := Ground.phase }], guard := none }) rfl (fun K hK => ?_) AllReadyH.nil
              go_simp
              have J9 := J8.cell Y8 LY MY (.nilIface)
              have Y9 : Bk _ N10 #[.nilIface] 20 := Y8.set 0 (.nilIface)
              have X9 := X8.other ⟨N10, 0, none⟩ (.nilIface) (by show N7 ≠ N10; omega)
              have z9 : w.heap.size + 3 ≤ (w8.setCell ⟨N10, 0, none⟩ (.nilIface)).heap.size := by simpa using z8
              clear cY fY
              generalize w8.setCell ⟨N10, 0, none⟩ (.nilIface) = w9 at *
              refine hK.out _ _ (KS.out _ _ J9) (fun hH9 => ?_)
              clear hK K
              (try simp only [Act.put, List.setIfInBounds_toArray, List.set_cons_zero, List.set_cons_succ])
              refine wpAnyH_done (by kernel_rfl) ?_ _
              go_wp2_with fail
              go_meet
              exact ⟨_, _, _, _, _, rfl, rfl, sva9.out, svb9.out, VA9.out, VB9.out, X9, Y9, J9, z9⟩
            · refine wpAnyH_ready (rs := [8]) (by kernel_rfl) (by simp) ?_
              refine AllReadyH.cons (o := { dst := none, op := Op.store 20 (Operand.tmp 6) (Operand.tmp 12), type := 0, pos := "acts.go:41", after := #[{ on := 6, ground := Ground.data }, { on := 2, ground := Ground.data }, { on := 5, ground := Ground.chain }, { on := 0, ground := Ground.phase }, { on := 1, ground := Ground.phase }, { on := 2, ground := Ground.phase }, { on := 3, ground := Ground.textOnly Departure.lateStores }, { on := 4, ground := Ground.textOnly Departure.lateStores }, { on := 5, ground := Ground.textOnly Departure.lateStoresUnsure }, { on := 6, ground := Ground.phase }, { on := 7, ground := Ground.phase }], guard := none }) rfl (fun K hK => ?_) AllReadyH.nil
              go_simp
              have J8 := Jy11.cell bX11 LX MX (.nilIface)
              have X8 : Bk _ N7 #[.nilIface] 20 := bX11.set 0 (.nilIface)
              have Y8 := bY11.other ⟨N7, 0, none⟩ (.nilIface) (by show N10 ≠ N7; omega)
              have z8 : w.heap.size + 3 ≤ (wy11.setCell ⟨N7, 0, none⟩ (.nilIface)).heap.size := by simpa using hsW
              clear cX fX cY fY
              generalize wy11.setCell ⟨N7, 0, none⟩ (.nilIface) = w8 at *
              refine hK.out _ _ (KS.out _ _ J8) (fun hH8 => ?_)
              clear hK K
              (try simp only [Act.put, List.setIfInBounds_toArray, List.set_cons_zero, List.set_cons_succ])
              have cY := Y8.c 0
              have fY := Y8.f 0
              refine wpAnyH_ready (rs := [9]) (by kernel_rfl) (by simp) ?_
              refine AllReadyH.cons (o := { dst := none, op := Op.store 20 (Operand.tmp 7) (Operand.tmp 15), type := 0, pos := "acts.go:41", after := #[{ on := 7, ground := Ground.data }, { on := 5, ground := Ground.data }, { on := 8, ground := Ground.chain }, { on := 0, ground := Ground.phase }, { on := 1, ground := Ground.phase }, { on := 2, ground := Ground.phase }, { on := 3, ground := Ground.phase }, { on := 4, ground := Ground.phase }, { on := 5, ground := Ground.phase }, { on := 6, ground := Ground.phase }, { on := 7, ground := Ground.phase }, { on := 8, ground := Ground.phase }], guard := none }) rfl (fun K hK => ?_) AllReadyH.nil
              go_simp
              have J9 := J8.cell Y8 LY MY (.iface Tb zb)
              have Y9 : Bk _ N10 #[.iface Tb zb] 20 := Y8.set 0 (.iface Tb zb)
              have X9 := X8.other ⟨N10, 0, none⟩ (.iface Tb zb) (by show N7 ≠ N10; omega)
              have z9 : w.heap.size + 3 ≤ (w8.setCell ⟨N10, 0, none⟩ (.iface Tb zb)).heap.size := by simpa using z8
              clear cY fY
              generalize w8.setCell ⟨N10, 0, none⟩ (.iface Tb zb) = w9 at *
              refine hK.out _ _ (KS.out _ _ J9) (fun hH9 => ?_)
              clear hK K
              (try simp only [Act.put, List.setIfInBounds_toArray, List.set_cons_zero, List.set_cons_succ])
              refine wpAnyH_done (by kernel_rfl) ?_ _
              go_wp2_with fail
              go_meet
              exact ⟨_, _, _, _, _, rfl, rfl, sva9.out, svb9.out, VA9.out, VB9.out, X9, Y9, J9, z9⟩
          · rcases svb with rfl | ⟨Tb, zb, rfl⟩
            · refine wpAnyH_ready (rs := [8]) (by kernel_rfl) (by simp) ?_
              refine AllReadyH.cons (o := { dst := none, op := Op.store 20 (Operand.tmp 6) (Operand.tmp 12), type := 0, pos := "acts.go:41", after := #[{ on := 6, ground := Ground.data }, { on := 2, ground := Ground.data }, { on := 5, ground := Ground.chain }, { on := 0, ground := Ground.phase }, { on := 1, ground := Ground.phase }, { on := 2, ground := Ground.phase }, { on := 3, ground := Ground.textOnly Departure.lateStores }, { on := 4, ground := Ground.textOnly Departure.lateStores }, { on := 5, ground := Ground.textOnly Departure.lateStoresUnsure }, { on := 6, ground := Ground.phase }, { on := 7, ground := Ground.phase }], guard := none }) rfl (fun K hK => ?_) AllReadyH.nil
              go_simp
              have J8 := Jy11.cell bX11 LX MX (.iface Ta za)
              have X8 : Bk _ N7 #[.iface Ta za] 20 := bX11.set 0 (.iface Ta za)
              have Y8 := bY11.other ⟨N7, 0, none⟩ (.iface Ta za) (by show N10 ≠ N7; omega)
              have z8 : w.heap.size + 3 ≤ (wy11.setCell ⟨N7, 0, none⟩ (.iface Ta za)).heap.size := by simpa using hsW
              clear cX fX cY fY
              generalize wy11.setCell ⟨N7, 0, none⟩ (.iface Ta za) = w8 at *
              refine hK.out _ _ (KS.out _ _ J8) (fun hH8 => ?_)
              clear hK K
              (try simp only [Act.put, List.setIfInBounds_toArray, List.set_cons_zero, List.set_cons_succ])
              have cY := Y8.c 0
              have fY := Y8.f 0
              refine wpAnyH_ready (rs := [9]) (by kernel_rfl) (by simp) ?_
              refine AllReadyH.cons (o := { dst := none, op := Op.store 20 (Operand.tmp 7) (Operand.tmp 15), type := 0, pos := "acts.go:41", after := #[{ on := 7, ground := Ground.data }, { on := 5, ground := Ground.data }, { on := 8, ground := Ground.chain }, { on := 0, ground := Ground.phase }, { on := 1, ground := Ground.phase }, { on := 2, ground := Ground.phase }, { on := 3, ground := Ground.phase }, { on := 4, ground := Ground.phase }, { on := 5, ground := Ground.phase }, { on := 6, ground := Ground.phase }, { on := 7, ground := Ground.phase }, { on := 8, ground := Ground.phase }], guard := none }) rfl (fun K hK => ?_) AllReadyH.nil
              go_simp
              have J9 := J8.cell Y8 LY MY (.nilIface)
              have Y9 : Bk _ N10 #[.nilIface] 20 := Y8.set 0 (.nilIface)
              have X9 := X8.other ⟨N10, 0, none⟩ (.nilIface) (by show N7 ≠ N10; omega)
              have z9 : w.heap.size + 3 ≤ (w8.setCell ⟨N10, 0, none⟩ (.nilIface)).heap.size := by simpa using z8
              clear cY fY
              generalize w8.setCell ⟨N10, 0, none⟩ (.nilIface) = w9 at *
              refine hK.out _ _ (KS.out _ _ J9) (fun hH9 => ?_)
              clear hK K
              (try simp only [Act.put, List.setIfInBounds_toArray, List.set_cons_zero, List.set_cons_succ])
              refine wpAnyH_done (by kernel_rfl) ?_ _
              go_wp2_with fail
              go_meet
              exact ⟨_, _, _, _, _, rfl, rfl, sva9.out, svb9.out, VA9.out, VB9.out, X9, Y9, J9, z9⟩
            · refine wpAnyH_ready (rs := [8]) (by kernel_rfl) (by simp) ?_
              refine AllReadyH.cons (o := { dst := none, op := Op.store 20 (Operand.tmp 6) (Operand.tmp 12), type := 0, pos := "acts.go:41", after := #[{ on := 6, ground := Ground.data }, { on := 2, ground := Ground.data }, { on := 5, ground := Ground.chain }, { on := 0, ground := Ground.phase }, { on := 1, ground := Ground.phase }, { on := 2, ground := Ground.phase }, { on := 3, ground := Ground.textOnly Departure.lateStores }, { on := 4, ground := Ground.textOnly Departure.lateStores }, { on := 5, ground := Ground.textOnly Departure.lateStoresUnsure }, { on := 6, ground := Ground.phase }, { on := 7, ground := Ground.phase }], guard := none }) rfl (fun K hK => ?_) AllReadyH.nil
              go_simp
              have J8 := Jy11.cell bX11 LX MX (.iface Ta za)
              have X8 : Bk _ N7 #[.iface Ta za] 20 := bX11.set 0 (.iface Ta za)
              have Y8 := bY11.other ⟨N7, 0, none⟩ (.iface Ta za) (by show N10 ≠ N7; omega)
              have z8 : w.heap.size + 3 ≤ (wy11.setCell ⟨N7, 0, none⟩ (.iface Ta za)).heap.size := by simpa using hsW
              clear cX fX cY fY
              generalize wy11.setCell ⟨N7, 0, none⟩ (.iface Ta za) = w8 at *
              refine hK.out _ _ (KS.out _ _ J8) (fun hH8 => ?_)
              clear hK K
              (try simp only [Act.put, List.setIfInBounds_toArray, List.set_cons_zero, List.set_cons_succ])
              have cY := Y8.c 0
              have fY := Y8.f 0
              refine wpAnyH_ready (rs := [9]) (by kernel_rfl) (by simp) ?_
              refine AllReadyH.cons (o := { dst := none, op := Op.store 20 (Operand.tmp 7) (Operand.tmp 15), type := 0, pos := "acts.go:41", after := #[{ on := 7, ground := Ground.data }, { on := 5, ground := Ground.data }, { on := 8, ground := Ground.chain }, { on := 0, ground := Ground.phase }, { on := 1, ground := Ground.phase }, { on := 2, ground := Ground.phase }, { on := 3, ground := Ground.phase }, { on := 4, ground := Ground.phase }, { on := 5, ground := Ground.phase }, { on := 6, ground := Ground.phase }, { on := 7, ground := Ground.phase }, { on := 8, ground := Ground.phase }], guard := none }) rfl (fun K hK => ?_) AllReadyH.nil
              go_simp
              have J9 := J8.cell Y8 LY MY (.iface Tb zb)
              have Y9 : Bk _ N10 #[.iface Tb zb] 20 := Y8.set 0 (.iface Tb zb)
              have X9 := X8.other ⟨N10, 0, none⟩ (.iface Tb zb) (by show N7 ≠ N10; omega)
              have z9 : w.heap.size + 3 ≤ (w8.setCell ⟨N10, 0, none⟩ (.iface Tb zb)).heap.size := by simpa using z8
              clear cY fY
              generalize w8.setCell ⟨N10, 0, none⟩ (.iface Tb zb) = w9 at *
              refine hK.out _ _ (KS.out _ _ J9) (fun hH9 => ?_)
              clear hK K
              (try simp only [Act.put, List.setIfInBounds_toArray, List.set_cons_zero, List.set_cons_succ])
              refine wpAnyH_done (by kernel_rfl) ?_ _
              go_wp2_with fail
              go_meet
              exact ⟨_, _, _, _, _, rfl, rfl, sva9.out, svb9.out, VA9.out, VB9.out, X9, Y9, J9, z9⟩
      · go_simp
        have e12 := below1 (wy1) (.cells #[.nilIface] 20)
        have bY12 := Bk.new (wy1) #[.nilIface] 20
        have J12 := Jy1.keep e12
        have hs12 : M < ((wy1).alloc (.cells #[.nilIface] 20)).heap.size := Nat.lt_of_lt_of_le hs1 e12.size
        have q12 := hs1
        clear e12
        generalize hN12 : (wy1).heap.size = N12 at *
        generalize hW12 : (wy1).alloc (.cells #[.nilIface] 20) = wv12 at *
        refine hK.out _ _ (KS.out _ _ J12) (fun hH12 => ?_)
        clear hK K
        (try simp only [Act.put, List.setIfInBounds_toArray, List.set_cons_zero, List.set_cons_succ])
        refine wpAnyH_ready (rs := [5, 6]) (by kernel_rfl) (by simp) ?_
        refine AllReadyH.cons (o := { dst := some 15, op := Op.call { callee := Callee.value (Operand.func 63), args := #[Operand.tmp 13, Operand.tmp 14], argTypes := #[107, 25] }, type := 20, pos := "acts.go:41", after := #[{ on := 3, ground := Ground.data }, { on := 4, ground := Ground.data }, { on := 2, ground := Ground.chain }], guard := none }) rfl (fun K hK => ?_) (AllReadyH.cons (o := { dst := some 6, op := Op.alloc 20, type := 0, pos := "acts.go:41", after := #[], guard := none }) rfl (fun K hK => ?_) (AllReadyH.nil))
        · go_simp
          refine (KB.out _ _ J12).mono ?_
          rintro e wy13 ⟨vb, ly13, rfl, svb, Vvb, m13, Jy13, F13, z13⟩
          have bY13 := F13.out _ _ bY12
          have hs13 : M < wy13.heap.size := by omega
          go_wp2_with fail
          refine hK.out _ _ (KS.out _ _ Jy13) (fun hH13 => ?_)
          clear hK K
          (try simp only [Act.put, List.setIfInBounds_toArray, List.set_cons_zero, List.set_cons_succ])
          refine wpAnyH_ready (rs := [6]) (by kernel_rfl) (by simp) ?_
          refine AllReadyH.cons (o := { dst := some 6, op := Op.alloc 20, type := 0, pos := "acts.go:41", after := #[], guard := none }) rfl (fun K hK => ?_) (AllReadyH.nil)
          go_simp
          have e14 := below1 (wy13) (.cells #[.nilIface] 20)
          have bX14 := Bk.new (wy13) #[.nilIface] 20
          have J14 := Jy13.keep e14
          have bY14 := bY13.step e14
          have hs14 : M < ((wy13).alloc (.cells #[.nilIface] 20)).heap.size := Nat.lt_of_lt_of_le hs13 e14.size
          have q14 := hs13
          have lt14 := bY13.lt
          clear e14
          generalize hN14 : (wy13).heap.size = N14 at *
          generalize hW14 : (wy13).alloc (.cells #[.nilIface] 20) = wv14 at *
          refine hK.out _ _ (KS.out _ _ J14) (fun hH14 => ?_)
          clear hK K
          (try simp only [Act.put, List.setIfInBounds_toArray, List.set_cons_zero, List.set_cons_succ])
          have nXY : N14 ≠ N12 := by omega
          have VA9 := Lib.hid (vs_mono m13.out n _ _ Vva.out)
          have VB9 := Vvb
          have MX : M ≠ N14 := by omega
          have MY : M ≠ N12 := by omega
          have LX : w.heap.size + 3 ≤ N14 := by omega
          have LY : w.heap.size + 3 ≤ N12 := by omega
          have cX := bX14.c 0
          have fX := bX14.f 0
          have cY := bY14.c 0
          have fY := bY14.f 0
          have hsW : w.heap.size + 3 ≤ wv14.heap.size := by omega
          have sva9 := Lib.hid sva
          have svb9 := Lib.hid svb
          rcases sva with rfl | ⟨Ta, za, rfl⟩
          · rcases svb with rfl | ⟨Tb, zb, rfl⟩
            · refine wpAnyH_ready (rs := [8]) (by kernel_rfl) (by simp) ?_
              refine AllReadyH.cons (o := { dst := none, op := Op.store 20 (Operand.tmp 6) (Operand.tmp 12), type := 0, pos := "acts.go:41", after := #[{ on := 6, ground := Ground.data }, { on := 2, ground := Ground.data }, { on := 5, ground := Ground.chain }, { on := 0, ground := Ground.phase }, { on := 1, ground := Ground.phase }, { on := 2, ground := Ground.phase }, { on := 3, ground := Ground.textOnly Departure.lateStores }, { on := 4, ground := Ground.textOnly Departure.lateStores }, { on := 5, ground := Ground.textOnly Departure.lateStoresUnsure }, { on := 6, ground := Ground.phase }, { on := 7, ground := Ground.phase }], guard := none }) rfl (fun K hK => ?_) AllReadyH.nil
              go_simp
              have J8 := J14.cell bX14 LX MX (.nilIface)
              have X8 : Bk _ N14 #[.nilIface] 20 := bX14.set 0 (.nilIface)
              have Y8 := bY14.other ⟨N14, 0, none⟩ (.nilIface) (by show N12 ≠ N14; omega)
              have z8 : w.heap.size + 3 ≤ (wv14.setCell ⟨N14, 0, none⟩ (.nilIface)).heap.size := by simpa using hsW
              clear cX fX cY fY
              generalize wv14.setCell ⟨N14, 0, none⟩ (.nilIface) = w8 at *
              refine hK.out _ _ (KS.out _ _ J8) (fun hH8 => ?_)
              clear hK K
              (try simp only [Act.put, List.setIfInBounds_toArray, List.set_cons_zero, List.set_cons_succ])
              have cY := Y8.c 0
              have fY := Y8.f 0
              refine wpAnyH_ready (rs := [9]) (by kernel_rfl) (by simp) ?_
              refine AllReadyH.cons (o := { dst := none, op := Op.store 20 (Operand.tmp 7) (Operand.tmp 15), type := 0, pos := "acts.go:41", after := #[{ on := 7, ground := Ground.data }, { on := 5, ground := Ground.data }, { on := 8, ground := Ground.chain }, { on := 0, ground := Ground.phase }, { on := 1, ground := Ground.phase }, { on := 2, ground := Ground.phase }, { on := 3, ground := Ground.phase }, { on := 4, ground := Ground.phase }, { on := 5, ground := Ground.phase }, { on := 6, ground := Ground.phase }, { on := 7, ground := Ground.phase }, { on := 8, ground := Ground.phase }], guard := none }) rfl (fun K hK => ?_) AllReadyH.nil
              go_simp
              have J9 := J8.cell Y8 LY MY (.nilIface)
              have Y9 : Bk _ N12 #[.nilIface] 20 := Y8.set 0 (.nilIface)
              have X9 := X8.other ⟨N12, 0, none⟩ (.nilIface) (by show N14 ≠ N12; omega)
              have z9 : w.heap.size + 3 ≤ (w8.setCell ⟨N12, 0, none⟩ (.nilIface)).heap.size := by simpa using z8
              clear cY fY
              generalize w8.setCell ⟨N12, 0, none⟩ (.nilIface) = w9 at *
              refine hK.out _ _ (KS.out _ _ J9) (fun hH9 => ?_)
              clear hK K
              (try simp only [Act.put, List.setIfInBounds_toArray, List.set_cons_zero, List.set_cons_succ])
              refine wpAnyH_done (by kernel_rfl) ?_ _
              go_wp2_with fail
              go_meet
              exact ⟨_, _, _, _, _, rfl, rfl, sva9.out, svb9.out, VA9.out, VB9.out, X9, Y9, J9, z9⟩
            · refine wpAnyH_ready (rs := [8]) (by kernel_rfl) (by simp) ?_
              refine AllReadyH.cons (o := { dst := none, op := Op.store 20 (Operand.tmp 6) (Operand.tmp 12), type := 0, pos := "acts.go:41", after := #[{ on := 6, ground := Ground.data }, { on := 2, ground := Ground.data }, { on := 5, ground := Ground.chain }, { on := 0, ground := Ground.phase }, { on := 1, ground := Ground.phase }, { on := 2, ground := Ground.phase }, { on := 3, ground := Ground.textOnly Departure.lateStores }, { on := 4, ground := Ground.textOnly Departure.lateStores }, { on := 5, ground := Ground.textOnly Departure.lateStoresUnsure }, { on := 6, ground := Ground.phase }, { on := 7, ground := Ground.phase }], guard := none }) rfl (fun K hK => ?_) AllReadyH.nil
              go_simp
              have J8 := J14.cell bX14 LX MX (.nilIface)
              have X8 : Bk _ N14 #[.nilIface] 20 := bX14.set 0 (.nilIface)
              have Y8 := bY14.other ⟨N14, 0, none⟩ (.nilIface) (by show N12 ≠ N14; omega)
              have z8 : w.heap.size + 3 ≤ (wv14.setCell ⟨N14, 0, none⟩ (.nilIface)).heap.size := by simpa using hsW
              clear cX fX cY fY
              generalize wv14.setCell ⟨N14, 0, none⟩ (.nilIface) = w8 at *
              refine hK.out _ _ (KS.out _ _ J8) (fun hH8 => ?_)
              clear hK K
              (try simp only [Act.put, List.setIfInBounds_toArray, List.set_cons_zero, List.set_cons_succ])
              have cY := Y8.c 0
              have fY := Y8.f 0
              refine wpAnyH_ready (rs := [9]) (by kernel_rfl) (by simp) ?_
              refine AllReadyH.cons (o := { dst := none, op := Op.store 20 (Operand.tmp 7) (Operand.tmp 15), type := 0, pos := "acts.go:41", after := #[{ on := 7, ground := Ground.data }, { on := 5, ground := Ground.data }, { on := 8, ground := Ground.chain }, { on := 0, ground := Ground.phase }, { on := 1, ground := Ground.phase }, { on := 2, ground := Ground.phase }, { on := 3, ground := Ground.phase }, { on := 4, ground := Ground.phase }, { on := 5, ground := Ground.phase }, { on := 6, ground := Ground.phase }, { on := 7, ground := Ground.phase }, { on := 8, ground := Ground.phase }], guard := none }) rfl (fun K hK => ?_) AllReadyH.nil
              go_simp
              have J9 := J8.cell Y8 LY MY (.iface Tb zb)
              have Y9 : Bk _ N12 #[.iface Tb zb] 20 := Y8.set 0 (.iface Tb zb)
              have X9 := X8.other ⟨N12, 0, none⟩ (.iface Tb zb) (by show N14 ≠ N12; omega)
              have z9 : w.heap.size + 3 ≤ (w8.setCell ⟨N12, 0, none⟩ (.iface Tb zb)).heap.size := by simpa using z8
              clear cY fY
              generalize w8.setCell ⟨N12, 0, none⟩ (.iface Tb zb) = w9 at *
              refine hK.out _ _ (KS.out _ _ J9) (fun hH9 => ?_)
              clear hK K
              (try simp only [Act.put, List.setIfInBounds_toArray, List.set_cons_zero, List.set_cons_succ])
              refine wpAnyH_done (by kernel_rfl) ?_ _
              go_wp2_with fail
              go_meet
              exact ⟨_, _, _, _, _, rfl, rfl, sva9.out, svb9.out, VA9.out, VB9.out, X9, Y9, J9, z9⟩
          · rcases svb with rfl | ⟨Tb, zb, rfl⟩
            · refine wpAnyH_ready (rs := [8]) (by kernel_rfl) (by simp) ?_
              refine AllReadyH.cons (o := { dst := none, op := Op.store 20 (Operand.tmp 6) (Operand.tmp 12), type := 0, pos := "acts.go:41", after := #[{ on := 6, ground := Ground.data }, { on := 2, ground := Ground.data }, { on := 5, ground := Ground.chain }, { on := 0, ground := Ground.phase }, { on := 1, ground := Ground.phase }, { on := 2, ground := Ground.phase }, { on := 3, ground := Ground.textOnly Departure.lateStores }, { on := 4, ground := Ground.textOnly Departure.lateStores }, { on := 5, ground := Ground.textOnly Departure.lateStoresUnsure }, { on := 6, ground := Ground.phase }, { on := 7, ground := Ground.phase }], guard := none }) rfl (fun K hK => ?_) AllReadyH.nil
              go_simp
              have J8 := J14.cell bX14 LX MX (.iface Ta za)
              have X8 : Bk _ N14 #[.iface Ta za] 20 := bX14.set 0 (.iface Ta za)
              have Y8 := bY14.other ⟨N14, 0, none⟩ (.iface Ta za) (by show N12 ≠ N14; omega)
              have z8 : w.heap.size + 3 ≤ (wv14.setCell ⟨N14, 0, none⟩ (.iface Ta za)).heap.size := by simpa using hsW
              clear cX fX cY fY
              generalize wv14.setCell ⟨N14, 0, none⟩ (.iface Ta za) = w8 at *
              refine hK.out _ _ (KS.out _ _ J8) (fun hH8 => ?_)
              clear hK K
              (try simp only [Act.put, List.setIfInBounds_toArray, List.set_cons_zero, List.set_cons_succ])
              have cY := Y8.c 0
              have fY := Y8.f 0
              refine wpAnyH_ready (rs := [9]) (by kernel_rfl) (by simp) ?_
              refine AllReadyH.cons (o := { dst := none, op := Op.store 20 (Operand.tmp 7) (Operand.tmp 15), type := 0, pos := "acts.go:41", after := #[{ on := 7, ground := Ground.data }, { on := 5, ground := Ground.data }, { on := 8, ground := Ground.chain }, { on := 0, ground := Ground.phase }, { on := 1, ground := Ground.phase }, { on := 2, ground := Ground.phase }, { on := 3, ground := Ground.phase }, { on := 4, ground := Ground.phase }, { on := 5, ground := Ground.phase }, { on := 6, ground := Ground.phase }, { on := 7, ground := Ground.phase }, { on := 8, ground := Ground.phase }], guard := none }) rfl (fun K hK => ?_) AllReadyH.nil
              go_simp
              have J9 := J8.cell Y8 LY MY (.nilIface)
              have Y9 : Bk _ N12 #[.nilIface] 20 := Y8.set 0 (.nilIface)
              have X9 := X8.other ⟨N12, 0, none⟩ (.nilIface) (by show N14 ≠ N12; omega)
              have z9 : w.heap.size + 3 ≤ (w8.setCell ⟨N12, 0, none⟩ (.nilIface)).heap.size := by simpa using z8
              clear cY fY
              generalize w8.setCell ⟨N12, 0, none⟩ (.nilIface) = w9 at *
              refine hK.out _ _ (KS.out _ _ J9) (fun hH9 => ?_)
              clear hK K
              (try simp only [Act.put, List.setIfInBounds_toArray, List.set_cons_zero, List.set_cons_succ])
              refine wpAnyH_done (by kernel_rfl) ?_ _
              go_wp2_with fail
              go_meet
              exact ⟨_, _, _, _, _, rfl, rfl, sva9.out, svb9.out, VA9.out, VB9.out, X9, Y9, J9, z9⟩
            · refine wpAnyH_ready (rs := [8]) (by kernel_rfl) (by simp) ?_
              refine AllReadyH.cons (o := { dst := none, op := Op.store 20 (Operand.tmp 6) (Operand.tmp 12), type := 0, pos := "acts.go:41", after := #[{ on := 6, ground := Ground.data }, { on := 2, ground := Ground.data }, { on := 5, ground := Ground.chain }, { on := 0, ground := Ground.phase }, { on := 1, ground := Ground.phase }, { on := 2, ground := Ground.phase }, { on := 3, ground := Ground.textOnly Departure.lateStores }, { on := 4, ground := Ground.textOnly Departure.lateStores }, { on := 5, ground := Ground.textOnly Departure.lateStoresUnsure }, { on := 6, ground := Ground.phase }, { on := 7, ground := Ground.phase }], guard := none }) rfl (fun K hK => ?_) AllReadyH.nil
              go_simp
              have J8 := J14.cell bX14 LX MX (.iface Ta za)
              have X8 : Bk _ N14 #[.iface Ta za] 20 := bX14.set 0 (.iface Ta za)
              have Y8 := bY14.other ⟨N14, 0, none⟩ (.iface Ta za) (by show N12 ≠ N14; omega)
              have z8 : w.heap.size + 3 ≤ (wv14.setCell ⟨N14, 0, none⟩ (.iface Ta za)).heap.size := by simpa using hsW
              clear cX fX cY fY
              generalize wv14.setCell ⟨N14, 0, none⟩ (.iface Ta za) = w8 at *
              refine hK.out _ _ (KS.out _ _ J8) (fun hH8 => ?_)
              clear hK K
              (try simp only [Act.put, List.setIfInBounds_toArray, List.set_cons_zero, List.set_cons_succ])
              have cY := Y8.c 0
              have fY := Y8.f 0
              refine wpAnyH_ready (rs := [9]) (by kernel_rfl) (by simp) ?_
              refine AllReadyH.cons (o := { dst := none, op := Op.store 20 (Operand.tmp 7) (Operand.tmp 15), type := 0, pos := "acts.go:41", after := #[{ on := 7, ground := Ground.data }, { on := 5, ground := Ground.data }, { on := 8, ground := Ground.chain }, { on := 0, ground := Ground.phase }, { on := 1, ground := Ground.phase }, { on := 2, ground := Ground.phase }, { on := 3, ground := Ground.phase }, { on := 4, ground := Ground.phase }, { on := 5, ground := Ground.phase }, { on := 6, ground := Ground.phase }, { on := 7, ground := Ground.phase }, { on := 8, ground := Ground.phase }], guard := none }) rfl (fun K hK => ?_) AllReadyH.nil
              go_simp
              have J9 := J8.cell Y8 LY MY (.iface Tb zb)
              have Y9 : Bk _ N12 #[.iface Tb zb] 20 := Y8.set 0 (.iface Tb zb)
              have X9 := X8.other ⟨N12, 0, none⟩ (.iface Tb zb) (by show N14 ≠ N12; omega)
              have z9 : w.heap.size + 3 ≤ (w8.setCell ⟨N12, 0, none⟩ (.iface Tb zb)).heap.size := by simpa using z8
              clear cY fY
              generalize w8.setCell ⟨N12, 0, none⟩ (.iface Tb zb) = w9 at *
              refine hK.out _ _ (KS.out _ _ J9) (fun hH9 => ?_)
              clear hK K
              (try simp only [Act.put, List.setIfInBounds_toArray, List.set_cons_zero, List.set_cons_succ])
              refine wpAnyH_done (by kernel_rfl) ?_ _
              go_wp2_with fail
              go_meet
              exact ⟨_, _, _, _, _, rfl, rfl, sva9.out, svb9.out, VA9.out, VB9.out, X9, Y9, J9, z9⟩
        · go_simp
          have e15 := below1 (wv12) (.cells #[.nilIface] 20)
          have bX15 := Bk.new (wv12) #[.nilIface] 20
          have J15 := J12.keep e15
          have bY15 := bY12.step e15
          have hs15 : M < ((wv12).alloc (.cells #[.nilIface] 20)).heap.size := Nat.lt_of_lt_of_le hs12 e15.size
          have q15 := hs12
          have lt15 := bY12.lt
          clear e15
          generalize hN15 : (wv12).heap.size = N15 at *
          generalize hW15 : (wv12).alloc (.cells #[.nilIface] 20) = wv15 at *
          refine hK.out _ _ (KS.out _ _ J15) (fun hH15 => ?_)
          clear hK K
          (try simp only [Act.put, List.setIfInBounds_toArray, List.set_cons_zero, List.set_cons_succ])
          refine wpAnyH_ready (rs := [5]) (by kernel_rfl) (by simp) ?_
          refine AllReadyH.cons (o := { dst := some 15, op := Op.call { callee := Callee.value (Operand.func 63), args := #[Operand.tmp 13, Operand.tmp 14], argTypes := #[107, 25] }, type := 20, pos := "acts.go:41", after := #[{ on := 3, ground := Ground.data }, { on := 4, ground := Ground.data }, { on := 2, ground := Ground.chain }], guard := none }) rfl (fun K hK => ?_) (AllReadyH.nil)
          go_simp
          refine (KB.out _ _ J15).mono ?_
          rintro e wy16 ⟨vb, ly16, rfl, svb, Vvb, m16, Jy16, F16, z16⟩
          have bX16 := F16.out _ _ bX15
          have bY16 := F16.out _ _ bY15
          have hs16 : M < wy16.heap.size := by omega
          go_wp2_with fail
          refine hK.out _ _ (KS.out _ _ Jy16) (fun hH16 => ?_)
          clear hK K
          (try simp only [Act.put, List.setIfInBounds_toArray, List.set_cons_zero, List.set_cons_succ])
          have nXY : N15 ≠ N12 := by omega
          have VA9 := Lib.hid (vs_mono m16.out n _ _ Vva.out)
          have VB9 := Vvb
          have MX : M ≠ N15 := by omega
          have MY : M ≠ N12 := by omega
          have LX : w.heap.size + 3 ≤ N15 := by omega
          have LY : w.heap.size + 3 ≤ N12 := by omega
          have cX := bX16.c 0
          have fX := bX16.f 0
          have cY := bY16.c 0
          have fY := bY16.f 0
          have hsW : w.heap.size + 3 ≤ wy16.heap.size := by omega
          have sva9 := Lib.hid sva
          have svb9 := Lib.hid svb
          rcases sva with rfl | ⟨Ta, za, rfl⟩
          · rcases svb with rfl | ⟨Tb, zb, rfl⟩
            · refine wpAnyH_ready (rs := [8]) (by kernel_rfl) (by simp) ?_
              refine AllReadyH.cons (o := { dst := none, op := Op.store 20 (Operand.tmp 6) (Operand.tmp 12), type := 0, pos := "acts.go:41", after := #[{ on := 6, ground := Ground.data }, { on := 2, ground := Ground.data }, { on := 5, ground := Ground.chain }, { on := 0, ground := Ground.phase }, { on := 1, ground := Ground.phase }, { on := 2, ground := Ground.phase }, { on := 3, ground := Ground.textOnly Departure.lateStores }, { on := 4, ground := Ground.textOnly Departure.lateStores }, { on := 5, ground := Ground.textOnly Departure.lateStoresUnsure }, { on := 6, ground := Ground.phase }, { on := 7, ground := Ground.phase }], guard := none }) rfl (fun K hK => ?_) AllReadyH.nil
              go_simp
              have J8 := Jy16.cell bX16 LX MX (.nilIface)
              have X8 : Bk _ N15 #[.nilIface] 20 := bX16.set 0 (.nilIface)
              have Y8 := bY16.other ⟨N15, 0, none⟩ (.nilIface) (by show N12 ≠ N15; omega)
              have z8 : w.heap.size + 3 ≤ (wy16.setCell ⟨N15, 0, none⟩ (.nilIface)).heap.size := by simpa using hsW
              clear cX fX cY fY
              generalize wy16.setCell ⟨N15, 0, none⟩ (.nilIface) = w8 at *
              refine hK.out _ _ (KS.out _ _ J8) (fun hH8 => ?_)
              clear hK K
              (try simp only [Act.put, List.setIfInBounds_toArray, List.set_cons_zero, List.set_cons_succ])
              have cY := Y8.c 0
              have fY := Y8.f 0
              refine wpAnyH_ready (rs := [9]) (by kernel_rfl) (by simp) ?_
              refine AllReadyH.cons (o := { dst := none, op := Op.store 20 (Operand.tmp 7) (Operand.tmp 15), type := 0, pos := "acts.go:41", after := #[{ on := 7, ground := Ground.data }, { on := 5, ground := Ground.data }, { on := 8, ground := Ground.chain }, { on := 0, ground := Ground.phase }, { on := 1, ground := Ground.phase }, { on := 2, ground := Ground.phase }, { on := 3, ground := Ground.phase }, { on := 4, ground := Ground.phase }, { on := 5, ground := Ground.phase }, { on := 6, ground := Ground.phase }, { on := 7, ground := Ground.phase }, { on := 8, ground := Ground.phase }], guard := none }) rfl (fun K hK => ?_) AllReadyH.nil
              go_simp
              have J9 := J8.cell Y8 LY MY (.nilIface)
              have Y9 : Bk _ N12 #[.nilIface] 20 := Y8.set 0 (.nilIface)
              have X9 := X8.other ⟨N12, 0, none⟩ (.nilIface) (by show N15 ≠ N12; omega)
              have z9 : w.heap.size + 3 ≤ (w8.setCell ⟨N12, 0, none⟩ (.nilIface)).heap.size := by simpa using z8
              clear cY fY
              generalize w8.setCell ⟨N12, 0, none⟩ (.nilIface) = w9 at *
              refine hK.out _ _ (KS.out _ _ J9) (fun hH9 => ?_)
              clear hK K
              (try simp only [Act.put, List.setIfInBounds_toArray, List.set_cons_zero, List.set_cons_succ])
              refine wpAnyH_done (by kernel_rfl) ?_ _
              go_wp2_with fail
              go_meet
              exact ⟨_, _, _, _, _, rfl, rfl, sva9.out, svb9.out, VA9.out, VB9.out, X9, Y9, J9, z9⟩
            · refine wpAnyH_ready (rs := [8]) (by kernel_rfl) (by simp) ?_
              refine AllReadyH.cons (o := { dst := none, op := Op.store 20 (Operand.tmp 6) (Operand.tmp 12), type := 0, pos := "acts.go:41", after := #[{ on := 6, ground := Ground.data }, { on := 2, ground := Ground.data }, { on := 5, ground := Ground.chain }, { on := 0, ground := Ground.phase }, { on := 1, ground := Ground.phase }, { on := 2, ground := Ground.phase }, { on := 3, ground := Ground.textOnly Departure.lateStores }, { on := 4, ground := Ground.textOnly Departure.lateStores }, { on := 5, ground := Ground.textOnly Departure.lateStoresUnsure }, { on := 6, ground := Ground.phase }, { on := 7, ground := Ground.phase }], guard := none }) rfl (fun K hK => ?_) AllReadyH.nil
              go_simp
              have J8 := Jy16.cell bX16 LX MX (.nilIface)
              have X8 : Bk _ N15 #[.nilIface] 20 := bX16.set 0 (.nilIface)
              have Y8 := bY16.other ⟨N15, 0, none⟩ (.nilIface) (by show N12 ≠ N15; omega)
              have z8 : w.heap.size + 3 ≤ (wy16.setCell ⟨N15, 0, none⟩ (.nilIface)).heap.size := by simpa using hsW
              clear cX fX cY fY
              generalize wy16.setCell ⟨N15, 0, none⟩ (.nilIface) = w8 at *
              refine hK.out _ _ (KS.out _ _ J8) (fun hH8 => ?_)
              clear hK K
              (try simp only [Act.put, List.setIfInBounds_toArray, List.set_cons_zero, List.set_cons_succ])
              have cY := Y8.c 0
              have fY := Y8.f 0
              refine wpAnyH_ready (rs := [9]) (by kernel_rfl) (by simp) ?_
              refine AllReadyH.cons (o := { dst := none, op := Op.store 20 (Operand.tmp 7) (Operand.tmp 15), type := 0, pos := "acts.go:41", after := #[{ on := 7, ground := Ground.data }, { on := 5, ground := Ground.data }, { on := 8, ground := Ground.chain }, { on := 0, ground := Ground.phase }, { on := 1, ground := Ground.phase }, { on := 2, ground := Ground.phase }, { on := 3, ground := Ground.phase }, { on := 4, ground := Ground.phase }, { on := 5, ground := Ground.phase }, { on := 6, ground := Ground.phase }, { on := 7, ground := Ground.phase }, { on := 8, ground := Ground.phase }], guard := none }) rfl (fun K hK => ?_) AllReadyH.nil
              go_simp
              have J9 := J8.cell Y8 LY MY (.iface Tb zb)
              have Y9 : Bk _ N12 #[.iface Tb zb] 20 := Y8.set 0 (.iface Tb zb)
              have X9 := X8.other ⟨N12, 0, none⟩ (.iface Tb zb) (by show N15 ≠ N12; omega)
              have z9 : w.heap.size + 3 ≤ (w8.setCell ⟨N12, 0, none⟩ (.iface Tb zb)).heap.size := by simpa using z8
              clear cY fY
              generalize w8.setCell ⟨N12, 0, none⟩ (.iface Tb zb) = w9 at *
              refine hK.out _ _ (KS.out _ _ J9) (fun hH9 => ?_)
              clear hK K
              (try simp only [Act.put, List.setIfInBounds_toArray, List.set_cons_zero, List.set_cons_succ])
              refine wpAnyH_done (by kernel_rfl) ?_ _
              go_wp2_with fail
              go_meet
              exact ⟨_, _, _, _, _, rfl, rfl, sva9.out, svb9.out, VA9.out, VB9.out, X9, Y9, J9, z9⟩
          · rcases svb with rfl | ⟨Tb, zb, rfl⟩
            · refine wpAnyH_ready (rs := [8]) (by kernel_rfl) (by simp) ?_
              refine AllReadyH.cons (o := { dst := none, op := Op.store 20 (Operand.tmp 6) (Operand.tmp 12), type := 0, pos := "acts.go:41", after := #[{ on := 6, ground := Ground.data }, { on := 2, ground := Ground.data }, { on := 5, ground := Ground.chain }, { on := 0, ground := Ground.phase }, { on := 1, ground := Ground.phase }, { on := 2, ground := Ground.phase }, { on := 3, ground := Ground.textOnly Departure.lateStores }, { on := 4, ground := Ground.textOnly Departure.lateStores }, { on := 5, ground := Ground.textOnly Departure.lateStoresUnsure }, { on := 6, ground := Ground.phase }, { on := 7, ground := Ground.phase }], guard := none }) rfl (fun K hK => ?_) AllReadyH.nil
              go_simp
              have J8 := Jy16.cell bX16 LX MX (.iface Ta za)
              have X8 : Bk _ N15 #[.iface Ta za] 20 := bX16.set 0 (.iface Ta za)
              have Y8 := bY16.other ⟨N15, 0, none⟩ (.iface Ta za) (by show N12 ≠ N15; omega)
              have z8 : w.heap.size + 3 ≤ (wy16.setCell ⟨N15, 0, none⟩ (.iface Ta za)).heap.size := by simpa using hsW
              clear cX fX cY fY
              generalize wy16.setCell ⟨N15, 0, none⟩ (.iface Ta za) = w8 at *
              refine hK.out _ _ (KS.out _ _ J8) (fun hH8 => ?_)
              clear hK K
              (try simp only [Act.put, List.setIfInBounds_toArray, List.set_cons_zero, List.set_cons_succ])
              have cY := Y8.c 0
              have fY := Y8.f 0
              refine wpAnyH_ready (rs := [9]) (by kernel_rfl) (by simp) ?_
              refine AllReadyH.cons (o := { dst := none, op := Op.store 20 (Operand.tmp 7) (Operand.tmp 15), type := 0, pos := "acts.go:41", after := #[{ on := 7, ground := Ground.data }, { on := 5, ground := Ground.data }, { on := 8, ground := Ground.chain }, { on := 0, ground := Ground.phase }, { on := 1, ground := Ground.phase }, { on := 2, ground := Ground.phase }, { on := 3, ground := Ground.phase }, { on := 4, ground := Ground.phase }, { on := 5, ground := Ground.phase }, { on := 6, ground := Ground.phase }, { on := 7, ground := Ground.phase }, { on := 8, ground := Ground.phase }], guard := none }) rfl (fun K hK => ?_) AllReadyH.nil
              go_simp
              have J9 := J8.cell Y8 LY MY (.nilIface)
              have Y9 : Bk _ N12 #[.nilIface] 20 := Y8.set 0 (.nilIface)
              have X9 := X8.other ⟨N12, 0, none⟩ (.nilIface) (by show N15 ≠ N12; omega)
              have z9 : w.heap.size + 3 ≤ (w8.setCell ⟨N12, 0, none⟩ (.nilIface)).heap.size := by simpa using z8
              clear cY fY
              generalize w8.setCell ⟨N12, 0, none⟩ (.nilIface) = w9 at *
              refine hK.out _ _ (KS.out _ _ J9) (fun hH9 => ?_)
              clear hK K
              (try simp only [Act.put, List.setIfInBounds_toArray, List.set_cons_zero, List.set_cons_succ])
              refine wpAnyH_done (by kernel_rfl) ?_ _
              go_wp2_with fail
              go_meet
              exact ⟨_, _, _, _, _, rfl, rfl, sva9.out, svb9.out, VA9.out, VB9.out, X9, Y9, J9, z9⟩
            · refine wpAnyH_ready (rs := [8]) (by kernel_rfl) (by simp) ?_
              refine AllReadyH.cons (o := { dst := none, op := Op.store 20 (Operand.tmp 6) (Operand.tmp 12), type := 0, pos := "acts.go:41", after := #[{ on := 6, ground := Ground.data }, { on := 2, ground := Ground.data }, { on := 5, ground := Ground.chain }, { on := 0, ground := Ground.phase }, { on := 1, ground := Ground.phase }, { on := 2, ground := Ground.phase }, { on := 3, ground := Ground.textOnly Departure.lateStores }, { on := 4, ground := Ground.textOnly Departure.lateStores }, { on := 5, ground := Ground.textOnly Departure.lateStoresUnsure }, { on := 6, ground := Ground.phase }, { on := 7, ground := Ground.phase }], guard := none }) rfl (fun K hK => ?_) AllReadyH.nil
              go_simp
              have J8 := Jy16.cell bX16 LX MX (.iface Ta za)
              have X8 : Bk _ N15 #[.iface Ta za] 20 := bX16.set 0 (.iface Ta za)
              have Y8 := bY16.other ⟨N15, 0, none⟩ (.iface Ta za) (by show N12 ≠ N15; omega)
              have z8 : w.heap.size + 3 ≤ (wy16.setCell ⟨N15, 0, none⟩ (.iface Ta za)).heap.size := by simpa using hsW
              clear cX fX cY fY
              generalize wy16.setCell ⟨N15, 0, none⟩ (.iface Ta za) = w8 at *
              refine hK.out _ _ (KS.out _ _ J8) (fun hH8 => ?_)
              clear hK K
              (try simp only [Act.put, List.setIfInBounds_toArray, List.set_cons_zero, List.set_cons_succ])
              have cY := Y8.c 0
              have fY := Y8.f 0
              refine wpAnyH_ready (rs := [9]) (by kernel_rfl) (by simp) ?_
              refine AllReadyH.cons (o := { dst := none, op := Op.store 20 (Operand.tmp 7) (Operand.tmp 15), type := 0, pos := "acts.go:41", after := #[{ on := 7, ground := Ground.data }, { on := 5, ground := Ground.data }, { on := 8, ground := Ground.chain }, { on := 0, ground := Ground.phase }, { on := 1, ground := Ground.phase }, { on := 2, ground := Ground.phase }, { on := 3, ground := Ground.phase }, { on := 4, ground := Ground.phase }, { on := 5, ground := Ground.phase }, { on := 6, ground := Ground.phase }, { on := 7, ground := Ground.phase }, { on := 8, ground := Ground.phase }], guard := none }) rfl (fun K hK => ?_) AllReadyH.nil
              go_simp
              have J9 := J8.cell Y8 LY MY (.iface Tb zb)
              have Y9 : Bk _ N12 #[.iface Tb zb] 20 := Y8.set 0 (.iface Tb zb)
              have X9 := X8.other ⟨N12, 0, none⟩ (.iface Tb zb) (by show N15 ≠ N12; omega)
              have z9 : w.heap.size + 3 ≤ (w8.setCell ⟨N12, 0, none⟩ (.iface Tb zb)).heap.size := by simpa using z8
              clear cY fY
              generalize w8.setCell ⟨N12, 0, none⟩ (.iface Tb zb) = w9 at *
              refine hK.out _ _ (KS.out _ _ J9) (fun hH9 => ?_)
              clear hK K
              (try simp only [Act.put, List.setIfInBounds_toArray, List.set_cons_zero, List.set_cons_succ])
              refine wpAnyH_done (by kernel_rfl) ?_ _
              go_wp2_with fail
              go_meet
              exact ⟨_, _, _, _, _, rfl, rfl, sva9.out, svb9.out, VA9.out, VB9.out, X9, Y9, J9, z9⟩
    · go_simp
      have e17 := below1 (wd) (.cells #[.nilIface] 20)
      have bX17 := Bk.new (wd) #[.nilIface] 20
      have J17 := J0.keep e17
      have hs17 : M < ((wd).alloc (.cells #[.nilIface] 20)).heap.size := Nat.lt_of_lt_of_le hs1 e17.size
      have q17 := hs1
      clear e17
      generalize hN17 : (wd).heap.size = N17 at *
      generalize hW17 : (wd).alloc (.cells #[.nilIface] 20) = wv17 at *
      refine hK.out _ _ (KS.out _ _ J17) (fun hH17 => ?_)
      clear hK K
      (try simp only [Act.put, List.setIfInBounds_toArray, List.set_cons_zero, List.set_cons_succ])
      refine wpAnyH_ready (rs := [2, 7]) (by kernel_rfl) (by simp) ?_
      refine AllReadyH.cons (o := { dst := some 12, op := Op.call { callee := Callee.value (Operand.func 63), args := #[Operand.tmp 10, Operand.tmp 11], argTypes := #[107, 25] }, type := 20, pos := "acts.go:41", after := #[{ on := 0, ground := Ground.data }, { on := 1, ground := Ground.data }], guard := none }) rfl (fun K hK => ?_) (AllReadyH.cons (o := { dst := some 7, op := Op.alloc 20, type := 0, pos := "acts.go:41", after := #[], guard := none }) rfl (fun K hK => ?_) (AllReadyH.nil))
      · go_simp
        refine (KA.out _ _ J17).mono ?_
        rintro e wy18 ⟨va, ly18, rfl, sva, Vva, m18, Jy18, F18, z18⟩
        have bX18 := F18.out _ _ bX17
        have hs18 : M < wy18.heap.size := by omega
        go_wp2_with fail
        refine hK.out _ _ (KS.out _ _ Jy18) (fun hH18 => ?_)
        clear hK K
        (try simp only [Act.put, List.setIfInBounds_toArray, List.set_cons_zero, List.set_cons_succ])
        refine wpAnyH_ready (rs := [5, 7]) (by kernel_rfl) (by simp) ?_
        refine AllReadyH.cons (o := { dst := some 15, op := Op.call { callee := Callee.value (Operand.func 63), args := #[Operand.tmp 13, Operand.tmp 14], argTypes := #[107, 25] }, type := 20, pos := "acts.go:41", after := #[{ on := 3, ground := Ground.data }, { on := 4, ground := Ground.data }, { on := 2, ground := Ground.chain }], guard := none }) rfl (fun K hK => ?_) (AllReadyH.cons (o := { dst := some 7, op := Op.alloc 20, type := 0, pos := "acts.go:41", after := #[], guard := none }) rfl (fun K hK => ?_) (AllReadyH.nil))
        · go_simp
          refine (KB.out _ _ Jy18).mono ?_
          rintro e wy19 ⟨vb, ly19, rfl, svb, Vvb, m19, Jy19, F19, z19⟩
          have bX19 := F19.out _ _ bX18
          have hs19 : M < wy19.heap.size := by omega
          go_wp2_with fail
          refine hK.out _ _ (KS.out _ _ Jy19) (fun hH19 => ?_)
          clear hK K
          (try simp only [Act.put, List.setIfInBounds_toArray, List.set_cons_zero, List.set_cons_succ])
          refine wpAnyH_ready (rs := [7]) (by kernel_rfl) (by simp) ?_
          refine AllReadyH.cons (o := { dst := some 7, op := Op.alloc 20, type := 0, pos := "acts.go:41", after := #[], guard := none }) rfl (fun K hK => ?_) (AllReadyH.nil)
          go_simp
          have e20 := below1 (wy19) (.cells #[.nilIface] 20)
          have bY20 := Bk.new (wy19) #[.nilIface] 20
          have J20 := Jy19.keep e20
          have bX20 := bX19.step e20
          have hs20 : M < ((wy19).alloc (.cells #[.nilIface] 20)).heap.size := Nat.lt_of_lt_of_le hs19 e20.size
          have q20 := hs19
          have lt20 := bX19.lt
          clear e20
          generalize hN20 : (wy19).heap.size = N20 at *
          generalize hW20 : (wy19).alloc (.cells #[.nilIface] 20) = wv20 at *
          refine hK.out _ _ (KS.out _ _ J20) (fun hH20 => ?_)
          clear hK K
          (try simp only [Act.put, List.setIfInBounds_toArray, List.set_cons_zero, List.set_cons_succ])
          have nXY : N17 ≠ N20 := by omega
          have VA9 := Lib.hid (vs_mono m19.out n _ _ Vva.out)
          have VB9 := Vvb
          have MX : M ≠ N17 := by omega
          have MY : M ≠ N20 := by omega
          have LX : w.heap.size + 3 ≤ N17 := by omega
          have LY : w.heap.size + 3 ≤ N20 := by omega
          have cX := bX20.c 0
          have fX := bX20.f 0
          have cY := bY20.c 0
          have fY := bY20.f 0
          have hsW : w.heap.size + 3 ≤ wv20.heap.size := by omega
          have sva9 := Lib.hid sva
          have svb9 := Lib.hid svb
          rcases sva with rfl | ⟨Ta, za, rfl⟩
          · rcases svb with rfl | ⟨Tb, zb, rfl⟩
            · refine wpAnyH_ready (rs := [8]) (by kernel_rfl) (by simp) ?_
              refine AllReadyH.cons (o := { dst := none, op := Op.store 20 (Operand.tmp 6) (Operand.tmp 12), type := 0, pos := "acts.go:41", after := #[{ on := 6, ground := Ground.data }, { on := 2, ground := Ground.data }, { on := 5, ground := Ground.chain }, { on := 0, ground := Ground.phase }, { on := 1, ground := Ground.phase }, { on := 2, ground := Ground.phase }, { on := 3, ground := Ground.textOnly Departure.lateStores }, { on := 4, ground := Ground.textOnly Departure.lateStores }, { on := 5, ground := Ground.textOnly Departure.lateStoresUnsure }, { on := 6, ground := Ground.phase }, { on := 7, ground := Ground.phase }], guard := none }) rfl (fun K hK => ?_) AllReadyH.nil
              go_simp
              have J8 := J20.cell bX20 LX MX (.nilIface)
              have X8 : Bk _ N17 #[.nilIface] 20 := bX20.set 0 (.nilIface)
              have Y8 := bY20.other ⟨N17, 0, none⟩ (.nilIface) (by show N20 ≠ N17; omega)
              have z8 : w.heap.size + 3 ≤ (wv20.setCell ⟨N17, 0, none⟩ (.nilIface)).heap.size := by simpa using hsW
              clear cX fX cY fY
              generalize wv20.setCell ⟨N17, 0, none⟩ (.nilIface) = w8 at *
              refine hK.out _ _ (KS.out _ _ J8) (fun hH8 => ?_)
              clear hK K
              (try simp only [Act.put, List.setIfInBounds_toArray, List.set_cons_zero, List.set_cons_succ])
              have cY := Y8.c 0
              have fY := Y8.f 0
              refine wpAnyH_ready (rs := [9]) (by kernel_rfl) (by simp) ?_
              refine AllReadyH.cons (o := { dst := none, op := Op.store 20 (Operand.tmp 7) (Operand.tmp 15), type := 0, pos := "acts.go:41", after := #[{ on := 7, ground := Ground.data }, { on := 5, ground := Ground.data }, { on := 8, ground := Ground.chain }, { on := 0, ground := Ground.phase }, { on := 1, ground := Ground.phase }, { on := 2, ground := Ground.phase }, { on := 3, ground := Ground.phase }, { on := 4, ground := Ground.phase }, { on := 5, ground := Ground.phase }, { on := 6, ground := Ground.phase }, { on := 7, ground := Ground.phase }, { on := 8, ground := Ground.phase }], guard := none }) rfl (fun K hK => ?_) AllReadyH.nil
              go_simp
              have J9 := J8.cell Y8 LY MY (.nilIface)
              have Y9 : Bk _ N20 #[.nilIface] 20 := Y8.set 0 (.nilIface)
              have X9 := X8.other ⟨N20, 0, none⟩ (.nilIface) (by show N17 ≠ N20; omega)
              have z9 : w.heap.size + 3 ≤ (w8.setCell ⟨N20, 0, none⟩ (.nilIface)).heap.size := by simpa using z8
              clear cY fY
              generalize w8.setCell ⟨N20, 0, none⟩ (.nilIface) = w9 at *
              refine hK.out _ _ (KS.out _ _ J9) (fun hH9 => ?_)
              clear hK K
              (try simp only [Act.put, List.setIfInBounds_toArray, List.set_cons_zero, List.set_cons_succ])
              refine wpAnyH_done (by kernel_rfl) ?_ _
              go_wp2_with fail
              go_meet
              exact ⟨_, _, _, _, _, rfl, rfl, sva9.out, svb9.out, VA9.out, VB9.out, X9, Y9, J9, z9⟩
            · refine wpAnyH_ready (rs := [8]) (by kernel_rfl) (by simp) ?_
              refine AllReadyH.cons (o := { dst := none, op := Op.store 20 (Operand.tmp 6) (Operand.tmp 12), type := 0, pos := "acts.go:41", after := #[{ on := 6, ground := Ground.data }, { on := 2, ground := Ground.data }, { on := 5, ground := Ground.chain }, { on := 0, ground := Ground.phase }, { on := 1, ground := Ground.phase }, { on := 2, ground := Ground.phase }, { on := 3, ground := Ground.textOnly Departure.lateStores }, { on := 4, ground := Ground.textOnly Departure.lateStores }, { on := 5, ground := Ground.textOnly Departure.lateStoresUnsure }, { on := 6, ground := Ground.phase }, { on := 7, ground := Ground.phase }], guard := none }) rfl (fun K hK => ?_) AllReadyH.nil
              go_simp
              have J8 := J20.cell bX20 LX MX (.nilIface)
              have X8 : Bk _ N17 #[.nilIface] 20 := bX20.set 0 (.nilIface)
              have Y8 := bY20.other ⟨N17, 0, none⟩ (.nilIface) (by show N20 ≠ N17; omega)
              have z8 : w.heap.size + 3 ≤ (wv20.setCell ⟨N17, 0, none⟩ (.nilIface)).heap.size := by simpa using hsW
              clear cX fX cY fY
              generalize wv20.setCell ⟨N17, 0, none⟩ (.nilIface) = w8 at *
              refine hK.out _ _ (KS.out _ _ J8) (fun hH8 => ?_)
              clear hK K
              (try simp only [Act.put, List.setIfInBounds_toArray, List.set_cons_zero, List.set_cons_succ])
              have cY := Y8.c 0
              have fY := Y8.f 0
              refine wpAnyH_ready (rs := [9]) (by kernel_rfl) (by simp) ?_
              refine AllReadyH.cons (o := { dst := none, op := Op.store 20 (Operand.tmp 7) (Operand.tmp 15), type := 0, pos := "acts.go:41", after := #[{ on := 7, ground := Ground.data }, { on := 5, ground := Ground.data }, { on := 8, ground := Ground.chain }, { on := 0, ground := Ground.phase }, { on := 1, ground := Ground.phase }, { on := 2, ground := Ground.phase }, { on := 3, ground := Ground.phase }, { on := 4, ground := Ground.phase }, { on := 5, ground := Ground.phase }, { on := 6, ground := Ground.phase }, { on := 7, ground := Ground.phase }, { on := 8, ground := Ground.phase }], guard := none }) rfl (fun K hK => ?_) AllReadyH.nil
              go_simp
              have J9 := J8.cell Y8 LY MY (.iface Tb zb)
              have Y9 : Bk _ N20 #[.iface Tb zb] 20 := Y8.set 0 (.iface Tb zb)
              have X9 := X8.other ⟨N20, 0, none⟩ (.iface Tb zb) (by show N17 ≠ N20; omega)
              have z9 : w.heap.size + 3 ≤ (w8.setCell ⟨N20, 0, none⟩ (.iface Tb zb)).heap.size := by simpa using z8
              clear cY fY
              generalize w8.setCell ⟨N20, 0, none⟩ (.iface Tb zb) = w9 at *
              refine hK.out _ _ (KS.out _ _ J9) (fun hH9 => ?_)
              clear hK K
              (try simp only [Act.put, List.setIfInBounds_toArray, List.set_cons_zero, List.set_cons_succ])
              refine wpAnyH_done (by kernel_rfl) ?_ _
              go_wp2_with fail
              go_meet
              exact ⟨_, _, _, _, _, rfl, rfl, sva9.out, svb9.out, VA9.out, VB9.out, X9, Y9, J9, z9⟩
          · rcases svb with rfl | ⟨Tb, zb, rfl⟩
            · refine wpAnyH_ready (rs := [8]) (by kernel_rfl) (by simp) ?_
              refine AllReadyH.cons (o := { dst := none, op := Op.store 20 (Operand.tmp 6) (Operand.tmp 12), type := 0, pos := "acts.go:41", after := #[{ on := 6, ground := Ground.data }, { on := 2, ground := Ground.data }, { on := 5, ground := Ground.chain }, { on := 0, ground := Ground.phase }, { on := 1, ground := Ground.phase }, { on := 2, ground := Ground.phase }, { on := 3, ground := Ground.textOnly Departure.lateStores }, { on := 4, ground := Ground.textOnly Departure.lateStores }, { on := 5, ground := Ground.textOnly Departure.lateStoresUnsure }, { on := 6, ground := Ground.phase }, { on := 7, ground := Ground.phase }], guard := none }) rfl (fun K hK => ?_) AllReadyH.nil
              go_simp
              have J8 := J20.cell bX20 LX MX (.iface Ta za)
              have X8 : Bk _ N17 #[.iface Ta za] 20 := bX20.set 0 (.iface Ta za)
              have Y8 := bY20.other ⟨N17, 0, none⟩ (.iface Ta za) (by show N20 ≠ N17; omega)
              have z8 : w.heap.size + 3 ≤ (wv20.setCell ⟨N17, 0, none⟩ (.iface Ta za)).heap.size := by simpa using hsW
              clear cX fX cY fY
              generalize wv20.setCell ⟨N17, 0, none⟩ (.iface Ta za) = w8 at *
              refine hK.out _ _ (KS.out _ _ J8) (fun hH8 => ?_)
              clear hK K
              (try simp only [Act.put, List.setIfInBounds_toArray, List.set_cons_zero, List.set_cons_succ])
              have cY := Y8.c 0
              have fY := Y8.f 0
              refine wpAnyH_ready (rs := [9]) (by kernel_rfl) (by simp) ?_
              refine AllReadyH.cons (o := { dst := none, op := Op.store 20 (Operand.tmp 7) (Operand.tmp 15), type := 0, pos := "acts.go:41", after := #[{ on := 7, ground := Ground.data }, { on := 5, ground := Ground.data }, { on := 8, ground := Ground.chain }, { on := 0, ground := Ground.phase }, { on := 1, ground := Ground.phase }, { on := 2, ground := Ground.phase }, { on := 3, ground := Ground.phase }, { on := 4, ground := Ground.phase }, { on := 5, ground := Ground.phase }, { on := 6, ground := Ground.phase }, { on := 7, ground := Ground.phase }, { on := 8, ground := Ground.phase }], guard := none }) rfl (fun K hK => ?_) AllReadyH.nil
              go_simp
              have J9 := J8.cell Y8 LY MY (.nilIface)
              have Y9 : Bk _ N20 #[.nilIface] 20 := Y8.set 0 (.nilIface)
              have X9 := X8.other ⟨N20, 0, none⟩ (.nilIface) (by show N17 ≠ N20; omega)
              have z9 : w.heap.size + 3 ≤ (w8.setCell ⟨N20, 0, none⟩ (.nilIface)).heap.size := by simpa using z8
              clear cY fY
              generalize w8.setCell ⟨N20, 0, none⟩ (.nilIface) = w9 at *
              refine hK.out _ _ (KS.out _ _ J9) (fun hH9 => ?_)
              clear hK K
              (try simp only [Act.put, List.setIfInBounds_toArray, List.set_cons_zero, List.set_cons_succ])
              refine wpAnyH_done (by kernel_rfl) ?_ _
              go_wp2_with fail
              go_meet
              exact ⟨_, _, _, _, _, rfl, rfl, sva9.out, svb9.out, VA9.out, VB9.out, X9, Y9, J9, z9⟩
            · refine wpAnyH_ready (rs := [8]) (by kernel_rfl) (by simp) ?_
              refine AllReadyH.cons (o := { dst := none, op := Op.store 20 (Operand.tmp 6) (Operand.tmp 12), type := 0, pos := "acts.go:41", after := #[{ on := 6, ground := Ground.data }, { on := 2, ground := Ground.data }, { on := 5, ground := Ground.chain }, { on := 0, ground := Ground.phase }, { on := 1, ground := Ground.phase }, { on := 2, ground := Ground.phase }, { on := 3, ground := Ground.textOnly Departure.lateStores }, { on := 4, ground := Ground.textOnly Departure.lateStores }, { on := 5, ground := Ground.textOnly Departure.lateStoresUnsure }, { on := 6, ground := Ground.phase }, { on := 7, ground := Ground.phase }], guard := none }) rfl (fun K hK => ?_) AllReadyH.nil
              go_simp
              have J8 := J20.cell bX20 LX MX (.iface Ta za)
              have X8 : Bk _ N17 #[.iface Ta za] 20 := bX20.set 0 (.iface Ta za)
              have Y8 := bY20.other ⟨N17, 0, none⟩ (.iface Ta za) (by show N20 ≠ N17; omega)
              have z8 : w.heap.size + 3 ≤ (wv20.setCell ⟨N17, 0, none⟩ (.iface Ta za)).heap.size := by simpa using hsW
              clear cX fX cY fY
              generalize wv20.setCell ⟨N17, 0, none⟩ (.iface Ta za) = w8 at *
              refine hK.out _ _ (KS.out _ _ J8) (fun hH8 => ?_)
              clear hK K
              (try simp only [Act.put, List.setIfInBounds_toArray, List.set_cons_zero, List.set_cons_succ])
              have cY := Y8.c 0
              have fY := Y8.f 0
              refine wpAnyH_ready (rs := [9]) (by kernel_rfl) (by simp) ?_
              refine AllReadyH.cons (o := { dst := none, op := Op.store 20 (Operand.tmp 7) (Operand.tmp 15), type := 0, pos := "acts.go:41", after := #[{ on := 7, ground := Ground.data }, { on := 5, ground := Ground.data }, { on := 8, ground := Ground.chain }, { on := 0, ground := Ground.phase }, { on := 1, ground := Ground.phase }, { on := 2, ground := Ground.phase }, { on := 3, ground := Ground.phase }, { on := 4, ground := Ground.phase }, { on := 5, ground := Ground.phase }, { on := 6, ground := Ground.phase }, { on := 7, ground := Ground.phase }, { on := 8, ground := Ground.phase }], guard := none }) rfl (fun K hK => ?_) AllReadyH.nil
              go_simp
              have J9 := J8.cell Y8 LY MY (.iface Tb zb)
              have Y9 : Bk _ N20 #[.iface Tb zb] 20 := Y8.set 0 (.iface Tb zb)
              have X9 := X8.other ⟨N20, 0, none⟩ (.iface Tb zb) (by show N17 ≠ N20; omega)
              have z9 : w.heap.size + 3 ≤ (w8.setCell ⟨N20, 0, none⟩ (.iface Tb zb)).heap.size := by simpa using z8
              clear cY fY
              generalize w8.setCell ⟨N20, 0, none⟩ (.iface Tb zb) = w9 at *
              refine hK.out _ _ (KS.out _ _ J9) (fun hH9 => ?_)
              clear hK K
              (try simp only [Act.put, List.setIfInBounds_toArray, List.set_cons_zero, List.set_cons_succ])
              refine wpAnyH_done (by kernel_rfl) ?_ _
              go_wp2_with fail
              go_meet
              exact ⟨_, _, _, _, _, rfl, rfl, sva9.out, svb9.out, VA9.out, VB9.out, X9, Y9, J9, z9⟩
        · go_simp
          have e21 := below1 (wy18) (.cells #[.nilIface] 20)
          have bY21 := Bk.new (wy18) #[.nilIface] 20
          have J21 := Jy18.keep e21
          have bX21 := bX18.step e21
          have hs21 : M < ((wy18).alloc (.cells #[.nilIface] 20)).heap.size := Nat.lt_of_lt_of_le hs18 e21.size
          have q21 := hs18
          have lt21 := bX18.lt
          clear e21
          generalize hN21 : (wy18).heap.size = N21 at *
          generalize hW21 : (wy18).alloc (.cells #[.nilIface] 20) = wv21 at *
          refine hK.out _ _ (KS.out _ _ J21) (fun hH21 => ?_)
          clear hK K
          (try simp only [Act.put, List.setIfInBounds_toArray, List.set_cons_zero, List.set_cons_succ])
          refine wpAnyH_ready (rs := [5]) (by kernel_rfl) (by simp) ?_
          refine AllReadyH.cons (o := { dst := some 15, op := Op.call { callee := Callee.value (Operand.func 63), args := #[Operand.tmp 13, Operand.tmp 14], argTypes := #[107, 25] }, type := 20, pos := "acts.go:41", after := #[{ on := 3, ground := Ground.data }, { on := 4, ground := Ground.data }, { on := 2, ground := Ground.chain }], guard := none }) rfl (fun K hK => ?_) (AllReadyH.nil)
          go_simp
          refine (KB.out _ _ J21).mono ?_
          rintro e wy22 ⟨vb, ly22, rfl, svb, Vvb, m22, Jy22, F22, z22⟩
          have bX22 := F22.out _ _ bX21
          have bY22 := F22.out _ _ bY21
          have hs22 : M < wy22.heap.size := by omega
          go_wp2_with fail
          refine hK.out _ _ (KS.out _ _ Jy22) (fun hH22 => ?_)
          clear hK K
          (try simp only [Act.put, List.setIfInBounds_toArray, List.set_cons_zero, List.set_cons_succ])
          have nXY : N17 ≠ N21 := by omega
          have VA9 := Lib.hid (vs_mono m22.out n _ _ Vva.out)
          have VB9 := Vvb
          have MX : M ≠ N17 := by omega
          have MY : M ≠ N21 := by omega
          have LX : w.heap.size + 3 ≤ N17 := by omega
          have LY : w.heap.size + 3 ≤ N21 := by omega
          have cX := bX22.c 0
          have fX := bX22.f 0
          have cY := bY22.c 0
          have fY := bY22.f 0
          have hsW : w.heap.size + 3 ≤ wy22.heap.size := by omega
          have sva9 := Lib.hid sva
          have svb9 := Lib.hid svb
          rcases sva with rfl | ⟨Ta, za, rfl⟩
          · rcases svb with rfl | ⟨Tb, zb, rfl⟩
            · refine wpAnyH_ready (rs := [8]) (by kernel_rfl) (by simp) ?_
              refine AllReadyH.cons (o := { dst := none, op := Op.store 20 (Operand.tmp 6) (Operand.tmp 12), type := 0, pos := "acts.go:41", after := #[{ on := 6, ground := Ground.data }, { on := 2, ground := Ground.data }, { on := 5, ground := Ground.chain }, { on := 0, ground := Ground.phase }, { on := 1, ground := Ground.phase }, { on := 2, ground := Ground.phase }, { on := 3, ground := Ground.textOnly Departure.lateStores }, { on := 4, ground := Ground.textOnly Departure.lateStores }, { on := 5, ground := Ground.textOnly Departure.lateStoresUnsure }, { on := 6, ground := Ground.phase }, { on := 7, ground := Ground.phase }], guard := none }) rfl (fun K hK => ?_) AllReadyH.nil
              go_simp
              have J8 := Jy22.cell bX22 LX MX (.nilIface)
              have X8 : Bk _ N17 #[.nilIface] 20 := bX22.set 0 (.nilIface)
              have Y8 := bY22.other ⟨N17, 0, none⟩ (.nilIface) (by show N21 ≠ N17; omega)
              have z8 : w.heap.size + 3 ≤ (wy22.setCell ⟨N17, 0, none⟩ (.nilIface)).heap.size := by simpa using hsW
              clear cX fX cY fY
              generalize wy22.setCell ⟨N17, 0, none⟩ (.nilIface) = w8 at *
              refine hK.out _ _ (KS.out _ _ J8) (fun hH8 => ?_)
              clear hK K
              (try simp only [Act.put, List.setIfInBounds_toArray, List.set_cons_zero, List.set_cons_succ])
              have cY := Y8.c 0
              have fY := Y8.f 0
              refine wpAnyH_ready (rs := [9]) (by kernel_rfl) (by simp) ?_
              refine AllReadyH.cons (o := { dst := none, op := Op.store 20 (Operand.tmp 7) (Operand.tmp 15), type := 0, pos := "acts.go:41", after := #[{ on := 7, ground := Ground.data }, { on := 5, ground := Ground.data }, { on := 8, ground := Ground.chain }, { on := 0, ground := Ground.phase }, { on := 1, ground := Ground.phase }, { on := 2, ground := Ground.phase }, { on := 3, ground := Ground.phase }, { on := 4, ground := Ground.phase }, { on := 5, ground := Ground.phase }, { on := 6, ground := Ground.phase }, { on := 7, ground := Ground.phase }, { on := 8, ground := Ground.phase }], guard := none }) rfl (fun K hK => ?_) AllReadyH.nil
              go_simp
              have J9 := J8.cell Y8 LY MY (.nilIface)
              have Y9 : Bk _ N21 #[.nilIface] 20 := Y8.set 0 (.nilIface)
              have X9 := X8.other ⟨N21, 0, none⟩ (.nilIface) (by show N17 ≠ N21; omega)
              have z9 : w.heap.size + 3 ≤ (w8.setCell ⟨N21, 0, none⟩ (.nilIface)).heap.size := by simpa using z8
              clear cY fY
              generalize w8.setCell ⟨N21, 0, none⟩ (.nilIface) = w9 at *
              refine hK.out _ _ (KS.out _ _ J9) (fun hH9 => ?_)
              clear hK K
              (try simp only [Act.put, List.setIfInBounds_toArray, List.set_cons_zero, List.set_cons_succ])
              refine wpAnyH_done (by kernel_rfl) ?_ _
              go_wp2_with fail
              go_meet
              exact ⟨_, _, _, _, _, rfl, rfl, sva9.out, svb9.out, VA9.out, VB9.out, X9, Y9, J9, z9⟩
            · refine wpAnyH_ready (rs := [8]) (by kernel_rfl) (by simp) ?_
              refine AllReadyH.cons (o := { dst := none, op := Op.store 20 (Operand.tmp 6) (Operand.tmp 12), type := 0, pos := "acts.go:41", after := #[{ on := 6, ground := Ground.data }, { on := 2, ground := Ground.data }, { on := 5, ground := Ground.chain }, { on := 0, ground := Ground.phase }, { on := 1, ground := Ground.phase }, { on := 2, ground := Ground.phase }, { on := 3, ground := Ground.textOnly Departure.lateStores }, { on := 4, ground := Ground.textOnly Departure.lateStores }, { on := 5, ground := Ground.textOnly Departure.lateStoresUnsure }, { on := 6, ground := Ground.phase }, { on := 7, ground := Ground.phase }], guard := none }) rfl (fun K hK => ?_) AllReadyH.nil
              go_simp
              have J8 := Jy22.cell bX22 LX MX (.nilIface)
              have X8 : Bk _ N17 #[.nilIface] 20 := bX22.set 0 (.nilIface)
              have Y8 := bY22.other ⟨N17, 0, none⟩ (.nilIface) (by show N21 ≠ N17; omega)
              have z8 : w.heap.size + 3 ≤ (wy22.setCell ⟨N17, 0, none⟩ (.nilIface)).heap.size := by simpa using hsW
              clear cX fX cY fY
              generalize wy22.setCell ⟨N17, 0, none⟩ (.nilIface) = w8 at *
              refine hK.out _ _ (KS.out _ _ J8) (fun hH8 => ?_)
              clear hK K
              (try simp only [Act.put, List.setIfInBounds_toArray, List.set_cons_zero, List.set_cons_succ])
              have cY := Y8.c 0
              have fY := Y8.f 0
              refine wpAnyH_ready (rs := [9]) (by kernel_rfl) (by simp) ?_
              refine AllReadyH.cons (o := { dst := none, op := Op.store 20 (Operand.tmp 7) (Operand.tmp 15), type := 0, pos := "acts.go:41", after := #[{ on := 7, ground := Ground.data }, { on := 5, ground := Ground.data }, { on := 8, ground := Ground.chain }, { on := 0, ground := Ground.phase }, { on := 1, ground := Ground.phase }, { on := 2, ground := Ground.phase }, { on := 3, ground := Ground.phase }, { on := 4, ground := Ground.phase }, { on := 5, ground := Ground.phase }, { on := 6, ground := Ground.phase }, { on := 7, ground := Ground.phase }, { on := 8, ground := Ground.phase }], guard := none }) rfl (fun K hK => ?_) AllReadyH.nil
              go_simp
              have J9 := J8.cell Y8 LY MY (.iface Tb zb)
              have Y9 : Bk _ N21 #[.iface Tb zb] 20 := Y8.set 0 (.iface Tb zb)
              have X9 := X8.other ⟨N21, 0, none⟩ (.iface Tb zb) (by show N17 ≠ N21; omega)
              have z9 : w.heap.size + 3 ≤ (w8.setCell ⟨N21, 0, none⟩ (.iface Tb zb)).heap.size := by simpa using z8
              clear cY fY
              generalize w8.setCell ⟨N21, 0, none⟩ (.iface Tb zb) = w9 at *
              refine hK.out _ _ (KS.out _ _ J9) (fun hH9 => ?_)
              clear hK K
              (try simp only [Act.put, List.setIfInBounds_toArray, List.set_cons_zero, List.set_cons_succ])
              refine wpAnyH_done (by kernel_rfl) ?_ _
              go_wp2_with fail
              go_meet
              exact ⟨_, _, _, _, _, rfl, rfl, sva9.out, svb9.out, VA9.out, VB9.out, X9, Y9, J9, z9⟩
          · rcases svb with rfl | ⟨Tb, zb, rfl⟩
            · refine wpAnyH_ready (rs := [8]) (by kernel_rfl) (by simp) ?_
              refine AllReadyH.cons (o := { dst := none, op := Op.store 20 (Operand.tmp 6) (Operand.tmp 12), type := 0, pos := "acts.go:41", after := #[{ on := 6, ground := Ground.data }, { on := 2, ground := Ground.data }, { on := 5, ground := Ground.chain }, { on := 0, ground := Ground.phase }, { on := 1, ground := Ground.phase }, { on := 2, ground := Ground.phase }, { on := 3, ground := Ground.textOnly Departure.lateStores }, { on := 4, ground := Ground.textOnly Departure.lateStores }, { on := 5, ground := Ground.textOnly Departure.lateStoresUnsure }, { on := 6, ground := Ground.phase }, { on := 7, ground := Ground.phase }], guard := none }) rfl (fun K hK => ?_) AllReadyH.nil
              go_simp
              have J8 := Jy22.cell bX22 LX MX (.iface Ta za)
              have X8 : Bk _ N17 #[.iface Ta za] 20 := bX22.set 0 (.iface Ta za)
              have Y8 := bY22.other ⟨N17, 0, none⟩ (.iface Ta za) (by show N21 ≠ N17; omega)
              have z8 : w.heap.size + 3 ≤ (wy22.setCell ⟨N17, 0, none⟩ (.iface Ta za)).heap.size := by simpa using hsW
              clear cX fX cY fY
              generalize wy22.setCell ⟨N17, 0, none⟩ (.iface Ta za) = w8 at *
              refine hK.out _ _ (KS.out _ _ J8) (fun hH8 => ?_)
              clear hK K
              (try simp only [Act.put, List.setIfInBounds_toArray, List.set_cons_zero, List.set_cons_succ])
              have cY := Y8.c 0
              have fY := Y8.f 0
              refine wpAnyH_ready (rs := [9]) (by kernel_rfl) (by simp) ?_
              refine AllReadyH.cons (o := { dst := none, op := Op.store 20 (Operand.tmp 7) (Operand.tmp 15), type := 0, pos := "acts.go:41", after := #[{ on := 7, ground := Ground.data }, { on := 5, ground := Ground.data }, { on := 8, ground := Ground.chain }, { on := 0, ground := Ground.phase }, { on := 1, ground := Ground.phase }, { on := 2, ground := Ground.phase }, { on := 3, ground := Ground.phase }, { on := 4, ground := Ground.phase }, { on := 5, ground := Ground.phase }, { on := 6, ground := Ground.phase }, { on := 7, ground := Ground.phase }, { on := 8, ground := Ground.phase }], guard := none }) rfl (fun K hK => ?_) AllReadyH.nil
              go_simp
              have J9 := J8.cell Y8 LY MY (.nilIface)
              have Y9 : Bk _ N21 #[.nilIface] 20 := Y8.set 0 (.nilIface)
              have X9 := X8.other ⟨N21, 0, none⟩ (.nilIface) (by show N17 ≠ N21; omega)
              have z9 : w.heap.size + 3 ≤ (w8.setCell ⟨N21, 0, none⟩ (.nilIface)).heap.size := by simpa using z8
              clear cY fY
              generalize w8.setCell ⟨N21, 0, none⟩ (.nilIface) = w9 at *
              refine hK.out _ _ (KS.out _ _ J9) (fun hH9 => ?_)
              clear hK K
              (try simp only [Act.put, List.setIfInBounds_toArray, List.set_cons_zero, List.set_cons_succ])
              refine wpAnyH_done (by kernel_rfl) ?_ _
              go_wp2_with fail
              go_meet
              exact ⟨_, _, _, _, _, rfl, rfl, sva9.out, svb9.out, VA9.out, VB9.out, X9, Y9, J9, z9⟩
            · refine wpAnyH_ready (rs := [8]) (by kernel_rfl) (by simp) ?_
              refine AllReadyH.cons (o := { dst := none, op := Op.store 20 (Operand.tmp 6) (Operand.tmp 12), type := 0, pos := "acts.go:41", after := #[{ on := 6, ground := Ground.data }, { on := 2, ground := Ground.data }, { on := 5, ground := Ground.chain }, { on := 0, ground := Ground.phase }, { on := 1, ground := Ground.phase }, { on := 2, ground := Ground.phase }, { on := 3, ground := Ground.textOnly Departure.lateStores }, { on := 4, ground := Ground.textOnly Departure.lateStores }, { on := 5, ground := Ground.textOnly Departure.lateStoresUnsure }, { on := 6, ground := Ground.phase }, { on := 7, ground := Ground.phase }], guard := none }) rfl (fun K hK => ?_) AllReadyH.nil
              go_simp
              have J8 := Jy22.cell bX22 LX MX (.iface Ta za)
              have X8 : Bk _ N17 #[.iface Ta za] 20 := bX22.set 0 (.iface Ta za)
              have Y8 := bY22.other ⟨N17, 0, none⟩ (.iface Ta za) (by show N21 ≠ N17; omega)
              have z8 : w.heap.size + 3 ≤ (wy22.setCell ⟨N17, 0, none⟩ (.iface Ta za)).heap.size := by simpa using hsW
              clear cX fX cY fY
              generalize wy22.setCell ⟨N17, 0, none⟩ (.iface Ta za) = w8 at *
              refine hK.out _ _ (KS.out _ _ J8) (fun hH8 => ?_)
              clear hK K
              (try simp only [Act.put, List.setIfInBounds_toArray, List.set_cons_zero, List.set_cons_succ])
              have cY := Y8.c 0
              have fY := Y8.f 0
              refine wpAnyH_ready (rs := [9]) (by kernel_rfl) (by simp) ?_
              refine AllReadyH.cons (o := { dst := none, op := Op.store 20 (Operand.tmp 7) (Operand.tmp 15), type := 0, pos := "acts.go:41", after := #[{ on := 7, ground := Ground.data }, { on := 5, ground := Ground.data }, { on := 8, ground := Ground.chain }, { on := 0, ground := Ground.phase }, { on := 1, ground := Ground.phase }, { on := 2, ground := Ground.phase }, { on := 3, ground := Ground.phase }, { on := 4, ground := Ground.phase }, { on := 5, ground := Ground.phase }, { on := 6, ground := Ground.phase }, { on := 7, ground := Ground.phase }, { on := 8, ground := Ground.phase }], guard := none }) rfl (fun K hK => ?_) AllReadyH.nil
              go_simp
              have J9 := J8.cell Y8 LY MY (.iface Tb zb)
              have Y9 : Bk _ N21 #[.iface Tb zb] 20 := Y8.set 0 (.iface Tb zb)
              have X9 := X8.other ⟨N21, 0, none⟩ (.iface Tb zb) (by show N17 ≠ N21; omega)
              have z9 : w.heap.size + 3 ≤ (w8.setCell ⟨N21, 0, none⟩ (.iface Tb zb)).heap.size := by simpa using z8
              clear cY fY
              generalize w8.setCell ⟨N21, 0, none⟩ (.iface Tb zb) = w9 at *
              refine hK.out _ _ (KS.out _ _ J9) (fun hH9 => ?_)
              clear hK K
              (try simp only [Act.put, List.setIfInBounds_toArray, List.set_cons_zero, List.set_cons_succ])
              refine wpAnyH_done (by kernel_rfl) ?_ _
              go_wp2_with fail
              go_meet
              exact ⟨_, _, _, _, _, rfl, rfl, sva9.out, svb9.out, VA9.out, VB9.out, X9, Y9, J9, z9⟩
      · go_simp
        have e23 := below1 (wv17) (.cells #[.nilIface] 20)
        have bY23 := Bk.new (wv17) #[.nilIface] 20
        have J23 := J17.keep e23
        have bX23 := bX17.step e23
        have hs23 : M < ((wv17).alloc (.cells #[.nilIface] 20)).heap.size := Nat.lt_of_lt_of_le hs17 e23.size
        have q23 := hs17
        have lt23 := bX17.lt
        clear e23
        generalize hN23 : (wv17).heap.size = N23 at *
        generalize hW23 : (wv17).alloc (.cells #[.nilIface] 20) = wv23 at *
        refine hK.out _ _ (KS.out _ _ J23) (fun hH23 => ?_)
        clear hK K
        (try simp only [Act.put, List.setIfInBounds_toArray, List.set_cons_zero, List.set_cons_succ])
        refine wpAnyH_ready (rs := [2]) (by kernel_rfl) (by simp) ?_
        refine AllReadyH.cons (o := { dst := some 12, op := Op.call { callee := Callee.value (Operand.func 63), args := #[Operand.tmp 10, Operand.tmp 11], argTypes := #[107, 25] }, type := 20, pos := "acts.go:41", after := #[{ on := 0, ground := Ground.data }, { on := 1, ground := Ground.data }], guard := none }) rfl (fun K hK => ?_) (AllReadyH.nil)
        go_simp
        refine (KA.out _ _ J23).mono ?_
        rintro e wy24 ⟨va, ly24, rfl, sva, Vva, m24, Jy24, F24, z24⟩
        have bX24 := F24.out _ _ bX23
        have bY24 := F24.out _ _ bY23
        have hs24 : M < wy24.heap.size := by omega
        go_wp2_with fail
        refine hK.out _ _ (KS.out _ _ Jy24) (fun hH24 => ?_)
        clear hK K
        (try simp only [Act.put, List.setIfInBounds_toArray, List.set_cons_zero, List.set_cons_succ])
        refine wpAnyH_ready (rs := [5]) (by kernel_rfl) (by simp) ?_
        refine AllReadyH.cons (o := { dst := some 15, op := Op.call { callee := Callee.value (Operand.func 63), args := #[Operand.tmp 13, Operand.tmp 14], argTypes := #[107, 25] }, type := 20, pos := "acts.go:41", after := #[{ on := 3, ground := Ground.data }, { on := 4, ground := Ground.data }, { on := 2, ground := Ground.chain }], guard := none }) rfl (fun K hK => ?_) (AllReadyH.nil)
        go_simp
        refine (KB.out _ _ Jy24).mono ?_
        rintro e wy25 ⟨vb, ly25, rfl, svb, Vvb, m25, Jy25, F25, z25⟩
        have bX25 := F25.out _ _ bX24
        have bY25 := F25.out _ _ bY24
        have hs25 : M < wy25.heap.size := by omega
        go_wp2_with fail
        refine hK.out _ _ (KS.out _ _ Jy25) (fun hH25 => ?_)
        clear hK K
        (try simp only [Act.put, List.setIfInBounds_toArray, List.set_cons_zero, List.set_cons_succ])
        have nXY : N17 ≠ N23 := by omega
        have VA9 := Lib.hid (vs_mono m25.out n _ _ Vva.out)
        have VB9 := Vvb
        have MX : M ≠ N17 := by omega
        have MY : M ≠ N23 := by omega
        have LX : w.heap.size + 3 ≤ N17 := by omega
        have LY : w.heap.size + 3 ≤ N23 := by omega
        have cX := bX25.c 0
        have fX := bX25.f 0
        have cY := bY25.c 0
        have fY := bY25.f 0
        have hsW : w.heap.size + 3 ≤ wy25.heap.size := by omega
        have sva9 := Lib.hid sva
        have svb9 := Lib.hid svb
        rcases sva with rfl | ⟨Ta, za, rfl⟩
        · rcases svb with rfl | ⟨Tb, zb, rfl⟩
          · refine wpAnyH_ready (rs := [8]) (by kernel_rfl) (by simp) ?_
            refine AllReadyH.cons (o := { dst := none, op := Op.store 20 (Operand.tmp 6) (Operand.tmp 12), type := 0, pos := "acts.go:41", after := #[{ on := 6, ground := Ground.data }, { on := 2, ground := Ground.data }, { on := 5, ground := Ground.chain }, { on := 0, ground := Ground.phase }, { on := 1, ground := Ground.phase }, { on := 2, ground := Ground.phase }, { on := 3, ground := Ground.textOnly Departure.lateStores }, { on := 4, ground := Ground.textOnly Departure.lateStores }, { on := 5, ground := Ground.textOnly Departure.lateStoresUnsure }, { on := 6, ground := Ground.phase }, { on := 7, ground := Ground.phase }], guard := none }) rfl (fun K hK => ?_) AllReadyH.nil
            go_simp
            have J8 := Jy25.cell bX25 LX MX (.nilIface)
            have X8 : Bk _ N17 #[.nilIface] 20 := bX25.set 0 (.nilIface)
            have Y8 := bY25.other ⟨N17, 0, none⟩ (.nilIface) (by show N23 ≠ N17; omega)
            have z8 : w.heap.size + 3 ≤ (wy25.setCell ⟨N17, 0, none⟩ (.nilIface)).heap.size := by simpa using hsW
            clear cX fX cY fY
            generalize wy25.setCell ⟨N17, 0, none⟩ (.nilIface) = w8 at *
            refine hK.out _ _ (KS.out _ _ J8) (fun hH8 => ?_)
            clear hK K
            (try simp only [Act.put, List.setIfInBounds_toArray, List.set_cons_zero, List.set_cons_succ])
            have cY := Y8.c 0
            have fY := Y8.f 0
            refine wpAnyH_ready (rs := [9]) (by kernel_rfl) (by simp) ?_
            refine AllReadyH.cons (o := { dst := none, op := Op.store 20 (Operand.tmp 7) (Operand.tmp 15), type := 0, pos := "acts.go:41", after := #[{ on := 7, ground := Ground.data }, { on := 5, ground := Ground.data }, { on := 8, ground := Ground.chain }, { on := 0, ground := Ground.phase }, { on := 1, ground := Ground.phase }, { on := 2, ground := Ground.phase }, { on := 3, ground := Ground.phase }, { on := 4, ground := Ground.phase }, { on := 5, ground := Ground.phase }, { on := 6, ground := Ground.phase }, { on := 7, ground := Ground.phase }, { on := 8, ground := Ground.phase }], guard := none }) rfl (fun K hK => ?_) AllReadyH.nil
            go_simp
            have J9 := J8.cell Y8 LY MY (.nilIface)
            have Y9 : Bk _ N23 #[.nilIface] 20 := Y8.set 0 (.nilIface)
            have X9 := X8.other ⟨N23, 0, none⟩ (.nilIface) (by show N17 ≠ N23; omega)
            have z9 : w.heap.size + 3 ≤ (w8.setCell ⟨N23, 0, none⟩ (.nilIface)).heap.size := by simpa using z8
            clear cY fY
            generalize w8.setCell ⟨N23, 0, none⟩ (.nilIface) = w9 at *
            refine hK.out _ _ (KS.out _ _ J9) (fun hH9 => ?_)
            clear hK K
            (try simp only [Act.put, List.setIfInBounds_toArray, List.set_cons_zero, List.set_cons_succ])
            refine wpAnyH_done (by kernel_rfl) ?_ _
            go_wp2_with fail
            go_meet
            exact ⟨_, _, _, _, _, rfl, rfl, sva9.out, svb9.out, VA9.out, VB9.out, X9, Y9, J9, z9⟩
          · refine wpAnyH_ready (rs := [8]) (by kernel_rfl) (by simp) ?_
            refine AllReadyH.cons (o := { dst := none, op := Op.store 20 (Operand.tmp 6) (Operand.tmp 12), type := 0, pos := "acts.go:41", after := #[{ on := 6, ground := Ground.data }, { on := 2, ground := Ground.data }, { on := 5, ground := Ground.chain }, { on := 0, ground := Ground.phase }, { on := 1, ground := Ground.phase }, { on := 2, ground := Ground.phase }, { on := 3, ground := Ground.textOnly Departure.lateStores }, { on := 4, ground := Ground.textOnly Departure.lateStores }, { on := 5, ground := Ground.textOnly Departure.lateStoresUnsure }, { on := 6, ground := Ground.phase }, { on := 7, ground := Ground.phase }], guard := none }) rfl (fun K hK => ?_) AllReadyH.nil
            go_simp
            have J8 := Jy25.cell bX25 LX MX (.nilIface)
            have X8 : Bk _ N17 #[.nilIface] 20 := bX25.set 0 (.nilIface)
            have Y8 := bY25.other ⟨N17, 0, none⟩ (.nilIface) (by show N23 ≠ N17; omega)
            have z8 : w.heap.size + 3 ≤ (wy25.setCell ⟨N17, 0, none⟩ (.nilIface)).heap.size := by simpa using hsW
            clear cX fX cY fY
            generalize wy25.setCell ⟨N17, 0, none⟩ (.nilIface) = w8 at *
            refine hK.out _ _ (KS.out _ _ J8) (fun hH8 => ?_)
            clear hK K
            (try simp only [Act.put, List.setIfInBounds_toArray, List.set_cons_zero, List.set_cons_succ])
            have cY := Y8.c 0
            have fY := Y8.f 0
            refine wpAnyH_ready (rs := [9]) (by kernel_rfl) (by simp) ?_
            refine AllReadyH.cons (o := { dst := none, op := Op.store 20 (Operand.tmp 7) (Operand.tmp 15), type := 0, pos := "acts.go:41", after := #[{ on := 7, ground := Ground.data }, { on := 5, ground := Ground.data }, { on := 8, ground := Ground.chain }, { on := 0, ground := Ground.phase }, { on := 1, ground := Ground.phase }, { on := 2, ground := Ground.phase }, { on := 3, ground := Ground.phase }, { on := 4, ground := Ground.phase }, { on := 5, ground := Ground.phase }, { on := 6, ground := Ground.phase }, { on := 7, ground := Ground.phase }, { on := 8, ground := Ground.phase }], guard := none }) rfl (fun K hK => ?_) AllReadyH.nil
            go_simp
            have J9 := J8.cell Y8 LY MY (.iface Tb zb)
            have Y9 : Bk _ N23 #[.iface Tb zb] 20 := Y8.set 0 (.iface Tb zb)
            have X9 := X8.other ⟨N23, 0, none⟩ (.iface Tb zb) (by show N17 ≠ N23; omega)
            have z9 : w.heap.size + 3 ≤ (w8.setCell ⟨N23, 0, none⟩ (.iface Tb zb)).heap.size := by simpa using z8
            clear cY fY
            generalize w8.setCell ⟨N23, 0, none⟩ (.iface Tb zb) = w9 at *
            refine hK.out _ _ (KS.out _ _ J9) (fun hH9 => ?_)
            clear hK K
            (try simp only [Act.put, List.setIfInBounds_toArray, List.set_cons_zero, List.set_cons_succ])
            refine wpAnyH_done (by kernel_rfl) ?_ _
            go_wp2_with fail
            go_meet
            exact ⟨_, _, _, _, _, rfl, rfl, sva9.out, svb9.out, VA9.out, VB9.out, X9, Y9, J9, z9⟩
        · rcases svb with rfl | ⟨Tb, zb, rfl⟩
          · refine wpAnyH_ready (rs := [8]) (by kernel_rfl) (by simp) ?_
            refine AllReadyH.cons (o := { dst := none, op := Op.store 20 (Operand.tmp 6) (Operand.tmp 12), type := 0, pos := "acts.go:41", after := #[{ on := 6, ground := Ground.data }, { on := 2, ground := Ground.data }, { on := 5, ground := Ground.chain }, { on := 0, ground := Ground.phase }, { on := 1, ground := Ground.phase }, { on := 2, ground := Ground.phase }, { on := 3, ground := Ground.textOnly Departure.lateStores }, { on := 4, ground := Ground.textOnly Departure.lateStores }, { on := 5, ground := Ground.textOnly Departure.lateStoresUnsure }, { on := 6, ground := Ground.phase }, { on := 7, ground := Ground.phase }], guard := none }) rfl (fun K hK => ?_) AllReadyH.nil
            go_simp
            have J8 := Jy25.cell bX25 LX MX (.iface Ta za)
            have X8 : Bk _ N17 #[.iface Ta za] 20 := bX25.set 0 (.iface Ta za)
            have Y8 := bY25.other ⟨N17, 0, none⟩ (.iface Ta za) (by show N23 ≠ N17; omega)
            have z8 : w.heap.size + 3 ≤ (wy25.setCell ⟨N17, 0, none⟩ (.iface Ta za)).heap.size := by simpa using hsW
            clear cX fX cY fY
            generalize wy25.setCell ⟨N17, 0, none⟩ (.iface Ta za) = w8 at *
            refine hK.out _ _ (KS.out _ _ J8) (fun hH8 => ?_)
            clear hK K
            (try simp only [Act.put, List.setIfInBounds_toArray, List.set_cons_zero, List.set_cons_succ])
            have cY := Y8.c 0
            have fY := Y8.f 0
            refine wpAnyH_ready (rs := [9]) (by kernel_rfl) (by simp) ?_
            refine AllReadyH.cons (o := { dst := none, op := Op.store 20 (Operand.tmp 7) (Operand.tmp 15), type := 0, pos := "acts.go:41", after := #[{ on := 7, ground := Ground.data }, { on := 5, ground := Ground.data }, { on := 8, ground := Ground.chain }, { on := 0, ground := Ground.phase }, { on := 1, ground := Ground.phase }, { on := 2, ground := Ground.phase }, { on := 3, ground := Ground.phase }, { on := 4, ground := Ground.phase }, { on := 5, ground := Ground.phase }, { on := 6, ground := Ground.phase }, { on := 7, ground := Ground.phase }, { on := 8, ground := Ground.phase }], guard := none }) rfl (fun K hK => ?_) AllReadyH.nil
            go_simp
            have J9 := J8.cell Y8 LY MY (.nilIface)
            have Y9 : Bk _ N23 #[.nilIface] 20 := Y8.set 0 (.nilIface)
            have X9 := X8.other ⟨N23, 0, none⟩ (.nilIface) (by show N17 ≠ N23; omega)
            have z9 : w.heap.size + 3 ≤ (w8.setCell ⟨N23, 0, none⟩ (.nilIface)).heap.size := by simpa using z8
            clear cY fY
            generalize w8.setCell ⟨N23, 0, none⟩ (.nilIface) = w9 at *
            refine hK.out _ _ (KS.out _ _ J9) (fun hH9 => ?_)
            clear hK K
            (try simp only [Act.put, List.setIfInBounds_toArray, List.set_cons_zero, List.set_cons_succ])
            refine wpAnyH_done (by kernel_rfl) ?_ _
            go_wp2_with fail
            go_meet
            exact ⟨_, _, _, _, _, rfl, rfl, sva9.out, svb9.out, VA9.out, VB9.out, X9, Y9, J9, z9⟩
          · refine wpAnyH_ready (rs := [8]) (by kernel_rfl) (by simp) ?_
            refine AllReadyH.cons (o := { dst := none, op := Op.store 20 (Operand.tmp 6) (Operand.tmp 12), type := 0, pos := "acts.go:41", after := #[{ on := 6, ground := Ground.data }, { on := 2, ground := Ground.data }, { on := 5, ground := Ground.chain }, { on := 0, ground := Ground.phase }, { on := 1, ground := Ground.phase }, { on := 2, ground := Ground.phase }, { on := 3, ground := Ground.textOnly Departure.lateStores }, { on := 4, ground := Ground.textOnly Departure.lateStores }, { on := 5, ground := Ground.textOnly Departure.lateStoresUnsure }, { on := 6, ground := Ground.phase }, { on := 7, ground := Ground.phase }], guard := none }) rfl (fun K hK => ?_) AllReadyH.nil
            go_simp
            have J8 := Jy25.cell bX25 LX MX (.iface Ta za)
            have X8 : Bk _ N17 #[.iface Ta za] 20 := bX25.set 0 (.iface Ta za)
            have Y8 := bY25.other ⟨N17, 0, none⟩ (.iface Ta za) (by show N23 ≠ N17; omega)
            have z8 : w.heap.size + 3 ≤ (wy25.setCell ⟨N17, 0, none⟩ (.iface Ta za)).heap.size := by simpa using hsW
            clear cX fX cY fY
            generalize wy25.setCell ⟨N17, 0, none⟩ (.iface Ta za) = w8 at *
            refine hK.out _ _ (KS.out _ _ J8) (fun hH8 => ?_)
            clear hK K
            (try simp only [Act.put, List.setIfInBounds_toArray, List.set_cons_zero, List.set_cons_succ])
            have cY := Y8.c 0
            have fY := Y8.f 0
            refine wpAnyH_ready (rs := [9]) (by kernel_rfl) (by simp) ?_
            refine AllReadyH.cons (o := { dst := none, op := Op.store 20 (Operand.tmp 7) (Operand.tmp 15), type := 0, pos := "acts.go:41", after := #[{ on := 7, ground := Ground.data }, { on := 5, ground := Ground.data }, { on := 8, ground := Ground.chain }, { on := 0, ground := Ground.phase }, { on := 1, ground := Ground.phase }, { on := 2, ground := Ground.phase }, { on := 3, ground := Ground.phase }, { on := 4, ground := Ground.phase }, { on := 5, ground := Ground.phase }, { on := 6, ground := Ground.phase }, { on := 7, ground := Ground.phase }, { on := 8, ground := Ground.phase }], guard := none }) rfl (fun K hK => ?_) AllReadyH.nil
            go_simp
            have J9 := J8.cell Y8 LY MY (.iface Tb zb)
            have Y9 : Bk _ N23 #[.iface Tb zb] 20 := Y8.set 0 (.iface Tb zb)
            have X9 := X8.other ⟨N23, 0, none⟩ (.iface Tb zb) (by show N17 ≠ N23; omega)
            have z9 : w.heap.size + 3 ≤ (w8.setCell ⟨N23, 0, none⟩ (.iface Tb zb)).heap.size := by simpa using z8
            clear cY fY
            generalize w8.setCell ⟨N23, 0, none⟩ (.iface Tb zb) = w9 at *
            refine hK.out _ _ (KS.out _ _ J9) (fun hH9 => ?_)
            clear hK K
            (try simp only [Act.put, List.setIfInBounds_toArray, List.set_cons_zero, List.set_cons_succ])
            refine wpAnyH_done (by kernel_rfl) ?_ _
            go_wp2_with fail
            go_meet
            exact ⟨_, _, _, _, _, rfl, rfl, sva9.out, svb9.out, VA9.out, VB9.out, X9, Y9, J9, z9⟩
    · go_simp
      have e26 := below1 (wd) (.cells #[.nilIface] 20)
      have bY26 := Bk.new (wd) #[.nilIface] 20
      have J26 := J0.keep e26
      have hs26 : M < ((wd).alloc (.cells #[.nilIface] 20)).heap.size := Nat.lt_of_lt_of_le hs1 e26.size
      have q26 := hs1
      clear e26
      generalize hN26 : (wd).heap.size = N26 at *
      generalize hW26 : (wd).alloc (.cells #[.nilIface] 20) = wv26 at *
      refine hK.out _ _ (KS.out _ _ J26) (fun hH26 => ?_)
      clear hK K
      (try simp only [Act.put, List.setIfInBounds_toArray, List.set_cons_zero, List.set_cons_succ])
      refine wpAnyH_ready (rs := [2, 6]) (by kernel_rfl) (by simp) ?_
      refine AllReadyH.cons (o := { dst := some 12, op := Op.call { callee := Callee.value (Operand.func 63), args := #[Operand.tmp 10, Operand.tmp 11], argTypes := #[107, 25] }, type := 20, pos := "acts.go:41", after := #[{ on := 0, ground := Ground.data }, { on := 1, ground := Ground.data }], guard := none }) rfl (fun K hK => ?_) (AllReadyH.cons (o := { dst := some 6, op := Op.alloc 20, type := 0, pos := "acts.go:41", after := #[], guard := none }) rfl (fun K hK => ?_) (AllReadyH.nil))
      · go_simp
        refine (KA.out _ _ J26).mono ?_
        rintro e wy27 ⟨va, ly27, rfl, sva, Vva, m27, Jy27, F27, z27⟩
        have bY27 := F27.out _ _ bY26
        have hs27 : M < wy27.heap.size := by omega
        go_wp2_with fail
        refine hK.out _ _ (KS.out _ _ Jy27) (fun hH27 => ?_)
        clear hK K
        (try simp only [Act.put, List.setIfInBounds_toArray, List.set_cons_zero, List.set_cons_succ])
        refine wpAnyH_ready (rs := [5, 6]) (by kernel_rfl) (by simp) ?_
        refine AllReadyH.cons (o := { dst := some 15, op := Op.call { callee := Callee.value (Operand.func 63), args := #[Operand.tmp 13, Operand.tmp 14], argTypes := #[107, 25] }, type := 20, pos := "acts.go:41", after := #[{ on := 3, ground := Ground.data }, { on := 4, ground := Ground.data }, { on := 2, ground := Ground.chain }], guard := none }) rfl (fun K hK => ?_) (AllReadyH.cons (o := { dst := some 6, op := Op.alloc 20, type := 0, pos := "acts.go:41", after := #[], guard := none }) rfl (fun K hK => ?_) (AllReadyH.nil))
        · go_simp
          refine (KB.out _ _ Jy27).mono ?_
          rintro e wy28 ⟨vb, ly28, rfl, svb, Vvb, m28, Jy28, F28, z28⟩
          have bY28 := F28.out _ _ bY27
          have hs28 : M < wy28.heap.size := by omega
          go_wp2_with fail
          refine hK.out _ _ (KS.out _ _ Jy28) (fun hH28 => ?_)
          clear hK K
          (try simp only [Act.put, List.setIfInBounds_toArray, List.set_cons_zero, List.set_cons_succ])
          refine wpAnyH_ready (rs := [6]) (by kernel_rfl) (by simp) ?_
          refine AllReadyH.cons (o := { dst := some 6, op := Op.alloc 20, type := 0, pos := "acts.go:41", after := #[], guard := none }) rfl (fun K hK => ?_) (AllReadyH.nil)
          go_simp
          have e29 := below1 (wy28) (.cells #[.nilIface] 20)
          have bX29 := Bk.new (wy28) #[.nilIface] 20
          have J29 := Jy28.keep e29
          have bY29 := bY28.step e29
          have hs29 : M < ((wy28).alloc (.cells #[.nilIface] 20)).heap.size := Nat.lt_of_lt_of_le hs28 e29.size
          have q29 := hs28
          have lt29 := bY28.lt
          clear e29
          generalize hN29 : (wy28).heap.size = N29 at *
          generalize hW29 : (wy28).alloc (.cells #[.nilIface] 20) = wv29 at *
          refine hK.out _ _ (KS.out _ _ J29) (fun hH29 => ?_)
          clear hK K
          (try simp only [Act.put, List.setIfInBounds_toArray, List.set_cons_zero, List.set_cons_succ])
          have nXY : N29 ≠ N26 := by omega
          have VA9 := Lib.hid (vs_mono m28.out n _ _ Vva.out)
          have VB9 := Vvb
          have MX : M ≠ N29 := by omega
          have MY : M ≠ N26 := by omega
          have LX : w.heap.size + 3 ≤ N29 := by omega
          have LY : w.heap.size + 3 ≤ N26 := by omega
          have cX := bX29.c 0
          have fX := bX29.f 0
          have cY := bY29.c 0
          have fY := bY29.f 0
          have hsW : w.heap.size + 3 ≤ wv29.heap.size := by omega
          have sva9 := Lib.hid sva
          have svb9 := Lib.hid svb
          rcases sva with rfl | ⟨Ta, za, rfl⟩
          · rcases svb with rfl | ⟨Tb, zb, rfl⟩
            · refine wpAnyH_ready (rs := [8]) (by kernel_rfl) (by simp) ?_
              refine AllReadyH.cons (o := { dst := none, op := Op.store 20 (Operand.tmp 6) (Operand.tmp 12), type := 0, pos := "acts.go:41", after := #[{ on := 6, ground := Ground.data }, { on := 2, ground := Ground.data }, { on := 5, ground := Ground.chain }, { on := 0, ground := Ground.phase }, { on := 1, ground := Ground.phase }, { on := 2, ground := Ground.phase }, { on := 3, ground := Ground.textOnly Departure.lateStores }, { on := 4, ground := Ground.textOnly Departure.lateStores }, { on := 5, ground := Ground.textOnly Departure.lateStoresUnsure }, { on := 6, ground := Ground.phase }, { on := 7, ground := Ground.phase }], guard := none }) rfl (fun K hK => ?_) AllReadyH.nil
              go_simp
              have J8 := J29.cell bX29 LX MX (.nilIface)
              have X8 : Bk _ N29 #[.nilIface] 20 := bX29.set 0 (.nilIface)
              have Y8 := bY29.other ⟨N29, 0, none⟩ (.nilIface) (by show N26 ≠ N29; omega)
              have z8 : w.heap.size + 3 ≤ (wv29.setCell ⟨N29, 0, none⟩ (.nilIface)).heap.size := by simpa using hsW
              clear cX fX cY fY
              generalize wv29.setCell ⟨N29, 0, none⟩ (.nilIface) = w8 at *
              refine hK.out _ _ (KS.out _ _ J8) (fun hH8 => ?_)
              clear hK K
              (try simp only [Act.put, List.setIfInBounds_toArray, List.set_cons_zero, List.set_cons_succ])
              have cY := Y8.c 0
              have fY := Y8.f 0
              refine wpAnyH_ready (rs := [9]) (by kernel_rfl) (by simp) ?_
              refine AllReadyH.cons (o := { dst := none, op := Op.store 20 (Operand.tmp 7) (Operand.tmp 15), type := 0, pos := "acts.go:41", after := #[{ on := 7, ground := Ground.data }, { on := 5, ground := Ground.data }, { on := 8, ground := Ground.chain }, { on := 0, ground := Ground.phase }, { on := 1, ground := Ground.phase }, { on := 2, ground := Ground.phase }, { on := 3, ground := Ground.phase }, { on := 4, ground := Ground.phase }, { on := 5, ground := Ground.phase }, { on := 6, ground := Ground.phase }, { on := 7, ground := Ground.phase }, { on := 8, ground := Ground.phase }], guard := none }) rfl (fun K hK => ?_) AllReadyH.nil
              go_simp
              have J9 := J8.cell Y8 LY MY (.nilIface)
              have Y9 : Bk _ N26 #[.nilIface] 20 := Y8.set 0 (.nilIface)
              have X9 := X8.other ⟨N26, 0, none⟩ (.nilIface) (by show N29 ≠ N26; omega)
              have z9 : w.heap.size + 3 ≤ (w8.setCell ⟨N26, 0, none⟩ (.nilIface)).heap.size := by simpa using z8
              clear cY fY
              generalize w8.setCell ⟨N26, 0, none⟩ (.nilIface) = w9 at *
              refine hK.out _ _ (KS.out _ _ J9) (fun hH9 => ?_)
              clear hK K
              (try simp only [Act.put, List.setIfInBounds_toArray, List.set_cons_zero, List.set_cons_succ])
              refine wpAnyH_done (by kernel_rfl) ?_ _
              go_wp2_with fail
              go_meet
              exact ⟨_, _, _, _, _, rfl, rfl, sva9.out, svb9.out, VA9.out, VB9.out, X9, Y9, J9, z9⟩
            · refine wpAnyH_ready (rs := [8]) (by kernel_rfl) (by simp) ?_
              refine AllReadyH.cons (o := { dst := none, op := Op.store 20 (Operand.tmp 6) (Operand.tmp 12), type := 0, pos := "acts.go:41", after := #[{ on := 6, ground := Ground.data }, { on := 2, ground := Ground.data }, { on := 5, ground := Ground.chain }, { on := 0, ground := Ground.phase }, { on := 1, ground := Ground.phase }, { on := 2, ground := Ground.phase }, { on := 3, ground := Ground.textOnly Departure.lateStores }, { on := 4, ground := Ground.textOnly Departure.lateStores }, { on := 5, ground := Ground.textOnly Departure.lateStoresUnsure }, { on := 6, ground := Ground.phase }, { on := 7, ground := Ground.phase }], guard := none }) rfl (fun K hK => ?_) AllReadyH.nil
              go_simp
              have J8 := J29.cell bX29 LX MX (.nilIface)
              have X8 : Bk _ N29 #[.nilIface] 20 := bX29.set 0 (.nilIface)
              have Y8 := bY29.other ⟨N29, 0, none⟩ (.nilIface) (by show N26 ≠ N29; omega)
              have z8 : w.heap.size + 3 ≤ (wv29.setCell ⟨N29, 0, none⟩ (.nilIface)).heap.size := by simpa using hsW
              clear cX fX cY fY
              generalize wv29.setCell ⟨N29, 0, none⟩ (.nilIface) = w8 at *
              refine hK.out _ _ (KS.out _ _ J8) (fun hH8 => ?_)
              clear hK K
              (try simp only [Act.put, List.setIfInBounds_toArray, List.set_cons_zero, List.set_cons_succ])
              have cY := Y8.c 0
              have fY := Y8.f 0
              refine wpAnyH_ready (rs := [9]) (by kernel_rfl) (by simp) ?_
              refine AllReadyH.cons (o := { dst := none, op := Op.store 20 (Operand.tmp 7) (Operand.tmp 15), type := 0, pos := "acts.go:41", after := #[{ on := 7, ground := Ground.data }, { on := 5, ground := Ground.data }, { on := 8, ground := Ground.chain }, { on := 0, ground := Ground.phase }, { on := 1, ground := Ground.phase }, { on := 2, ground := Ground.phase }, { on := 3, ground := Ground.phase }, { on := 4, ground := Ground.phase }, { on := 5, ground := Ground.phase }, { on := 6, ground := Ground.phase }, { on := 7, ground := Ground.phase }, { on := 8, ground := Ground.phase }], guard := none }) rfl (fun K hK => ?_) AllReadyH.nil
              go_simp
              have J9 := J8.cell Y8 LY MY (.iface Tb zb)
              have Y9 : Bk _ N26 #[.iface Tb zb] 20 := Y8.set 0 (.iface Tb zb)
              have X9 := X8.other ⟨N26, 0, none⟩ (.iface Tb zb) (by show N29 ≠ N26; omega)
              have z9 : w.heap.size + 3 ≤ (w8.setCell ⟨N26, 0, none⟩ (.iface Tb zb)).heap.size := by simpa using z8
              clear cY fY
              generalize w8.setCell ⟨N26, 0, none⟩ (.iface Tb zb) = w9 at *
              refine hK.out _ _ (KS.out _ _ J9) (fun hH9 => ?_)
              clear hK K
              (try simp only [Act.put, List.setIfInBounds_toArray, List.set_cons_zero, List.set_cons_succ])
              refine wpAnyH_done (by kernel_rfl) ?_ _
              go_wp2_with fail
              go_meet
              exact ⟨_, _, _, _, _, rfl, rfl, sva9.out, svb9.out, VA9.out, VB9.out, X9, Y9, J9, z9⟩
          · rcases svb with rfl | ⟨Tb, zb, rfl⟩
            · refine wpAnyH_ready (rs := [8]) (by kernel_rfl) (by simp) ?_
              refine AllReadyH.cons (o := { dst := none, op := Op.store 20 (Operand.tmp 6) (Operand.tmp 12), type := 0, pos := "acts.go:41", after := #[{ on := 6, ground := Ground.data }, { on := 2, ground := Ground.data }, { on := 5, ground := Ground.chain }, { on := 0, ground := Ground.phase }, { on := 1, ground := Ground.phase }, { on := 2, ground := Ground.phase }, { on := 3, ground := Ground.textOnly Departure.lateStores }, { on := 4, ground := Ground.textOnly Departure.lateStores }, { on := 5, ground := Ground.textOnly Departure.lateStoresUnsure }, { on := 6, ground := Ground.phase }, { on := 7, ground := Ground.phase }], guard := none }) rfl (fun K hK => ?_) AllReadyH.nil
              go_simp
              have J8 := J29.cell bX29 LX MX (.iface Ta za)
              have X8 : Bk _ N29 #[.iface Ta za] 20 := bX29.set 0 (.iface Ta za)
              have Y8 := bY29.other ⟨N29, 0, none⟩ (.iface Ta za) (by show N26 ≠ N29; omega)
              have z8 : w.heap.size + 3 ≤ (wv29.setCell ⟨N29, 0, none⟩ (.iface Ta za)).heap.size := by simpa using hsW
              clear cX fX cY fY
              generalize wv29.setCell ⟨N29, 0, none⟩ (.iface Ta za) = w8 at *
              refine hK.out _ _ (KS.out _ _ J8) (fun hH8 => ?_)
              clear hK K
              (try simp only [Act.put, List.setIfInBounds_toArray, List.set_cons_zero, List.set_cons_succ])
              have cY := Y8.c 0
              have fY := Y8.f 0
              refine wpAnyH_ready (rs := [9]) (by kernel_rfl) (by simp) ?_
              refine AllReadyH.cons (o := { dst := none, op := Op.store 20 (Operand.tmp 7) (Operand.tmp 15), type := 0, pos := "acts.go:41", after := #[{ on := 7, ground := Ground.data }, { on := 5, ground := Ground.data }, { on := 8, ground := Ground.chain }, { on := 0, ground := Ground.phase }, { on := 1, ground := Ground.phase }, { on := 2, ground := Ground.phase }, { on := 3, ground := Ground.phase }, { on := 4, ground := Ground.phase }, { on := 5, ground := Ground.phase }, { on := 6, ground := Ground.phase }, { on := 7, ground := Ground.phase }, { on := 8, ground := Ground.phase }], guard := none }) rfl (fun K hK => ?_) AllReadyH.nil
              go_simp
              have J9 := J8.cell Y8 LY MY (.nilIface)
              have Y9 : Bk _ N26 #[.nilIface] 20 := Y8.set 0 (.nilIface)
              have X9 := X8.other ⟨N26, 0, none⟩ (.nilIface) (by show N29 ≠ N26; omega)
              have z9 : w.heap.size + 3 ≤ (w8.setCell ⟨N26, 0, none⟩ (.nilIface)).heap.size := by simpa using z8
              clear cY fY
              generalize w8.setCell ⟨N26, 0, none⟩ (.nilIface) = w9 at *
              refine hK.out _ _ (KS.out _ _ J9) (fun hH9 => ?_)
              clear hK K
              (try simp only [Act.put, List.setIfInBounds_toArray, List.set_cons_zero, List.set_cons_succ])
              refine wpAnyH_done (by kernel_rfl) ?_ _
              go_wp2_with fail
              go_meet
              exact ⟨_, _, _, _, _, rfl, rfl, sva9.out, svb9.out, VA9.out, VB9.out, X9, Y9, J9, z9⟩
            · refine wpAnyH_ready (rs := [8]) (by kernel_rfl) (by simp) ?_
              refine AllReadyH.cons (o := { dst := none, op := Op.store 20 (Operand.tmp 6) (Operand.tmp 12), type := 0, pos := "acts.go:41", after := #[{ on := 6, ground := Ground.data }, { on := 2, ground := Ground.data }, { on := 5, ground := Ground.chain }, { on := 0, ground := Ground.phase }, { on := 1, ground := Ground.phase }, { on := 2, ground := Ground.phase }, { on := 3, ground := Ground.textOnly Departure.lateStores }, { on := 4, ground := Ground.textOnly Departure.lateStores }, { on := 5, ground := Ground.textOnly Departure.lateStoresUnsure }, { on := 6, ground := Ground.phase }, { on := 7, ground := Ground.phase }], guard := none }) rfl (fun K hK => ?_) AllReadyH.nil
              go_simp
              have J8 := J29.cell bX29 LX MX (.iface Ta za)
              have X8 : Bk _ N29 #[.iface Ta za] 20 := bX29.set 0 (.iface Ta za)
              have Y8 := bY29.other ⟨N29, 0, none⟩ (.iface Ta za) (by show N26 ≠ N29; omega)
              have z8 : w.heap.size + 3 ≤ (wv29.setCell ⟨N29, 0, none⟩ (.iface Ta za)).heap.size := by simpa using hsW
              clear cX fX cY fY
              generalize wv29.setCell ⟨N29, 0, none⟩ (.iface Ta za) = w8 at *
              refine hK.out _ _ (KS.out _ _ J8) (fun hH8 => ?_)
              clear hK K
              (try simp only [Act.put, List.setIfInBounds_toArray, List.set_cons_zero, List.set_cons_succ])
              have cY := Y8.c 0
              have fY := Y8.f 0
              refine wpAnyH_ready (rs := [9]) (by kernel_rfl) (by simp) ?_
              refine AllReadyH.cons (o := { dst := none, op := Op.store 20 (Operand.tmp 7) (Operand.tmp 15), type := 0, pos := "acts.go:41", after := #[{ on := 7, ground := Ground.data }, { on := 5, ground := Ground.data }, { on := 8, ground := Ground.chain }, { on := 0, ground := Ground.phase }, { on := 1, ground := Ground.phase }, { on := 2, ground := Ground.phase }, { on := 3, ground := Ground.phase }, { on := 4, ground := Ground.phase }, { on := 5, ground := Ground.phase }, { on := 6, ground := Ground.phase }, { on := 7, ground := Ground.phase }, { on := 8, ground := Ground.phase }], guard := none }) rfl (fun K hK => ?_) AllReadyH.nil
              go_simp
              have J9 := J8.cell Y8 LY MY (.iface Tb zb)
              have Y9 : Bk _ N26 #[.iface Tb zb] 20 := Y8.set 0 (.iface Tb zb)
              have X9 := X8.other ⟨N26, 0, none⟩ (.iface Tb zb) (by show N29 ≠ N26; omega)
              have z9 : w.heap.size + 3 ≤ (w8.setCell ⟨N26, 0, none⟩ (.iface Tb zb)).heap.size := by simpa using z8
              clear cY fY
              generalize w8.setCell ⟨N26, 0, none⟩ (.iface Tb zb) = w9 at *
              refine hK.out _ _ (KS.out _ _ J9) (fun hH9 => ?_)
              clear hK K
              (try simp only [Act.put, List.setIfInBounds_toArray, List.set_cons_zero, List.set_cons_succ])
              refine wpAnyH_done (by kernel_rfl) ?_ _
              go_wp2_with fail
              go_meet
              exact ⟨_, _, _, _, _, rfl, rfl, sva9.out, svb9.out, VA9.out, VB9.out, X9, Y9, J9, z9⟩
        · go_simp
          have e30 := below1 (wy27) (.cells #[.nilIface] 20)
          have bX30 := Bk.new (wy27) #[.nilIface] 20
          have J30 := Jy27.keep e30
          have bY30 := bY27.step e30
          have hs30 : M < ((wy27).alloc (.cells #[.nilIface] 20)).heap.size := Nat.lt_of_lt_of_le hs27 e30.size
          have q30 := hs27
          have lt30 := bY27.lt
          clear e30
          generalize hN30 : (wy27).heap.size = N30 at *
          generalize hW30 : (wy27).alloc (.cells #[.nilIface] 20) = wv30 at *
          refine hK.out _ _ (KS.out _ _ J30) (fun hH30 => ?_)
          clear hK K
          (try simp only [Act.put, List.setIfInBounds_toArray, List.set_cons_zero, List.set_cons_succ])
          refine wpAnyH_ready (rs := [5]) (by kernel_rfl) (by simp) ?_
          refine AllReadyH.cons (o := { dst := some 15, op := Op.call { callee := Callee.value (Operand.func 63), args := #[Operand.tmp 13, Operand.tmp 14], argTypes := #[107, 25] }, type := 20, pos := "acts.go:41", after := #[{ on := 3, ground := Ground.data }, { on := 4, ground := Ground.data }, { on := 2, ground := Ground.chain }], guard := none }) rfl (fun K hK => ?_) (AllReadyH.nil)
          go_simp
          refine (KB.out _ _ J30).mono ?_
          rintro e wy31 ⟨vb, ly31, rfl, svb, Vvb, m31, Jy31, F31, z31⟩
          have bX31 := F31.out _ _ bX30
          have bY31 := F31.out _ _ bY30
          have hs31 : M < wy31.heap.size := by omega
          go_wp2_with fail
          refine hK.out _ _ (KS.out _ _ Jy31) (fun hH31 => ?_)
          clear hK K
          (try simp only [Act.put, List.setIfInBounds_toArray, List.set_cons_zero, List.set_cons_succ])
          have nXY : N30 ≠ N26 := by omega
          have VA9 := Lib.hid (vs_mono m31.out n _ _ Vva.out)
          have VB9 := Vvb
          have MX : M ≠ N30 := by omega
          have MY : M ≠ N26 := by omega
          have LX : w.heap.size + 3 ≤ N30 := by omega
          have LY : w.heap.size + 3 ≤ N26 := by omega
          have cX := bX31.c 0
          have fX := bX31.f 0
          have cY := bY31.c 0
          have fY := bY31.f 0
          have hsW : w.heap.size + 3 ≤ wy31.heap.size := by omega
          have sva9 := Lib.hid sva
          have svb9 := Lib.hid svb
          rcases sva with rfl | ⟨Ta, za, rfl⟩
          · rcases svb with rfl | ⟨Tb, zb, rfl⟩
            · refine wpAnyH_ready (rs := [8]) (by kernel_rfl) (by simp) ?_
              refine AllReadyH.cons (o := { dst := none, op := Op.store 20 (Operand.tmp 6) (Operand.tmp 12), type := 0, pos := "acts.go:41", after := #[{ on := 6, ground := Ground.data }, { on := 2, ground := Ground.data }, { on := 5, ground := Ground.chain }, { on := 0, ground := Ground.phase }, { on := 1, ground := Ground.phase }, { on := 2, ground := Ground.phase }, { on := 3, ground := Ground.textOnly Departure.lateStores }, { on := 4, ground := Ground.textOnly Departure.lateStores }, { on := 5, ground := Ground.textOnly Departure.lateStoresUnsure }, { on := 6, ground := Ground.phase }, { on := 7, ground := Ground.phase }], guard := none }) rfl (fun K hK => ?_) AllReadyH.nil
              go_simp
              have J8 := Jy31.cell bX31 LX MX (.nilIface)
              have X8 : Bk _ N30 #[.nilIface] 20 := bX31.set 0 (.nilIface)
              have Y8 := bY31.other ⟨N30, 0, none⟩ (.nilIface) (by show N26 ≠ N30; omega)
              have z8 : w.heap.size + 3 ≤ (wy31.setCell ⟨N30, 0, none⟩ (.nilIface)).heap.size := by simpa using hsW
              clear cX fX cY fY
              generalize wy31.setCell ⟨N30, 0, none⟩ (.nilIface) = w8 at *
              refine hK.out _ _ (KS.out _ _ J8) (fun hH8 => ?_)
              clear hK K
              (try simp only [Act.put, List.setIfInBounds_toArray, List.set_cons_zero, List.set_cons_succ])
              have cY := Y8.c 0
              have fY := Y8.f 0
              refine wpAnyH_ready (rs := [9]) (by kernel_rfl) (by simp) ?_
              refine AllReadyH.cons (o := { dst := none, op := Op.store 20 (Operand.tmp 7) (Operand.tmp 15), type := 0, pos := "acts.go:41", after := #[{ on := 7, ground := Ground.data }, { on := 5, ground := Ground.data }, { on := 8, ground := Ground.chain }, { on := 0, ground := Ground.phase }, { on := 1, ground := Ground.phase }, { on := 2, ground := Ground.phase }, { on := 3, ground := Ground.phase }, { on := 4, ground := Ground.phase }, { on := 5, ground := Ground.phase }, { on := 6, ground := Ground.phase }, { on := 7, ground := Ground.phase }, { on := 8, ground := Ground.phase }], guard := none }) rfl (fun K hK => ?_) AllReadyH.nil
              go_simp
              have J9 := J8.cell Y8 LY MY (.nilIface)
              have Y9 : Bk _ N26 #[.nilIface] 20 := Y8.set 0 (.nilIface)
              have X9 := X8.other ⟨N26, 0, none⟩ (.nilIface) (by show N30 ≠ N26; omega)
              have z9 : w.heap.size + 3 ≤ (w8.setCell ⟨N26, 0, none⟩ (.nilIface)).heap.size := by simpa using z8
              clear cY fY
              generalize w8.setCell ⟨N26, 0, none⟩ (.nilIface) = w9 at *
              refine hK.out _ _ (KS.out _ _ J9) (fun hH9 => ?_)
              clear hK K
              (try simp only [Act.put, List.setIfInBounds_toArray, List.set_cons_zero, List.set_cons_succ])
              refine wpAnyH_done (by kernel_rfl) ?_ _
              go_wp2_with fail
              go_meet
              exact ⟨_, _, _, _, _, rfl, rfl, sva9.out, svb9.out, VA9.out, VB9.out, X9, Y9, J9, z9⟩
            · refine wpAnyH_ready (rs := [8]) (by kernel_rfl) (by simp) ?_
              refine AllReadyH.cons (o := { dst := none, op := Op.store 20 (Operand.tmp 6) (Operand.tmp 12), type := 0, pos := "acts.go:41", after := #[{ on := 6, ground := Ground.data }, { on := 2, ground := Ground.data }, { on := 5, ground := Ground.chain }, { on := 0, ground := Ground.phase }, { on := 1, ground := Ground.phase }, { on := 2, ground := Ground.phase }, { on := 3, ground := Ground.textOnly Departure.lateStores }, { on := 4, ground := Ground.textOnly Departure.lateStores }, { on := 5, ground := Ground.textOnly Departure.lateStoresUnsure }, { on := 6, ground := Ground.phase }, { on := 7, ground := Ground.phase }], guard := none }) rfl (fun K hK => ?_) AllReadyH.nil
              go_simp
              have J8 := Jy31.cell bX31 LX MX (.nilIface)
              have X8 : Bk _ N30 #[.nilIface] 20 := bX31.set 0 (.nilIface)
              have Y8 := bY31.other ⟨N30, 0, none⟩ (.nilIface) (by show N26 ≠ N30; omega)
              have z8 : w.heap.size + 3 ≤ (wy31.setCell ⟨N30, 0, none⟩ (.nilIface)).heap.size := by simpa using hsW
              clear cX fX cY fY
              generalize wy31.setCell ⟨N30, 0, none⟩ (.nilIface) = w8 at *
              refine hK.out _ _ (KS.out _ _ J8) (fun hH8 => ?_)
              clear hK K
              (try simp only [Act.put, List.setIfInBounds_toArray, List.set_cons_zero, List.set_cons_succ])
              have cY := Y8.c 0
              have fY := Y8.f 0
              refine wpAnyH_ready (rs := [9]) (by kernel_rfl) (by simp) ?_
              refine AllReadyH.cons (o := { dst := none, op := Op.store 20 (Operand.tmp 7) (Operand.tmp 15), type := 0, pos := "acts.go:41", after := #[{ on := 7, ground := Ground.data }, { on := 5, ground := Ground.data }, { on := 8, ground := Ground.chain }, { on := 0, ground := Ground.phase }, { on := 1, ground := Ground.phase }, { on := 2, ground := Ground.phase }, { on := 3, ground := Ground.phase }, { on := 4, ground := Ground.phase }, { on := 5, ground := Ground.phase }, { on := 6, ground := Ground.phase }, { on := 7, ground := Ground.phase }, { on := 8, ground := Ground.phase }], guard := none }) rfl (fun K hK => ?_) AllReadyH.nil
              go_simp
              have J9 := J8.cell Y8 LY MY (.iface Tb zb)
              have Y9 : Bk _ N26 #[.iface Tb zb] 20 := Y8.set 0 (.iface Tb zb)
              have X9 := X8.other ⟨N26, 0, none⟩ (.iface Tb zb) (by show N30 ≠ N26; omega)
              have z9 : w.heap.size + 3 ≤ (w8.setCell ⟨N26, 0, none⟩ (.iface Tb zb)).heap.size := by simpa using z8
              clear cY fY
              generalize w8.setCell ⟨N26, 0, none⟩ (.iface Tb zb) = w9 at *
              refine hK.out _ _ (KS.out _ _ J9) (fun hH9 => ?_)
              clear hK K
              (try simp only [Act.put, List.setIfInBounds_toArray, List.set_cons_zero, List.set_cons_succ])
              refine wpAnyH_done (by kernel_rfl) ?_ _
              go_wp2_with fail
              go_meet
              exact ⟨_, _, _, _, _, rfl, rfl, sva9.out, svb9.out, VA9.out, VB9.out, X9, Y9, J9, z9⟩
          · rcases svb with rfl | ⟨Tb, zb, rfl⟩
            · refine wpAnyH_ready (rs := [8]) (by kernel_rfl) (by simp) ?_
              refine AllReadyH.cons (o := { dst := none, op := Op.store 20 (Operand.tmp 6) (Operand.tmp 12), type := 0, pos := "acts.go:41", after := #[{ on := 6, ground := Ground.data }, { on := 2, ground := Ground.data }, { on := 5, ground := Ground.chain }, { on := 0, ground := Ground.phase }, { on := 1, ground := Ground.phase }, { on := 2, ground := Ground.phase }, { on := 3, ground := Ground.textOnly Departure.lateStores }, { on := 4, ground := Ground.textOnly Departure.lateStores }, { on := 5, ground := Ground.textOnly Departure.lateStoresUnsure }, { on := 6, ground := Ground.phase }, { on := 7, ground := Ground.phase }], guard := none }) rfl (fun K hK => ?_) AllReadyH.nil
              go_simp
              have J8 := Jy31.cell bX31 LX MX (.iface Ta za)
              have X8 : Bk _ N30 #[.iface Ta za] 20 := bX31.set 0 (.iface Ta za)
              have Y8 := bY31.other ⟨N30, 0, none⟩ (.iface Ta za) (by show N26 ≠ N30; omega)
              have z8 : w.heap.size + 3 ≤ (wy31.setCell ⟨N30, 0, none⟩ (.iface Ta za)).heap.size := by simpa using hsW
              clear cX fX cY fY
              generalize wy31.setCell ⟨N30, 0, none⟩ (.iface Ta za) = w8 at *
              refine hK.out _ _ (KS.out _ _ J8) (fun hH8 => ?_)
              clear hK K
              (try simp only [Act.put, List.setIfInBounds_toArray, List.set_cons_zero, List.set_cons_succ])
              have cY := Y8.c 0
              have fY := Y8.f 0
              refine wpAnyH_ready (rs := [9]) (by kernel_rfl) (by simp) ?_
              refine AllReadyH.cons (o := { dst := none, op := Op.store 20 (Operand.tmp 7) (Operand.tmp 15), type := 0, pos := "acts.go:41", after := #[{ on := 7, ground := Ground.data }, { on := 5, ground := Ground.data }, { on := 8, ground := Ground.chain }, { on := 0, ground := Ground.phase }, { on := 1, ground := Ground.phase }, { on := 2, ground := Ground.phase }, { on := 3, ground := Ground.phase }, { on := 4, ground := Ground.phase }, { on := 5, ground := Ground.phase }, { on := 6, ground := Ground.phase }, { on := 7, ground := Ground.phase }, { on := 8, ground := Ground.phase }], guard := none }) rfl (fun K hK => ?_) AllReadyH.nil
              go_simp
              have J9 := J8.cell Y8 LY MY (.nilIface)
              have Y9 : Bk _ N26 #[.nilIface] 20 := Y8.set 0 (.nilIface)
              have X9 := X8.other ⟨N26, 0, none⟩ (.nilIface) (by show N30 ≠ N26; omega)
              have z9 : w.heap.size + 3 ≤ (w8.setCell ⟨N26, 0, none⟩ (.nilIface)).heap.size := by simpa using z8
              clear cY fY
              generalize w8.setCell ⟨N26, 0, none⟩ (.nilIface) = w9 at *
              refine hK.out _ _ (KS.out _ _ J9) (fun hH9 => ?_)
              clear hK K
              (try simp only [Act.put, List.setIfInBounds_toArray, List.set_cons_zero, List.set_cons_succ])
              refine wpAnyH_done (by kernel_rfl) ?_ _
              go_wp2_with fail
              go_meet
              exact ⟨_, _, _, _, _, rfl, rfl, sva9.out, svb9.out, VA9.out, VB9.out, X9, Y9, J9, z9⟩
            · refine wpAnyH_ready (rs := [8]) (by kernel_rfl) (by simp) ?_
              refine AllReadyH.cons (o := { dst := none, op := Op.store 20 (Operand.tmp 6) (Operand.tmp 12), type := 0, pos := "acts.go:41", after := #[{ on := 6, ground := Ground.data }, { on := 2, ground := Ground.data }, { on := 5, ground := Ground.chain }, { on := 0, ground := Ground.phase }, { on := 1, ground := Ground.phase }, { on := 2, ground := Ground.phase }, { on := 3, ground := Ground.textOnly Departure.lateStores }, { on := 4, ground := Ground.textOnly Departure.lateStores }, { on := 5, ground := Ground.textOnly Departure.lateStoresUnsure }, { on := 6, ground := Ground.phase }, { on := 7, ground := Ground.phase }], guard := none }) rfl (fun K hK => ?_) AllReadyH.nil
              go_simp
              have J8 := Jy31.cell bX31 LX MX (.iface Ta za)
              have X8 : Bk _ N30 #[.iface Ta za] 20 := bX31.set 0 (.iface Ta za)
              have Y8 := bY31.other ⟨N30, 0, none⟩ (.iface Ta za) (by show N26 ≠ N30; omega)
              have z8 : w.heap.size + 3 ≤ (wy31.setCell ⟨N30, 0, none⟩ (.iface Ta za)).heap.size := by simpa using hsW
              clear cX fX cY fY
              generalize wy31.setCell ⟨N30, 0, none⟩ (.iface Ta za) = w8 at *
              refine hK.out _ _ (KS.out _ _ J8) (fun hH8 => ?_)
              clear hK K
              (try simp only [Act.put, List.setIfInBounds_toArray, List.set_cons_zero, List.set_cons_succ])
              have cY := Y8.c 0
              have fY := Y8.f 0
              refine wpAnyH_ready (rs := [9]) (by kernel_rfl) (by simp) ?_
              refine AllReadyH.cons (o := { dst := none, op := Op.store 20 (Operand.tmp 7) (Operand.tmp 15), type := 0, pos := "acts.go:41", after := #[{ on := 7, ground := Ground.data }, { on := 5, ground := Ground.data }, { on := 8, ground := Ground.chain }, { on := 0, ground := Ground.phase }, { on := 1, ground := Ground.phase }, { on := 2, ground := Ground.phase }, { on := 3, ground := Ground.phase }, { on := 4, ground := Ground.phase }, { on := 5, ground := Ground.phase }, { on := 6, ground := Ground.phase }, { on := 7, ground := Ground.phase }, { on := 8, ground := Ground.phase }], guard := none }) rfl (fun K hK => ?_) AllReadyH.nil
              go_simp
              have J9 := J8.cell Y8 LY MY (.iface Tb zb)
              have Y9 : Bk _ N26 #[.iface Tb zb] 20 := Y8.set 0 (.iface Tb zb)
              have X9 := X8.other ⟨N26, 0, none⟩ (.iface Tb zb) (by show N30 ≠ N26; omega)
              have z9 : w.heap.size + 3 ≤ (w8.setCell ⟨N26, 0, none⟩ (.iface Tb zb)).heap.size := by simpa using z8
              clear cY fY
              generalize w8.setCell ⟨N26, 0, none⟩ (.iface Tb zb) = w9 at *
              refine hK.out _ _ (KS.out _ _ J9) (fun hH9 => ?_)
              clear hK K
              (try simp only [Act.put, List.setIfInBounds_toArray, List.set_cons_zero, List.set_cons_succ])
              refine wpAnyH_done (by kernel_rfl) ?_ _
              go_wp2_with fail
              go_meet
              exact ⟨_, _, _, _, _, rfl, rfl, sva9.out, svb9.out, VA9.out, VB9.out, X9, Y9, J9, z9⟩
      · go_simp
        have e32 := below1 (wv26) (.cells #[.nilIface] 20)
        have bX32 := Bk.new (wv26) #[.nilIface] 20
        have J32 := J26.keep e32
        have bY32 := bY26.step e32
        have hs32 : M < ((wv26).alloc (.cells #[.nilIface] 20)).heap.size := Nat.lt_of_lt_of_le hs26 e32.size
        have q32 := hs26
        have lt32 := bY26.lt
        clear e32
        generalize hN32 : (wv26).heap.size = N32 at *
        generalize hW32 : (wv26).alloc (.cells #[.nilIface] 20) = wv32 at *
        refine hK.out _ _ (KS.out _ _ J32) (fun hH32 => ?_)
        clear hK K
        (try simp only [Act.put, List.setIfInBounds_toArray, List.set_cons_zero, List.set_cons_succ])
        refine wpAnyH_ready (rs := [2]) (by kernel_rfl) (by simp) ?_
        refine AllReadyH.cons (o := { dst := some 12, op := Op.call { callee := Callee.value (Operand.func 63), args := #[Operand.tmp 10, Operand.tmp 11], argTypes := #[107, 25] }, type := 20, pos := "acts.go:41", after := #[{ on := 0, ground := Ground.data }, { on := 1, ground := Ground.data }], guard := none }) rfl (fun K hK => ?_) (AllReadyH.nil)
        go_simp
        refine (KA.out _ _ J32).mono ?_
        rintro e wy33 ⟨va, ly33, rfl, sva, Vva, m33, Jy33, F33, z33⟩
        have bX33 := F33.out _ _ bX32
        have bY33 := F33.out _ _ bY32
        have hs33 : M < wy33.heap.size := by omega
        go_wp2_with fail
        refine hK.out _ _ (KS.out _ _ Jy33) (fun hH33 => ?_)
        clear hK K
        (try simp only [Act.put, List.setIfInBounds_toArray, List.set_cons_zero, List.set_cons_succ])
        refine wpAnyH_ready (rs := [5]) (by kernel_rfl) (by simp) ?_
        refine AllReadyH.cons (o := { dst := some 15, op := Op.call { callee := Callee.value (Operand.func 63), args := #[Operand.tmp 13, Operand.tmp 14], argTypes := #[107, 25] }, type := 20, pos := "acts.go:41", after := #[{ on := 3, ground := Ground.data }, { on := 4, ground := Ground.data }, { on := 2, ground := Ground.chain }], guard := none }) rfl (fun K hK => ?_) (AllReadyH.nil)
        go_simp
        refine (KB.out _ _ Jy33).mono ?_
        rintro e wy34 ⟨vb, ly34, rfl, svb, Vvb, m34, Jy34, F34, z34⟩
        have bX34 := F34.out _ _ bX33
        have bY34 := F34.out _ _ bY33
        have hs34 : M < wy34.heap.size := by omega
        go_wp2_with fail
        refine hK.out _ _ (KS.out _ _ Jy34) (fun hH34 => ?_)
        clear hK K
        (try simp only [Act.put, List.setIfInBounds_toArray, List.set_cons_zero, List.set_cons_succ])
        have nXY : N32 ≠ N26 := by omega
        have VA9 := Lib.hid (vs_mono m34.out n _ _ Vva.out)
        have VB9 := Vvb
        have MX : M ≠ N32 := by omega
        have MY : M ≠ N26 := by omega
        have LX : w.heap.size + 3 ≤ N32 := by omega
        have LY : w.heap.size + 3 ≤ N26 := by omega
        have cX := bX34.c 0
        have fX := bX34.f 0
        have cY := bY34.c 0
        have fY := bY34.f 0
        have hsW : w.heap.size + 3 ≤ wy34.heap.size := by omega
        have sva9 := Lib.hid sva
        have svb9 := Lib.hid svb
        rcases sva with rfl | ⟨Ta, za, rfl⟩
        · rcases svb with rfl | ⟨Tb, zb, rfl⟩
          · refine wpAnyH_ready (rs := [8]) (by kernel_rfl) (by simp) ?_
            refine AllReadyH.cons (o := { dst := none, op := Op.store 20 (Operand.tmp 6) (Operand.tmp 12), type := 0, pos := "acts.go:41", after := #[{ on := 6, ground := Ground.data }, { on := 2, ground := Ground.data }, { on := 5, ground := Ground.chain }, { on := 0, ground := Ground.phase }, { on := 1, ground := Ground.phase }, { on := 2, ground := Ground.phase }, { on := 3, ground := Ground.textOnly Departure.lateStores }, { on := 4, ground := Ground.textOnly Departure.lateStores }, { on := 5, ground := Ground.textOnly Departure.lateStoresUnsure }, { on := 6, ground := Ground.phase }, { on := 7, ground := Ground.phase }], guard := none }) rfl (fun K hK => ?_) AllReadyH.nil
            go_simp
            have J8 := Jy34.cell bX34 LX MX (.nilIface)
            have X8 : Bk _ N32 #[.nilIface] 20 := bX34.set 0 (.nilIface)
            have Y8 := bY34.other ⟨N32, 0, none⟩ (.nilIface) (by show N26 ≠ N32; omega)
            have z8 : w.heap.size + 3 ≤ (wy34.setCell ⟨N32, 0, none⟩ (.nilIface)).heap.size := by simpa using hsW
            clear cX fX cY fY
            generalize wy34.setCell ⟨N32, 0, none⟩ (.nilIface) = w8 at *
            refine hK.out _ _ (KS.out _ _ J8) (fun hH8 => ?_)
            clear hK K
            (try simp only [Act.put, List.setIfInBounds_toArray, List.set_cons_zero, List.set_cons_succ])
            have cY := Y8.c 0
            have fY := Y8.f 0
            refine wpAnyH_ready (rs := [9]) (by kernel_rfl) (by simp) ?_
            refine AllReadyH.cons (o := { dst := none, op := Op.store 20 (Operand.tmp 7) (Operand.tmp 15), type := 0, pos := "acts.go:41", after := #[{ on := 7, ground := Ground.data }, { on := 5, ground := Ground.data }, { on := 8, ground := Ground.chain }, { on := 0, ground := Ground.phase }, { on := 1, ground := Ground.phase }, { on := 2, ground := Ground.phase }, { on := 3, ground := Ground.phase }, { on := 4, ground := Ground.phase }, { on := 5, ground := Ground.phase }, { on := 6, ground := Ground.phase }, { on := 7, ground := Ground.phase }, { on := 8, ground := Ground.phase }], guard := none }) rfl (fun K hK => ?_) AllReadyH.nil
            go_simp
            have J9 := J8.cell Y8 LY MY (.nilIface)
            have Y9 : Bk _ N26 #[.nilIface] 20 := Y8.set 0 (.nilIface)
            have X9 := X8.other ⟨N26, 0, none⟩ (.nilIface) (by show N32 ≠ N26; omega)
            have z9 : w.heap.size + 3 ≤ (w8.setCell ⟨N26, 0, none⟩ (.nilIface)).heap.size := by simpa using z8
            clear cY fY
            generalize w8.setCell ⟨N26, 0, none⟩ (.nilIface) = w9 at *
            refine hK.out _ _ (KS.out _ _ J9) (fun hH9 => ?_)
            clear hK K
            (try simp only [Act.put, List.setIfInBounds_toArray, List.set_cons_zero, List.set_cons_succ])
            refine wpAnyH_done (by kernel_rfl) ?_ _
            go_wp2_with fail
            go_meet
            exact ⟨_, _, _, _, _, rfl, rfl, sva9.out, svb9.out, VA9.out, VB9.out, X9, Y9, J9, z9⟩
          · refine wpAnyH_ready (rs := [8]) (by kernel_rfl) (by simp) ?_
            refine AllReadyH.cons (o := { dst := none, op := Op.store 20 (Operand.tmp 6) (Operand.tmp 12), type := 0, pos := "acts.go:41", after := #[{ on := 6, ground := Ground.data }, { on := 2, ground := Ground.data }, { on := 5, ground := Ground.chain }, { on := 0, ground := Ground.phase }, { on := 1, ground := Ground.phase }, { on := 2, ground := Ground.phase }, { on := 3, ground := Ground.textOnly Departure.lateStores }, { on := 4, ground := Ground.textOnly Departure.lateStores }, { on := 5, ground := Ground.textOnly Departure.lateStoresUnsure }, { on := 6, ground := Ground.phase }, { on := 7, ground := Ground.phase }], guard := none }) rfl (fun K hK => ?_) AllReadyH.nil
            go_simp
            have J8 := Jy34.cell bX34 LX MX (.nilIface)
            have X8 : Bk _ N32 #[.nilIface] 20 := bX34.set 0 (.nilIface)
            have Y8 := bY34.other ⟨N32, 0, none⟩ (.nilIface) (by show N26 ≠ N32; omega)
            have z8 : w.heap.size + 3 ≤ (wy34.setCell ⟨N32, 0, none⟩ (.nilIface)).heap.size := by simpa using hsW
            clear cX fX cY fY
            generalize wy34.setCell ⟨N32, 0, none⟩ (.nilIface) = w8 at *
            refine hK.out _ _ (KS.out _ _ J8) (fun hH8 => ?_)
            clear hK K
            (try simp only [Act.put, List.setIfInBounds_toArray, List.set_cons_zero, List.set_cons_succ])
            have cY := Y8.c 0
            have fY := Y8.f 0
            refine wpAnyH_ready (rs := [9]) (by kernel_rfl) (by simp) ?_
            refine AllReadyH.cons (o := { dst := none, op := Op.store 20 (Operand.tmp 7) (Operand.tmp 15), type := 0, pos := "acts.go:41", after := #[{ on := 7, ground := Ground.data }, { on := 5, ground := Ground.data }, { on := 8, ground := Ground.chain }, { on := 0, ground := Ground.phase }, { on := 1, ground := Ground.phase }, { on := 2, ground := Ground.phase }, { on := 3, ground := Ground.phase }, { on := 4, ground := Ground.phase }, { on := 5, ground := Ground.phase }, { on := 6, ground := Ground.phase }, { on := 7, ground := Ground.phase }, { on := 8, ground := Ground.phase }], guard := none }) rfl (fun K hK => ?_) AllReadyH.nil
            go_simp
            have J9 := J8.cell Y8 LY MY (.iface Tb zb)
            have Y9 : Bk _ N26 #[.iface Tb zb] 20 := Y8.set 0 (.iface Tb zb)
            have X9 := X8.other ⟨N26, 0, none⟩ (.iface Tb zb) (by show N32 ≠ N26; omega)
            have z9 : w.heap.size + 3 ≤ (w8.setCell ⟨N26, 0, none⟩ (.iface Tb zb)).heap.size := by simpa using z8
            clear cY fY
            generalize w8.setCell ⟨N26, 0, none⟩ (.iface Tb zb) = w9 at *
            refine hK.out _ _ (KS.out _ _ J9) (fun hH9 => ?_)
            clear hK K
            (try simp only [Act.put, List.setIfInBounds_toArray, List.set_cons_zero, List.set_cons_succ])
            refine wpAnyH_done (by kernel_rfl) ?_ _
            go_wp2_with fail
            go_meet
            exact ⟨_, _, _, _, _, rfl, rfl, sva9.out, svb9.out, VA9.out, VB9.out, X9, Y9, J9, z9⟩
        · rcases svb with rfl | ⟨Tb, zb, rfl⟩
          · refine wpAnyH_ready (rs := [8]) (by kernel_rfl) (by simp) ?_
            refine AllReadyH.cons (o := { dst := none, op := Op.store 20 (Operand.tmp 6) (Operand.tmp 12), type := 0, pos := "acts.go:41", after := #[{ on := 6, ground := Ground.data }, { on := 2, ground := Ground.data }, { on := 5, ground := Ground.chain }, { on := 0, ground := Ground.phase }, { on := 1, ground := Ground.phase }, { on := 2, ground := Ground.phase }, { on := 3, ground := Ground.textOnly Departure.lateStores }, { on := 4, ground := Ground.textOnly Departure.lateStores }, { on := 5, ground := Ground.textOnly Departure.lateStoresUnsure }, { on := 6, ground := Ground.phase }, { on := 7, ground := Ground.phase }], guard := none }) rfl (fun K hK => ?_) AllReadyH.nil
            go_simp
            have J8 := Jy34.cell bX34 LX MX (.iface Ta za)
            have X8 : Bk _ N32 #[.iface Ta za] 20 := bX34.set 0 (.iface Ta za)
            have Y8 := bY34.other ⟨N32, 0, none⟩ (.iface Ta za) (by show N26 ≠ N32; omega)
            have z8 : w.heap.size + 3 ≤ (wy34.setCell ⟨N32, 0, none⟩ (.iface Ta za)).heap.size := by simpa using hsW
            clear cX fX cY fY
            generalize wy34.setCell ⟨N32, 0, none⟩ (.iface Ta za) = w8 at *
            refine hK.out _ _ (KS.out _ _ J8) (fun hH8 => ?_)
            clear hK K
            (try simp only [Act.put, List.setIfInBounds_toArray, List.set_cons_zero, List.set_cons_succ])
            have cY := Y8.c 0
            have fY := Y8.f 0
            refine wpAnyH_ready (rs := [9]) (by kernel_rfl) (by simp) ?_
            refine AllReadyH.cons (o := { dst := none, op := Op.store 20 (Operand.tmp 7) (Operand.tmp 15), type := 0, pos := "acts.go:41", after := #[{ on := 7, ground := Ground.data }, { on := 5, ground := Ground.data }, { on := 8, ground := Ground.chain }, { on := 0, ground := Ground.phase }, { on := 1, ground := Ground.phase }, { on := 2, ground := Ground.phase }, { on := 3, ground := Ground.phase }, { on := 4, ground := Ground.phase }, { on := 5, ground := Ground.phase }, { on := 6, ground := Ground.phase }, { on := 7, ground := Ground.phase }, { on := 8, ground := Ground.phase }], guard := none }) rfl (fun K hK => ?_) AllReadyH.nil
            go_simp
            have J9 := J8.cell Y8 LY MY (.nilIface)
            have Y9 : Bk _ N26 #[.nilIface] 20 := Y8.set 0 (.nilIface)
            have X9 := X8.other ⟨N26, 0, none⟩ (.nilIface) (by show N32 ≠ N26; omega)
            have z9 : w.heap.size + 3 ≤ (w8.setCell ⟨N26, 0, none⟩ (.nilIface)).heap.size := by simpa using z8
            clear cY fY
            generalize w8.setCell ⟨N26, 0, none⟩ (.nilIface) = w9 at *
            refine hK.out _ _ (KS.out _ _ J9) (fun hH9 => ?_)
            clear hK K
            (try simp only [Act.put, List.setIfInBounds_toArray, List.set_cons_zero, List.set_cons_succ])
            refine wpAnyH_done (by kernel_rfl) ?_ _
            go_wp2_with fail
            go_meet
            exact ⟨_, _, _, _, _, rfl, rfl, sva9.out, svb9.out, VA9.out, VB9.out, X9, Y9, J9, z9⟩
          · refine wpAnyH_ready (rs := [8]) (by kernel_rfl) (by simp) ?_
            refine AllReadyH.cons (o := { dst := none, op := Op.store 20 (Operand.tmp 6) (Operand.tmp 12), type := 0, pos := "acts.go:41", after := #[{ on := 6, ground := Ground.data }, { on := 2, ground := Ground.data }, { on := 5, ground := Ground.chain }, { on := 0, ground := Ground.phase }, { on := 1, ground := Ground.phase }, { on := 2, ground := Ground.phase }, { on := 3, ground := Ground.textOnly Departure.lateStores }, { on := 4, ground := Ground.textOnly Departure.lateStores }, { on := 5, ground := Ground.textOnly Departure.lateStoresUnsure }, { on := 6, ground := Ground.phase }, { on := 7, ground := Ground.phase }], guard := none }) rfl (fun K hK => ?_) AllReadyH.nil
            go_simp
            have J8 := Jy34.cell bX34 LX MX (.iface Ta za)
            have X8 : Bk _ N32 #[.iface Ta za] 20 := bX34.set 0 (.iface Ta za)
            have Y8 := bY34.other ⟨N32, 0, none⟩ (.iface Ta za) (by show N26 ≠ N32; omega)
            have z8 : w.heap.size + 3 ≤ (wy34.setCell ⟨N32, 0, none⟩ (.iface Ta za)).heap.size := by simpa using hsW
            clear cX fX cY fY
            generalize wy34.setCell ⟨N32, 0, none⟩ (.iface Ta za) = w8 at *
            refine hK.out _ _ (KS.out _ _ J8) (fun hH8 => ?_)
            clear hK K
            (try simp only [Act.put, List.setIfInBounds_toArray, List.set_cons_zero, List.set_cons_succ])
            have cY := Y8.c 0
            have fY := Y8.f 0
            refine wpAnyH_ready (rs := [9]) (by kernel_rfl) (by simp) ?_
            refine AllReadyH.cons (o := { dst := none, op := Op.store 20 (Operand.tmp 7) (Operand.tmp 15), type := 0, pos := "acts.go:41", after := #[{ on := 7, ground := Ground.data }, { on := 5, ground := Ground.data }, { on := 8, ground := Ground.chain }, { on := 0, ground := Ground.phase }, { on := 1, ground := Ground.phase }, { on := 2, ground := Ground.phase }, { on := 3, ground := Ground.phase }, { on := 4, ground := Ground.phase }, { on := 5, ground := Ground.phase }, { on := 6, ground := Ground.phase }, { on := 7, ground := Ground.phase }, { on := 8, ground := Ground.phase }], guard := none }) rfl (fun K hK => ?_) AllReadyH.nil
            go_simp
            have J9 := J8.cell Y8 LY MY (.iface Tb zb)
            have Y9 : Bk _ N26 #[.iface Tb zb] 20 := Y8.set 0 (.iface Tb zb)
            have X9 := X8.other ⟨N26, 0, none⟩ (.iface Tb zb) (by show N32 ≠ N26; omega)
            have z9 : w.heap.size + 3 ≤ (w8.setCell ⟨N26, 0, none⟩ (.iface Tb zb)).heap.size := by simpa using z8
            clear cY fY
            generalize w8.setCell ⟨N26, 0, none⟩ (.iface Tb zb) = w9 at *
            refine hK.out _ _ (KS.out _ _ J9) (fun hH9 => ?_)
            clear hK K
            (try simp only [Act.put, List.setIfInBounds_toArray, List.set_cons_zero, List.set_cons_succ])
            refine wpAnyH_done (by kernel_rfl) ?_ _
            go_wp2_with fail
            go_meet
            exact ⟨_, _, _, _, _, rfl, rfl, sva9.out, svb9.out, VA9.out, VB9.out, X9, Y9, J9, z9⟩
  case rest =>
    obtain ⟨X, Y, va, vb, l, rfl, rfl, sa, sb, VA, VB, hX, hY, kq, zc⟩ := hcut
    have B0 := kq.b
    have R0 : Bk wc (w.heap.size + 1 + 1) #[.int .i64 0, .int .i64 0, .int .u64 0, .string ⟨#[]⟩, .slice none 0 0] 25 := kq.c
    have CM : ∀ wx, Below wc.heap.size wc wx → Calls Tryz.prog 65 #[.pointer (some ⟨X, 0, none⟩), .pointer (some ⟨Y, 0, none⟩)] wx fun e w' => ((code = 0 ∧ e = .returned (.bool res)) ∨ (code ≠ 0 ∧ ∃ T z, Pn T z e)) ∧ Below wx.heap.size wx w' := fun wx hx => by
      have := cmp1_any X Y l n m a b va vb wx hn HV.out.1 HV.out.2.1 (kq.x.below hx) sa sb VA VB (hX.step hx) (hY.step hx)
      rw [HE.out] at this
      exact this
    have PL : Hid (∀ (b : Bool) (w : World), Calls Tryz.prog 59 #[.iface 110 (.bool b)] w fun e w' => e = .returned (.agg #[.int .i64 6, .int .i64 (bI b), .int .u64 0, .string ⟨#[]⟩, .slice none 0 0]) ∧ Below w.heap.size w w') := pl6
    clear KS KA KB kq0 kq VA VB sa sb hX hY HV HE
    by_cases hz : code = 0
    · subst hz
      have AS := Lib.hid (asb_ret 65 #[.pointer (some ⟨X, 0, none⟩), .pointer (some ⟨Y, 0, none⟩)] 88 (.agg #[]) wc (fun v _ => v = .bool res) (fun _ => by kernel_rfl) (fun wx hx _ => (CM wx hx).mono fun e w' ⟨he, hb⟩ => by
        rcases he with ⟨-, rfl⟩ | ⟨h, -⟩
        · exact ⟨_, rfl, rfl, hb⟩
        · exact absurd rfl h))
      clear CM
      go_wp2_with fail
      refine AS.out.mono ?_
      rintro e w3 ⟨v3, rfl, rfl, b3⟩
      have B3 := B0.trans (b3.mono (by omega))
      have R3 := R0.step b3
      clear AS b3 R0 B0
      go_wp2_with fail
      refine (PL.out _ _).mono ?_
      rintro e w4 ⟨rfl, b4⟩
      have B4 := B3.trans (b4.mono B3.size)
      have R4 := R3.step b4
      clear b4 R3 B3
      obtain ⟨c0, c1, c2, c3, c4⟩ := R4.c5
      have z4 := R4.f
      go_wp2_with fail
      obtain ⟨k1, k2, k3, k4⟩ := set5 R4 (.int .i64 6) (.int .i64 (bI res)) (.int .u64 0) (.string ⟨#[]⟩) (.slice none 0 0) rfl
      have KF := B4.trans (k4.mono (by omega))
      obtain ⟨q0, q1, q2, q3, q4⟩ := k1.c5
      refine bodyPost_ret (v := .agg #[.int .i64 6, .int .i64 (bI res), .int .u64 0, .string ⟨#[]⟩, .slice none 0 0]) ?_ rfl ⟨rfl, KF⟩
      simp [results, Tryz.results44, go_sem, q0, q1, q2, q3, q4]
    · have AS := Lib.hid (asb_pan 65 #[.pointer (some ⟨X, 0, none⟩), .pointer (some ⟨Y, 0, none⟩)] 88 (.agg #[]) wc (fun _ => True) (fun _ => by kernel_rfl) (fun wx hx _ => (CM wx hx).mono fun e w' ⟨he, hb⟩ => by
        rcases he with ⟨h, -⟩ | ⟨-, h⟩
        · exact absurd h hz
        · exact ⟨h, trivial, hb⟩))
      clear CM
      go_wp2_with fail
      refine AS.out.mono ?_
      rintro e w3 ⟨⟨older, rfl, ho⟩, -, b3⟩
      have B3 := B0.trans (b3.mono (by omega))
      go_wp2_with fail
      exact ⟨rfl, .inr ⟨hz, older, rfl, ho⟩, B3⟩
end Go.Proofs.YthamafijjflfbaaGreat.Dt
