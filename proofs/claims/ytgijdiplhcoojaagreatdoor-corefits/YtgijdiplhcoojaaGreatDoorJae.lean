/- A work's handle and the package's Handle, by what the inner call comes to; the conditions: not closed, not late. -/
import Derived.Test.YtgijdiplhcoojaaGreatDoorJad
import Derived.Test.YtgijdiplhcoojaaGreatDoorJab
import Derived.MapKept
namespace Go.Proofs.YtgijdiplhcoojaaGreatDoor
open Go.RowKit

theorem below3 (w : World) (o p q : Obj) : Below w.heap.size w (((w.alloc o).alloc p).alloc q) := (below2 w o p).alloc (by simp; omega) q
theorem below_drewN (w : World) (k B : Nat) : Below B w (w.drewN k) := ⟨rfl, rfl, rfl, Nat.le_refl _, fun _ _ => rfl⟩
theorem Bk.new3 (w : World) (o p : Obj) (cs : Array Value) (T : TypeId) : Bk (((w.alloc o).alloc p).alloc (.cells cs T)) (w.heap.size + 1 + 1) cs T := by have := Bk.new2 (w.alloc o) p cs T; rwa [World.size_alloc] at this

set_option maxRecDepth 100000 in
set_option maxHeartbeats 1000000 in
theorem handle_by (b : Nat) (op num cp cn ac lk li lu : Int) (ls : ByteArray) (la : Option Addr) (ln lc : Nat) (ta : Option Addr) (tn tc : Nat) (un now : Int) (T : TypeId) (z : Value) (dk di du : Int) (ds : ByteArray) (da : Option Addr) (dn dc : Nat)
    (er co pk pn : Int) (has : Bool) (k i u : Int) (s : ByteArray) (a : Option Addr) (n c : Nat) (w : World)
    (W : Bk w b (wcs op num cp cn ac lk li lu ls la ln lc ta tn tc false un now (.iface T z)) 82) (hl : ¬ (0 < un ∧ un < now)) (L N : Nat) (hL : L ≤ N) (hN : N ≤ w.heap.size) (P : World → Prop) (hP : ∀ w' w'', P w' → w'.heap.size ≤ w''.heap.size → (∀ g, g < w'.heap.size → g ≠ w.heap.size + 2 → w''.heap[g]? = w'.heap[g]?) → P w'')
    (hC : ∀ wx, Xi w.heap.size (w.heap.size + 1) b T z dk di du ds da dn dc wx → Below w.heap.size w wx → wx.heap.size = w.heap.size + 3 → Calls Tryz.prog 54 #[.func (.func 55) #[] #[.pointer (some ⟨w.heap.size, 0, none⟩), .pointer (some ⟨w.heap.size + 1, 0, none⟩)]] wx fun e w' => e = .returned (.agg (rcs er co pk pn has k i u s a n c)) ∧ P w' ∧ Fr L N wx w') :
    Calls Tryz.prog 44 #[.pointer (some ⟨b, 0, none⟩), .agg #[.int .i64 dk, .int .i64 di, .int .u64 du, .string ds, .slice da dn dc]] w fun e w' => e = .returned (.agg (rcs er co pk pn has k i u s a n c)) ∧ P w' ∧ Fr L N w w' := by
  have hmf : ∀ (fn : Fn) (first cap : Array Value) (w : World), (Instr.makeFunc fn first cap).run Tryz.prog w = .ok (.func fn first cap) w := fun _ _ _ _ => rfl
  have HC := Lib.hid hC
  have hP' := Lib.hid hP
  clear hC hP
  have hb := W.lt
  have B0 := below3 w (.cells #[.pointer (some ⟨b, 0, none⟩)] 76) (.cells #[.int .i64 dk, .int .i64 di, .int .u64 du, .string ds, .slice da dn dc] 25) (.cells (rErr 0 0 0 0) 56)
  have W0 := W.step B0
  have w11 := W0.c 11
  have w12 := W0.c 12
  have w13 := W0.c 13
  have w14 := W0.c 14
  have R0 := Bk.new3 w (.cells #[.pointer (some ⟨b, 0, none⟩)] 76) (.cells #[.int .i64 dk, .int .i64 di, .int .u64 du, .string ds, .slice da dn dc] 25) (rErr 0 0 0 0) 56
  have Z0 : (((w.alloc (.cells #[.pointer (some ⟨b, 0, none⟩)] 76)).alloc (.cells #[.int .i64 dk, .int .i64 di, .int .u64 du, .string ds, .slice da dn dc] 25)).alloc (.cells (rErr 0 0 0 0) 56)).heap.size = w.heap.size + 3 := by simp
  have X0 : Xi w.heap.size (w.heap.size + 1) b T z dk di du ds da dn dc (((w.alloc (.cells #[.pointer (some ⟨b, 0, none⟩)] 76)).alloc (.cells #[.int .i64 dk, .int .i64 di, .int .u64 du, .string ds, .slice da dn dc] 25)).alloc (.cells (rErr 0 0 0 0) 56)) := ⟨((Bk.new w _ _).alloc _).alloc _, (Bk.new2 w _ _ _).alloc _, w14, Nat.lt_of_lt_of_le hb B0.size⟩
  simp only [Array.getElem?_eq_getElem, List.size_toArray, List.length_cons, List.length_nil, Nat.reduceAdd, Nat.reduceLT, List.getElem_toArray, List.getElem_cons_succ, List.getElem_cons_zero] at w11 w12 w13 w14
  go_enter Tryz.func44, Tryz.ntmps44
  go_wp2_with fail
  have cpw : (((w.alloc (.cells #[.pointer (some ⟨b, 0, none⟩)] 76)).alloc (.cells #[.int .i64 dk, .int .i64 di, .int .u64 du, .string ds, .slice da dn dc] 25)).alloc (.cells (rErr 0 0 0 0) 56)).cell? ⟨w.heap.size, 0, none⟩ = some (.pointer (some ⟨b, 0, none⟩)) := X0.pw.c 0
  clear w11 W0
  generalize (((w.alloc (.cells #[.pointer (some ⟨b, 0, none⟩)] 76)).alloc (.cells #[.int .i64 dk, .int .i64 di, .int .u64 du, .string ds, .slice da dn dc] 25)).alloc (.cells (rErr 0 0 0 0) 56)) = w3 at *
  clear w14
  by_cases h0 : 0 < un
  · have h1 : decide (0 < un) = true := by simp [h0]
    have h2 : decide (un < now) = false := by simp; omega
    have h3 : ¬ un < now := by omega
    go_quiet (fail)
    have B1 := B0.trans (below_drewN w3 nq w.heap.size)
    have X1 := X0.below (below_drewN w3 nq w3.heap.size)
    have R1 : Bk (w3.drewN nq) (w.heap.size + 1 + 1) (rErr 0 0 0 0) 56 := R0.step (below_drewN w3 nq w3.heap.size)
    have Z1 : (w3.drewN nq).heap.size = w.heap.size + 3 := Z0
    clear h1 h2 h3 h0 B0 X0 R0 w12 w13 cpw Z0
    generalize w3.drewN nq = w4 at *
    go_wp2_with fail
    refine (HC.out _ X1 B1 Z1).mono ?_
    rintro e w5 ⟨rfl, p5, f5⟩
    have R5 := R1.fr f5 (.inr (by omega))
    have F5 : Fr L N w w5 := (Fr.of B1 (by omega)).trans f5
    obtain ⟨c0, c1, c2, c3, c4, c5, c6, c7, c8, c9⟩ := R5.c10
    have z5 := R5.f
    have p5' := Lib.hid p5
    clear p5 f5 R1 X1 B1 HC
    go_wp2_with fail
    obtain ⟨k1, k2, k3, k4⟩ := set10 R5 (.int .i64 er) (.int .i64 co) (.int .i64 pk) (.int .i64 pn) (.bool has) (.int .i64 k) (.int .i64 i) (.int .u64 u) (.string s) (.slice a n c) rfl
    have KP : Hid (P _) := hP'.out w5 _ p5'.out (Nat.le_of_eq k2.symm) fun g _ hg => k3 g hg
    have KF : Fr L N w _ := ⟨F5.b.trans (k4.mono (by omega)), fun g h1 h2 => (k3 g (by omega)).trans (F5.up g h1 h2)⟩
    obtain ⟨q0, q1, q2, q3, q4, q5, q6, q7, q8, q9⟩ := k1.c10
    refine bodyPost_ret (v := .agg (rcs er co pk pn has k i u s a n c)) ?_ rfl ⟨rfl, KP.out, KF⟩
    simp [results, Tryz.results44, go_sem, q0, q1, q2, q3, q4, q5, q6, q7, q8, q9]
  · have h1 : decide (0 < un) = false := by simp [h0]
    go_quiet (fail)
    have B1 := B0.trans (below_drewN w3 nq w.heap.size)
    have X1 := X0.below (below_drewN w3 nq w3.heap.size)
    have R1 : Bk (w3.drewN nq) (w.heap.size + 1 + 1) (rErr 0 0 0 0) 56 := R0.step (below_drewN w3 nq w3.heap.size)
    have Z1 : (w3.drewN nq).heap.size = w.heap.size + 3 := Z0
    clear h1 h0 B0 X0 R0 w12 w13 cpw Z0
    generalize w3.drewN nq = w4 at *
    go_wp2_with fail
    refine (HC.out _ X1 B1 Z1).mono ?_
    rintro e w5 ⟨rfl, p5, f5⟩
    have R5 := R1.fr f5 (.inr (by omega))
    have F5 : Fr L N w w5 := (Fr.of B1 (by omega)).trans f5
    obtain ⟨c0, c1, c2, c3, c4, c5, c6, c7, c8, c9⟩ := R5.c10
    have z5 := R5.f
    have p5' := Lib.hid p5
    clear p5 f5 R1 X1 B1 HC
    go_wp2_with fail
    obtain ⟨k1, k2, k3, k4⟩ := set10 R5 (.int .i64 er) (.int .i64 co) (.int .i64 pk) (.int .i64 pn) (.bool has) (.int .i64 k) (.int .i64 i) (.int .u64 u) (.string s) (.slice a n c) rfl
    have KP : Hid (P _) := hP'.out w5 _ p5'.out (Nat.le_of_eq k2.symm) fun g _ hg => k3 g hg
    have KF : Fr L N w _ := ⟨F5.b.trans (k4.mono (by omega)), fun g h1 h2 => (k3 g (by omega)).trans (F5.up g h1 h2)⟩
    obtain ⟨q0, q1, q2, q3, q4, q5, q6, q7, q8, q9⟩ := k1.c10
    refine bodyPost_ret (v := .agg (rcs er co pk pn has k i u s a n c)) ?_ rfl ⟨rfl, KP.out, KF⟩
    simp [results, Tryz.results44, go_sem, q0, q1, q2, q3, q4, q5, q6, q7, q8, q9]
end Go.Proofs.YtgijdiplhcoojaaGreatDoor
/- A work's handle by its handler's Handle alone: the answer or the error, or the panic; the conditions: not closed, not late, what Handle comes to. -/
namespace Go.Proofs.YtgijdiplhcoojaaGreatDoor
open Go.RowKit

/-- P does not look at the blocks from B to M. -/
def PS (B M : Nat) (P : World → Prop) : Prop := ∀ w' w'', P w' → w'.heap.size ≤ w''.heap.size → (∀ g, g < w'.heap.size → (g < B ∨ M ≤ g) → w''.heap[g]? = w'.heap[g]?) → P w''
theorem PS.at {B M : Nat} {P : World → Prop} (h : PS B M P) {A : Nat} (h1 : B ≤ A) (h2 : A < M) : ∀ w' w'', P w' → w'.heap.size ≤ w''.heap.size → (∀ g, g < w'.heap.size → g ≠ A → w''.heap[g]? = w'.heap[g]?) → P w'' :=
  fun w' w'' p hs hg => h w' w'' p hs fun g a b => hg g a (by omega)

theorem handle_ret (b : Nat) (op num cp cn ac lk li lu : Int) (ls : ByteArray) (la : Option Addr) (ln lc : Nat) (ta : Option Addr) (tn tc : Nat) (un now : Int) (T : TypeId) (z : Value) (F : Nat) (dk di du : Int) (ds : ByteArray) (da : Option Addr) (dn dc : Nat)
    (has : Bool) (k i u : Int) (s : ByteArray) (a : Option Addr) (n c : Nat) (ev : Value) (hev : Sx ev)
    (er co pk pn : Int) (has' : Bool) (k' i' u' : Int) (s' : ByteArray) (a' : Option Addr) (n' c' : Nat) (w : World)
    (W : Bk w b (wcs op num cp cn ac lk li lu ls la ln lc ta tn tc false un now (.iface T z)) 82) (hl : ¬ (0 < un ∧ un < now)) (hm : MH T z F) (L N : Nat) (hL : L ≤ N) (hN : N ≤ w.heap.size) (P : World → Prop) (hP : PS w.heap.size (w.heap.size + 5) P) (hPb : ∀ w', P w' → w'.cell? ⟨b, 14, none⟩ = some (.iface T z))
    (hF : ∀ wx, Below w.heap.size w wx → w.heap.size + 5 ≤ wx.heap.size → Calls Tryz.prog F #[z, .agg #[.int .i64 dk, .int .i64 di, .int .u64 du, .string ds, .slice da dn dc]] wx fun e w' => e = .returned (.tuple #[.agg #[.bool has, .int .i64 k, .int .i64 i, .int .u64 u, .string s, .slice a n c], ev]) ∧ P w' ∧ Fr L N wx w')
    (hT : ∀ wx, P wx → Calls Tryz.prog 56 #[.agg #[.bool has, .int .i64 k, .int .i64 i, .int .u64 u, .string s, .slice a n c], ev] wx fun e w' => e = .returned (.agg (rcs er co pk pn has' k' i' u' s' a' n' c')) ∧ Below wx.heap.size wx w') :
    Calls Tryz.prog 44 #[.pointer (some ⟨b, 0, none⟩), .agg #[.int .i64 dk, .int .i64 di, .int .u64 du, .string ds, .slice da dn dc]] w fun e w' => e = .returned (.agg (rcs er co pk pn has' k' i' u' s' a' n' c')) ∧ P w' ∧ Fr L N w w' := by
  refine handle_by b op num cp cn ac lk li lu ls la ln lc ta tn tc un now T z dk di du ds da dn dc er co pk pn has' k' i' u' s' a' n' c' w W hl L N hL hN P (hP.at (A := w.heap.size + 2) (by omega) (by omega)) fun wx X hb hz => ?_
  refine (caught_ret 55 _ wx er co pk pn has' k' i' u' s' a' n' c' L N hL (by omega) P (hP.at (A := wx.heap.size) (by omega) (by omega)) (fun _ => by kernel_rfl) fun wy hy hz' => ?_)
  have X' := X.below hy
  refine inner_ret w.heap.size (w.heap.size + 1) b T z F dk di du ds da dn dc has k i u s a n c ev hev er co pk pn has' k' i' u' s' a' n' c' wy X' hm L N hL (by omega) (by omega) (by omega) P (hP.at (A := wy.heap.size) (by omega) (by omega)) hPb (fun wz hw hz'' => hF wz ((hb.trans (hy.mono (by omega))).trans (hw.mono (by omega))) (by omega)) hT

theorem handle_pan (b : Nat) (op num cp cn ac lk li lu : Int) (ls : ByteArray) (la : Option Addr) (ln lc : Nat) (ta : Option Addr) (tn tc : Nat) (un now : Int) (T : TypeId) (z : Value) (F : Nat) (dk di du : Int) (ds : ByteArray) (da : Option Addr) (dn dc : Nat)
    (pT : TypeId) (pz : Value) (pk pn : Int) (w : World)
    (W : Bk w b (wcs op num cp cn ac lk li lu ls la ln lc ta tn tc false un now (.iface T z)) 82) (hl : ¬ (0 < un ∧ un < now)) (hm : MH T z F) (L N : Nat) (hL : L ≤ N) (hN : N ≤ w.heap.size) (P : World → Prop) (hP : PS w.heap.size (w.heap.size + 5) P)
    (hF : ∀ wx, Below w.heap.size w wx → w.heap.size + 5 ≤ wx.heap.size → Calls Tryz.prog F #[z, .agg #[.int .i64 dk, .int .i64 di, .int .u64 du, .string ds, .slice da dn dc]] wx fun e w' => e = .panicked [{ v := .iface pT pz, recovered := false }] ∧ P w' ∧ Fr L N wx w')
    (hT : ∀ wx, Calls Tryz.prog 66 #[.iface pT pz] wx fun e w' => e = .returned (.agg #[.int .i64 pk, .int .i64 pn]) ∧ Below wx.heap.size wx w') :
    Calls Tryz.prog 44 #[.pointer (some ⟨b, 0, none⟩), .agg #[.int .i64 dk, .int .i64 di, .int .u64 du, .string ds, .slice da dn dc]] w fun e w' => e = .returned (.agg (rErr 110 0 pk pn)) ∧ P w' ∧ Fr L N w w' := by
  refine handle_by b op num cp cn ac lk li lu ls la ln lc ta tn tc un now T z dk di du ds da dn dc 110 0 pk pn false 0 0 0 ⟨#[]⟩ none 0 0 w W hl L N hL hN P (hP.at (A := w.heap.size + 2) (by omega) (by omega)) fun wx X hb hz => ?_
  refine (caught_pan 55 _ wx pT pz pk pn L N hL (by omega) P (hP.at (A := wx.heap.size) (by omega) (by omega)) hT (fun _ => by kernel_rfl) fun wy hy hz' => ?_)
  have X' := X.below hy
  exact inner_pan w.heap.size (w.heap.size + 1) b T z F dk di du ds da dn dc pT pz wy X' hm L N (by omega) P (fun wz hw hz'' => hF wz ((hb.trans (hy.mono (by omega))).trans (hw.mono (by omega))) (by omega))
end Go.Proofs.YtgijdiplhcoojaaGreatDoor
/- Handlers that look at no body: none, mute, fail; a state at its beginning copied; no condition. -/
namespace Go.Proofs.YtgijdiplhcoojaaGreatDoor
open Go.RowKit

theorem mh_none : MH 144 (.agg #[]) 130 := ⟨fun _ => by kernel_rfl, fun _ _ => by kernel_rfl⟩
theorem mh_unbox : MH 137 (.agg #[]) 109 := ⟨fun _ => by kernel_rfl, fun _ _ => by kernel_rfl⟩
theorem mh_store (a : Addr) : MH 132 (.pointer (some a)) 98 := ⟨fun _ => by kernel_rfl, fun _ _ => by kernel_rfl⟩

set_option maxRecDepth 100000 in
set_option maxHeartbeats 1000000 in
theorem none_handle (dv : Array Value) (w : World) : Calls Tryz.prog 130 #[.agg #[], .agg dv] w fun e w' => e = .returned (.tuple #[.agg #[.bool false, .int .i64 0, .int .i64 0, .int .u64 0, .string ⟨#[]⟩, .slice none 0 0], .iface 148 (.pointer none)]) ∧ Below w.heap.size w w' := by
  go_enter Tryz.func130, Tryz.ntmps130
  go_wp2
  exact bodyPost_ret (v := .tuple #[.agg #[.bool false, .int .i64 0, .int .i64 0, .int .u64 0, .string ⟨#[]⟩, .slice none 0 0], .iface 148 (.pointer none)]) (by simp [results, Tryz.results130, go_sem]) rfl ⟨rfl, below3 w _ _ _⟩

theorem copyOf_zero (w : World) : Calls Tryz.prog 37 #[.agg #[.int .i64 0, .int .i64 0, .int .i64 0, .int .i64 0, .int .u64 0, .string ⟨#[]⟩, .slice none 0 0, .slice none 0 0, .bool false, .int .i64 0]] w fun e w' => e = .returned (.agg #[.int .i64 0, .int .i64 0, .int .i64 0, .int .i64 0, .int .u64 0, .string ⟨#[]⟩, .slice none 0 0, .slice none 0 0, .bool false, .int .i64 0]) ∧ Below w.heap.size w w' :=
  (copyOf_by 0 0 0 0 0 ⟨#[]⟩ none 0 0 none 0 0 false 0 w (fun k i u s a n c _ => k = 0 ∧ i = 0 ∧ u = 0 ∧ s = ⟨#[]⟩ ∧ a = none ∧ n = 0 ∧ c = 0) (fun _ _ _ _ _ _ _ _ _ h _ _ => h) (fun a n c _ => a = none ∧ n = 0 ∧ c = 0) (fun _ _ _ _ _ h _ _ => h)
    (fun wx _ _ => (copy_leaf 0 0 0 ⟨#[]⟩ none 0 wx).mono fun _ _ ⟨he, hb⟩ => ⟨_, _, _, _, _, _, _, he, ⟨rfl, rfl, rfl, rfl, rfl, rfl, rfl⟩, hb⟩)
    (fun wx _ _ => (copyAll_none none 0 wx).mono fun _ _ ⟨he, hb⟩ => ⟨_, _, _, he, ⟨rfl, rfl, rfl⟩, hb⟩)).mono fun e w' ⟨k, i, u, s, a, n, c, a', n', c', he, hq, hr, hb⟩ => by
    obtain ⟨rfl, rfl, rfl, rfl, rfl, rfl, rfl⟩ := hq.out
    obtain ⟨rfl, rfl, rfl⟩ := hr.out
    exact ⟨he, hb⟩

/-- A work of the state at its beginning. -/
theorem newWork_zero (op num cp now : Int) (w : World) (h1 : 1 ≤ op) (h2 : op ≤ 12) :
    Calls Tryz.prog 43 #[.agg #[.int .i64 op, .int .i64 num, .int .u32 cp], .agg #[.int .i64 0, .int .i64 0, .int .i64 0, .int .i64 0, .int .u64 0, .string ⟨#[]⟩, .slice none 0 0, .slice none 0 0, .bool false, .int .i64 0], .int .i64 now] w fun e w' => ∃ b sb, e = .returned (.pointer (some ⟨b, 0, none⟩)) ∧ Bk w' b (wcs op num cp 0 0 0 0 0 ⟨#[]⟩ none 0 0 none 0 0 false 0 now (hnd op num (some ⟨b, 3, none⟩) sb)) 82 ∧ (op = 3 → Bk w' sb #[.pointer (some ⟨b, 3, none⟩), .int .i64 num, .map none, .map none] 134 ∧ b < sb) ∧ w.heap.size ≤ b ∧ Below w.heap.size w w' :=
  (newWork_by op num cp 0 0 0 0 0 ⟨#[]⟩ none 0 0 none 0 0 false 0 now w h1 h2 (fun k i u s a n c a' n' c' _ => k = 0 ∧ i = 0 ∧ u = 0 ∧ s = ⟨#[]⟩ ∧ a = none ∧ n = 0 ∧ c = 0 ∧ a' = none ∧ n' = 0 ∧ c' = 0) (fun _ _ _ _ _ _ _ _ _ _ _ _ h _ => h)
    (fun wx _ => (copyOf_zero wx).mono fun _ _ ⟨he, hb⟩ => ⟨_, _, _, _, _, _, _, _, _, _, he, ⟨rfl, rfl, rfl, rfl, rfl, rfl, rfl, rfl, rfl, rfl⟩, hb⟩)).mono fun e w' ⟨b, sb, k, i, u, s, a, n, c, a', n', c', he, hw, hs, hq, hlo, hb⟩ => by
    obtain ⟨rfl, rfl, rfl, rfl, rfl, rfl, rfl, rfl, rfl, rfl⟩ := hq.out
    exact ⟨b, sb, he, hw, hs, hlo, hb⟩
end Go.Proofs.YtgijdiplhcoojaaGreatDoor
/- Maps keyed by interface values: what a look-up finds and what a store lays, by what == says; the conditions: the key may be one, the map in memory. -/
namespace Go.Proofs.YtgijdiplhcoojaaGreatDoor
open Go.RowKit
theorem ck0 (e : Bool) (d : Nat) (w : World) : (Instr.checkKey e (d + 2) 20 .nilIface).run Tryz.prog w = .ok () w := by kernel_rfl
theorem ck1 (e : Bool) (d : Nat) (i : Int) (w : World) : (Instr.checkKey e (d + 2) 20 (.iface 94 (.int .i64 i))).run Tryz.prog w = .ok () w := by kernel_rfl
theorem ck2 (e : Bool) (d : Nat) (i : Int) (w : World) : (Instr.checkKey e (d + 2) 20 (.iface 107 (.int .i64 i))).run Tryz.prog w = .ok () w := by kernel_rfl
theorem ck3 (e : Bool) (d : Nat) (i : Nat) (w : World) : (Instr.checkKey e (d + 2) 20 (.iface 108 (.float .f64 i))).run Tryz.prog w = .ok () w := by kernel_rfl
theorem ck4 (e : Bool) (d : Nat) (s : ByteArray) (w : World) : (Instr.checkKey e (d + 2) 20 (.iface 109 (.string s))).run Tryz.prog w = .ok () w := by kernel_rfl
theorem ck5 (e : Bool) (d : Nat) (s : ByteArray) (w : World) : (Instr.checkKey e (d + 2) 20 (.iface 110 (.string s))).run Tryz.prog w = .ok () w := by kernel_rfl
theorem ck6 (e : Bool) (d : Nat) (b : Bool) (w : World) : (Instr.checkKey e (d + 2) 20 (.iface 95 (.bool b))).run Tryz.prog w = .ok () w := by kernel_rfl
theorem ck10 (e : Bool) (d : Nat) (i : Int) (s : ByteArray) (w : World) : (Instr.checkKey e (d + 3) 20 (.iface 120 (.agg #[.int .i64 i, .string s]))).run Tryz.prog w = .ok () w := by kernel_rfl
theorem ck11 (e : Bool) (d : Nat) (a : Option Addr) (w : World) : (Instr.checkKey e (d + 2) 20 (.iface 121 (.pointer a))).run Tryz.prog w = .ok () w := by kernel_rfl
theorem ck13 (e : Bool) (d : Nat) (w : World) : (Instr.checkKey e (d + 2) 20 (.iface 124 (.agg #[]))).run Tryz.prog w = .ok () w := by kernel_rfl
/-- The map of first places. -/
def Fm (w : World) (r : Nat) (kl : List (Value × Nat)) : Prop :=
  ∃ (es : Array MapEntry) (ck : Nat), w.heap[r]? = some (.map es ck) ∧ es.toList.map (fun e => (e.key, e.val)) = kl.map fun x => (x.1, Value.int .i64 x.2)
def fnd (f : Value → Bool) (kl : List (Value × Nat)) : Option Nat := (kl.find? fun x => f x.1).map (·.2)

theorem ask_run (w : World) (v : Value) (f : Value → Bool) : ∀ (es : List MapEntry) (kl : List (Value × Nat)) (i : Nat), es.map (fun e => (e.key, e.val)) = kl.map (fun x => (x.1, Value.int .i64 x.2)) →
    (∀ x ∈ kl, (Op.equal 20 v x.1).run Tryz.prog w = .ok (f x.1) w) → ∃ q, (Instr.findAsking 20 v es i).run Tryz.prog w = .ok q w ∧ q.map (·.2) = (fnd f kl).map fun j => Value.int .i64 j
  | [], [], _, _, _ => ⟨none, rfl, rfl⟩
  | [], _ :: _, _, h, _ => by simp at h
  | _ :: _, [], _, h, _ => by simp at h
  | e :: es, (x, j) :: kl, i, h, hf => by
    simp only [List.map_cons, List.cons.injEq, Prod.mk.injEq] at h
    obtain ⟨⟨h1, h2⟩, h3⟩ := h
    have e1 := hf (x, j) (by simp)
    simp only [Instr.findAsking, h1, Sem.run_bind, e1, Result.andThen_ok]
    cases hx : f x with
    | true => exact ⟨some (i, e.val), by simp, by simp [fnd, hx, h2]⟩
    | false =>
      obtain ⟨q, q1, q2⟩ := ask_run w v f es kl (i + 1) h3 (fun y hy => hf y (by simp [hy]))
      exact ⟨q, by simpa using q1, by rw [q2]; simp [fnd, hx]⟩
theorem find_run (w : World) (v : Value) (f : Value → Bool) (es : List MapEntry) (kl : List (Value × Nat)) (h : es.map (fun e => (e.key, e.val)) = kl.map (fun x => (x.1, Value.int .i64 x.2)))
    (hf : ∀ x ∈ kl, (Op.equal 20 v x.1).run Tryz.prog w = .ok (f x.1) w) : ∃ q, (Instr.findKey 20 v es).run Tryz.prog w = .ok q w ∧ q.map (·.2) = (fnd f kl).map fun j => Value.int .i64 j := by
  have hu : Tryz.prog.underlying 20 = some (.interface #[]) := by kernel_rfl
  match es, kl, h with
  | [], [], _ => exact ⟨none, by simp [Instr.findKey, run_underlying hu, Instr.findNow], rfl⟩
  | e :: es, x :: kl, h =>
    obtain ⟨q, q1, q2⟩ := ask_run w v f (e :: es) (x :: kl) 0 h hf
    refine ⟨q, ?_, q2⟩
    have : Instr.findNow (.interface #[]) v (e :: es) 0 = none := by simp [Instr.findNow, Instr.sameNow]
    simp only [Instr.findKey, Sem.run_bind, run_underlying hu, Result.andThen_ok, this]
    exact q1
  | [], _ :: _, h => simp at h
  | _ :: _, [], h => simp at h

theorem look_fm (w : World) (r : Nat) (kl : List (Value × Nat)) (hm : Fm w r kl) (v : Value) (f : Value → Bool) (hc : ∀ e, (Instr.checkKey e 10000 20 v).run Tryz.prog w = .ok () w) (hf : ∀ x ∈ kl, (Op.equal 20 v x.1).run Tryz.prog w = .ok (f x.1) w) :
    (Instr.lookup 87 (.map (some r)) v true).run Tryz.prog w = .ok (.tuple #[.int .i64 ((fnd f kl).getD 0), .bool (fnd f kl).isSome]) w := by
  obtain ⟨es, ck, hb, he⟩ := hm
  obtain ⟨q, h1, h2⟩ := find_run w v f es.toList kl he hf
  have hu : Tryz.prog.underlying 87 = some (.map 20 3) := by kernel_rfl
  have hz : ∀ w, (zeroValue 3).run Tryz.prog w = .ok (.int .i64 0) w := fun _ => by kernel_rfl
  have hg : (getObj r).run Tryz.prog w = .ok (.map es ck) w := by simp [getObj, Sem.run, hb]
  simp only [Instr.lookup, Sem.run_bind, run_underlying hu, Result.andThen_ok, hg, Sem.run_pure, hc, h1]
  cases q with
  | none =>
    have : fnd f kl = none := by
      cases hl : fnd f kl with
      | none => rfl
      | some b => rw [hl] at h2; simp at h2
    simp [this, hz]
  | some x =>
    obtain ⟨k, u⟩ := x
    cases hl : fnd f kl with
    | none => rw [hl] at h2; simp at h2
    | some b => rw [hl] at h2; simp at h2; simp [h2]
theorem look_no (w : World) (r : Nat) (kl : List (Value × Nat)) (hm : Fm w r kl) (v : Value) (hc : ∀ e, ∃ T pv, (Instr.checkKey e 10000 20 v).run Tryz.prog w = .halt (.panic (.iface T pv)) w) :
    ∃ T pv, (Instr.lookup 87 (.map (some r)) v true).run Tryz.prog w = .halt (.panic (.iface T pv)) w := by
  obtain ⟨es, ck, hb, he⟩ := hm
  obtain ⟨T, pv, hc'⟩ := hc es.isEmpty
  refine ⟨T, pv, ?_⟩
  have hu : Tryz.prog.underlying 87 = some (.map 20 3) := by kernel_rfl
  have hg : (getObj r).run Tryz.prog w = .ok (.map es ck) w := by simp [getObj, Sem.run, hb]
  simp only [Instr.lookup, Sem.run_bind, run_underlying hu, Result.andThen_ok, hg, Sem.run_pure, hc', Result.andThen_halt]
theorem upd_fm (w : World) (r : Nat) (kl : List (Value × Nat)) (hm : Fm w r kl) (v : Value) (i : Nat) (f : Value → Bool) (hc : ∀ e, (Instr.checkKey e 10000 20 v).run Tryz.prog w = .ok () w) (hf : ∀ x ∈ kl, (Op.equal 20 v x.1).run Tryz.prog w = .ok (f x.1) w) (hn : fnd f kl = none) :
    ∃ w', (Instr.mapUpdate 87 (.map (some r)) v (.int .i64 i)).run Tryz.prog w = .ok () w' ∧ Fm w' r (kl ++ [(v, i)]) ∧ w.grownBy w' (some r) := by
  obtain ⟨es, ck, hb, he⟩ := hm
  obtain ⟨q, h1, h2⟩ := find_run w v f es.toList kl he hf
  have hu : Tryz.prog.underlying 87 = some (.map 20 3) := by kernel_rfl
  have hq : q = none := by
    rw [hn] at h2
    cases q with
    | none => rfl
    | some x => simp at h2
  subst hq
  have hg : (getObj r).run Tryz.prog w = .ok (.map es ck) w := by simp [getObj, Sem.run, hb]
  have hs : ∀ o, (setObj r o).run Tryz.prog w = .ok () { w with heap := w.heap.setIfInBounds r o } := fun o => by simp [setObj, Sem.run, hb]
  simp only [Instr.mapUpdate, Sem.run_bind, run_underlying hu, Result.andThen_ok, hg, hc, h1]
  refine ⟨_, hs _, ?_, ?_⟩
  · refine ⟨es.push ⟨v, .int .i64 i, ck⟩, ck + 1, ?_, ?_⟩
    · have hlt : r < w.heap.size := (Array.getElem?_eq_some_iff.1 hb).1
      simp [hlt]
    · simp [he]
  · refine ⟨rfl, rfl, rfl, by simp, fun k hk hne => ?_⟩
    have : r ≠ k := fun e => hne (by rw [e])
    simp [this]
end Go.Proofs.YtgijdiplhcoojaaGreatDoor
