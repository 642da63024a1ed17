/- A work's handle by its handler's Handle alone: the answer or the error, or the panic; the conditions: not closed, not late, what Handle comes to. -/
import Derived.Test.YthgfijhbeahkhaaGreatDoorHg
namespace Go.Proofs.YthgfijhbeahkhaaGreatDoor
open Go.RowKit

/-- P does not look at the blocks from B to M. -/
def PS (B M : Nat) (P : World → Prop) : Prop := ∀ w' w'', P w' → w'.heap.size ≤ w''.heap.size → (∀ g, g < w'.heap.size → (g < B ∨ M ≤ g) → w''.heap[g]? = w'.heap[g]?) → P w''
theorem PS.at {B M : Nat} {P : World → Prop} (h : PS B M P) {A : Nat} (h1 : B ≤ A) (h2 : A < M) : ∀ w' w'', P w' → w'.heap.size ≤ w''.heap.size → (∀ g, g < w'.heap.size → g ≠ A → w''.heap[g]? = w'.heap[g]?) → P w'' :=
  fun w' w'' p hs hg => h w' w'' p hs fun g a b => hg g a (by omega)

theorem handle_ret (b : Nat) (op num cp cn ac lk li lu : Int) (ls : ByteArray) (la : Option Addr) (ln lc : Nat) (ta : Option Addr) (tn tc : Nat) (un now : Int) (T : TypeId) (z : Value) (F : Nat) (dk di du : Int) (ds : ByteArray) (da : Option Addr) (dn dc : Nat)
    (has : Bool) (k i u : Int) (s : ByteArray) (a : Option Addr) (n c : Nat) (ev : Value) (hev : Sx ev)
    (er co pk pn : Int) (has' : Bool) (k' i' u' : Int) (s' : ByteArray) (a' : Option Addr) (n' c' : Nat) (w : World)
    (W : Bk w b (wcs op num cp cn ac lk li lu ls la ln lc ta tn tc false un now (.iface T z)) 69) (hl : ¬ (0 < un ∧ un < now)) (hm : MH T z F) (L N : Nat) (hL : L ≤ N) (hN : N ≤ w.heap.size) (P : World → Prop) (hP : PS w.heap.size (w.heap.size + 5) P) (hPb : ∀ w', P w' → w'.cell? ⟨b, 14, none⟩ = some (.iface T z))
    (hF : ∀ wx, Below w.heap.size w wx → w.heap.size + 5 ≤ wx.heap.size → Calls Tryz.prog F #[z, .agg #[.int .i64 dk, .int .i64 di, .int .u64 du, .string ds, .slice da dn dc]] wx fun e w' => e = .returned (.tuple #[.agg #[.bool has, .int .i64 k, .int .i64 i, .int .u64 u, .string s, .slice a n c], ev]) ∧ P w' ∧ Fr L N wx w')
    (hT : ∀ wx, P wx → Calls Tryz.prog 68 #[.agg #[.bool has, .int .i64 k, .int .i64 i, .int .u64 u, .string s, .slice a n c], ev] wx fun e w' => e = .returned (.agg (rcs er co pk pn has' k' i' u' s' a' n' c')) ∧ Below wx.heap.size wx w') :
    Calls Tryz.prog 32 #[.pointer (some ⟨b, 0, none⟩), .agg #[.int .i64 dk, .int .i64 di, .int .u64 du, .string ds, .slice da dn dc]] w fun e w' => e = .returned (.agg (rcs er co pk pn has' k' i' u' s' a' n' c')) ∧ P w' ∧ Fr L N w w' := by
  refine handle_by b op num cp cn ac lk li lu ls la ln lc ta tn tc un now T z dk di du ds da dn dc er co pk pn has' k' i' u' s' a' n' c' w W hl L N hL hN P (hP.at (A := w.heap.size + 2) (by omega) (by omega)) fun wx X hb hz => ?_
  refine (caught_ret 67 _ wx er co pk pn has' k' i' u' s' a' n' c' L N hL (by omega) P (hP.at (A := wx.heap.size) (by omega) (by omega)) (fun _ => by kernel_rfl) fun wy hy hz' => ?_)
  have X' := X.below hy
  refine inner_ret w.heap.size (w.heap.size + 1) b T z F dk di du ds da dn dc has k i u s a n c ev hev er co pk pn has' k' i' u' s' a' n' c' wy X' hm L N hL (by omega) (by omega) (by omega) P (hP.at (A := wy.heap.size) (by omega) (by omega)) hPb (fun wz hw hz'' => hF wz ((hb.trans (hy.mono (by omega))).trans (hw.mono (by omega))) (by omega)) hT

theorem handle_pan (b : Nat) (op num cp cn ac lk li lu : Int) (ls : ByteArray) (la : Option Addr) (ln lc : Nat) (ta : Option Addr) (tn tc : Nat) (un now : Int) (T : TypeId) (z : Value) (F : Nat) (dk di du : Int) (ds : ByteArray) (da : Option Addr) (dn dc : Nat)
    (pT : TypeId) (pz : Value) (pk pn : Int) (w : World)
    (W : Bk w b (wcs op num cp cn ac lk li lu ls la ln lc ta tn tc false un now (.iface T z)) 69) (hl : ¬ (0 < un ∧ un < now)) (hm : MH T z F) (L N : Nat) (hL : L ≤ N) (hN : N ≤ w.heap.size) (P : World → Prop) (hP : PS w.heap.size (w.heap.size + 5) P)
    (hF : ∀ wx, Below w.heap.size w wx → w.heap.size + 5 ≤ wx.heap.size → Calls Tryz.prog F #[z, .agg #[.int .i64 dk, .int .i64 di, .int .u64 du, .string ds, .slice da dn dc]] wx fun e w' => e = .panicked [{ v := .iface pT pz, recovered := false }] ∧ P w' ∧ Fr L N wx w')
    (hT : ∀ wx, Calls Tryz.prog 87 #[.iface pT pz] wx fun e w' => e = .returned (.agg #[.int .i64 pk, .int .i64 pn]) ∧ Below wx.heap.size wx w') :
    Calls Tryz.prog 32 #[.pointer (some ⟨b, 0, none⟩), .agg #[.int .i64 dk, .int .i64 di, .int .u64 du, .string ds, .slice da dn dc]] w fun e w' => e = .returned (.agg (rErr 110 0 pk pn)) ∧ P w' ∧ Fr L N w w' := by
  refine handle_by b op num cp cn ac lk li lu ls la ln lc ta tn tc un now T z dk di du ds da dn dc 110 0 pk pn false 0 0 0 ⟨#[]⟩ none 0 0 w W hl L N hL hN P (hP.at (A := w.heap.size + 2) (by omega) (by omega)) fun wx X hb hz => ?_
  refine (caught_pan 67 _ wx pT pz pk pn L N hL (by omega) P (hP.at (A := wx.heap.size) (by omega) (by omega)) hT (fun _ => by kernel_rfl) fun wy hy hz' => ?_)
  have X' := X.below hy
  exact inner_pan w.heap.size (w.heap.size + 1) b T z F dk di du ds da dn dc pT pz wy X' hm L N (by omega) P (fun wz hw hz'' => hF wz ((hb.trans (hy.mono (by omega))).trans (hw.mono (by omega))) (by omega))
end Go.Proofs.YthgfijhbeahkhaaGreatDoor
