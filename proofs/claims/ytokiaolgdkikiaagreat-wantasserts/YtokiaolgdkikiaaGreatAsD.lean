/- The document's To: whether a value has the type of a kind; the condition: the value's kind is one. -/
import Derived.Test.YtokiaolgdkikiaaGreatAsA
import Derived.Test.YtokiaolgdkikiaaGreatRk
import Derived.Deep.QuietTactic
import Derived.BigQuiet
namespace Go.Proofs.YtokiaolgdkikiaaGreat
open Go.RowKit
/-- A value's block. -/
def Od (w : World) (k i b : Int) (s : ByteArray) (ad : Option Addr) (len cap : Nat) (w' : World) : Prop :=
  Below (w.heap.size + 1) (w.alloc (.cells #[.int .i64 k, .int .i64 i, .int .u64 b, .string s, .slice ad len cap] 30)) w'
theorem Od.drew {w : World} {k i b : Int} {s : ByteArray} {ad : Option Addr} {len cap : Nat} {w' : World} (h : Od w k i b s ad len cap w') : Od w k i b s ad len cap w'.drew := Below.drew h
theorem Od.below {w : World} {k i b : Int} {s : ByteArray} {ad : Option Addr} {len cap : Nat} {w' : World} (h : Od w k i b s ad len cap w') : Below w.heap.size w w' := (below1 w _).trans (Below.mono h (by omega))
theorem Od.step {w : World} {k i b : Int} {s : ByteArray} {ad : Option Addr} {len cap : Nat} {w1 w2 : World} (h : Od w k i b s ad len cap w1) (hb : Below w1.heap.size w1 w2) : Od w k i b s ad len cap w2 := by
  have := Below.size h
  simp at this
  exact Below.trans h (hb.mono (by omega))
theorem Od.start (w : World) (k i b : Int) (s : ByteArray) (ad : Option Addr) (len cap : Nat) : Od w k i b s ad len cap (w.alloc (.cells #[.int .i64 k, .int .i64 i, .int .u64 b, .string s, .slice ad len cap] 30)) := Below.refl _ _
theorem Od.c {w : World} {k i b : Int} {s : ByteArray} {ad : Option Addr} {len cap : Nat} {w' : World} (h : Od w k i b s ad len cap w') :
    w'.cell? ⟨w.heap.size, 0, none⟩ = some (.int .i64 k) ∧ w'.cell? ⟨w.heap.size, 1, none⟩ = some (.int .i64 i) ∧ w'.cell? ⟨w.heap.size, 2, none⟩ = some (.int .u64 b) ∧ w'.cell? ⟨w.heap.size, 3, none⟩ = some (.string s) ∧ w'.cell? ⟨w.heap.size, 4, none⟩ = some (.slice ad len cap) := by
  have e0 := heap_alloc_new w (.cells #[.int .i64 k, .int .i64 i, .int .u64 b, .string s, .slice ad len cap] 30)
  have h0 : w'.heap[w.heap.size]? = some (.cells #[.int .i64 k, .int .i64 i, .int .u64 b, .string s, .slice ad len cap] 30 (0, 0)) := (Below.block h w.heap.size (by omega)).trans e0
  simp [World.cell?, h0]
theorem typ_bit0 : ∀ q : Nat, q < 14 → ∀ j : Nat, j < 14 → 0 < q → (if q = 11 then 6144 else 2 ^ q) / 2 ^ j % 2 = if tkd (q : Int) (j : Int) = true then 1 else 0 := by decide
theorem typ_lt : ∀ q : Nat, q < 14 → (if q = 11 then 6144 else 2 ^ q) < 16384 := by decide
theorem typ_bit (kind : Int) (j : Nat) (h : 0 < kind ∧ kind < 14) (hj : j < 14) : bits .and .u32 (((if kind = 11 then 6144 else 2 ^ kind.toNat : Nat) : Int) / 2 ^ j) 1 = if tkd kind j = true then 1 else 0 := by
  obtain ⟨q, rfl⟩ : ∃ q : Nat, kind = q := ⟨kind.toNat, by omega⟩
  have e1 : (if (q : Int) = 11 then 6144 else 2 ^ (q : Int).toNat : Nat) = if q = 11 then 6144 else 2 ^ q := by
    by_cases hq : q = 11
    · subst hq; rfl
    · rw [if_neg (by omega), if_neg hq, Int.toNat_natCast]
  rw [e1]
  have hb := typ_bit0 q (by omega) j hj (by omega)
  have hl := typ_lt q (by omega)
  generalize (if q = 11 then 6144 else 2 ^ q : Nat) = X at hb hl
  have e : (((X : Nat) : Int) / 2 ^ j) = ((X / 2 ^ j : Nat) : Int) := by norm_cast
  have hl2 : X / 2 ^ j ≤ X := Nat.div_le_self _ _
  rw [e, show (1 : Int) = ((1 : Nat) : Int) from rfl, u32_and_nat _ _ (by omega) (by decide), Nat.and_one_is_mod, hb]
  split <;> rfl
theorem below_drewN {w w' : World} (n : Nat) (h : Below w.heap.size w w') : Below w.heap.size w (w'.drewN n) := by
  induction n generalizing w' with
  | zero => exact h
  | succ n ih => exact (ih h).drew
theorem tkd_out (kind k : Int) (h : ¬ (0 < kind ∧ kind < 14)) : tkd kind k = false := by
  unfold tkd
  rw [decide_eq_false (by omega)]; rfl

set_option maxRecDepth 100000 in
set_option maxHeartbeats 2000000 in
theorem refTo_any (k i b : Int) (s : ByteArray) (ad : Option Addr) (len cap : Nat) (kind : Int) (w : World) (hk : 0 ≤ k ∧ k ≤ 13) :
    Calls Tryz.prog 32 #[.agg #[.int .i64 k, .int .i64 i, .int .u64 b, .string s, .slice ad len cap], .int .i64 kind] w fun e w' => e = .returned (.bool (tkd kind k)) ∧ Below w.heap.size w w' := by
  obtain ⟨j, rfl⟩ : ∃ j : Nat, k = j := ⟨k.toNat, by omega⟩
  have hb0 := Od.start w j i b s ad len cap
  have HS : Hid (∀ wx, Od w j i b s ad len cap wx → wx.cell? ⟨w.heap.size, 0, none⟩ = some (.int .i64 j)) := fun wx h => h.c.1
  by_cases h : 0 < kind ∧ kind < 14
  · have HT : Hid (∀ wx, Od w j i b s ad len cap wx → Calls Tryz.prog 41 #[.int .i64 kind] wx fun e w' => e = .returned (.int .u32 (((if kind = 11 then 6144 else 2 ^ kind.toNat : Nat)) : Int)) ∧ Od w j i b s ad len cap w') := fun wx hx => (typed_any kind (by omega) (by omega) wx).mono fun e w' ⟨a, b⟩ => ⟨a, b ▸ hx⟩
    have hbit := typ_bit kind j h (by omega)
    have j0 : (0 : Int) ≤ (j : Int) := by omega
    have j1 : (j : Int) ≤ 32 := by omega
    have g0 := h.1
    have g1 := h.2
    clear h hk
    generalize tkd kind j = p at hbit
    generalize (if kind = 11 then 6144 else 2 ^ kind.toNat : Nat) = X at HT hbit
    cases p
    all_goals
      simp only [if_true, Bool.false_eq_true, if_false] at hbit
      go_enter Tryz.func32, Tryz.ntmps32
      go_wp2_with fail
      go_region_held3 (fun w' => w'.cell? ⟨w.heap.size, 0, none⟩ = some (.int .i64 j)) (exact HS.out _ (by first | assumption | exact Od.drew (by assumption))) (first | (go_at_call 41; refine (HT.out _ (by first | assumption | exact Od.drew (by assumption))).mono ?_; rintro e wa ⟨rfl, ba⟩))
      all_goals go_wp2
      all_goals go_ret
      all_goals exact ⟨rfl, Od.below (by first | assumption | exact Od.drew (by assumption))⟩
  · rw [tkd_out kind j h]
    by_cases g0 : 0 < kind
    · have g1 : decide (kind < 14) = false := decide_eq_false (fun g => h ⟨g0, g⟩)
      have g2 : decide (0 < kind) = true := decide_eq_true g0
      clear h hk
      go_enter Tryz.func32, Tryz.ntmps32
      go_wp2_with fail
      have c0 := HS.out _ hb0
      go_quiet (fail)
      all_goals go_wp2
      all_goals go_ret
      all_goals exact ⟨rfl, below_drewN _ (Od.below hb0)⟩
    · have g2 : decide (0 < kind) = false := decide_eq_false g0
      clear h hk g0
      go_enter Tryz.func32, Tryz.ntmps32
      go_wp2_with fail
      have c0 := HS.out _ hb0
      go_quiet (fail)
      all_goals go_wp2
      all_goals go_ret
      all_goals exact ⟨rfl, below_drewN _ (Od.below hb0)⟩
end Go.Proofs.YtokiaolgdkikiaaGreat
