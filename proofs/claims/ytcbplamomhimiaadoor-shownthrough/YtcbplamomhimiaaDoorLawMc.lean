/- The law ShownMasks at every chain that reads, and every two sets: true; what is asked of the world: the table of words as its text lays it. -/
import Derived.Test.YtcbplamomhimiaaDoorLawMb
namespace Go.Proofs.YtcbplamomhimiaaDoor
open Go.RowKit

/-- A wrapper of an Op and a set alone. -/
def wq1 (o : Int) (c : Nat) : Wq := ⟨⟨o, c, false⟩, 0, 0, 0, 0, none, 0, 0⟩
theorem with_all (op num : Int) (c : Nat) (qs ls : List Wq) (ad : Option Addr) (cap B gl lc : Nat) (w : World) (h : ChOk w c ad qs) (hl8 : qs.length ≤ 8) (hls : ls ≠ []) (hl2 : ls.length ≤ 2) (hlo : ∀ q ∈ ls, okr q.x) (hL : WRow w (some ⟨gl, 0, none⟩) ls)
    (c0 : w.cell? ⟨B, 0, none⟩ = some (.int .i64 op)) (c1 : w.cell? ⟨B, 1, none⟩ = some (.int .i64 num)) (c2 : w.cell? ⟨B, 2, none⟩ = some (.int .u32 (c : Nat))) (c3 : w.cell? ⟨B, 3, none⟩ = some (.slice ad qs.length cap)) :
    Calls Tryd.prog 25 #[.slice (some ⟨gl, 0, none⟩) ls.length lc, .pointer (some ⟨B, 0, none⟩)] w fun e w' => e = .returned (.int .u32 (sh c (rv (qs ++ ls) (qs.length + ls.length)) : Nat)) ∧ Below w.heap.size w w' := by
  by_cases hne : qs = []
  · subst hne
    have := with_nil op num c ls ad cap B gl lc w h.c h.n hls hl2 hlo hL c0 c1 c2 c3
    simpa using this
  · exact with_any op num c qs ls ad cap B gl lc w h hl8 hne hls hl2 hlo hL c0 c1 c2 c3
theorem rv_one (qs : List Wq) (x : Wq) : rv (qs ++ [x]) (qs.length + 1) = x.x :: rv qs qs.length := by
  rw [rv_succ _ _ (by simp), rv_app qs _ _ (Nat.le_refl _)]; simp
theorem rv_two (qs : List Wq) (x y : Wq) : rv (qs ++ [x, y]) (qs.length + 2) = y.x :: x.x :: rv qs qs.length := by
  rw [rv_succ _ (qs.length + 1) (by simp), rv_succ _ qs.length (by simp), rv_app qs _ _ (Nat.le_refl _)]
  simp
set_option maxRecDepth 100000 in
set_option maxHeartbeats 4000000 in
theorem mask_f (c : Nat) (w : World) : Calls Tryd.prog 26 #[.int .u32 (c : Nat)] w fun e w' => e = .returned (.agg #[.int .i64 2, .int .i64 0, .int .i64 0, .int .u32 (c : Nat), .int .i64 0, .int .i64 0, .slice none 0 0, .bool false]) ∧ Below w.heap.size w w' := by
  go_enter Tryd.func26, Tryd.ntmps26
  go_wp2
  exact bodyPost_ret (v := .agg #[.int .i64 2, .int .i64 0, .int .i64 0, .int .u32 (c : Nat), .int .i64 0, .int .i64 0, .slice none 0 0, .bool false]) (by simp [results, Tryd.results26, go_sem]) rfl ⟨rfl, by first | exact below1 _ _ | exact (below1 _ _).setCell (by simp) _⟩
set_option maxRecDepth 100000 in
set_option maxHeartbeats 4000000 in
theorem give_f (c : Nat) (w : World) : Calls Tryd.prog 27 #[.int .u32 (c : Nat)] w fun e w' => e = .returned (.agg #[.int .i64 4, .int .i64 0, .int .i64 0, .int .u32 (c : Nat), .int .i64 0, .int .i64 0, .slice none 0 0, .bool false]) ∧ Below w.heap.size w w' := by
  go_enter Tryd.func27, Tryd.ntmps27
  go_wp2
  exact bodyPost_ret (v := .agg #[.int .i64 4, .int .i64 0, .int .i64 0, .int .u32 (c : Nat), .int .i64 0, .int .i64 0, .slice none 0 0, .bool false]) (by simp [results, Tryd.results27, go_sem]) rfl ⟨rfl, by first | exact below1 _ _ | exact (below1 _ _).setCell (by simp) _⟩
theorem wrow1 {W : World} {g : Nat} {o : Int} {c : Nat} {t : TypeId} (h : W.heap[g]? = some (.cells #[.int .i64 o, .int .i64 0, .int .i64 0, .int .u32 (c : Nat), .int .i64 0, .int .i64 0, .slice none 0 0, .bool false] t (0, 0))) : WRow W (some ⟨g, 0, none⟩) [wq1 o c] := by
  refine .inr ⟨g, 0, rfl, (Array.getElem?_eq_some_iff.1 h).1, fun j q hj i hi => ?_⟩
  rw [cell_at h]
  have hj2 : j < 1 := (List.getElem?_eq_some_iff.1 hj).1
  obtain rfl : j = 0 := by omega
  cases hj
  have : i = 0 ∨ i = 1 ∨ i = 2 ∨ i = 3 ∨ i = 4 ∨ i = 5 ∨ i = 6 ∨ i = 7 := by omega
  rcases this with rfl | rfl | rfl | rfl | rfl | rfl | rfl | rfl <;> rfl
theorem wrow2 {W : World} {g : Nat} {o p : Int} {c d : Nat} {t : TypeId} (h : W.heap[g]? = some (.cells #[.int .i64 o, .int .i64 0, .int .i64 0, .int .u32 (c : Nat), .int .i64 0, .int .i64 0, .slice none 0 0, .bool false, .int .i64 p, .int .i64 0, .int .i64 0, .int .u32 (d : Nat), .int .i64 0, .int .i64 0, .slice none 0 0, .bool false] t (0, 0))) : WRow W (some ⟨g, 0, none⟩) [wq1 o c, wq1 p d] := by
  refine .inr ⟨g, 0, rfl, (Array.getElem?_eq_some_iff.1 h).1, fun j q hj i hi => ?_⟩
  rw [cell_at h]
  have hj2 : j < 2 := (List.getElem?_eq_some_iff.1 hj).1
  have : j = 0 ∨ j = 1 := by omega
  rcases this with rfl | rfl
  · cases hj
    have : i = 0 ∨ i = 1 ∨ i = 2 ∨ i = 3 ∨ i = 4 ∨ i = 5 ∨ i = 6 ∨ i = 7 := by omega
    rcases this with rfl | rfl | rfl | rfl | rfl | rfl | rfl | rfl <;> rfl
  · cases hj
    have : i = 0 ∨ i = 1 ∨ i = 2 ∨ i = 3 ∨ i = 4 ∨ i = 5 ∨ i = 6 ∨ i = 7 := by omega
    rcases this with rfl | rfl | rfl | rfl | rfl | rfl | rfl | rfl <;> rfl

/-! ### plain: what such wrappers show -/
def sone (s : Nat) (o : Int) (c : Nat) : Nat := kp ⟨o, c, false⟩ s ||| giv ⟨o, c, false⟩
theorem sone_mask (s c : Nat) : sone s 2 c = andN s 1024 &&& c := by simp [sone, kp, giv, own]
theorem sone_give (s c : Nat) : sone s 4 c = andN s 1024 ||| c := by simp [sone, kp, giv, own]
theorem no_open {x : Nat} (hx : x < 1024) : andN x 1024 = x := Nat.eq_of_testBit_eq fun i => by
  rw [bit_andN _ _ (by omega)]
  by_cases hi : i = 10
  · subst hi; rw [lt_bit (n := 10) hx (Nat.le_refl _)]; rfl
  · have : (1024 : Nat).testBit i = false := by
      have e : (1024 : Nat) = 2 ^ 10 := rfl
      rw [e, Nat.testBit_two_pow]; simp; omega
    rw [this]; simp
theorem open_lt {s : Nat} (hs : s < 2048) : andN s 1024 < 1024 := low10 (Nat.le_trans (andN_le _ _) (by omega)) (by rw [bit_andN _ _ (by omega)]; simp; intro _; decide)
theorem and_lt (a b n : Nat) (h : a < n) : a &&& b < n := Nat.lt_of_le_of_lt Nat.and_le_left h
theorem low_all {x : Nat} (h : x < 1024) : x &&& 1023 = x := by
  have := Nat.and_two_pow_sub_one_eq_mod x 10
  rw [show (2 : Nat) ^ 10 - 1 = 1023 from rfl] at this
  rw [this]; exact Nat.mod_eq_of_lt h
end Go.Proofs.YtcbplamomhimiaaDoor
