/- Scan at every text; what is asked: the bytes lie in memory, and the package's variables as their text lays them. -/
import Derived.Test.YteohpiamfpnofabDoorSl
namespace Go.Proofs.YteohpiamfpnofabDoor
open Go.RowKit Go.Maps

/-- A slice of bytes: nothing, or where they lie. -/
def Src (w : World) (p : Option Addr) (l : Bs) (c : Nat) : Prop := l.length ≤ c ∧ (l = [] ∨ ∃ b o, p = some ⟨b, o, none⟩ ∧ Byt w b o l)
theorem Src.below {n : Nat} {A B : World} {p : Option Addr} {l : Bs} {c : Nat} (h : Src A p l c) (hB : Below n A B) (hn : A.heap.size ≤ n) : Src B p l c := by
  obtain ⟨h1, h2⟩ := h
  refine ⟨h1, ?_⟩
  rcases h2 with rfl | ⟨b, o, rfl, hl⟩
  · exact .inl rfl
  · cases l with
    | nil => exact .inl rfl
    | cons x t => exact .inr ⟨b, o, rfl, hl.below hB (Nat.lt_of_lt_of_le (hl.lt (by simp)) hn)⟩

set_option maxRecDepth 100000 in
set_option maxHeartbeats 2000000 in
theorem scan_long (p : Option Addr) (n c : Nat) (w : World) (hn : 65536 < n) (hm : n ≤ 140737488355328) : Calls Tryd.prog 4 #[.slice p n c] w (SP w (.inl (0, 60))) := by
  go_enter Tryd.func4, Tryd.ntmps4
  go_wp2
  exact bodyPost_ret (v := .tuple #[.slice none 0 0, .agg #[.int .i64 0, .int .i64 60]]) (by simp [results, Tryd.results4, go_sem]) rfl ⟨below1 _ _, rfl⟩

set_option maxRecDepth 100000 in
set_option maxHeartbeats 2000000 in
theorem gap_nil (p : Option Addr) (c : Nat) (w : World) : Calls Tryd.prog 6 #[.slice p 0 c, .int .i64 0] w fun e w' => e = .returned (.tuple #[.int .i64 0, .int .i64 0]) ∧ w' = w := by
  go_enter Tryd.func6, Tryd.ntmps6
  go_wp2
  go_loopg [1] 0 (fun gk s1 wx => s1 = .int .i64 0 ∧ wx = w)
  case atStart => exact ⟨rfl, rfl⟩
  case round =>
    obtain ⟨rfl, rfl⟩ := hrel
    go_wp2
    go_ret2
    exact ⟨rfl, rfl⟩

set_option maxRecDepth 100000 in
set_option maxHeartbeats 2000000 in
theorem scan_nil (p : Option Addr) (c : Nat) (w : World) : Calls Tryd.prog 4 #[.slice p 0 c] w (SP w (.inr [])) := by
  have K := Lib.hid (fun W => gap_nil p c W)
  obtain ⟨R, hR⟩ : ∃ R, R = SP w (.inr []) := ⟨_, rfl⟩
  rw [← hR]
  have HR := Lib.hid hR
  clear hR
  go_enter Tryd.func4, Tryd.ntmps4
  go_wp2
  go_loopg [4, 5] 0 (fun gk s4 s5 wx => s4 = .slice none 0 0 ∧ s5 = .int .i64 0 ∧ wx = fw w)
  case atStart => exact ⟨rfl, rfl, rfl⟩
  case round =>
    obtain ⟨rfl, rfl, rfl⟩ := hrel
    go_wp2_with fail
    refine (K.out _).mono ?_
    rintro e w2 ⟨rfl, h2⟩
    have h2' := h2.symm
    subst h2'
    go_wp2_with fail
    refine bodyPost_ret (v := .tuple #[.slice none 0 0, .agg #[.int .i64 0, .int .i64 0]]) (by simp [results, Tryd.results4, go_sem]) rfl ?_
    rw [HR.out]
    exact ⟨below1 _ _, _, rfl, World.ownsRow_nil _ _ _ _⟩

theorem scan_all (p : Option Addr) (l : Bs) (c : Nat) (w : World) (hS : Src w p l c) (hm : l.length ≤ 140737488355328) (hv : Sv w) : Calls Tryd.prog 4 #[.slice p l.length c] w (SP w (scan l)) := by
  unfold scan
  by_cases h : 65536 < l.length
  · rw [if_pos h]
    exact scan_long p l.length c w h hm
  · rw [if_neg h]
    rcases hS.2 with rfl | ⟨b, o, rfl, hl⟩
    · exact scan_nil p c w
    · cases l with
      | nil => exact scan_nil _ c w
      | cons x t => exact scan_any b o c (x :: t) w hl (hl.lt (by simp)) (by omega) hS.1 hv
end Go.Proofs.YteohpiamfpnofabDoor
