/- The methods of a chain's levels, each as the plain functions say; what is asked of the world: the table of words as its text lays it. -/
import Derived.Test.YtcbplamomhimiaaDoorUp
namespace Go.Proofs.YtcbplamomhimiaaDoor
open Go.RowKit

theorem mkf : ∀ (fn : Fn) (first cap : Array Value) (w : World), (Instr.makeFunc fn first cap).run Tryd.prog w = .ok (.func fn first cap) w := fun _ _ _ _ => rfl
theorem ret_bb {a b : Bool} (h : a = b) : Ending.returned (.bool a) = .returned (.bool b) := by rw [h]
theorem ret_i {k : IntKind} {a b : Int} (h : a = b) : Ending.returned (.int k a) = .returned (.int k b) := by rw [h]

set_option maxRecDepth 100000 in
set_option maxHeartbeats 2000000 in
/-- has of the package. -/
theorem phas_any (c : Nat) (k : Int) (hc : c < 4294967296) (w : World) (hN : Wds w) : Calls Tryd.prog 36 #[.int .u32 (c : Nat), .int .i64 k] w fun e w' => e = .returned (.bool (hs c k)) ∧ w' = w := by
  have KW := Lib.hid (word_any k w hN)
  clear hN
  by_cases h : 0 ≤ k ∧ k < 11
  · obtain ⟨j, rfl⟩ : ∃ j : Nat, k = j := ⟨k.toNat, by omega⟩
    have hj : j < 11 := by omega
    have e1 : (((c : Nat) : Int) / 2 ^ j) = ((c / 2 ^ j : Nat) : Int) := by rw [Int.natCast_ediv]; simp
    have e2 : bits .and .u32 ((c / 2 ^ j : Nat) : Int) 1 = ((c / 2 ^ j % 2 : Nat) : Int) := by
      have := (u32_bits (c / 2 ^ j) 1 (Nat.lt_of_le_of_lt (Nat.div_le_self _ _) hc) (by decide)).1
      rw [Nat.and_one_is_mod] at this; exact this
    have e3 : (((c / 2 ^ j % 2 : Nat) : Int) == 1) = c.testBit j := by
      rw [Nat.testBit_eq_decide_div_mod_eq]
      by_cases h : c / 2 ^ j % 2 = 1
      · rw [decide_eq_true h, h]; rfl
      · rw [decide_eq_false h]; simp; omega
    have b1 := wrd_ne (j : Int) h
    have j0 : ¬ ((j : Nat) : Int) < 0 := by omega
    have HE : Hid ((bits .and .u32 (((c : Nat) : Int) / 2 ^ j) 1 == 1) = hs c j) := Lib.hid (by rw [e1, e2, e3, hs_nat c j hj])
    generalize wrd (j : Int) = W at KW b1
    clear h e1 e2 e3
    go_enter Tryd.func36, Tryd.ntmps36
    go_wp2_with (first
      | (go_at_call 50; refine KW.out.mono ?_; rintro e w2 ⟨rfl, rfl⟩))
    go_ret
    exact ⟨ret_bb HE.out, rfl⟩
  · have b1 : ((bs (wrd k)).toList == ([] : Bs)) = true := by
      rw [show (bs (wrd k)).toList = wrd k from tl_bs _, show wrd k = [] by unfold wrd; rw [if_neg h]]; rfl
    rw [hs_out c k h]
    generalize wrd k = W at KW b1
    clear h
    go_enter Tryd.func36, Tryd.ntmps36
    go_wp2_with (first
      | (go_at_call 50; refine KW.out.mono ?_; rintro e w2 ⟨rfl, rfl⟩))
    go_ret
    exact ⟨rfl, rfl⟩

/-! ### the core -/
set_option maxRecDepth 100000 in
set_option maxHeartbeats 2000000 in
theorem core_ans (c : Nat) (k : Int) : MC 0 (lev c []) "conduit/shown.answers" [.int .i64 k] (.int .i64 0) :=
  mc_real 57 _ 80 _ (fun _ _ => by kernel_rfl) (fun _ _ => by kernel_rfl) (fun w _ => by
    show Calls Tryd.prog 80 #[.agg #[.int .u32 (c : Nat)], .int .i64 k] w _
    go_enter Tryd.func80, Tryd.ntmps80
    go_wp2
    go_ret
    exact ⟨rfl, by first | exact Below.refl _ _ | exact below1 _ _⟩) 0
set_option maxRecDepth 100000 in
set_option maxHeartbeats 2000000 in
theorem core_num (c : Nat) : MC 0 (lev c []) "conduit/shown.number" [] (.int .i64 0) :=
  mc_real 57 _ 81 _ (fun _ _ => by kernel_rfl) (fun _ _ => by kernel_rfl) (fun w _ => by
    show Calls Tryd.prog 81 #[.agg #[.int .u32 (c : Nat)]] w _
    go_enter Tryd.func81, Tryd.ntmps81
    go_wp2
    go_ret
    exact ⟨rfl, by first | exact Below.refl _ _ | exact below1 _ _⟩) 0
set_option maxRecDepth 100000 in
set_option maxHeartbeats 2000000 in
theorem core_shw (c : Nat) : MC 0 (lev c []) "conduit/shown.shows" [] (.int .u32 (c : Nat)) :=
  mc_real 57 _ 82 _ (fun _ _ => by kernel_rfl) (fun _ _ => by kernel_rfl) (fun w _ => by
    show Calls Tryd.prog 82 #[.agg #[.int .u32 (c : Nat)]] w _
    go_enter Tryd.func82, Tryd.ntmps82
    go_wp2
    go_ret
    exact ⟨rfl, by first | exact Below.refl _ _ | exact below1 _ _⟩) 0

/-! ### through -/
set_option maxRecDepth 100000 in
set_option maxHeartbeats 2000000 in
theorem thr_num_f {d n : Nat} {u : Value} (hd : d < 224) (hn : n < 1000) (h : MC d u "conduit/shown.number" [] (.int .i64 n)) (w : World) (hN : Wds w) :
    Calls Tryd.prog 87 #[.agg #[u]] w fun e w' => e = .returned (.int .i64 (n + 1 : Nat)) ∧ Below w.heap.size w w' := by
  obtain ⟨t, z, F, z', rfl, hmm, hcf, hC⟩ := h.get hd
  have hmf := mkf
  have b0 := below1 w (.cells #[.iface t z] 98)
  have K : Hid (∀ wx, Below w.heap.size w wx → Calls Tryd.prog F #[z'] wx fun e w' => e = .returned (.int .i64 n) ∧ Below w.heap.size w w') := fun wx hx => (hC.out wx (hN.below hx)).mono fun e w' ⟨a, b⟩ => ⟨a, hx.trans (b.mono hx.size)⟩
  clear hC h hN
  go_enter Tryd.func87, Tryd.ntmps87
  go_wp2_with fail
  refine (K.out _ (by first | exact b0 | exact Below.refl _ _)).mono ?_
  rintro e w1 ⟨rfl, b1⟩
  go_wp2
  go_ret
  exact ⟨ret_i (by omega), b1⟩
set_option maxRecDepth 100000 in
set_option maxHeartbeats 2000000 in
theorem thr_shw_f {d n : Nat} {u : Value} (hd : d < 224) (hn : n < 4294967296) (h : MC d u "conduit/shown.shows" [] (.int .u32 n)) (w : World) (hN : Wds w) :
    Calls Tryd.prog 88 #[.agg #[u]] w fun e w' => e = .returned (.int .u32 (andN n 1024 : Nat)) ∧ Below w.heap.size w w' := by
  obtain ⟨t, z, F, z', rfl, hmm, hcf, hC⟩ := h.get hd
  have hmf := mkf
  have b0 := below1 w (.cells #[.iface t z] 98)
  have e1 := (u32_bits n 1024 hn (by decide)).2.2
  have K : Hid (∀ wx, Below w.heap.size w wx → Calls Tryd.prog F #[z'] wx fun e w' => e = .returned (.int .u32 n) ∧ Below w.heap.size w w') := fun wx hx => (hC.out wx (hN.below hx)).mono fun e w' ⟨a, b⟩ => ⟨a, hx.trans (b.mono hx.size)⟩
  clear hC h hN
  go_enter Tryd.func88, Tryd.ntmps88
  go_wp2_with fail
  refine (K.out _ (by first | exact b0 | exact Below.refl _ _)).mono ?_
  rintro e w1 ⟨rfl, b1⟩
  go_wp2
  go_ret
  exact ⟨ret_i e1, b1⟩
theorem thr_num {d n : Nat} {u : Value} (hd : d < 224) (hn : n < 1000) (h : MC d u "conduit/shown.number" [] (.int .i64 n)) : MC 0 (thr u) "conduit/shown.number" [] (.int .i64 (n + 1 : Nat)) :=
  mc_real 98 _ 87 (.agg #[u]) (fun _ _ => by kernel_rfl) (fun _ _ => by kernel_rfl) (fun w hN => thr_num_f hd hn h w hN) 0
theorem thr_shw {d n : Nat} {u : Value} (hd : d < 224) (hn : n < 4294967296) (h : MC d u "conduit/shown.shows" [] (.int .u32 n)) : MC 0 (thr u) "conduit/shown.shows" [] (.int .u32 (andN n 1024 : Nat)) :=
  mc_real 98 _ 88 (.agg #[u]) (fun _ _ => by kernel_rfl) (fun _ _ => by kernel_rfl) (fun w hN => thr_shw_f hd hn h w hN) 0
theorem sgl_num {d n : Nat} {u : Value} (hd : d < 224) (hn : n < 1000) (h : MC d u "conduit/shown.number" [] (.int .i64 n)) : MC 0 (sgl u) "conduit/shown.number" [] (.int .i64 (n + 1 : Nat)) :=
  mc_real 100 _ 87 (.agg #[u]) (fun _ _ => by kernel_rfl) (fun _ _ => by kernel_rfl) (fun w hN => thr_num_f hd hn h w hN) 0
theorem hid_num {d n : Nat} {u : Value} (hd : d < 224) (hn : n < 1000) (h : MC d u "conduit/shown.number" [] (.int .i64 n)) : MC 0 (.iface 103 (.agg #[u])) "conduit/shown.number" [] (.int .i64 (n + 1 : Nat)) :=
  mc_real 103 _ 87 (.agg #[u]) (fun _ _ => by kernel_rfl) (fun _ _ => by kernel_rfl) (fun w hN => thr_num_f hd hn h w hN) 0
theorem msk_num {d n : Nat} {u o : Value} (hd : d < 224) (hn : n < 1000) (h : MC d u "conduit/shown.number" [] (.int .i64 n)) : MC 0 (.iface 102 (.agg #[u, o])) "conduit/shown.number" [] (.int .i64 (n + 1 : Nat)) :=
  mc_real 102 _ 87 (.agg #[u]) (fun _ _ => by kernel_rfl) (fun _ _ => by kernel_rfl) (fun w hN => thr_num_f hd hn h w hN) 0

/-! ### single, mask, hide -/
set_option maxRecDepth 100000 in
set_option maxHeartbeats 2000000 in
theorem sgl_shw {d n : Nat} {u : Value} (hd : d < 224) (hn : n < 4294967296) (h : MC d u "conduit/shown.shows" [] (.int .u32 n)) : MC 0 (.iface 100 (.agg #[u])) "conduit/shown.shows" [] (.int .u32 (andN (andN n 1024) 4 : Nat)) :=
  mc_real 100 _ 89 (.agg #[u]) (fun _ _ => by kernel_rfl) (fun _ _ => by kernel_rfl) (fun w hN => by
    show Calls Tryd.prog 89 #[.agg #[u]] w _
    have b0 := below1 w (.cells #[u] 100)
    have e1 := (u32_bits (andN n 1024) 4 (andN_lt _ _ hn) (by decide)).2.2
    have K : Hid (∀ wx, Below w.heap.size w wx → Calls Tryd.prog 88 #[.agg #[u]] wx fun e w' => e = .returned (.int .u32 (andN n 1024 : Nat)) ∧ Below w.heap.size w w') := fun wx hx => (thr_shw_f hd hn h wx (hN.below hx)).mono fun e w' ⟨a, b⟩ => ⟨a, hx.trans (b.mono hx.size)⟩
    obtain ⟨t, z, -, -, rfl, -, -, -⟩ := h
    clear hN
    go_enter Tryd.func89, Tryd.ntmps89
    go_wp2_with fail
    refine (K.out _ (by first | exact b0 | exact Below.refl _ _)).mono ?_
    rintro e w1 ⟨rfl, b1⟩
    go_wp2
    go_ret
    exact ⟨ret_i (by first | rfl | assumption), b1⟩) 0
set_option maxRecDepth 100000 in
set_option maxHeartbeats 2000000 in
theorem msk_shw {d n o : Nat} {u : Value} (ho : o < 4294967296) (hd : d < 224) (hn : n < 4294967296) (h : MC d u "conduit/shown.shows" [] (.int .u32 n)) : MC 0 (.iface 102 (.agg #[u, .int .u32 (o : Nat)])) "conduit/shown.shows" [] (.int .u32 (andN n 1024 &&& o : Nat)) :=
  mc_real 102 _ 90 (.agg #[u, .int .u32 (o : Nat)]) (fun _ _ => by kernel_rfl) (fun _ _ => by kernel_rfl) (fun w hN => by
    show Calls Tryd.prog 90 #[.agg #[u, .int .u32 (o : Nat)]] w _
    have e1 := (u32_bits (andN n 1024) o (andN_lt _ _ hn) ho).1
    have K : Hid (∀ wx, On w (.cells #[u, .int .u32 (o : Nat)] 102) wx → Calls Tryd.prog 88 #[.agg #[u]] wx fun e w' => e = .returned (.int .u32 (andN n 1024 : Nat)) ∧ On w (.cells #[u, .int .u32 (o : Nat)] 102) w') := fun wx hx => (thr_shw_f hd hn h wx (hN.below hx.below)).mono fun e w' ⟨a, b⟩ => ⟨a, hx.step b⟩
    obtain ⟨t, z, -, -, rfl, -, -, -⟩ := h
    have HS : Hid (∀ wx, On w (.cells #[.iface t z, .int .u32 (o : Nat)] 102) wx → wx.cell? ⟨w.heap.size, 0, none⟩ = some (.iface t z) ∧ wx.cell? ⟨w.heap.size, 1, none⟩ = some (.int .u32 (o : Nat))) := fun wx h => ⟨h.cell 0, h.cell 1⟩
    have b0 := On.start w (.cells #[.iface t z, .int .u32 (o : Nat)] 102)
    clear hN
    go_enter Tryd.func90, Tryd.ntmps90
    go_wp2_with fail
    go_region_held3 (fun w' => w'.cell? ⟨w.heap.size, 0, none⟩ = some (.iface t z) ∧ w'.cell? ⟨w.heap.size, 1, none⟩ = some (.int .u32 (o : Nat))) (exact HS.out _ (by first | assumption | exact On.drew (by assumption))) (first | (go_at_call 88; refine (K.out _ (by first | assumption | exact On.drew (by assumption))).mono ?_; rintro e wa ⟨rfl, ba⟩))
    all_goals go_wp2
    all_goals go_ret
    all_goals exact ⟨rfl, On.below (by first | assumption | exact On.drew (by assumption))⟩) 0
set_option maxRecDepth 100000 in
set_option maxHeartbeats 2000000 in
theorem hid_shw {u : Value} : MC 0 (.iface 103 (.agg #[u])) "conduit/shown.shows" [] (.int .u32 (0 : Nat)) :=
  mc_real 103 _ 91 (.agg #[u]) (fun _ _ => by kernel_rfl) (fun _ _ => by kernel_rfl) (fun w hN => by
    show Calls Tryd.prog 91 #[.agg #[u]] w _
    go_enter Tryd.func91, Tryd.ntmps91
    go_wp2
    go_ret
    exact ⟨rfl, by first | exact Below.refl _ _ | exact below1 _ _⟩) 0
end Go.Proofs.YtcbplamomhimiaaDoor
