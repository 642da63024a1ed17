/- The library's formatBase10 at any number and any length: it writes some bytes, and nothing else; the condition: the row of bytes in a block of its own. -/
import Derived.Test.YtajagjcfmaggiaaGreatDoorKCdf
namespace Go.Proofs.YtajagjcfmaggiaaGreatDoor
open Go.RowKit

/-- A block of n bytes. -/
def Bu (w : World) (B n : Nat) (T : TypeId) : Prop := ∃ cs : Array Value, Bk w B cs T ∧ cs.size = n ∧ ∀ j, j < n → ∃ b : Int, cs[j]? = some (.int .u8 b) ∧ 0 ≤ b ∧ b ≤ 255
theorem Bu.set {w : World} {B n : Nat} {T : TypeId} (h : Bu w B n T) (j : Nat) (b : Int) (h0 : 0 ≤ b) (h1 : b ≤ 255) : Bu (w.setCell ⟨B, j, none⟩ (.int .u8 b)) B n T := by
  obtain ⟨cs, hb, hs, hc⟩ := h
  refine ⟨cs.setIfInBounds j (.int .u8 b), hb.set j _, by simpa using hs, fun q hq => ?_⟩
  by_cases e : j = q
  · subst e
    exact ⟨b, by simp [hs, hq], h0, h1⟩
  · obtain ⟨b', h, h'⟩ := hc q hq
    exact ⟨b', by rw [Array.getElem?_setIfInBounds_ne e]; exact h, h'⟩
theorem Bu.c {w : World} {B n : Nat} {T : TypeId} (h : Bu w B n T) {j : Nat} (hj : j < n) : ∃ b : Int, w.cell? ⟨B, j, none⟩ = some (.int .u8 b) := by
  obtain ⟨cs, hb, hs, hc⟩ := h
  obtain ⟨b, h, -⟩ := hc j hj
  exact ⟨b, (hb.c j).trans h⟩
theorem Bu.f {w : World} {B n : Nat} {T : TypeId} (h : Bu w B n T) (o : Nat) : w.frozen? ⟨B, o, none⟩ = false := by
  obtain ⟨cs, hb, -⟩ := h
  exact hb.f o
theorem Bu.drew {w : World} {B n : Nat} {T : TypeId} (h : Bu w B n T) : Bu w.drew B n T := h
theorem Bu.put {w : World} {B n : Nat} {T : TypeId} (h : Bu w B n T) {W : World} {j : Nat} {x : UInt8} (hW : w.setCell ⟨B, j, none⟩ (.int .u8 ((x.toNat : Nat) : Int)) = W) : Bu W B n T := by
  subst hW
  exact h.set j _ (by omega) (by have := x.toNat_lt; omega)
/-- A block of bytes, and nothing below it is turned. -/
structure Bq (w0 : World) (B n : Nat) (T : TypeId) (w : World) : Prop where
  u : Bu w B n T
  b : Below B w0 w
theorem Bq.drew {w0 : World} {B n : Nat} {T : TypeId} {w : World} (h : Bq w0 B n T w) : Bq w0 B n T w.drew := ⟨h.u, h.b.drew⟩
theorem Bq.set {w0 : World} {B n : Nat} {T : TypeId} {w : World} (h : Bq w0 B n T w) {W : World} {j : Nat} {b : Int} (hW : w.setCell ⟨B, j, none⟩ (.int .u8 b) = W) (h0 : 0 ≤ b) (h1 : b ≤ 255) : Bq w0 B n T W := by
  subst hW
  exact ⟨h.u.set j b h0 h1, h.b.setCell (Nat.le_refl B) _⟩
theorem Bq.put {w0 : World} {B n : Nat} {T : TypeId} {w : World} (h : Bq w0 B n T w) {W : World} {j : Nat} {x : UInt8} (hW : w.setCell ⟨B, j, none⟩ (.int .u8 ((x.toNat : Nat) : Int)) = W) : Bq w0 B n T W := h.set hW (by omega) (by have := x.toNat_lt; omega)

def smS : ByteArray := ⟨(([48, 48, 48, 49, 48, 50, 48, 51, 48, 52, 48, 53, 48, 54, 48, 55, 48, 56, 48, 57, 49, 48, 49, 49, 49, 50, 49, 51, 49, 52, 49, 53, 49, 54, 49, 55, 49, 56, 49, 57, 50, 48, 50, 49, 50, 50, 50, 51, 50, 52].append [50, 53, 50, 54, 50, 55, 50, 56, 50, 57, 51, 48, 51, 49, 51, 50, 51, 51, 51, 52, 51, 53, 51, 54, 51, 55, 51, 56, 51, 57, 52, 48, 52, 49, 52, 50, 52, 51, 52, 52, 52, 53, 52, 54, 52, 55, 52, 56, 52, 57]).append ([53, 48, 53, 49, 53, 50, 53, 51, 53, 52, 53, 53, 53, 54, 53, 55, 53, 56, 53, 57, 54, 48, 54, 49, 54, 50, 54, 51, 54, 52, 54, 53, 54, 54, 54, 55, 54, 56, 54, 57, 55, 48, 55, 49, 55, 50, 55, 51, 55, 52].append [55, 53, 55, 54, 55, 55, 55, 56, 55, 57, 56, 48, 56, 49, 56, 50, 56, 51, 56, 52, 56, 53, 56, 54, 56, 55, 56, 56, 56, 57, 57, 48, 57, 49, 57, 50, 57, 51, 57, 52, 57, 53, 57, 54, 57, 55, 57, 56, 57, 57])).toArray⟩
theorem smS_size : smS.size = 200 := by kernel_rfl
theorem u32w (x : Int) (h0 : 0 ≤ x) (h1 : x ≤ 4294967295) : IntKind.u32.wrap x = x := by
  simp [IntKind.wrap, IntKind.signed, IntKind.bits]
  omega

set_option maxRecDepth 100000 in
set_option maxHeartbeats 4000000 in
theorem fb_any (B off n nd cap : Nat) (u : Int) (T : TypeId) (w : World) (h : Bu w B n T) (hn : off + nd ≤ n) (h20 : nd ≤ 20) (hu0 : 0 ≤ u) (hu1 : u ≤ 18446744073709551615) :
    Calls Tryz.prog 96 #[.slice (some ⟨B, off, none⟩) nd cap, .int .u64 u] w fun e w' => e = .returned (.tuple #[]) ∧ Bq w B n T w' := by
  go_enter Tryz.func96, Tryz.ntmps96
  go_wp2_with fail
  go_loopw [1, 4] (fun s1 s4 wr => ∃ (v : Int) (d : Nat), s1 = .int .u64 v ∧ s4 = .int .i64 d ∧ 0 ≤ v ∧ v ≤ 18446744073709551615 ∧ d ≤ nd ∧ Bq w B n T wr) (fun _ s4 _ => (intOf s4).toNat)
  case atStart => exact ⟨u, nd, rfl, rfl, hu0, hu1, Nat.le_refl _, ⟨h, Below.refl _ _⟩⟩
  case round =>
    clear h hu0 hu1
    obtain ⟨v, d, rfl, rfl, hv0, hv1, hd, hb⟩ := hrel
    by_cases h8 : 8 ≤ d
    · have h8' : decide (8 ≤ (d : Int)) = true := decide_eq_true (by omega)
      obtain ⟨dd, hdd⟩ : ∃ dd, d = dd + 8 := ⟨d - 8, by omega⟩
      have HD := Lib.hid hdd
      clear hdd
      go_wp2_with fail
      have h1 := hb.drew
      refine wp_region_held_drew (S := fun _ => True) (by kernel_rfl) trivial (fun hHeld1 => ?_)
      generalize wr.drew = w1 at *
      refine wpAnyH_take (i := 0) (oi := { dst := some 42, op := Op.move (Operand.tmp 0), type := 146, pos := _, after := #[], guard := none }) (v := ?tq1x1) rfl (by kernel_rfl) (by kernel_rfl) (by kernel_rfl) (fun _ _ _ h => h) (Or.inl ⟨by rfl, ?uq1x1⟩) (by assumption) ?rq1x1
      case uq1x1 => (intro w hSw; (try dsimp only at hSw); go_simp; (try with_reducible rfl))
      simp only [Act.put, List.setIfInBounds_toArray, List.set_cons_zero, List.set_cons_succ]
      refine wpAnyH_take (i := 1) (oi := { dst := some 43, op := Op.move (Operand.tmp 4), type := 3, pos := _, after := #[], guard := none }) (v := ?tq1x2) rfl (by kernel_rfl) (by kernel_rfl) (by kernel_rfl) (fun _ _ _ h => h) (Or.inl ⟨by rfl, ?uq1x2⟩) (by assumption) ?rq1x2
      case uq1x2 => (intro w hSw; (try dsimp only at hSw); go_simp; (try with_reducible rfl))
      simp only [Act.put, List.setIfInBounds_toArray, List.set_cons_zero, List.set_cons_succ]
      refine wpAnyH_take (i := 2) (oi := { dst := some 44, op := Op.binOp BinOp.sub 3 (Operand.tmp 43) (Operand.const (Value.int IntKind.i64 1)) 3, type := 3, pos := _, after := #[{ on := 1, ground := Ground.data }], guard := none }) (v := .int .i64 (((dd + 7 : Nat)) : Int)) rfl (by kernel_rfl) (by kernel_rfl) (by kernel_rfl) (fun _ _ _ h => h) (Or.inl ⟨by rfl, ?uq1x3⟩) (by assumption) ?rq1x3
      case uq1x3 => (intro w hSw; (try dsimp only at hSw); go_simp; have h9 : IntKind.i64.wrap ((d : Int) - 1) = (dd : Int) + 7 := (by have := HD.out; rw [IntKind.wrap_i64]; omega); first | exact h9 | (rw [h9]) | simp [h9])
      simp only [Act.put, List.setIfInBounds_toArray, List.set_cons_zero, List.set_cons_succ]
      refine wpAnyH_take (i := 3) (oi := { dst := some 45, op := Op.move (Operand.tmp 0), type := 146, pos := _, after := #[{ on := 12, ground := Ground.gcOnly Departure.lateStores }], guard := none }) (v := ?tq1x4) rfl (by kernel_rfl) (by kernel_rfl) (by kernel_rfl) (fun _ _ _ h => h) (Or.inl ⟨by rfl, ?uq1x4⟩) (by assumption) ?rq1x4
      case uq1x4 => (intro w hSw; (try dsimp only at hSw); go_simp; (try with_reducible rfl))
      simp only [Act.put, List.setIfInBounds_toArray, List.set_cons_zero, List.set_cons_succ]
      refine wpAnyH_take (i := 4) (oi := { dst := some 46, op := Op.move (Operand.tmp 4), type := 3, pos := _, after := #[{ on := 12, ground := Ground.gcOnly Departure.lateStores }], guard := none }) (v := ?tq1x5) rfl (by kernel_rfl) (by kernel_rfl) (by kernel_rfl) (fun _ _ _ h => h) (Or.inl ⟨by rfl, ?uq1x5⟩) (by assumption) ?rq1x5
      case uq1x5 => (intro w hSw; (try dsimp only at hSw); go_simp; (try with_reducible rfl))
      simp only [Act.put, List.setIfInBounds_toArray, List.set_cons_zero, List.set_cons_succ]
      refine wpAnyH_take (i := 5) (oi := { dst := some 47, op := Op.binOp BinOp.sub 3 (Operand.tmp 46) (Operand.const (Value.int IntKind.i64 2)) 3, type := 3, pos := _, after := #[{ on := 4, ground := Ground.data }, { on := 12, ground := Ground.gcOnly Departure.lateStores }], guard := none }) (v := .int .i64 (((dd + 6 : Nat)) : Int)) rfl (by kernel_rfl) (by kernel_rfl) (by kernel_rfl) (fun _ _ _ h => h) (Or.inl ⟨by rfl, ?uq1x6⟩) (by assumption) ?rq1x6
      case uq1x6 => (intro w hSw; (try dsimp only at hSw); go_simp; have h9 : IntKind.i64.wrap ((d : Int) - 2) = (dd : Int) + 6 := (by have := HD.out; rw [IntKind.wrap_i64]; omega); first | exact h9 | (rw [h9]) | simp [h9])
      simp only [Act.put, List.setIfInBounds_toArray, List.set_cons_zero, List.set_cons_succ]
      refine wpAnyH_take (i := 6) (oi := { dst := some 48, op := Op.move (Operand.tmp 9), type := 46, pos := _, after := #[], guard := none }) (v := ?tq1x7) rfl (by kernel_rfl) (by kernel_rfl) (by kernel_rfl) (fun _ _ _ h => h) (Or.inl ⟨by rfl, ?uq1x7⟩) (by assumption) ?rq1x7
      case uq1x7 => (intro w hSw; (try dsimp only at hSw); go_simp; (try with_reducible rfl))
      simp only [Act.put, List.setIfInBounds_toArray, List.set_cons_zero, List.set_cons_succ]
      refine wpAnyH_take (i := 7) (oi := { dst := some 49, op := Op.binOp BinOp.add 46 (Operand.tmp 48) (Operand.const (Value.int IntKind.u32 1)) 46, type := 46, pos := _, after := #[{ on := 6, ground := Ground.data }], guard := none }) (v := ?tq1x8) rfl (by kernel_rfl) (by kernel_rfl) (by kernel_rfl) (fun _ _ _ h => h) (Or.inl ⟨by rfl, ?uq1x8⟩) (by assumption) ?rq1x8
      case uq1x8 => (intro w hSw; (try dsimp only at hSw); go_simp; (try with_reducible rfl))
      simp only [Act.put, List.setIfInBounds_toArray, List.set_cons_zero, List.set_cons_succ]
      refine wpAnyH_take (i := 8) (oi := { dst := some 50, op := Op.index 9 (Operand.const (Value.string smS)) (Operand.tmp 49), type := 5, pos := _, after := #[{ on := 7, ground := Ground.data }], guard := none }) (v := ?tq1x9) rfl (by kernel_rfl) (by kernel_rfl) (by kernel_rfl) (fun _ _ _ h => h) (Or.inl ⟨by rfl, ?uq1x9⟩) (by assumption) ?rq1x9
      case uq1x9 => (intro w hSw; (try dsimp only at hSw); go_simp; rw [dif_pos (by rw [smS_size]; first | omega | (rw [u32w _ (by omega) (by omega)]; omega))]; rfl)
      simp only [Act.put, List.setIfInBounds_toArray, List.set_cons_zero, List.set_cons_succ]
      refine wpAnyH_take (i := 9) (oi := { dst := some 51, op := Op.move (Operand.tmp 9), type := 46, pos := _, after := #[], guard := none }) (v := ?tq1x10) rfl (by kernel_rfl) (by kernel_rfl) (by kernel_rfl) (fun _ _ _ h => h) (Or.inl ⟨by rfl, ?uq1x10⟩) (by assumption) ?rq1x10
      case uq1x10 => (intro w hSw; (try dsimp only at hSw); go_simp; (try with_reducible rfl))
      simp only [Act.put, List.setIfInBounds_toArray, List.set_cons_zero, List.set_cons_succ]
      refine wpAnyH_take (i := 10) (oi := { dst := some 52, op := Op.index 9 (Operand.const (Value.string smS)) (Operand.tmp 51), type := 5, pos := _, after := #[{ on := 9, ground := Ground.data }], guard := none }) (v := ?tq1x11) rfl (by kernel_rfl) (by kernel_rfl) (by kernel_rfl) (fun _ _ _ h => h) (Or.inl ⟨by rfl, ?uq1x11⟩) (by assumption) ?rq1x11
      case uq1x11 => (intro w hSw; (try dsimp only at hSw); go_simp; rw [dif_pos (by rw [smS_size]; first | omega | (rw [u32w _ (by omega) (by omega)]; omega))]; rfl)
      simp only [Act.put, List.setIfInBounds_toArray, List.set_cons_zero, List.set_cons_succ]
      refine wpAnyH_take (i := 11) (oi := { dst := some 53, op := Op.indexAddr 146 (Operand.tmp 42) (Operand.tmp 44), type := 0, pos := _, after := #[{ on := 0, ground := Ground.data }, { on := 2, ground := Ground.data }, { on := 0, ground := Ground.phase }, { on := 1, ground := Ground.phase }, { on := 2, ground := Ground.phase }, { on := 3, ground := Ground.textOnly Departure.lateStores }, { on := 4, ground := Ground.textOnly Departure.lateStores }, { on := 5, ground := Ground.textOnly Departure.lateStores }, { on := 6, ground := Ground.phase }, { on := 7, ground := Ground.phase }, { on := 8, ground := Ground.phase }, { on := 9, ground := Ground.textOnly Departure.lateStores }, { on := 10, ground := Ground.textOnly Departure.lateStoresUnsure }], guard := none }) (v := .pointer (some ⟨B, off + (dd + 7), none⟩)) rfl (by kernel_rfl) (by kernel_rfl) (by kernel_rfl) (fun _ _ _ h => h) (Or.inl ⟨by rfl, ?uq1x12⟩) (by assumption) ?rq1x12
      case uq1x12 => (intro w hSw; (try dsimp only at hSw); go_simp; first | (rw [if_pos (by have := HD.out; omega)]; simp) | (intro h9; exfalso; have := HD.out; omega))
      simp only [Act.put, List.setIfInBounds_toArray, List.set_cons_zero, List.set_cons_succ]
      refine wpAnyH_ready (rs := [12]) (by kernel_rfl) (by simp) ?_
      refine AllReadyH.cons (o := { dst := none, op := Op.store 5 (Operand.tmp 53) (Operand.tmp 50), type := 0, pos := _, after := #[{ on := 11, ground := Ground.data }, { on := 8, ground := Ground.data }, { on := 0, ground := Ground.phase }, { on := 1, ground := Ground.phase }, { on := 2, ground := Ground.phase }, { on := 3, ground := Ground.textOnly Departure.lateStores }, { on := 4, ground := Ground.textOnly Departure.lateStores }, { on := 5, ground := Ground.textOnly Departure.lateStores }, { on := 6, ground := Ground.phase }, { on := 7, ground := Ground.phase }, { on := 8, ground := Ground.phase }, { on := 9, ground := Ground.textOnly Departure.lateStores }, { on := 10, ground := Ground.textOnly Departure.lateStoresUnsure }], guard := none }) rfl (fun K hK => ?_) AllReadyH.nil
      obtain ⟨b2, c2⟩ := Bu.c h1.u (j := off + (dd + 7)) (by have := HD.out; omega)
      have z2 := Bu.f h1.u
      go_simp
      refine hK.out _ _ trivial (fun hH2 => ?_)
      generalize hW2 : World.setCell w1 _ _ = W2
      have h2 := Bq.put h1 hW2
      clear hW2 c2 z2
      clear hK K
      (try simp only [Act.put, List.setIfInBounds_toArray, List.set_cons_zero, List.set_cons_succ])
      refine wpAnyH_take (i := 13) (oi := { dst := some 54, op := Op.indexAddr 146 (Operand.tmp 45) (Operand.tmp 47), type := 0, pos := _, after := #[{ on := 3, ground := Ground.data }, { on := 5, ground := Ground.data }, { on := 0, ground := Ground.phase }, { on := 1, ground := Ground.phase }, { on := 2, ground := Ground.phase }, { on := 3, ground := Ground.phase }, { on := 4, ground := Ground.phase }, { on := 5, ground := Ground.phase }, { on := 6, ground := Ground.phase }, { on := 7, ground := Ground.phase }, { on := 8, ground := Ground.phase }, { on := 9, ground := Ground.phase }, { on := 10, ground := Ground.phase }, { on := 11, ground := Ground.phase }, { on := 12, ground := Ground.phase }], guard := none }) (v := .pointer (some ⟨B, off + (dd + 6), none⟩)) rfl (by kernel_rfl) (by kernel_rfl) (by kernel_rfl) (fun _ _ _ h => h) (Or.inl ⟨by rfl, ?uq1x13⟩) (by assumption) ?rq1x13
      case uq1x13 => (intro w hSw; (try dsimp only at hSw); go_simp; first | (rw [if_pos (by have := HD.out; omega)]; simp) | (intro h9; exfalso; have := HD.out; omega))
      simp only [Act.put, List.setIfInBounds_toArray, List.set_cons_zero, List.set_cons_succ]
      refine wpAnyH_ready (rs := [14]) (by kernel_rfl) (by simp) ?_
      refine AllReadyH.cons (o := { dst := none, op := Op.store 5 (Operand.tmp 54) (Operand.tmp 52), type := 0, pos := _, after := #[{ on := 13, ground := Ground.data }, { on := 10, ground := Ground.data }, { on := 12, ground := Ground.chain }, { on := 0, ground := Ground.phase }, { on := 1, ground := Ground.phase }, { on := 2, ground := Ground.phase }, { on := 3, ground := Ground.phase }, { on := 4, ground := Ground.phase }, { on := 5, ground := Ground.phase }, { on := 6, ground := Ground.phase }, { on := 7, ground := Ground.phase }, { on := 8, ground := Ground.phase }, { on := 9, ground := Ground.phase }, { on := 10, ground := Ground.phase }, { on := 11, ground := Ground.phase }, { on := 12, ground := Ground.phase }], guard := none }) rfl (fun K hK => ?_) AllReadyH.nil
      obtain ⟨b3, c3⟩ := Bu.c h2.u (j := off + (dd + 6)) (by have := HD.out; omega)
      have z3 := Bu.f h2.u
      go_simp
      refine hK.out _ _ trivial (fun hH3 => ?_)
      generalize hW3 : World.setCell W2 _ _ = W3
      have h3 := Bq.put h2 hW3
      clear hW3 c3 z3
      clear hK K
      (try simp only [Act.put, List.setIfInBounds_toArray, List.set_cons_zero, List.set_cons_succ])
      refine wpAnyH_done (by kernel_rfl) ?_ _
      go_wp2_with fail
      have h4 := h3.drew
      refine wp_region_held_drew (S := fun _ => True) (by kernel_rfl) trivial (fun hHeld4 => ?_)
      generalize W3.drew = w4 at *
      refine wpAnyH_take (i := 0) (oi := { dst := some 55, op := Op.move (Operand.tmp 0), type := 146, pos := _, after := #[], guard := none }) (v := ?tq2x1) rfl (by kernel_rfl) (by kernel_rfl) (by kernel_rfl) (fun _ _ _ h => h) (Or.inl ⟨by rfl, ?uq2x1⟩) (by assumption) ?rq2x1
      case uq2x1 => (intro w hSw; (try dsimp only at hSw); go_simp; (try with_reducible rfl))
      simp only [Act.put, List.setIfInBounds_toArray, List.set_cons_zero, List.set_cons_succ]
      refine wpAnyH_take (i := 1) (oi := { dst := some 56, op := Op.move (Operand.tmp 4), type := 3, pos := _, after := #[], guard := none }) (v := ?tq2x2) rfl (by kernel_rfl) (by kernel_rfl) (by kernel_rfl) (fun _ _ _ h => h) (Or.inl ⟨by rfl, ?uq2x2⟩) (by assumption) ?rq2x2
      case uq2x2 => (intro w hSw; (try dsimp only at hSw); go_simp; (try with_reducible rfl))
      simp only [Act.put, List.setIfInBounds_toArray, List.set_cons_zero, List.set_cons_succ]
      refine wpAnyH_take (i := 2) (oi := { dst := some 57, op := Op.binOp BinOp.sub 3 (Operand.tmp 56) (Operand.const (Value.int IntKind.i64 3)) 3, type := 3, pos := _, after := #[{ on := 1, ground := Ground.data }], guard := none }) (v := .int .i64 (((dd + 5 : Nat)) : Int)) rfl (by kernel_rfl) (by kernel_rfl) (by kernel_rfl) (fun _ _ _ h => h) (Or.inl ⟨by rfl, ?uq2x3⟩) (by assumption) ?rq2x3
      case uq2x3 => (intro w hSw; (try dsimp only at hSw); go_simp; have h9 : IntKind.i64.wrap ((d : Int) - 3) = (dd : Int) + 5 := (by have := HD.out; rw [IntKind.wrap_i64]; omega); first | exact h9 | (rw [h9]) | simp [h9])
      simp only [Act.put, List.setIfInBounds_toArray, List.set_cons_zero, List.set_cons_succ]
      refine wpAnyH_take (i := 3) (oi := { dst := some 58, op := Op.move (Operand.tmp 0), type := 146, pos := _, after := #[{ on := 12, ground := Ground.gcOnly Departure.lateStores }], guard := none }) (v := ?tq2x4) rfl (by kernel_rfl) (by kernel_rfl) (by kernel_rfl) (fun _ _ _ h => h) (Or.inl ⟨by rfl, ?uq2x4⟩) (by assumption) ?rq2x4
      case uq2x4 => (intro w hSw; (try dsimp only at hSw); go_simp; (try with_reducible rfl))
      simp only [Act.put, List.setIfInBounds_toArray, List.set_cons_zero, List.set_cons_succ]
      refine wpAnyH_take (i := 4) (oi := { dst := some 59, op := Op.move (Operand.tmp 4), type := 3, pos := _, after := #[{ on := 12, ground := Ground.gcOnly Departure.lateStores }], guard := none }) (v := ?tq2x5) rfl (by kernel_rfl) (by kernel_rfl) (by kernel_rfl) (fun _ _ _ h => h) (Or.inl ⟨by rfl, ?uq2x5⟩) (by assumption) ?rq2x5
      case uq2x5 => (intro w hSw; (try dsimp only at hSw); go_simp; (try with_reducible rfl))
      simp only [Act.put, List.setIfInBounds_toArray, List.set_cons_zero, List.set_cons_succ]
      refine wpAnyH_take (i := 5) (oi := { dst := some 60, op := Op.binOp BinOp.sub 3 (Operand.tmp 59) (Operand.const (Value.int IntKind.i64 4)) 3, type := 3, pos := _, after := #[{ on := 4, ground := Ground.data }, { on := 12, ground := Ground.gcOnly Departure.lateStores }], guard := none }) (v := .int .i64 (((dd + 4 : Nat)) : Int)) rfl (by kernel_rfl) (by kernel_rfl) (by kernel_rfl) (fun _ _ _ h => h) (Or.inl ⟨by rfl, ?uq2x6⟩) (by assumption) ?rq2x6
      case uq2x6 => (intro w hSw; (try dsimp only at hSw); go_simp; have h9 : IntKind.i64.wrap ((d : Int) - 4) = (dd : Int) + 4 := (by have := HD.out; rw [IntKind.wrap_i64]; omega); first | exact h9 | (rw [h9]) | simp [h9])
      simp only [Act.put, List.setIfInBounds_toArray, List.set_cons_zero, List.set_cons_succ]
      refine wpAnyH_take (i := 6) (oi := { dst := some 61, op := Op.move (Operand.tmp 8), type := 46, pos := _, after := #[], guard := none }) (v := ?tq2x7) rfl (by kernel_rfl) (by kernel_rfl) (by kernel_rfl) (fun _ _ _ h => h) (Or.inl ⟨by rfl, ?uq2x7⟩) (by assumption) ?rq2x7
      case uq2x7 => (intro w hSw; (try dsimp only at hSw); go_simp; (try with_reducible rfl))
      simp only [Act.put, List.setIfInBounds_toArray, List.set_cons_zero, List.set_cons_succ]
      refine wpAnyH_take (i := 7) (oi := { dst := some 62, op := Op.binOp BinOp.add 46 (Operand.tmp 61) (Operand.const (Value.int IntKind.u32 1)) 46, type := 46, pos := _, after := #[{ on := 6, ground := Ground.data }], guard := none }) (v := ?tq2x8) rfl (by kernel_rfl) (by kernel_rfl) (by kernel_rfl) (fun _ _ _ h => h) (Or.inl ⟨by rfl, ?uq2x8⟩) (by assumption) ?rq2x8
      case uq2x8 => (intro w hSw; (try dsimp only at hSw); go_simp; (try with_reducible rfl))
      simp only [Act.put, List.setIfInBounds_toArray, List.set_cons_zero, List.set_cons_succ]
      refine wpAnyH_take (i := 8) (oi := { dst := some 63, op := Op.index 9 (Operand.const (Value.string smS)) (Operand.tmp 62), type := 5, pos := _, after := #[{ on := 7, ground := Ground.data }], guard := none }) (v := ?tq2x9) rfl (by kernel_rfl) (by kernel_rfl) (by kernel_rfl) (fun _ _ _ h => h) (Or.inl ⟨by rfl, ?uq2x9⟩) (by assumption) ?rq2x9
      case uq2x9 => (intro w hSw; (try dsimp only at hSw); go_simp; rw [dif_pos (by rw [smS_size]; first | omega | (rw [u32w _ (by omega) (by omega)]; omega))]; rfl)
      simp only [Act.put, List.setIfInBounds_toArray, List.set_cons_zero, List.set_cons_succ]
      refine wpAnyH_take (i := 9) (oi := { dst := some 64, op := Op.move (Operand.tmp 8), type := 46, pos := _, after := #[], guard := none }) (v := ?tq2x10) rfl (by kernel_rfl) (by kernel_rfl) (by kernel_rfl) (fun _ _ _ h => h) (Or.inl ⟨by rfl, ?uq2x10⟩) (by assumption) ?rq2x10
      case uq2x10 => (intro w hSw; (try dsimp only at hSw); go_simp; (try with_reducible rfl))
      simp only [Act.put, List.setIfInBounds_toArray, List.set_cons_zero, List.set_cons_succ]
      refine wpAnyH_take (i := 10) (oi := { dst := some 65, op := Op.index 9 (Operand.const (Value.string smS)) (Operand.tmp 64), type := 5, pos := _, after := #[{ on := 9, ground := Ground.data }], guard := none }) (v := ?tq2x11) rfl (by kernel_rfl) (by kernel_rfl) (by kernel_rfl) (fun _ _ _ h => h) (Or.inl ⟨by rfl, ?uq2x11⟩) (by assumption) ?rq2x11
      case uq2x11 => (intro w hSw; (try dsimp only at hSw); go_simp; rw [dif_pos (by rw [smS_size]; first | omega | (rw [u32w _ (by omega) (by omega)]; omega))]; rfl)
      simp only [Act.put, List.setIfInBounds_toArray, List.set_cons_zero, List.set_cons_succ]
      refine wpAnyH_take (i := 11) (oi := { dst := some 66, op := Op.indexAddr 146 (Operand.tmp 55) (Operand.tmp 57), type := 0, pos := _, after := #[{ on := 0, ground := Ground.data }, { on := 2, ground := Ground.data }, { on := 0, ground := Ground.phase }, { on := 1, ground := Ground.phase }, { on := 2, ground := Ground.phase }, { on := 3, ground := Ground.textOnly Departure.lateStores }, { on := 4, ground := Ground.textOnly Departure.lateStores }, { on := 5, ground := Ground.textOnly Departure.lateStores }, { on := 6, ground := Ground.phase }, { on := 7, ground := Ground.phase }, { on := 8, ground := Ground.phase }, { on := 9, ground := Ground.textOnly Departure.lateStores }, { on := 10, ground := Ground.textOnly Departure.lateStoresUnsure }], guard := none }) (v := .pointer (some ⟨B, off + (dd + 5), none⟩)) rfl (by kernel_rfl) (by kernel_rfl) (by kernel_rfl) (fun _ _ _ h => h) (Or.inl ⟨by rfl, ?uq2x12⟩) (by assumption) ?rq2x12
      case uq2x12 => (intro w hSw; (try dsimp only at hSw); go_simp; first | (rw [if_pos (by have := HD.out; omega)]; simp) | (intro h9; exfalso; have := HD.out; omega))
      simp only [Act.put, List.setIfInBounds_toArray, List.set_cons_zero, List.set_cons_succ]
      refine wpAnyH_ready (rs := [12]) (by kernel_rfl) (by simp) ?_
      refine AllReadyH.cons (o := { dst := none, op := Op.store 5 (Operand.tmp 66) (Operand.tmp 63), type := 0, pos := _, after := #[{ on := 11, ground := Ground.data }, { on := 8, ground := Ground.data }, { on := 0, ground := Ground.phase }, { on := 1, ground := Ground.phase }, { on := 2, ground := Ground.phase }, { on := 3, ground := Ground.textOnly Departure.lateStores }, { on := 4, ground := Ground.textOnly Departure.lateStores }, { on := 5, ground := Ground.textOnly Departure.lateStores }, { on := 6, ground := Ground.phase }, { on := 7, ground := Ground.phase }, { on := 8, ground := Ground.phase }, { on := 9, ground := Ground.textOnly Departure.lateStores }, { on := 10, ground := Ground.textOnly Departure.lateStoresUnsure }], guard := none }) rfl (fun K hK => ?_) AllReadyH.nil
      obtain ⟨b5, c5⟩ := Bu.c h4.u (j := off + (dd + 5)) (by have := HD.out; omega)
      have z5 := Bu.f h4.u
      go_simp
      refine hK.out _ _ trivial (fun hH5 => ?_)
      generalize hW5 : World.setCell w4 _ _ = W5
      have h5 := Bq.put h4 hW5
      clear hW5 c5 z5
      clear hK K
      (try simp only [Act.put, List.setIfInBounds_toArray, List.set_cons_zero, List.set_cons_succ])
      refine wpAnyH_take (i := 13) (oi := { dst := some 67, op := Op.indexAddr 146 (Operand.tmp 58) (Operand.tmp 60), type := 0, pos := _, after := #[{ on := 3, ground := Ground.data }, { on := 5, ground := Ground.data }, { on := 0, ground := Ground.phase }, { on := 1, ground := Ground.phase }, { on := 2, ground := Ground.phase }, { on := 3, ground := Ground.phase }, { on := 4, ground := Ground.phase }, { on := 5, ground := Ground.phase }, { on := 6, ground := Ground.phase }, { on := 7, ground := Ground.phase }, { on := 8, ground := Ground.phase }, { on := 9, ground := Ground.phase }, { on := 10, ground := Ground.phase }, { on := 11, ground := Ground.phase }, { on := 12, ground := Ground.phase }], guard := none }) (v := .pointer (some ⟨B, off + (dd + 4), none⟩)) rfl (by kernel_rfl) (by kernel_rfl) (by kernel_rfl) (fun _ _ _ h => h) (Or.inl ⟨by rfl, ?uq2x13⟩) (by assumption) ?rq2x13
      case uq2x13 => (intro w hSw; (try dsimp only at hSw); go_simp; first | (rw [if_pos (by have := HD.out; omega)]; simp) | (intro h9; exfalso; have := HD.out; omega))
      simp only [Act.put, List.setIfInBounds_toArray, List.set_cons_zero, List.set_cons_succ]
      refine wpAnyH_ready (rs := [14]) (by kernel_rfl) (by simp) ?_
      refine AllReadyH.cons (o := { dst := none, op := Op.store 5 (Operand.tmp 67) (Operand.tmp 65), type := 0, pos := _, after := #[{ on := 13, ground := Ground.data }, { on := 10, ground := Ground.data }, { on := 12, ground := Ground.chain }, { on := 0, ground := Ground.phase }, { on := 1, ground := Ground.phase }, { on := 2, ground := Ground.phase }, { on := 3, ground := Ground.phase }, { on := 4, ground := Ground.phase }, { on := 5, ground := Ground.phase }, { on := 6, ground := Ground.phase }, { on := 7, ground := Ground.phase }, { on := 8, ground := Ground.phase }, { on := 9, ground := Ground.phase }, { on := 10, ground := Ground.phase }, { on := 11, ground := Ground.phase }, { on := 12, ground := Ground.phase }], guard := none }) rfl (fun K hK => ?_) AllReadyH.nil
      obtain ⟨b6, c6⟩ := Bu.c h5.u (j := off + (dd + 4)) (by have := HD.out; omega)
      have z6 := Bu.f h5.u
      go_simp
      refine hK.out _ _ trivial (fun hH6 => ?_)
      generalize hW6 : World.setCell W5 _ _ = W6
      have h6 := Bq.put h5 hW6
      clear hW6 c6 z6
      clear hK K
      (try simp only [Act.put, List.setIfInBounds_toArray, List.set_cons_zero, List.set_cons_succ])
      refine wpAnyH_done (by kernel_rfl) ?_ _
      go_wp2_with fail
      have h7 := h6.drew
      refine wp_region_held_drew (S := fun _ => True) (by kernel_rfl) trivial (fun hHeld7 => ?_)
      generalize W6.drew = w7 at *
      refine wpAnyH_take (i := 0) (oi := { dst := some 68, op := Op.move (Operand.tmp 0), type := 146, pos := _, after := #[], guard := none }) (v := ?tq3x1) rfl (by kernel_rfl) (by kernel_rfl) (by kernel_rfl) (fun _ _ _ h => h) (Or.inl ⟨by rfl, ?uq3x1⟩) (by assumption) ?rq3x1
      case uq3x1 => (intro w hSw; (try dsimp only at hSw); go_simp; (try with_reducible rfl))
      simp only [Act.put, List.setIfInBounds_toArray, List.set_cons_zero, List.set_cons_succ]
      refine wpAnyH_take (i := 1) (oi := { dst := some 69, op := Op.move (Operand.tmp 4), type := 3, pos := _, after := #[], guard := none }) (v := ?tq3x2) rfl (by kernel_rfl) (by kernel_rfl) (by kernel_rfl) (fun _ _ _ h => h) (Or.inl ⟨by rfl, ?uq3x2⟩) (by assumption) ?rq3x2
      case uq3x2 => (intro w hSw; (try dsimp only at hSw); go_simp; (try with_reducible rfl))
      simp only [Act.put, List.setIfInBounds_toArray, List.set_cons_zero, List.set_cons_succ]
      refine wpAnyH_take (i := 2) (oi := { dst := some 70, op := Op.binOp BinOp.sub 3 (Operand.tmp 69) (Operand.const (Value.int IntKind.i64 5)) 3, type := 3, pos := _, after := #[{ on := 1, ground := Ground.data }], guard := none }) (v := .int .i64 (((dd + 3 : Nat)) : Int)) rfl (by kernel_rfl) (by kernel_rfl) (by kernel_rfl) (fun _ _ _ h => h) (Or.inl ⟨by rfl, ?uq3x3⟩) (by assumption) ?rq3x3
      case uq3x3 => (intro w hSw; (try dsimp only at hSw); go_simp; have h9 : IntKind.i64.wrap ((d : Int) - 5) = (dd : Int) + 3 := (by have := HD.out; rw [IntKind.wrap_i64]; omega); first | exact h9 | (rw [h9]) | simp [h9])
      simp only [Act.put, List.setIfInBounds_toArray, List.set_cons_zero, List.set_cons_succ]
      refine wpAnyH_take (i := 3) (oi := { dst := some 71, op := Op.move (Operand.tmp 0), type := 146, pos := _, after := #[{ on := 12, ground := Ground.gcOnly Departure.lateStores }], guard := none }) (v := ?tq3x4) rfl (by kernel_rfl) (by kernel_rfl) (by kernel_rfl) (fun _ _ _ h => h) (Or.inl ⟨by rfl, ?uq3x4⟩) (by assumption) ?rq3x4
      case uq3x4 => (intro w hSw; (try dsimp only at hSw); go_simp; (try with_reducible rfl))
      simp only [Act.put, List.setIfInBounds_toArray, List.set_cons_zero, List.set_cons_succ]
      refine wpAnyH_take (i := 4) (oi := { dst := some 72, op := Op.move (Operand.tmp 4), type := 3, pos := _, after := #[{ on := 12, ground := Ground.gcOnly Departure.lateStores }], guard := none }) (v := ?tq3x5) rfl (by kernel_rfl) (by kernel_rfl) (by kernel_rfl) (fun _ _ _ h => h) (Or.inl ⟨by rfl, ?uq3x5⟩) (by assumption) ?rq3x5
      case uq3x5 => (intro w hSw; (try dsimp only at hSw); go_simp; (try with_reducible rfl))
      simp only [Act.put, List.setIfInBounds_toArray, List.set_cons_zero, List.set_cons_succ]
      refine wpAnyH_take (i := 5) (oi := { dst := some 73, op := Op.binOp BinOp.sub 3 (Operand.tmp 72) (Operand.const (Value.int IntKind.i64 6)) 3, type := 3, pos := _, after := #[{ on := 4, ground := Ground.data }, { on := 12, ground := Ground.gcOnly Departure.lateStores }], guard := none }) (v := .int .i64 (((dd + 2 : Nat)) : Int)) rfl (by kernel_rfl) (by kernel_rfl) (by kernel_rfl) (fun _ _ _ h => h) (Or.inl ⟨by rfl, ?uq3x6⟩) (by assumption) ?rq3x6
      case uq3x6 => (intro w hSw; (try dsimp only at hSw); go_simp; have h9 : IntKind.i64.wrap ((d : Int) - 6) = (dd : Int) + 2 := (by have := HD.out; rw [IntKind.wrap_i64]; omega); first | exact h9 | (rw [h9]) | simp [h9])
      simp only [Act.put, List.setIfInBounds_toArray, List.set_cons_zero, List.set_cons_succ]
      refine wpAnyH_take (i := 6) (oi := { dst := some 74, op := Op.move (Operand.tmp 11), type := 46, pos := _, after := #[], guard := none }) (v := ?tq3x7) rfl (by kernel_rfl) (by kernel_rfl) (by kernel_rfl) (fun _ _ _ h => h) (Or.inl ⟨by rfl, ?uq3x7⟩) (by assumption) ?rq3x7
      case uq3x7 => (intro w hSw; (try dsimp only at hSw); go_simp; (try with_reducible rfl))
      simp only [Act.put, List.setIfInBounds_toArray, List.set_cons_zero, List.set_cons_succ]
      refine wpAnyH_take (i := 7) (oi := { dst := some 75, op := Op.binOp BinOp.add 46 (Operand.tmp 74) (Operand.const (Value.int IntKind.u32 1)) 46, type := 46, pos := _, after := #[{ on := 6, ground := Ground.data }], guard := none }) (v := ?tq3x8) rfl (by kernel_rfl) (by kernel_rfl) (by kernel_rfl) (fun _ _ _ h => h) (Or.inl ⟨by rfl, ?uq3x8⟩) (by assumption) ?rq3x8
      case uq3x8 => (intro w hSw; (try dsimp only at hSw); go_simp; (try with_reducible rfl))
      simp only [Act.put, List.setIfInBounds_toArray, List.set_cons_zero, List.set_cons_succ]
      refine wpAnyH_take (i := 8) (oi := { dst := some 76, op := Op.index 9 (Operand.const (Value.string smS)) (Operand.tmp 75), type := 5, pos := _, after := #[{ on := 7, ground := Ground.data }], guard := none }) (v := ?tq3x9) rfl (by kernel_rfl) (by kernel_rfl) (by kernel_rfl) (fun _ _ _ h => h) (Or.inl ⟨by rfl, ?uq3x9⟩) (by assumption) ?rq3x9
      case uq3x9 => (intro w hSw; (try dsimp only at hSw); go_simp; rw [dif_pos (by rw [smS_size]; first | omega | (rw [u32w _ (by omega) (by omega)]; omega))]; rfl)
      simp only [Act.put, List.setIfInBounds_toArray, List.set_cons_zero, List.set_cons_succ]
      refine wpAnyH_take (i := 9) (oi := { dst := some 77, op := Op.move (Operand.tmp 11), type := 46, pos := _, after := #[], guard := none }) (v := ?tq3x10) rfl (by kernel_rfl) (by kernel_rfl) (by kernel_rfl) (fun _ _ _ h => h) (Or.inl ⟨by rfl, ?uq3x10⟩) (by assumption) ?rq3x10
      case uq3x10 => (intro w hSw; (try dsimp only at hSw); go_simp; (try with_reducible rfl))
      simp only [Act.put, List.setIfInBounds_toArray, List.set_cons_zero, List.set_cons_succ]
      refine wpAnyH_take (i := 10) (oi := { dst := some 78, op := Op.index 9 (Operand.const (Value.string smS)) (Operand.tmp 77), type := 5, pos := _, after := #[{ on := 9, ground := Ground.data }], guard := none }) (v := ?tq3x11) rfl (by kernel_rfl) (by kernel_rfl) (by kernel_rfl) (fun _ _ _ h => h) (Or.inl ⟨by rfl, ?uq3x11⟩) (by assumption) ?rq3x11
      case uq3x11 => (intro w hSw; (try dsimp only at hSw); go_simp; rw [dif_pos (by rw [smS_size]; first | omega | (rw [u32w _ (by omega) (by omega)]; omega))]; rfl)
      simp only [Act.put, List.setIfInBounds_toArray, List.set_cons_zero, List.set_cons_succ]
      refine wpAnyH_take (i := 11) (oi := { dst := some 79, op := Op.indexAddr 146 (Operand.tmp 68) (Operand.tmp 70), type := 0, pos := _, after := #[{ on := 0, ground := Ground.data }, { on := 2, ground := Ground.data }, { on := 0, ground := Ground.phase }, { on := 1, ground := Ground.phase }, { on := 2, ground := Ground.phase }, { on := 3, ground := Ground.textOnly Departure.lateStores }, { on := 4, ground := Ground.textOnly Departure.lateStores }, { on := 5, ground := Ground.textOnly Departure.lateStores }, { on := 6, ground := Ground.phase }, { on := 7, ground := Ground.phase }, { on := 8, ground := Ground.phase }, { on := 9, ground := Ground.textOnly Departure.lateStores }, { on := 10, ground := Ground.textOnly Departure.lateStoresUnsure }], guard := none }) (v := .pointer (some ⟨B, off + (dd + 3), none⟩)) rfl (by kernel_rfl) (by kernel_rfl) (by kernel_rfl) (fun _ _ _ h => h) (Or.inl ⟨by rfl, ?uq3x12⟩) (by assumption) ?rq3x12
      case uq3x12 => (intro w hSw; (try dsimp only at hSw); go_simp; first | (rw [if_pos (by have := HD.out; omega)]; simp) | (intro h9; exfalso; have := HD.out; omega))
      simp only [Act.put, List.setIfInBounds_toArray, List.set_cons_zero, List.set_cons_succ]
      refine wpAnyH_ready (rs := [12]) (by kernel_rfl) (by simp) ?_
      refine AllReadyH.cons (o := { dst := none, op := Op.store 5 (Operand.tmp 79) (Operand.tmp 76), type := 0, pos := _, after := #[{ on := 11, ground := Ground.data }, { on := 8, ground := Ground.data }, { on := 0, ground := Ground.phase }, { on := 1, ground := Ground.phase }, { on := 2, ground := Ground.phase }, { on := 3, ground := Ground.textOnly Departure.lateStores }, { on := 4, ground := Ground.textOnly Departure.lateStores }, { on := 5, ground := Ground.textOnly Departure.lateStores }, { on := 6, ground := Ground.phase }, { on := 7, ground := Ground.phase }, { on := 8, ground := Ground.phase }, { on := 9, ground := Ground.textOnly Departure.lateStores }, { on := 10, ground := Ground.textOnly Departure.lateStoresUnsure }], guard := none }) rfl (fun K hK => ?_) AllReadyH.nil
      obtain ⟨b8, c8⟩ := Bu.c h7.u (j := off + (dd + 3)) (by have := HD.out; omega)
      have z8 := Bu.f h7.u
      go_simp
      refine hK.out _ _ trivial (fun hH8 => ?_)
      generalize hW8 : World.setCell w7 _ _ = W8
      have h8 := Bq.put h7 hW8
      clear hW8 c8 z8
      clear hK K
      (try simp only [Act.put, List.setIfInBounds_toArray, List.set_cons_zero, List.set_cons_succ])
      refine wpAnyH_take (i := 13) (oi := { dst := some 80, op := Op.indexAddr 146 (Operand.tmp 71) (Operand.tmp 73), type := 0, pos := _, after := #[{ on := 3, ground := Ground.data }, { on := 5, ground := Ground.data }, { on := 0, ground := Ground.phase }, { on := 1, ground := Ground.phase }, { on := 2, ground := Ground.phase }, { on := 3, ground := Ground.phase }, { on := 4, ground := Ground.phase }, { on := 5, ground := Ground.phase }, { on := 6, ground := Ground.phase }, { on := 7, ground := Ground.phase }, { on := 8, ground := Ground.phase }, { on := 9, ground := Ground.phase }, { on := 10, ground := Ground.phase }, { on := 11, ground := Ground.phase }, { on := 12, ground := Ground.phase }], guard := none }) (v := .pointer (some ⟨B, off + (dd + 2), none⟩)) rfl (by kernel_rfl) (by kernel_rfl) (by kernel_rfl) (fun _ _ _ h => h) (Or.inl ⟨by rfl, ?uq3x13⟩) (by assumption) ?rq3x13
      case uq3x13 => (intro w hSw; (try dsimp only at hSw); go_simp; first | (rw [if_pos (by have := HD.out; omega)]; simp) | (intro h9; exfalso; have := HD.out; omega))
      simp only [Act.put, List.setIfInBounds_toArray, List.set_cons_zero, List.set_cons_succ]
      refine wpAnyH_ready (rs := [14]) (by kernel_rfl) (by simp) ?_
      refine AllReadyH.cons (o := { dst := none, op := Op.store 5 (Operand.tmp 80) (Operand.tmp 78), type := 0, pos := _, after := #[{ on := 13, ground := Ground.data }, { on := 10, ground := Ground.data }, { on := 12, ground := Ground.chain }, { on := 0, ground := Ground.phase }, { on := 1, ground := Ground.phase }, { on := 2, ground := Ground.phase }, { on := 3, ground := Ground.phase }, { on := 4, ground := Ground.phase }, { on := 5, ground := Ground.phase }, { on := 6, ground := Ground.phase }, { on := 7, ground := Ground.phase }, { on := 8, ground := Ground.phase }, { on := 9, ground := Ground.phase }, { on := 10, ground := Ground.phase }, { on := 11, ground := Ground.phase }, { on := 12, ground := Ground.phase }], guard := none }) rfl (fun K hK => ?_) AllReadyH.nil
      obtain ⟨b9, c9⟩ := Bu.c h8.u (j := off + (dd + 2)) (by have := HD.out; omega)
      have z9 := Bu.f h8.u
      go_simp
      refine hK.out _ _ trivial (fun hH9 => ?_)
      generalize hW9 : World.setCell W8 _ _ = W9
      have h9 := Bq.put h8 hW9
      clear hW9 c9 z9
      clear hK K
      (try simp only [Act.put, List.setIfInBounds_toArray, List.set_cons_zero, List.set_cons_succ])
      refine wpAnyH_done (by kernel_rfl) ?_ _
      go_wp2_with fail
      have h10 := h9.drew
      refine wp_region_held_drew (S := fun _ => True) (by kernel_rfl) trivial (fun hHeld10 => ?_)
      generalize W9.drew = w10 at *
      refine wpAnyH_take (i := 0) (oi := { dst := some 81, op := Op.move (Operand.tmp 0), type := 146, pos := _, after := #[], guard := none }) (v := ?tq4x1) rfl (by kernel_rfl) (by kernel_rfl) (by kernel_rfl) (fun _ _ _ h => h) (Or.inl ⟨by rfl, ?uq4x1⟩) (by assumption) ?rq4x1
      case uq4x1 => (intro w hSw; (try dsimp only at hSw); go_simp; (try with_reducible rfl))
      simp only [Act.put, List.setIfInBounds_toArray, List.set_cons_zero, List.set_cons_succ]
      refine wpAnyH_take (i := 1) (oi := { dst := some 82, op := Op.move (Operand.tmp 4), type := 3, pos := _, after := #[], guard := none }) (v := ?tq4x2) rfl (by kernel_rfl) (by kernel_rfl) (by kernel_rfl) (fun _ _ _ h => h) (Or.inl ⟨by rfl, ?uq4x2⟩) (by assumption) ?rq4x2
      case uq4x2 => (intro w hSw; (try dsimp only at hSw); go_simp; (try with_reducible rfl))
      simp only [Act.put, List.setIfInBounds_toArray, List.set_cons_zero, List.set_cons_succ]
      refine wpAnyH_take (i := 2) (oi := { dst := some 83, op := Op.binOp BinOp.sub 3 (Operand.tmp 82) (Operand.const (Value.int IntKind.i64 7)) 3, type := 3, pos := _, after := #[{ on := 1, ground := Ground.data }], guard := none }) (v := .int .i64 (((dd + 1 : Nat)) : Int)) rfl (by kernel_rfl) (by kernel_rfl) (by kernel_rfl) (fun _ _ _ h => h) (Or.inl ⟨by rfl, ?uq4x3⟩) (by assumption) ?rq4x3
      case uq4x3 => (intro w hSw; (try dsimp only at hSw); go_simp; have h9 : IntKind.i64.wrap ((d : Int) - 7) = (dd : Int) + 1 := (by have := HD.out; rw [IntKind.wrap_i64]; omega); first | exact h9 | (rw [h9]) | simp [h9])
      simp only [Act.put, List.setIfInBounds_toArray, List.set_cons_zero, List.set_cons_succ]
      refine wpAnyH_take (i := 3) (oi := { dst := some 84, op := Op.move (Operand.tmp 0), type := 146, pos := _, after := #[{ on := 12, ground := Ground.gcOnly Departure.lateStores }], guard := none }) (v := ?tq4x4) rfl (by kernel_rfl) (by kernel_rfl) (by kernel_rfl) (fun _ _ _ h => h) (Or.inl ⟨by rfl, ?uq4x4⟩) (by assumption) ?rq4x4
      case uq4x4 => (intro w hSw; (try dsimp only at hSw); go_simp; (try with_reducible rfl))
      simp only [Act.put, List.setIfInBounds_toArray, List.set_cons_zero, List.set_cons_succ]
      refine wpAnyH_take (i := 4) (oi := { dst := some 85, op := Op.move (Operand.tmp 4), type := 3, pos := _, after := #[{ on := 12, ground := Ground.gcOnly Departure.lateStores }], guard := none }) (v := ?tq4x5) rfl (by kernel_rfl) (by kernel_rfl) (by kernel_rfl) (fun _ _ _ h => h) (Or.inl ⟨by rfl, ?uq4x5⟩) (by assumption) ?rq4x5
      case uq4x5 => (intro w hSw; (try dsimp only at hSw); go_simp; (try with_reducible rfl))
      simp only [Act.put, List.setIfInBounds_toArray, List.set_cons_zero, List.set_cons_succ]
      refine wpAnyH_take (i := 5) (oi := { dst := some 86, op := Op.binOp BinOp.sub 3 (Operand.tmp 85) (Operand.const (Value.int IntKind.i64 8)) 3, type := 3, pos := _, after := #[{ on := 4, ground := Ground.data }, { on := 12, ground := Ground.gcOnly Departure.lateStores }], guard := none }) (v := .int .i64 (((dd : Nat)) : Int)) rfl (by kernel_rfl) (by kernel_rfl) (by kernel_rfl) (fun _ _ _ h => h) (Or.inl ⟨by rfl, ?uq4x6⟩) (by assumption) ?rq4x6
      case uq4x6 => (intro w hSw; (try dsimp only at hSw); go_simp; have h9 : IntKind.i64.wrap ((d : Int) - 8) = (dd : Int) := (by have := HD.out; rw [IntKind.wrap_i64]; omega); first | exact h9 | (rw [h9]) | simp [h9])
      simp only [Act.put, List.setIfInBounds_toArray, List.set_cons_zero, List.set_cons_succ]
      refine wpAnyH_take (i := 6) (oi := { dst := some 87, op := Op.move (Operand.tmp 10), type := 46, pos := _, after := #[], guard := none }) (v := ?tq4x7) rfl (by kernel_rfl) (by kernel_rfl) (by kernel_rfl) (fun _ _ _ h => h) (Or.inl ⟨by rfl, ?uq4x7⟩) (by assumption) ?rq4x7
      case uq4x7 => (intro w hSw; (try dsimp only at hSw); go_simp; (try with_reducible rfl))
      simp only [Act.put, List.setIfInBounds_toArray, List.set_cons_zero, List.set_cons_succ]
      refine wpAnyH_take (i := 7) (oi := { dst := some 88, op := Op.binOp BinOp.add 46 (Operand.tmp 87) (Operand.const (Value.int IntKind.u32 1)) 46, type := 46, pos := _, after := #[{ on := 6, ground := Ground.data }], guard := none }) (v := ?tq4x8) rfl (by kernel_rfl) (by kernel_rfl) (by kernel_rfl) (fun _ _ _ h => h) (Or.inl ⟨by rfl, ?uq4x8⟩) (by assumption) ?rq4x8
      case uq4x8 => (intro w hSw; (try dsimp only at hSw); go_simp; (try with_reducible rfl))
      simp only [Act.put, List.setIfInBounds_toArray, List.set_cons_zero, List.set_cons_succ]
      refine wpAnyH_take (i := 8) (oi := { dst := some 89, op := Op.index 9 (Operand.const (Value.string smS)) (Operand.tmp 88), type := 5, pos := _, after := #[{ on := 7, ground := Ground.data }], guard := none }) (v := ?tq4x9) rfl (by kernel_rfl) (by kernel_rfl) (by kernel_rfl) (fun _ _ _ h => h) (Or.inl ⟨by rfl, ?uq4x9⟩) (by assumption) ?rq4x9
      case uq4x9 => (intro w hSw; (try dsimp only at hSw); go_simp; rw [dif_pos (by rw [smS_size]; first | omega | (rw [u32w _ (by omega) (by omega)]; omega))]; rfl)
      simp only [Act.put, List.setIfInBounds_toArray, List.set_cons_zero, List.set_cons_succ]
      refine wpAnyH_take (i := 9) (oi := { dst := some 90, op := Op.move (Operand.tmp 10), type := 46, pos := _, after := #[], guard := none }) (v := ?tq4x10) rfl (by kernel_rfl) (by kernel_rfl) (by kernel_rfl) (fun _ _ _ h => h) (Or.inl ⟨by rfl, ?uq4x10⟩) (by assumption) ?rq4x10
      case uq4x10 => (intro w hSw; (try dsimp only at hSw); go_simp; (try with_reducible rfl))
      simp only [Act.put, List.setIfInBounds_toArray, List.set_cons_zero, List.set_cons_succ]
      refine wpAnyH_take (i := 10) (oi := { dst := some 91, op := Op.index 9 (Operand.const (Value.string smS)) (Operand.tmp 90), type := 5, pos := _, after := #[{ on := 9, ground := Ground.data }], guard := none }) (v := ?tq4x11) rfl (by kernel_rfl) (by kernel_rfl) (by kernel_rfl) (fun _ _ _ h => h) (Or.inl ⟨by rfl, ?uq4x11⟩) (by assumption) ?rq4x11
      case uq4x11 => (intro w hSw; (try dsimp only at hSw); go_simp; rw [dif_pos (by rw [smS_size]; first | omega | (rw [u32w _ (by omega) (by omega)]; omega))]; rfl)
      simp only [Act.put, List.setIfInBounds_toArray, List.set_cons_zero, List.set_cons_succ]
      refine wpAnyH_take (i := 11) (oi := { dst := some 92, op := Op.indexAddr 146 (Operand.tmp 81) (Operand.tmp 83), type := 0, pos := _, after := #[{ on := 0, ground := Ground.data }, { on := 2, ground := Ground.data }, { on := 0, ground := Ground.phase }, { on := 1, ground := Ground.phase }, { on := 2, ground := Ground.phase }, { on := 3, ground := Ground.textOnly Departure.lateStores }, { on := 4, ground := Ground.textOnly Departure.lateStores }, { on := 5, ground := Ground.textOnly Departure.lateStores }, { on := 6, ground := Ground.phase }, { on := 7, ground := Ground.phase }, { on := 8, ground := Ground.phase }, { on := 9, ground := Ground.textOnly Departure.lateStores }, { on := 10, ground := Ground.textOnly Departure.lateStoresUnsure }], guard := none }) (v := .pointer (some ⟨B, off + (dd + 1), none⟩)) rfl (by kernel_rfl) (by kernel_rfl) (by kernel_rfl) (fun _ _ _ h => h) (Or.inl ⟨by rfl, ?uq4x12⟩) (by assumption) ?rq4x12
      case uq4x12 => (intro w hSw; (try dsimp only at hSw); go_simp; first | (rw [if_pos (by have := HD.out; omega)]; simp) | (intro h9; exfalso; have := HD.out; omega))
      simp only [Act.put, List.setIfInBounds_toArray, List.set_cons_zero, List.set_cons_succ]
      refine wpAnyH_ready (rs := [12]) (by kernel_rfl) (by simp) ?_
      refine AllReadyH.cons (o := { dst := none, op := Op.store 5 (Operand.tmp 92) (Operand.tmp 89), type := 0, pos := _, after := #[{ on := 11, ground := Ground.data }, { on := 8, ground := Ground.data }, { on := 0, ground := Ground.phase }, { on := 1, ground := Ground.phase }, { on := 2, ground := Ground.phase }, { on := 3, ground := Ground.textOnly Departure.lateStores }, { on := 4, ground := Ground.textOnly Departure.lateStores }, { on := 5, ground := Ground.textOnly Departure.lateStores }, { on := 6, ground := Ground.phase }, { on := 7, ground := Ground.phase }, { on := 8, ground := Ground.phase }, { on := 9, ground := Ground.textOnly Departure.lateStores }, { on := 10, ground := Ground.textOnly Departure.lateStoresUnsure }], guard := none }) rfl (fun K hK => ?_) AllReadyH.nil
      obtain ⟨b11, c11⟩ := Bu.c h10.u (j := off + (dd + 1)) (by have := HD.out; omega)
      have z11 := Bu.f h10.u
      go_simp
      refine hK.out _ _ trivial (fun hH11 => ?_)
      generalize hW11 : World.setCell w10 _ _ = W11
      have h11 := Bq.put h10 hW11
      clear hW11 c11 z11
      clear hK K
      (try simp only [Act.put, List.setIfInBounds_toArray, List.set_cons_zero, List.set_cons_succ])
      refine wpAnyH_take (i := 13) (oi := { dst := some 93, op := Op.indexAddr 146 (Operand.tmp 84) (Operand.tmp 86), type := 0, pos := _, after := #[{ on := 3, ground := Ground.data }, { on := 5, ground := Ground.data }, { on := 0, ground := Ground.phase }, { on := 1, ground := Ground.phase }, { on := 2, ground := Ground.phase }, { on := 3, ground := Ground.phase }, { on := 4, ground := Ground.phase }, { on := 5, ground := Ground.phase }, { on := 6, ground := Ground.phase }, { on := 7, ground := Ground.phase }, { on := 8, ground := Ground.phase }, { on := 9, ground := Ground.phase }, { on := 10, ground := Ground.phase }, { on := 11, ground := Ground.phase }, { on := 12, ground := Ground.phase }], guard := none }) (v := .pointer (some ⟨B, off + dd, none⟩)) rfl (by kernel_rfl) (by kernel_rfl) (by kernel_rfl) (fun _ _ _ h => h) (Or.inl ⟨by rfl, ?uq4x13⟩) (by assumption) ?rq4x13
      case uq4x13 => (intro w hSw; (try dsimp only at hSw); go_simp; first | (rw [if_pos (by have := HD.out; omega)]; simp) | (intro h9; exfalso; have := HD.out; omega))
      simp only [Act.put, List.setIfInBounds_toArray, List.set_cons_zero, List.set_cons_succ]
      refine wpAnyH_ready (rs := [14]) (by kernel_rfl) (by simp) ?_
      refine AllReadyH.cons (o := { dst := none, op := Op.store 5 (Operand.tmp 93) (Operand.tmp 91), type := 0, pos := _, after := #[{ on := 13, ground := Ground.data }, { on := 10, ground := Ground.data }, { on := 12, ground := Ground.chain }, { on := 0, ground := Ground.phase }, { on := 1, ground := Ground.phase }, { on := 2, ground := Ground.phase }, { on := 3, ground := Ground.phase }, { on := 4, ground := Ground.phase }, { on := 5, ground := Ground.phase }, { on := 6, ground := Ground.phase }, { on := 7, ground := Ground.phase }, { on := 8, ground := Ground.phase }, { on := 9, ground := Ground.phase }, { on := 10, ground := Ground.phase }, { on := 11, ground := Ground.phase }, { on := 12, ground := Ground.phase }], guard := none }) rfl (fun K hK => ?_) AllReadyH.nil
      obtain ⟨b12, c12⟩ := Bu.c h11.u (j := off + dd) (by have := HD.out; omega)
      have z12 := Bu.f h11.u
      go_simp
      refine hK.out _ _ trivial (fun hH12 => ?_)
      generalize hW12 : World.setCell W11 _ _ = W12
      have h12 := Bq.put h11 hW12
      clear hW12 c12 z12
      clear hK K
      (try simp only [Act.put, List.setIfInBounds_toArray, List.set_cons_zero, List.set_cons_succ])
      refine wpAnyH_done (by kernel_rfl) ?_ _
      go_wp2_with fail
      exact ⟨⟨v / 100000000, dd, rfl, by have := HD.out; go_num, by omega, by omega, by have := HD.out; omega, h12⟩, by have := HD.out; simp [intOf]; omega⟩
    · have h8' : decide (8 ≤ (d : Int)) = false := decide_eq_false (by omega)
      have hd8 : d = 0 ∨ d = 1 ∨ d = 2 ∨ d = 3 ∨ d = 4 ∨ d = 5 ∨ d = 6 ∨ d = 7 := by omega
      clear h8 h8'
      rcases hd8 with hd8 | hd8 | hd8 | hd8 | hd8 | hd8 | hd8 | hd8
      · obtain rfl : d = 0 := hd8
        go_wp2_with fail
        exact ⟨rfl, .tuple #[], by simp [results, Tryz.results96, go_sem], rfl, hb⟩
      · obtain rfl : d = 1 := hd8
        obtain ⟨b13, c13⟩ := Bu.c hb.u (j := off) (by omega)
        have z13 := Bu.f hb.u
        go_wp2_with fail
        generalize hW13 : World.setCell wr _ _ = W13
        have h13 := Bq.set hb hW13 (by omega) (by omega)
        clear hW13 c13 z13
        exact ⟨rfl, .tuple #[], by simp [results, Tryz.results96, go_sem], rfl, h13⟩
      · obtain rfl : d = 2 := hd8
        go_wp2_with fail
        have h14 := hb.drew
        refine wp_region_held_drew (S := fun _ => True) (by kernel_rfl) trivial (fun hHeld14 => ?_)
        generalize wr.drew = w14 at *
        refine wpAnyH_take (i := 0) (oi := { dst := some 145, op := Op.move (Operand.tmp 0), type := 146, pos := _, after := #[], guard := none }) (v := ?tq5x1) rfl (by kernel_rfl) (by kernel_rfl) (by kernel_rfl) (fun _ _ _ h => h) (Or.inl ⟨by rfl, ?uq5x1⟩) (by assumption) ?rq5x1
        case uq5x1 => (intro w hSw; (try dsimp only at hSw); go_simp; (try with_reducible rfl))
        simp only [Act.put, List.setIfInBounds_toArray, List.set_cons_zero, List.set_cons_succ]
        refine wpAnyH_take (i := 1) (oi := { dst := some 146, op := Op.move (Operand.tmp 4), type := 3, pos := _, after := #[], guard := none }) (v := ?tq5x2) rfl (by kernel_rfl) (by kernel_rfl) (by kernel_rfl) (fun _ _ _ h => h) (Or.inl ⟨by rfl, ?uq5x2⟩) (by assumption) ?rq5x2
        case uq5x2 => (intro w hSw; (try dsimp only at hSw); go_simp; (try with_reducible rfl))
        simp only [Act.put, List.setIfInBounds_toArray, List.set_cons_zero, List.set_cons_succ]
        refine wpAnyH_take (i := 2) (oi := { dst := some 147, op := Op.binOp BinOp.sub 3 (Operand.tmp 146) (Operand.const (Value.int IntKind.i64 1)) 3, type := 3, pos := _, after := #[{ on := 1, ground := Ground.data }], guard := none }) (v := ?tq5x3) rfl (by kernel_rfl) (by kernel_rfl) (by kernel_rfl) (fun _ _ _ h => h) (Or.inl ⟨by rfl, ?uq5x3⟩) (by assumption) ?rq5x3
        case uq5x3 => (intro w hSw; (try dsimp only at hSw); go_simp; (try with_reducible rfl))
        simp only [Act.put, List.setIfInBounds_toArray, List.set_cons_zero, List.set_cons_succ]
        refine wpAnyH_take (i := 3) (oi := { dst := some 148, op := Op.move (Operand.tmp 0), type := 146, pos := _, after := #[{ on := 12, ground := Ground.gcOnly Departure.lateStores }], guard := none }) (v := ?tq5x4) rfl (by kernel_rfl) (by kernel_rfl) (by kernel_rfl) (fun _ _ _ h => h) (Or.inl ⟨by rfl, ?uq5x4⟩) (by assumption) ?rq5x4
        case uq5x4 => (intro w hSw; (try dsimp only at hSw); go_simp; (try with_reducible rfl))
        simp only [Act.put, List.setIfInBounds_toArray, List.set_cons_zero, List.set_cons_succ]
        refine wpAnyH_take (i := 4) (oi := { dst := some 149, op := Op.move (Operand.tmp 4), type := 3, pos := _, after := #[{ on := 12, ground := Ground.gcOnly Departure.lateStores }], guard := none }) (v := ?tq5x5) rfl (by kernel_rfl) (by kernel_rfl) (by kernel_rfl) (fun _ _ _ h => h) (Or.inl ⟨by rfl, ?uq5x5⟩) (by assumption) ?rq5x5
        case uq5x5 => (intro w hSw; (try dsimp only at hSw); go_simp; (try with_reducible rfl))
        simp only [Act.put, List.setIfInBounds_toArray, List.set_cons_zero, List.set_cons_succ]
        refine wpAnyH_take (i := 5) (oi := { dst := some 150, op := Op.binOp BinOp.sub 3 (Operand.tmp 149) (Operand.const (Value.int IntKind.i64 2)) 3, type := 3, pos := _, after := #[{ on := 4, ground := Ground.data }, { on := 12, ground := Ground.gcOnly Departure.lateStores }], guard := none }) (v := ?tq5x6) rfl (by kernel_rfl) (by kernel_rfl) (by kernel_rfl) (fun _ _ _ h => h) (Or.inl ⟨by rfl, ?uq5x6⟩) (by assumption) ?rq5x6
        case uq5x6 => (intro w hSw; (try dsimp only at hSw); go_simp; (try with_reducible rfl))
        simp only [Act.put, List.setIfInBounds_toArray, List.set_cons_zero, List.set_cons_succ]
        refine wpAnyH_take (i := 6) (oi := { dst := some 151, op := Op.move (Operand.tmp 16), type := 46, pos := _, after := #[], guard := none }) (v := ?tq5x7) rfl (by kernel_rfl) (by kernel_rfl) (by kernel_rfl) (fun _ _ _ h => h) (Or.inl ⟨by rfl, ?uq5x7⟩) (by assumption) ?rq5x7
        case uq5x7 => (intro w hSw; (try dsimp only at hSw); go_simp; (try with_reducible rfl))
        simp only [Act.put, List.setIfInBounds_toArray, List.set_cons_zero, List.set_cons_succ]
        refine wpAnyH_take (i := 7) (oi := { dst := some 152, op := Op.binOp BinOp.add 46 (Operand.tmp 151) (Operand.const (Value.int IntKind.u32 1)) 46, type := 46, pos := _, after := #[{ on := 6, ground := Ground.data }], guard := none }) (v := ?tq5x8) rfl (by kernel_rfl) (by kernel_rfl) (by kernel_rfl) (fun _ _ _ h => h) (Or.inl ⟨by rfl, ?uq5x8⟩) (by assumption) ?rq5x8
        case uq5x8 => (intro w hSw; (try dsimp only at hSw); go_simp; (try with_reducible rfl))
        simp only [Act.put, List.setIfInBounds_toArray, List.set_cons_zero, List.set_cons_succ]
        refine wpAnyH_take (i := 8) (oi := { dst := some 153, op := Op.index 9 (Operand.const (Value.string smS)) (Operand.tmp 152), type := 5, pos := _, after := #[{ on := 7, ground := Ground.data }], guard := none }) (v := ?tq5x9) rfl (by kernel_rfl) (by kernel_rfl) (by kernel_rfl) (fun _ _ _ h => h) (Or.inl ⟨by rfl, ?uq5x9⟩) (by assumption) ?rq5x9
        case uq5x9 => (intro w hSw; (try dsimp only at hSw); go_simp; rw [dif_pos (by rw [smS_size]; first | omega | (rw [u32w _ (by omega) (by omega)]; omega))]; rfl)
        simp only [Act.put, List.setIfInBounds_toArray, List.set_cons_zero, List.set_cons_succ]
        refine wpAnyH_take (i := 9) (oi := { dst := some 154, op := Op.move (Operand.tmp 16), type := 46, pos := _, after := #[], guard := none }) (v := ?tq5x10) rfl (by kernel_rfl) (by kernel_rfl) (by kernel_rfl) (fun _ _ _ h => h) (Or.inl ⟨by rfl, ?uq5x10⟩) (by assumption) ?rq5x10
        case uq5x10 => (intro w hSw; (try dsimp only at hSw); go_simp; (try with_reducible rfl))
        simp only [Act.put, List.setIfInBounds_toArray, List.set_cons_zero, List.set_cons_succ]
        refine wpAnyH_take (i := 10) (oi := { dst := some 155, op := Op.index 9 (Operand.const (Value.string smS)) (Operand.tmp 154), type := 5, pos := _, after := #[{ on := 9, ground := Ground.data }], guard := none }) (v := ?tq5x11) rfl (by kernel_rfl) (by kernel_rfl) (by kernel_rfl) (fun _ _ _ h => h) (Or.inl ⟨by rfl, ?uq5x11⟩) (by assumption) ?rq5x11
        case uq5x11 => (intro w hSw; (try dsimp only at hSw); go_simp; rw [dif_pos (by rw [smS_size]; first | omega | (rw [u32w _ (by omega) (by omega)]; omega))]; rfl)
        simp only [Act.put, List.setIfInBounds_toArray, List.set_cons_zero, List.set_cons_succ]
        refine wpAnyH_take (i := 11) (oi := { dst := some 156, op := Op.indexAddr 146 (Operand.tmp 145) (Operand.tmp 147), type := 0, pos := _, after := #[{ on := 0, ground := Ground.data }, { on := 2, ground := Ground.data }, { on := 0, ground := Ground.phase }, { on := 1, ground := Ground.phase }, { on := 2, ground := Ground.phase }, { on := 3, ground := Ground.textOnly Departure.lateStores }, { on := 4, ground := Ground.textOnly Departure.lateStores }, { on := 5, ground := Ground.textOnly Departure.lateStores }, { on := 6, ground := Ground.phase }, { on := 7, ground := Ground.phase }, { on := 8, ground := Ground.phase }, { on := 9, ground := Ground.textOnly Departure.lateStores }, { on := 10, ground := Ground.textOnly Departure.lateStoresUnsure }], guard := none }) (v := .pointer (some ⟨B, off + 1, none⟩)) rfl (by kernel_rfl) (by kernel_rfl) (by kernel_rfl) (fun _ _ _ h => h) (Or.inl ⟨by rfl, ?uq5x12⟩) (by assumption) ?rq5x12
        case uq5x12 => (intro w hSw; (try dsimp only at hSw); go_simp; rw [show IntKind.i64.wrap 1 = 1 from (by decide)]; first | (rw [if_pos (by omega)]; first | rfl | simp) | (intro h9; exfalso; omega))
        simp only [Act.put, List.setIfInBounds_toArray, List.set_cons_zero, List.set_cons_succ]
        refine wpAnyH_ready (rs := [12]) (by kernel_rfl) (by simp) ?_
        refine AllReadyH.cons (o := { dst := none, op := Op.store 5 (Operand.tmp 156) (Operand.tmp 153), type := 0, pos := _, after := #[{ on := 11, ground := Ground.data }, { on := 8, ground := Ground.data }, { on := 0, ground := Ground.phase }, { on := 1, ground := Ground.phase }, { on := 2, ground := Ground.phase }, { on := 3, ground := Ground.textOnly Departure.lateStores }, { on := 4, ground := Ground.textOnly Departure.lateStores }, { on := 5, ground := Ground.textOnly Departure.lateStores }, { on := 6, ground := Ground.phase }, { on := 7, ground := Ground.phase }, { on := 8, ground := Ground.phase }, { on := 9, ground := Ground.textOnly Departure.lateStores }, { on := 10, ground := Ground.textOnly Departure.lateStoresUnsure }], guard := none }) rfl (fun K hK => ?_) AllReadyH.nil
        obtain ⟨b15, c15⟩ := Bu.c h14.u (j := off + 1) (by omega)
        have z15 := Bu.f h14.u
        go_simp
        refine hK.out _ _ trivial (fun hH15 => ?_)
        generalize hW15 : World.setCell w14 _ _ = W15
        have h15 := Bq.put h14 hW15
        clear hW15 c15 z15
        clear hK K
        (try simp only [Act.put, List.setIfInBounds_toArray, List.set_cons_zero, List.set_cons_succ])
        refine wpAnyH_take (i := 13) (oi := { dst := some 157, op := Op.indexAddr 146 (Operand.tmp 148) (Operand.tmp 150), type := 0, pos := _, after := #[{ on := 3, ground := Ground.data }, { on := 5, ground := Ground.data }, { on := 0, ground := Ground.phase }, { on := 1, ground := Ground.phase }, { on := 2, ground := Ground.phase }, { on := 3, ground := Ground.phase }, { on := 4, ground := Ground.phase }, { on := 5, ground := Ground.phase }, { on := 6, ground := Ground.phase }, { on := 7, ground := Ground.phase }, { on := 8, ground := Ground.phase }, { on := 9, ground := Ground.phase }, { on := 10, ground := Ground.phase }, { on := 11, ground := Ground.phase }, { on := 12, ground := Ground.phase }], guard := none }) (v := .pointer (some ⟨B, off, none⟩)) rfl (by kernel_rfl) (by kernel_rfl) (by kernel_rfl) (fun _ _ _ h => h) (Or.inl ⟨by rfl, ?uq5x13⟩) (by assumption) ?rq5x13
        case uq5x13 => (intro w hSw; (try dsimp only at hSw); go_simp; rw [show IntKind.i64.wrap 0 = 0 from (by decide)]; first | (rw [if_pos (by omega)]; first | rfl | simp) | (intro h9; exfalso; omega))
        simp only [Act.put, List.setIfInBounds_toArray, List.set_cons_zero, List.set_cons_succ]
        refine wpAnyH_ready (rs := [14]) (by kernel_rfl) (by simp) ?_
        refine AllReadyH.cons (o := { dst := none, op := Op.store 5 (Operand.tmp 157) (Operand.tmp 155), type := 0, pos := _, after := #[{ on := 13, ground := Ground.data }, { on := 10, ground := Ground.data }, { on := 12, ground := Ground.chain }, { on := 0, ground := Ground.phase }, { on := 1, ground := Ground.phase }, { on := 2, ground := Ground.phase }, { on := 3, ground := Ground.phase }, { on := 4, ground := Ground.phase }, { on := 5, ground := Ground.phase }, { on := 6, ground := Ground.phase }, { on := 7, ground := Ground.phase }, { on := 8, ground := Ground.phase }, { on := 9, ground := Ground.phase }, { on := 10, ground := Ground.phase }, { on := 11, ground := Ground.phase }, { on := 12, ground := Ground.phase }], guard := none }) rfl (fun K hK => ?_) AllReadyH.nil
        obtain ⟨b16, c16⟩ := Bu.c h15.u (j := off) (by omega)
        have z16 := Bu.f h15.u
        go_simp
        refine hK.out _ _ trivial (fun hH16 => ?_)
        generalize hW16 : World.setCell W15 _ _ = W16
        have h16 := Bq.put h15 hW16
        clear hW16 c16 z16
        clear hK K
        (try simp only [Act.put, List.setIfInBounds_toArray, List.set_cons_zero, List.set_cons_succ])
        refine wpAnyH_done (by kernel_rfl) ?_ _
        go_wp2_with fail
        exact ⟨rfl, .tuple #[], by simp [results, Tryz.results96, go_sem], rfl, h16⟩
      · obtain rfl : d = 3 := hd8
        go_wp2_with fail
        have h17 := hb.drew
        refine wp_region_held_drew (S := fun _ => True) (by kernel_rfl) trivial (fun hHeld17 => ?_)
        generalize wr.drew = w17 at *
        refine wpAnyH_take (i := 0) (oi := { dst := some 145, op := Op.move (Operand.tmp 0), type := 146, pos := _, after := #[], guard := none }) (v := ?tq6x1) rfl (by kernel_rfl) (by kernel_rfl) (by kernel_rfl) (fun _ _ _ h => h) (Or.inl ⟨by rfl, ?uq6x1⟩) (by assumption) ?rq6x1
        case uq6x1 => (intro w hSw; (try dsimp only at hSw); go_simp; (try with_reducible rfl))
        simp only [Act.put, List.setIfInBounds_toArray, List.set_cons_zero, List.set_cons_succ]
        refine wpAnyH_take (i := 1) (oi := { dst := some 146, op := Op.move (Operand.tmp 4), type := 3, pos := _, after := #[], guard := none }) (v := ?tq6x2) rfl (by kernel_rfl) (by kernel_rfl) (by kernel_rfl) (fun _ _ _ h => h) (Or.inl ⟨by rfl, ?uq6x2⟩) (by assumption) ?rq6x2
        case uq6x2 => (intro w hSw; (try dsimp only at hSw); go_simp; (try with_reducible rfl))
        simp only [Act.put, List.setIfInBounds_toArray, List.set_cons_zero, List.set_cons_succ]
        refine wpAnyH_take (i := 2) (oi := { dst := some 147, op := Op.binOp BinOp.sub 3 (Operand.tmp 146) (Operand.const (Value.int IntKind.i64 1)) 3, type := 3, pos := _, after := #[{ on := 1, ground := Ground.data }], guard := none }) (v := ?tq6x3) rfl (by kernel_rfl) (by kernel_rfl) (by kernel_rfl) (fun _ _ _ h => h) (Or.inl ⟨by rfl, ?uq6x3⟩) (by assumption) ?rq6x3
        case uq6x3 => (intro w hSw; (try dsimp only at hSw); go_simp; (try with_reducible rfl))
        simp only [Act.put, List.setIfInBounds_toArray, List.set_cons_zero, List.set_cons_succ]
        refine wpAnyH_take (i := 3) (oi := { dst := some 148, op := Op.move (Operand.tmp 0), type := 146, pos := _, after := #[{ on := 12, ground := Ground.gcOnly Departure.lateStores }], guard := none }) (v := ?tq6x4) rfl (by kernel_rfl) (by kernel_rfl) (by kernel_rfl) (fun _ _ _ h => h) (Or.inl ⟨by rfl, ?uq6x4⟩) (by assumption) ?rq6x4
        case uq6x4 => (intro w hSw; (try dsimp only at hSw); go_simp; (try with_reducible rfl))
        simp only [Act.put, List.setIfInBounds_toArray, List.set_cons_zero, List.set_cons_succ]
        refine wpAnyH_take (i := 4) (oi := { dst := some 149, op := Op.move (Operand.tmp 4), type := 3, pos := _, after := #[{ on := 12, ground := Ground.gcOnly Departure.lateStores }], guard := none }) (v := ?tq6x5) rfl (by kernel_rfl) (by kernel_rfl) (by kernel_rfl) (fun _ _ _ h => h) (Or.inl ⟨by rfl, ?uq6x5⟩) (by assumption) ?rq6x5
        case uq6x5 => (intro w hSw; (try dsimp only at hSw); go_simp; (try with_reducible rfl))
        simp only [Act.put, List.setIfInBounds_toArray, List.set_cons_zero, List.set_cons_succ]
        refine wpAnyH_take (i := 5) (oi := { dst := some 150, op := Op.binOp BinOp.sub 3 (Operand.tmp 149) (Operand.const (Value.int IntKind.i64 2)) 3, type := 3, pos := _, after := #[{ on := 4, ground := Ground.data }, { on := 12, ground := Ground.gcOnly Departure.lateStores }], guard := none }) (v := ?tq6x6) rfl (by kernel_rfl) (by kernel_rfl) (by kernel_rfl) (fun _ _ _ h => h) (Or.inl ⟨by rfl, ?uq6x6⟩) (by assumption) ?rq6x6
        case uq6x6 => (intro w hSw; (try dsimp only at hSw); go_simp; (try with_reducible rfl))
        simp only [Act.put, List.setIfInBounds_toArray, List.set_cons_zero, List.set_cons_succ]
        refine wpAnyH_take (i := 6) (oi := { dst := some 151, op := Op.move (Operand.tmp 16), type := 46, pos := _, after := #[], guard := none }) (v := ?tq6x7) rfl (by kernel_rfl) (by kernel_rfl) (by kernel_rfl) (fun _ _ _ h => h) (Or.inl ⟨by rfl, ?uq6x7⟩) (by assumption) ?rq6x7
        case uq6x7 => (intro w hSw; (try dsimp only at hSw); go_simp; (try with_reducible rfl))
        simp only [Act.put, List.setIfInBounds_toArray, List.set_cons_zero, List.set_cons_succ]
        refine wpAnyH_take (i := 7) (oi := { dst := some 152, op := Op.binOp BinOp.add 46 (Operand.tmp 151) (Operand.const (Value.int IntKind.u32 1)) 46, type := 46, pos := _, after := #[{ on := 6, ground := Ground.data }], guard := none }) (v := ?tq6x8) rfl (by kernel_rfl) (by kernel_rfl) (by kernel_rfl) (fun _ _ _ h => h) (Or.inl ⟨by rfl, ?uq6x8⟩) (by assumption) ?rq6x8
        case uq6x8 => (intro w hSw; (try dsimp only at hSw); go_simp; (try with_reducible rfl))
        simp only [Act.put, List.setIfInBounds_toArray, List.set_cons_zero, List.set_cons_succ]
        refine wpAnyH_take (i := 8) (oi := { dst := some 153, op := Op.index 9 (Operand.const (Value.string smS)) (Operand.tmp 152), type := 5, pos := _, after := #[{ on := 7, ground := Ground.data }], guard := none }) (v := ?tq6x9) rfl (by kernel_rfl) (by kernel_rfl) (by kernel_rfl) (fun _ _ _ h => h) (Or.inl ⟨by rfl, ?uq6x9⟩) (by assumption) ?rq6x9
        case uq6x9 => (intro w hSw; (try dsimp only at hSw); go_simp; rw [dif_pos (by rw [smS_size]; first | omega | (rw [u32w _ (by omega) (by omega)]; omega))]; rfl)
        simp only [Act.put, List.setIfInBounds_toArray, List.set_cons_zero, List.set_cons_succ]
        refine wpAnyH_take (i := 9) (oi := { dst := some 154, op := Op.move (Operand.tmp 16), type := 46, pos := _, after := #[], guard := none }) (v := ?tq6x10) rfl (by kernel_rfl) (by kernel_rfl) (by kernel_rfl) (fun _ _ _ h => h) (Or.inl ⟨by rfl, ?uq6x10⟩) (by assumption) ?rq6x10
        case uq6x10 => (intro w hSw; (try dsimp only at hSw); go_simp; (try with_reducible rfl))
        simp only [Act.put, List.setIfInBounds_toArray, List.set_cons_zero, List.set_cons_succ]
        refine wpAnyH_take (i := 10) (oi := { dst := some 155, op := Op.index 9 (Operand.const (Value.string smS)) (Operand.tmp 154), type := 5, pos := _, after := #[{ on := 9, ground := Ground.data }], guard := none }) (v := ?tq6x11) rfl (by kernel_rfl) (by kernel_rfl) (by kernel_rfl) (fun _ _ _ h => h) (Or.inl ⟨by rfl, ?uq6x11⟩) (by assumption) ?rq6x11
        case uq6x11 => (intro w hSw; (try dsimp only at hSw); go_simp; rw [dif_pos (by rw [smS_size]; first | omega | (rw [u32w _ (by omega) (by omega)]; omega))]; rfl)
        simp only [Act.put, List.setIfInBounds_toArray, List.set_cons_zero, List.set_cons_succ]
        refine wpAnyH_take (i := 11) (oi := { dst := some 156, op := Op.indexAddr 146 (Operand.tmp 145) (Operand.tmp 147), type := 0, pos := _, after := #[{ on := 0, ground := Ground.data }, { on := 2, ground := Ground.data }, { on := 0, ground := Ground.phase }, { on := 1, ground := Ground.phase }, { on := 2, ground := Ground.phase }, { on := 3, ground := Ground.textOnly Departure.lateStores }, { on := 4, ground := Ground.textOnly Departure.lateStores }, { on := 5, ground := Ground.textOnly Departure.lateStores }, { on := 6, ground := Ground.phase }, { on := 7, ground := Ground.phase }, { on := 8, ground := Ground.phase }, { on := 9, ground := Ground.textOnly Departure.lateStores }, { on := 10, ground := Ground.textOnly Departure.lateStoresUnsure }], guard := none }) (v := .pointer (some ⟨B, off + 2, none⟩)) rfl (by kernel_rfl) (by kernel_rfl) (by kernel_rfl) (fun _ _ _ h => h) (Or.inl ⟨by rfl, ?uq6x12⟩) (by assumption) ?rq6x12
        case uq6x12 => (intro w hSw; (try dsimp only at hSw); go_simp; rw [show IntKind.i64.wrap 2 = 2 from (by decide)]; first | (rw [if_pos (by omega)]; first | rfl | simp) | (intro h9; exfalso; omega))
        simp only [Act.put, List.setIfInBounds_toArray, List.set_cons_zero, List.set_cons_succ]
        refine wpAnyH_ready (rs := [12]) (by kernel_rfl) (by simp) ?_
        refine AllReadyH.cons (o := { dst := none, op := Op.store 5 (Operand.tmp 156) (Operand.tmp 153), type := 0, pos := _, after := #[{ on := 11, ground := Ground.data }, { on := 8, ground := Ground.data }, { on := 0, ground := Ground.phase }, { on := 1, ground := Ground.phase }, { on := 2, ground := Ground.phase }, { on := 3, ground := Ground.textOnly Departure.lateStores }, { on := 4, ground := Ground.textOnly Departure.lateStores }, { on := 5, ground := Ground.textOnly Departure.lateStores }, { on := 6, ground := Ground.phase }, { on := 7, ground := Ground.phase }, { on := 8, ground := Ground.phase }, { on := 9, ground := Ground.textOnly Departure.lateStores }, { on := 10, ground := Ground.textOnly Departure.lateStoresUnsure }], guard := none }) rfl (fun K hK => ?_) AllReadyH.nil
        obtain ⟨b18, c18⟩ := Bu.c h17.u (j := off + 2) (by omega)
        have z18 := Bu.f h17.u
        go_simp
        refine hK.out _ _ trivial (fun hH18 => ?_)
        generalize hW18 : World.setCell w17 _ _ = W18
        have h18 := Bq.put h17 hW18
        clear hW18 c18 z18
        clear hK K
        (try simp only [Act.put, List.setIfInBounds_toArray, List.set_cons_zero, List.set_cons_succ])
        refine wpAnyH_take (i := 13) (oi := { dst := some 157, op := Op.indexAddr 146 (Operand.tmp 148) (Operand.tmp 150), type := 0, pos := _, after := #[{ on := 3, ground := Ground.data }, { on := 5, ground := Ground.data }, { on := 0, ground := Ground.phase }, { on := 1, ground := Ground.phase }, { on := 2, ground := Ground.phase }, { on := 3, ground := Ground.phase }, { on := 4, ground := Ground.phase }, { on := 5, ground := Ground.phase }, { on := 6, ground := Ground.phase }, { on := 7, ground := Ground.phase }, { on := 8, ground := Ground.phase }, { on := 9, ground := Ground.phase }, { on := 10, ground := Ground.phase }, { on := 11, ground := Ground.phase }, { on := 12, ground := Ground.phase }], guard := none }) (v := .pointer (some ⟨B, off + 1, none⟩)) rfl (by kernel_rfl) (by kernel_rfl) (by kernel_rfl) (fun _ _ _ h => h) (Or.inl ⟨by rfl, ?uq6x13⟩) (by assumption) ?rq6x13
        case uq6x13 => (intro w hSw; (try dsimp only at hSw); go_simp; rw [show IntKind.i64.wrap 1 = 1 from (by decide)]; first | (rw [if_pos (by omega)]; first | rfl | simp) | (intro h9; exfalso; omega))
        simp only [Act.put, List.setIfInBounds_toArray, List.set_cons_zero, List.set_cons_succ]
        refine wpAnyH_ready (rs := [14]) (by kernel_rfl) (by simp) ?_
        refine AllReadyH.cons (o := { dst := none, op := Op.store 5 (Operand.tmp 157) (Operand.tmp 155), type := 0, pos := _, after := #[{ on := 13, ground := Ground.data }, { on := 10, ground := Ground.data }, { on := 12, ground := Ground.chain }, { on := 0, ground := Ground.phase }, { on := 1, ground := Ground.phase }, { on := 2, ground := Ground.phase }, { on := 3, ground := Ground.phase }, { on := 4, ground := Ground.phase }, { on := 5, ground := Ground.phase }, { on := 6, ground := Ground.phase }, { on := 7, ground := Ground.phase }, { on := 8, ground := Ground.phase }, { on := 9, ground := Ground.phase }, { on := 10, ground := Ground.phase }, { on := 11, ground := Ground.phase }, { on := 12, ground := Ground.phase }], guard := none }) rfl (fun K hK => ?_) AllReadyH.nil
        obtain ⟨b19, c19⟩ := Bu.c h18.u (j := off + 1) (by omega)
        have z19 := Bu.f h18.u
        go_simp
        refine hK.out _ _ trivial (fun hH19 => ?_)
        generalize hW19 : World.setCell W18 _ _ = W19
        have h19 := Bq.put h18 hW19
        clear hW19 c19 z19
        clear hK K
        (try simp only [Act.put, List.setIfInBounds_toArray, List.set_cons_zero, List.set_cons_succ])
        refine wpAnyH_done (by kernel_rfl) ?_ _
        obtain ⟨b20, c20⟩ := Bu.c h19.u (j := off) (by omega)
        have z20 := Bu.f h19.u
        go_wp2_with fail
        generalize hW20 : World.setCell W19 _ _ = W20
        have h20 := Bq.set h19 hW20 (by omega) (by omega)
        clear hW20 c20 z20
        exact ⟨rfl, .tuple #[], by simp [results, Tryz.results96, go_sem], rfl, h20⟩
      · obtain rfl : d = 4 := hd8
        go_wp2_with fail
        have h21 := hb.drew
        refine wp_region_held_drew (S := fun _ => True) (by kernel_rfl) trivial (fun hHeld21 => ?_)
        generalize wr.drew = w21 at *
        refine wpAnyH_take (i := 0) (oi := { dst := some 110, op := Op.move (Operand.tmp 0), type := 146, pos := _, after := #[], guard := none }) (v := ?tq7x1) rfl (by kernel_rfl) (by kernel_rfl) (by kernel_rfl) (fun _ _ _ h => h) (Or.inl ⟨by rfl, ?uq7x1⟩) (by assumption) ?rq7x1
        case uq7x1 => (intro w hSw; (try dsimp only at hSw); go_simp; (try with_reducible rfl))
        simp only [Act.put, List.setIfInBounds_toArray, List.set_cons_zero, List.set_cons_succ]
        refine wpAnyH_take (i := 1) (oi := { dst := some 111, op := Op.move (Operand.tmp 4), type := 3, pos := _, after := #[], guard := none }) (v := ?tq7x2) rfl (by kernel_rfl) (by kernel_rfl) (by kernel_rfl) (fun _ _ _ h => h) (Or.inl ⟨by rfl, ?uq7x2⟩) (by assumption) ?rq7x2
        case uq7x2 => (intro w hSw; (try dsimp only at hSw); go_simp; (try with_reducible rfl))
        simp only [Act.put, List.setIfInBounds_toArray, List.set_cons_zero, List.set_cons_succ]
        refine wpAnyH_take (i := 2) (oi := { dst := some 112, op := Op.binOp BinOp.sub 3 (Operand.tmp 111) (Operand.const (Value.int IntKind.i64 1)) 3, type := 3, pos := _, after := #[{ on := 1, ground := Ground.data }], guard := none }) (v := ?tq7x3) rfl (by kernel_rfl) (by kernel_rfl) (by kernel_rfl) (fun _ _ _ h => h) (Or.inl ⟨by rfl, ?uq7x3⟩) (by assumption) ?rq7x3
        case uq7x3 => (intro w hSw; (try dsimp only at hSw); go_simp; (try with_reducible rfl))
        simp only [Act.put, List.setIfInBounds_toArray, List.set_cons_zero, List.set_cons_succ]
        refine wpAnyH_take (i := 3) (oi := { dst := some 113, op := Op.move (Operand.tmp 0), type := 146, pos := _, after := #[{ on := 12, ground := Ground.gcOnly Departure.lateStores }], guard := none }) (v := ?tq7x4) rfl (by kernel_rfl) (by kernel_rfl) (by kernel_rfl) (fun _ _ _ h => h) (Or.inl ⟨by rfl, ?uq7x4⟩) (by assumption) ?rq7x4
        case uq7x4 => (intro w hSw; (try dsimp only at hSw); go_simp; (try with_reducible rfl))
        simp only [Act.put, List.setIfInBounds_toArray, List.set_cons_zero, List.set_cons_succ]
        refine wpAnyH_take (i := 4) (oi := { dst := some 114, op := Op.move (Operand.tmp 4), type := 3, pos := _, after := #[{ on := 12, ground := Ground.gcOnly Departure.lateStores }], guard := none }) (v := ?tq7x5) rfl (by kernel_rfl) (by kernel_rfl) (by kernel_rfl) (fun _ _ _ h => h) (Or.inl ⟨by rfl, ?uq7x5⟩) (by assumption) ?rq7x5
        case uq7x5 => (intro w hSw; (try dsimp only at hSw); go_simp; (try with_reducible rfl))
        simp only [Act.put, List.setIfInBounds_toArray, List.set_cons_zero, List.set_cons_succ]
        refine wpAnyH_take (i := 5) (oi := { dst := some 115, op := Op.binOp BinOp.sub 3 (Operand.tmp 114) (Operand.const (Value.int IntKind.i64 2)) 3, type := 3, pos := _, after := #[{ on := 4, ground := Ground.data }, { on := 12, ground := Ground.gcOnly Departure.lateStores }], guard := none }) (v := ?tq7x6) rfl (by kernel_rfl) (by kernel_rfl) (by kernel_rfl) (fun _ _ _ h => h) (Or.inl ⟨by rfl, ?uq7x6⟩) (by assumption) ?rq7x6
        case uq7x6 => (intro w hSw; (try dsimp only at hSw); go_simp; (try with_reducible rfl))
        simp only [Act.put, List.setIfInBounds_toArray, List.set_cons_zero, List.set_cons_succ]
        refine wpAnyH_take (i := 6) (oi := { dst := some 116, op := Op.move (Operand.tmp 15), type := 46, pos := _, after := #[], guard := none }) (v := ?tq7x7) rfl (by kernel_rfl) (by kernel_rfl) (by kernel_rfl) (fun _ _ _ h => h) (Or.inl ⟨by rfl, ?uq7x7⟩) (by assumption) ?rq7x7
        case uq7x7 => (intro w hSw; (try dsimp only at hSw); go_simp; (try with_reducible rfl))
        simp only [Act.put, List.setIfInBounds_toArray, List.set_cons_zero, List.set_cons_succ]
        refine wpAnyH_take (i := 7) (oi := { dst := some 117, op := Op.binOp BinOp.add 46 (Operand.tmp 116) (Operand.const (Value.int IntKind.u32 1)) 46, type := 46, pos := _, after := #[{ on := 6, ground := Ground.data }], guard := none }) (v := ?tq7x8) rfl (by kernel_rfl) (by kernel_rfl) (by kernel_rfl) (fun _ _ _ h => h) (Or.inl ⟨by rfl, ?uq7x8⟩) (by assumption) ?rq7x8
        case uq7x8 => (intro w hSw; (try dsimp only at hSw); go_simp; (try with_reducible rfl))
        simp only [Act.put, List.setIfInBounds_toArray, List.set_cons_zero, List.set_cons_succ]
        refine wpAnyH_take (i := 8) (oi := { dst := some 118, op := Op.index 9 (Operand.const (Value.string smS)) (Operand.tmp 117), type := 5, pos := _, after := #[{ on := 7, ground := Ground.data }], guard := none }) (v := ?tq7x9) rfl (by kernel_rfl) (by kernel_rfl) (by kernel_rfl) (fun _ _ _ h => h) (Or.inl ⟨by rfl, ?uq7x9⟩) (by assumption) ?rq7x9
        case uq7x9 => (intro w hSw; (try dsimp only at hSw); go_simp; rw [dif_pos (by rw [smS_size]; first | omega | (rw [u32w _ (by omega) (by omega)]; omega))]; rfl)
        simp only [Act.put, List.setIfInBounds_toArray, List.set_cons_zero, List.set_cons_succ]
        refine wpAnyH_take (i := 9) (oi := { dst := some 119, op := Op.move (Operand.tmp 15), type := 46, pos := _, after := #[], guard := none }) (v := ?tq7x10) rfl (by kernel_rfl) (by kernel_rfl) (by kernel_rfl) (fun _ _ _ h => h) (Or.inl ⟨by rfl, ?uq7x10⟩) (by assumption) ?rq7x10
        case uq7x10 => (intro w hSw; (try dsimp only at hSw); go_simp; (try with_reducible rfl))
        simp only [Act.put, List.setIfInBounds_toArray, List.set_cons_zero, List.set_cons_succ]
        refine wpAnyH_take (i := 10) (oi := { dst := some 120, op := Op.index 9 (Operand.const (Value.string smS)) (Operand.tmp 119), type := 5, pos := _, after := #[{ on := 9, ground := Ground.data }], guard := none }) (v := ?tq7x11) rfl (by kernel_rfl) (by kernel_rfl) (by kernel_rfl) (fun _ _ _ h => h) (Or.inl ⟨by rfl, ?uq7x11⟩) (by assumption) ?rq7x11
        case uq7x11 => (intro w hSw; (try dsimp only at hSw); go_simp; rw [dif_pos (by rw [smS_size]; first | omega | (rw [u32w _ (by omega) (by omega)]; omega))]; rfl)
        simp only [Act.put, List.setIfInBounds_toArray, List.set_cons_zero, List.set_cons_succ]
        refine wpAnyH_take (i := 11) (oi := { dst := some 121, op := Op.indexAddr 146 (Operand.tmp 110) (Operand.tmp 112), type := 0, pos := _, after := #[{ on := 0, ground := Ground.data }, { on := 2, ground := Ground.data }, { on := 0, ground := Ground.phase }, { on := 1, ground := Ground.phase }, { on := 2, ground := Ground.phase }, { on := 3, ground := Ground.textOnly Departure.lateStores }, { on := 4, ground := Ground.textOnly Departure.lateStores }, { on := 5, ground := Ground.textOnly Departure.lateStores }, { on := 6, ground := Ground.phase }, { on := 7, ground := Ground.phase }, { on := 8, ground := Ground.phase }, { on := 9, ground := Ground.textOnly Departure.lateStores }, { on := 10, ground := Ground.textOnly Departure.lateStoresUnsure }], guard := none }) (v := .pointer (some ⟨B, off + 3, none⟩)) rfl (by kernel_rfl) (by kernel_rfl) (by kernel_rfl) (fun _ _ _ h => h) (Or.inl ⟨by rfl, ?uq7x12⟩) (by assumption) ?rq7x12
        case uq7x12 => (intro w hSw; (try dsimp only at hSw); go_simp; rw [show IntKind.i64.wrap 3 = 3 from (by decide)]; first | (rw [if_pos (by omega)]; first | rfl | simp) | (intro h9; exfalso; omega))
        simp only [Act.put, List.setIfInBounds_toArray, List.set_cons_zero, List.set_cons_succ]
        refine wpAnyH_ready (rs := [12]) (by kernel_rfl) (by simp) ?_
        refine AllReadyH.cons (o := { dst := none, op := Op.store 5 (Operand.tmp 121) (Operand.tmp 118), type := 0, pos := _, after := #[{ on := 11, ground := Ground.data }, { on := 8, ground := Ground.data }, { on := 0, ground := Ground.phase }, { on := 1, ground := Ground.phase }, { on := 2, ground := Ground.phase }, { on := 3, ground := Ground.textOnly Departure.lateStores }, { on := 4, ground := Ground.textOnly Departure.lateStores }, { on := 5, ground := Ground.textOnly Departure.lateStores }, { on := 6, ground := Ground.phase }, { on := 7, ground := Ground.phase }, { on := 8, ground := Ground.phase }, { on := 9, ground := Ground.textOnly Departure.lateStores }, { on := 10, ground := Ground.textOnly Departure.lateStoresUnsure }], guard := none }) rfl (fun K hK => ?_) AllReadyH.nil
        obtain ⟨b22, c22⟩ := Bu.c h21.u (j := off + 3) (by omega)
        have z22 := Bu.f h21.u
        go_simp
        refine hK.out _ _ trivial (fun hH22 => ?_)
        generalize hW22 : World.setCell w21 _ _ = W22
        have h22 := Bq.put h21 hW22
        clear hW22 c22 z22
        clear hK K
        (try simp only [Act.put, List.setIfInBounds_toArray, List.set_cons_zero, List.set_cons_succ])
        refine wpAnyH_take (i := 13) (oi := { dst := some 122, op := Op.indexAddr 146 (Operand.tmp 113) (Operand.tmp 115), type := 0, pos := _, after := #[{ on := 3, ground := Ground.data }, { on := 5, ground := Ground.data }, { on := 0, ground := Ground.phase }, { on := 1, ground := Ground.phase }, { on := 2, ground := Ground.phase }, { on := 3, ground := Ground.phase }, { on := 4, ground := Ground.phase }, { on := 5, ground := Ground.phase }, { on := 6, ground := Ground.phase }, { on := 7, ground := Ground.phase }, { on := 8, ground := Ground.phase }, { on := 9, ground := Ground.phase }, { on := 10, ground := Ground.phase }, { on := 11, ground := Ground.phase }, { on := 12, ground := Ground.phase }], guard := none }) (v := .pointer (some ⟨B, off + 2, none⟩)) rfl (by kernel_rfl) (by kernel_rfl) (by kernel_rfl) (fun _ _ _ h => h) (Or.inl ⟨by rfl, ?uq7x13⟩) (by assumption) ?rq7x13
        case uq7x13 => (intro w hSw; (try dsimp only at hSw); go_simp; rw [show IntKind.i64.wrap 2 = 2 from (by decide)]; first | (rw [if_pos (by omega)]; first | rfl | simp) | (intro h9; exfalso; omega))
        simp only [Act.put, List.setIfInBounds_toArray, List.set_cons_zero, List.set_cons_succ]
        refine wpAnyH_ready (rs := [14]) (by kernel_rfl) (by simp) ?_
        refine AllReadyH.cons (o := { dst := none, op := Op.store 5 (Operand.tmp 122) (Operand.tmp 120), type := 0, pos := _, after := #[{ on := 13, ground := Ground.data }, { on := 10, ground := Ground.data }, { on := 12, ground := Ground.chain }, { on := 0, ground := Ground.phase }, { on := 1, ground := Ground.phase }, { on := 2, ground := Ground.phase }, { on := 3, ground := Ground.phase }, { on := 4, ground := Ground.phase }, { on := 5, ground := Ground.phase }, { on := 6, ground := Ground.phase }, { on := 7, ground := Ground.phase }, { on := 8, ground := Ground.phase }, { on := 9, ground := Ground.phase }, { on := 10, ground := Ground.phase }, { on := 11, ground := Ground.phase }, { on := 12, ground := Ground.phase }], guard := none }) rfl (fun K hK => ?_) AllReadyH.nil
        obtain ⟨b23, c23⟩ := Bu.c h22.u (j := off + 2) (by omega)
        have z23 := Bu.f h22.u
        go_simp
        refine hK.out _ _ trivial (fun hH23 => ?_)
        generalize hW23 : World.setCell W22 _ _ = W23
        have h23 := Bq.put h22 hW23
        clear hW23 c23 z23
        clear hK K
        (try simp only [Act.put, List.setIfInBounds_toArray, List.set_cons_zero, List.set_cons_succ])
        refine wpAnyH_done (by kernel_rfl) ?_ _
        go_wp2_with fail
        have h24 := h23.drew
        refine wp_region_held_drew (S := fun _ => True) (by kernel_rfl) trivial (fun hHeld24 => ?_)
        generalize W23.drew = w24 at *
        refine wpAnyH_take (i := 0) (oi := { dst := some 123, op := Op.move (Operand.tmp 0), type := 146, pos := _, after := #[], guard := none }) (v := ?tq8x1) rfl (by kernel_rfl) (by kernel_rfl) (by kernel_rfl) (fun _ _ _ h => h) (Or.inl ⟨by rfl, ?uq8x1⟩) (by assumption) ?rq8x1
        case uq8x1 => (intro w hSw; (try dsimp only at hSw); go_simp; (try with_reducible rfl))
        simp only [Act.put, List.setIfInBounds_toArray, List.set_cons_zero, List.set_cons_succ]
        refine wpAnyH_take (i := 1) (oi := { dst := some 124, op := Op.move (Operand.tmp 4), type := 3, pos := _, after := #[], guard := none }) (v := ?tq8x2) rfl (by kernel_rfl) (by kernel_rfl) (by kernel_rfl) (fun _ _ _ h => h) (Or.inl ⟨by rfl, ?uq8x2⟩) (by assumption) ?rq8x2
        case uq8x2 => (intro w hSw; (try dsimp only at hSw); go_simp; (try with_reducible rfl))
        simp only [Act.put, List.setIfInBounds_toArray, List.set_cons_zero, List.set_cons_succ]
        refine wpAnyH_take (i := 2) (oi := { dst := some 125, op := Op.binOp BinOp.sub 3 (Operand.tmp 124) (Operand.const (Value.int IntKind.i64 3)) 3, type := 3, pos := _, after := #[{ on := 1, ground := Ground.data }], guard := none }) (v := ?tq8x3) rfl (by kernel_rfl) (by kernel_rfl) (by kernel_rfl) (fun _ _ _ h => h) (Or.inl ⟨by rfl, ?uq8x3⟩) (by assumption) ?rq8x3
        case uq8x3 => (intro w hSw; (try dsimp only at hSw); go_simp; (try with_reducible rfl))
        simp only [Act.put, List.setIfInBounds_toArray, List.set_cons_zero, List.set_cons_succ]
        refine wpAnyH_take (i := 3) (oi := { dst := some 126, op := Op.move (Operand.tmp 0), type := 146, pos := _, after := #[{ on := 12, ground := Ground.gcOnly Departure.lateStores }], guard := none }) (v := ?tq8x4) rfl (by kernel_rfl) (by kernel_rfl) (by kernel_rfl) (fun _ _ _ h => h) (Or.inl ⟨by rfl, ?uq8x4⟩) (by assumption) ?rq8x4
        case uq8x4 => (intro w hSw; (try dsimp only at hSw); go_simp; (try with_reducible rfl))
        simp only [Act.put, List.setIfInBounds_toArray, List.set_cons_zero, List.set_cons_succ]
        refine wpAnyH_take (i := 4) (oi := { dst := some 127, op := Op.move (Operand.tmp 4), type := 3, pos := _, after := #[{ on := 12, ground := Ground.gcOnly Departure.lateStores }], guard := none }) (v := ?tq8x5) rfl (by kernel_rfl) (by kernel_rfl) (by kernel_rfl) (fun _ _ _ h => h) (Or.inl ⟨by rfl, ?uq8x5⟩) (by assumption) ?rq8x5
        case uq8x5 => (intro w hSw; (try dsimp only at hSw); go_simp; (try with_reducible rfl))
        simp only [Act.put, List.setIfInBounds_toArray, List.set_cons_zero, List.set_cons_succ]
        refine wpAnyH_take (i := 5) (oi := { dst := some 128, op := Op.binOp BinOp.sub 3 (Operand.tmp 127) (Operand.const (Value.int IntKind.i64 4)) 3, type := 3, pos := _, after := #[{ on := 4, ground := Ground.data }, { on := 12, ground := Ground.gcOnly Departure.lateStores }], guard := none }) (v := ?tq8x6) rfl (by kernel_rfl) (by kernel_rfl) (by kernel_rfl) (fun _ _ _ h => h) (Or.inl ⟨by rfl, ?uq8x6⟩) (by assumption) ?rq8x6
        case uq8x6 => (intro w hSw; (try dsimp only at hSw); go_simp; (try with_reducible rfl))
        simp only [Act.put, List.setIfInBounds_toArray, List.set_cons_zero, List.set_cons_succ]
        refine wpAnyH_take (i := 6) (oi := { dst := some 129, op := Op.move (Operand.tmp 14), type := 46, pos := _, after := #[], guard := none }) (v := ?tq8x7) rfl (by kernel_rfl) (by kernel_rfl) (by kernel_rfl) (fun _ _ _ h => h) (Or.inl ⟨by rfl, ?uq8x7⟩) (by assumption) ?rq8x7
        case uq8x7 => (intro w hSw; (try dsimp only at hSw); go_simp; (try with_reducible rfl))
        simp only [Act.put, List.setIfInBounds_toArray, List.set_cons_zero, List.set_cons_succ]
        refine wpAnyH_take (i := 7) (oi := { dst := some 130, op := Op.binOp BinOp.add 46 (Operand.tmp 129) (Operand.const (Value.int IntKind.u32 1)) 46, type := 46, pos := _, after := #[{ on := 6, ground := Ground.data }], guard := none }) (v := ?tq8x8) rfl (by kernel_rfl) (by kernel_rfl) (by kernel_rfl) (fun _ _ _ h => h) (Or.inl ⟨by rfl, ?uq8x8⟩) (by assumption) ?rq8x8
        case uq8x8 => (intro w hSw; (try dsimp only at hSw); go_simp; (try with_reducible rfl))
        simp only [Act.put, List.setIfInBounds_toArray, List.set_cons_zero, List.set_cons_succ]
        refine wpAnyH_take (i := 8) (oi := { dst := some 131, op := Op.index 9 (Operand.const (Value.string smS)) (Operand.tmp 130), type := 5, pos := _, after := #[{ on := 7, ground := Ground.data }], guard := none }) (v := ?tq8x9) rfl (by kernel_rfl) (by kernel_rfl) (by kernel_rfl) (fun _ _ _ h => h) (Or.inl ⟨by rfl, ?uq8x9⟩) (by assumption) ?rq8x9
        case uq8x9 => (intro w hSw; (try dsimp only at hSw); go_simp; rw [dif_pos (by rw [smS_size]; first | omega | (rw [u32w _ (by omega) (by omega)]; omega))]; rfl)
        simp only [Act.put, List.setIfInBounds_toArray, List.set_cons_zero, List.set_cons_succ]
        refine wpAnyH_take (i := 9) (oi := { dst := some 132, op := Op.move (Operand.tmp 14), type := 46, pos := _, after := #[], guard := none }) (v := ?tq8x10) rfl (by kernel_rfl) (by kernel_rfl) (by kernel_rfl) (fun _ _ _ h => h) (Or.inl ⟨by rfl, ?uq8x10⟩) (by assumption) ?rq8x10
        case uq8x10 => (intro w hSw; (try dsimp only at hSw); go_simp; (try with_reducible rfl))
        simp only [Act.put, List.setIfInBounds_toArray, List.set_cons_zero, List.set_cons_succ]
        refine wpAnyH_take (i := 10) (oi := { dst := some 133, op := Op.index 9 (Operand.const (Value.string smS)) (Operand.tmp 132), type := 5, pos := _, after := #[{ on := 9, ground := Ground.data }], guard := none }) (v := ?tq8x11) rfl (by kernel_rfl) (by kernel_rfl) (by kernel_rfl) (fun _ _ _ h => h) (Or.inl ⟨by rfl, ?uq8x11⟩) (by assumption) ?rq8x11
        case uq8x11 => (intro w hSw; (try dsimp only at hSw); go_simp; rw [dif_pos (by rw [smS_size]; first | omega | (rw [u32w _ (by omega) (by omega)]; omega))]; rfl)
        simp only [Act.put, List.setIfInBounds_toArray, List.set_cons_zero, List.set_cons_succ]
        refine wpAnyH_take (i := 11) (oi := { dst := some 134, op := Op.indexAddr 146 (Operand.tmp 123) (Operand.tmp 125), type := 0, pos := _, after := #[{ on := 0, ground := Ground.data }, { on := 2, ground := Ground.data }, { on := 0, ground := Ground.phase }, { on := 1, ground := Ground.phase }, { on := 2, ground := Ground.phase }, { on := 3, ground := Ground.textOnly Departure.lateStores }, { on := 4, ground := Ground.textOnly Departure.lateStores }, { on := 5, ground := Ground.textOnly Departure.lateStores }, { on := 6, ground := Ground.phase }, { on := 7, ground := Ground.phase }, { on := 8, ground := Ground.phase }, { on := 9, ground := Ground.textOnly Departure.lateStores }, { on := 10, ground := Ground.textOnly Departure.lateStoresUnsure }], guard := none }) (v := .pointer (some ⟨B, off + 1, none⟩)) rfl (by kernel_rfl) (by kernel_rfl) (by kernel_rfl) (fun _ _ _ h => h) (Or.inl ⟨by rfl, ?uq8x12⟩) (by assumption) ?rq8x12
        case uq8x12 => (intro w hSw; (try dsimp only at hSw); go_simp; rw [show IntKind.i64.wrap 1 = 1 from (by decide)]; first | (rw [if_pos (by omega)]; first | rfl | simp) | (intro h9; exfalso; omega))
        simp only [Act.put, List.setIfInBounds_toArray, List.set_cons_zero, List.set_cons_succ]
        refine wpAnyH_ready (rs := [12]) (by kernel_rfl) (by simp) ?_
        refine AllReadyH.cons (o := { dst := none, op := Op.store 5 (Operand.tmp 134) (Operand.tmp 131), type := 0, pos := _, after := #[{ on := 11, ground := Ground.data }, { on := 8, ground := Ground.data }, { on := 0, ground := Ground.phase }, { on := 1, ground := Ground.phase }, { on := 2, ground := Ground.phase }, { on := 3, ground := Ground.textOnly Departure.lateStores }, { on := 4, ground := Ground.textOnly Departure.lateStores }, { on := 5, ground := Ground.textOnly Departure.lateStores }, { on := 6, ground := Ground.phase }, { on := 7, ground := Ground.phase }, { on := 8, ground := Ground.phase }, { on := 9, ground := Ground.textOnly Departure.lateStores }, { on := 10, ground := Ground.textOnly Departure.lateStoresUnsure }], guard := none }) rfl (fun K hK => ?_) AllReadyH.nil
        obtain ⟨b25, c25⟩ := Bu.c h24.u (j := off + 1) (by omega)
        have z25 := Bu.f h24.u
        go_simp
        refine hK.out _ _ trivial (fun hH25 => ?_)
        generalize hW25 : World.setCell w24 _ _ = W25
        have h25 := Bq.put h24 hW25
        clear hW25 c25 z25
        clear hK K
        (try simp only [Act.put, List.setIfInBounds_toArray, List.set_cons_zero, List.set_cons_succ])
        refine wpAnyH_take (i := 13) (oi := { dst := some 135, op := Op.indexAddr 146 (Operand.tmp 126) (Operand.tmp 128), type := 0, pos := _, after := #[{ on := 3, ground := Ground.data }, { on := 5, ground := Ground.data }, { on := 0, ground := Ground.phase }, { on := 1, ground := Ground.phase }, { on := 2, ground := Ground.phase }, { on := 3, ground := Ground.phase }, { on := 4, ground := Ground.phase }, { on := 5, ground := Ground.phase }, { on := 6, ground := Ground.phase }, { on := 7, ground := Ground.phase }, { on := 8, ground := Ground.phase }, { on := 9, ground := Ground.phase }, { on := 10, ground := Ground.phase }, { on := 11, ground := Ground.phase }, { on := 12, ground := Ground.phase }], guard := none }) (v := .pointer (some ⟨B, off, none⟩)) rfl (by kernel_rfl) (by kernel_rfl) (by kernel_rfl) (fun _ _ _ h => h) (Or.inl ⟨by rfl, ?uq8x13⟩) (by assumption) ?rq8x13
        case uq8x13 => (intro w hSw; (try dsimp only at hSw); go_simp; rw [show IntKind.i64.wrap 0 = 0 from (by decide)]; first | (rw [if_pos (by omega)]; first | rfl | simp) | (intro h9; exfalso; omega))
        simp only [Act.put, List.setIfInBounds_toArray, List.set_cons_zero, List.set_cons_succ]
        refine wpAnyH_ready (rs := [14]) (by kernel_rfl) (by simp) ?_
        refine AllReadyH.cons (o := { dst := none, op := Op.store 5 (Operand.tmp 135) (Operand.tmp 133), type := 0, pos := _, after := #[{ on := 13, ground := Ground.data }, { on := 10, ground := Ground.data }, { on := 12, ground := Ground.chain }, { on := 0, ground := Ground.phase }, { on := 1, ground := Ground.phase }, { on := 2, ground := Ground.phase }, { on := 3, ground := Ground.phase }, { on := 4, ground := Ground.phase }, { on := 5, ground := Ground.phase }, { on := 6, ground := Ground.phase }, { on := 7, ground := Ground.phase }, { on := 8, ground := Ground.phase }, { on := 9, ground := Ground.phase }, { on := 10, ground := Ground.phase }, { on := 11, ground := Ground.phase }, { on := 12, ground := Ground.phase }], guard := none }) rfl (fun K hK => ?_) AllReadyH.nil
        obtain ⟨b26, c26⟩ := Bu.c h25.u (j := off) (by omega)
        have z26 := Bu.f h25.u
        go_simp
        refine hK.out _ _ trivial (fun hH26 => ?_)
        generalize hW26 : World.setCell W25 _ _ = W26
        have h26 := Bq.put h25 hW26
        clear hW26 c26 z26
        clear hK K
        (try simp only [Act.put, List.setIfInBounds_toArray, List.set_cons_zero, List.set_cons_succ])
        refine wpAnyH_done (by kernel_rfl) ?_ _
        go_wp2_with fail
        exact ⟨rfl, .tuple #[], by simp [results, Tryz.results96, go_sem], rfl, h26⟩
      · obtain rfl : d = 5 := hd8
        go_wp2_with fail
        have h27 := hb.drew
        refine wp_region_held_drew (S := fun _ => True) (by kernel_rfl) trivial (fun hHeld27 => ?_)
        generalize wr.drew = w27 at *
        refine wpAnyH_take (i := 0) (oi := { dst := some 110, op := Op.move (Operand.tmp 0), type := 146, pos := _, after := #[], guard := none }) (v := ?tq9x1) rfl (by kernel_rfl) (by kernel_rfl) (by kernel_rfl) (fun _ _ _ h => h) (Or.inl ⟨by rfl, ?uq9x1⟩) (by assumption) ?rq9x1
        case uq9x1 => (intro w hSw; (try dsimp only at hSw); go_simp; (try with_reducible rfl))
        simp only [Act.put, List.setIfInBounds_toArray, List.set_cons_zero, List.set_cons_succ]
        refine wpAnyH_take (i := 1) (oi := { dst := some 111, op := Op.move (Operand.tmp 4), type := 3, pos := _, after := #[], guard := none }) (v := ?tq9x2) rfl (by kernel_rfl) (by kernel_rfl) (by kernel_rfl) (fun _ _ _ h => h) (Or.inl ⟨by rfl, ?uq9x2⟩) (by assumption) ?rq9x2
        case uq9x2 => (intro w hSw; (try dsimp only at hSw); go_simp; (try with_reducible rfl))
        simp only [Act.put, List.setIfInBounds_toArray, List.set_cons_zero, List.set_cons_succ]
        refine wpAnyH_take (i := 2) (oi := { dst := some 112, op := Op.binOp BinOp.sub 3 (Operand.tmp 111) (Operand.const (Value.int IntKind.i64 1)) 3, type := 3, pos := _, after := #[{ on := 1, ground := Ground.data }], guard := none }) (v := ?tq9x3) rfl (by kernel_rfl) (by kernel_rfl) (by kernel_rfl) (fun _ _ _ h => h) (Or.inl ⟨by rfl, ?uq9x3⟩) (by assumption) ?rq9x3
        case uq9x3 => (intro w hSw; (try dsimp only at hSw); go_simp; (try with_reducible rfl))
        simp only [Act.put, List.setIfInBounds_toArray, List.set_cons_zero, List.set_cons_succ]
        refine wpAnyH_take (i := 3) (oi := { dst := some 113, op := Op.move (Operand.tmp 0), type := 146, pos := _, after := #[{ on := 12, ground := Ground.gcOnly Departure.lateStores }], guard := none }) (v := ?tq9x4) rfl (by kernel_rfl) (by kernel_rfl) (by kernel_rfl) (fun _ _ _ h => h) (Or.inl ⟨by rfl, ?uq9x4⟩) (by assumption) ?rq9x4
        case uq9x4 => (intro w hSw; (try dsimp only at hSw); go_simp; (try with_reducible rfl))
        simp only [Act.put, List.setIfInBounds_toArray, List.set_cons_zero, List.set_cons_succ]
        refine wpAnyH_take (i := 4) (oi := { dst := some 114, op := Op.move (Operand.tmp 4), type := 3, pos := _, after := #[{ on := 12, ground := Ground.gcOnly Departure.lateStores }], guard := none }) (v := ?tq9x5) rfl (by kernel_rfl) (by kernel_rfl) (by kernel_rfl) (fun _ _ _ h => h) (Or.inl ⟨by rfl, ?uq9x5⟩) (by assumption) ?rq9x5
        case uq9x5 => (intro w hSw; (try dsimp only at hSw); go_simp; (try with_reducible rfl))
        simp only [Act.put, List.setIfInBounds_toArray, List.set_cons_zero, List.set_cons_succ]
        refine wpAnyH_take (i := 5) (oi := { dst := some 115, op := Op.binOp BinOp.sub 3 (Operand.tmp 114) (Operand.const (Value.int IntKind.i64 2)) 3, type := 3, pos := _, after := #[{ on := 4, ground := Ground.data }, { on := 12, ground := Ground.gcOnly Departure.lateStores }], guard := none }) (v := ?tq9x6) rfl (by kernel_rfl) (by kernel_rfl) (by kernel_rfl) (fun _ _ _ h => h) (Or.inl ⟨by rfl, ?uq9x6⟩) (by assumption) ?rq9x6
        case uq9x6 => (intro w hSw; (try dsimp only at hSw); go_simp; (try with_reducible rfl))
        simp only [Act.put, List.setIfInBounds_toArray, List.set_cons_zero, List.set_cons_succ]
        refine wpAnyH_take (i := 6) (oi := { dst := some 116, op := Op.move (Operand.tmp 15), type := 46, pos := _, after := #[], guard := none }) (v := ?tq9x7) rfl (by kernel_rfl) (by kernel_rfl) (by kernel_rfl) (fun _ _ _ h => h) (Or.inl ⟨by rfl, ?uq9x7⟩) (by assumption) ?rq9x7
        case uq9x7 => (intro w hSw; (try dsimp only at hSw); go_simp; (try with_reducible rfl))
        simp only [Act.put, List.setIfInBounds_toArray, List.set_cons_zero, List.set_cons_succ]
        refine wpAnyH_take (i := 7) (oi := { dst := some 117, op := Op.binOp BinOp.add 46 (Operand.tmp 116) (Operand.const (Value.int IntKind.u32 1)) 46, type := 46, pos := _, after := #[{ on := 6, ground := Ground.data }], guard := none }) (v := ?tq9x8) rfl (by kernel_rfl) (by kernel_rfl) (by kernel_rfl) (fun _ _ _ h => h) (Or.inl ⟨by rfl, ?uq9x8⟩) (by assumption) ?rq9x8
        case uq9x8 => (intro w hSw; (try dsimp only at hSw); go_simp; (try with_reducible rfl))
        simp only [Act.put, List.setIfInBounds_toArray, List.set_cons_zero, List.set_cons_succ]
        refine wpAnyH_take (i := 8) (oi := { dst := some 118, op := Op.index 9 (Operand.const (Value.string smS)) (Operand.tmp 117), type := 5, pos := _, after := #[{ on := 7, ground := Ground.data }], guard := none }) (v := ?tq9x9) rfl (by kernel_rfl) (by kernel_rfl) (by kernel_rfl) (fun _ _ _ h => h) (Or.inl ⟨by rfl, ?uq9x9⟩) (by assumption) ?rq9x9
        case uq9x9 => (intro w hSw; (try dsimp only at hSw); go_simp; rw [dif_pos (by rw [smS_size]; first | omega | (rw [u32w _ (by omega) (by omega)]; omega))]; rfl)
        simp only [Act.put, List.setIfInBounds_toArray, List.set_cons_zero, List.set_cons_succ]
        refine wpAnyH_take (i := 9) (oi := { dst := some 119, op := Op.move (Operand.tmp 15), type := 46, pos := _, after := #[], guard := none }) (v := ?tq9x10) rfl (by kernel_rfl) (by kernel_rfl) (by kernel_rfl) (fun _ _ _ h => h) (Or.inl ⟨by rfl, ?uq9x10⟩) (by assumption) ?rq9x10
        case uq9x10 => (intro w hSw; (try dsimp only at hSw); go_simp; (try with_reducible rfl))
        simp only [Act.put, List.setIfInBounds_toArray, List.set_cons_zero, List.set_cons_succ]
        refine wpAnyH_take (i := 10) (oi := { dst := some 120, op := Op.index 9 (Operand.const (Value.string smS)) (Operand.tmp 119), type := 5, pos := _, after := #[{ on := 9, ground := Ground.data }], guard := none }) (v := ?tq9x11) rfl (by kernel_rfl) (by kernel_rfl) (by kernel_rfl) (fun _ _ _ h => h) (Or.inl ⟨by rfl, ?uq9x11⟩) (by assumption) ?rq9x11
        case uq9x11 => (intro w hSw; (try dsimp only at hSw); go_simp; rw [dif_pos (by rw [smS_size]; first | omega | (rw [u32w _ (by omega) (by omega)]; omega))]; rfl)
        simp only [Act.put, List.setIfInBounds_toArray, List.set_cons_zero, List.set_cons_succ]
        refine wpAnyH_take (i := 11) (oi := { dst := some 121, op := Op.indexAddr 146 (Operand.tmp 110) (Operand.tmp 112), type := 0, pos := _, after := #[{ on := 0, ground := Ground.data }, { on := 2, ground := Ground.data }, { on := 0, ground := Ground.phase }, { on := 1, ground := Ground.phase }, { on := 2, ground := Ground.phase }, { on := 3, ground := Ground.textOnly Departure.lateStores }, { on := 4, ground := Ground.textOnly Departure.lateStores }, { on := 5, ground := Ground.textOnly Departure.lateStores }, { on := 6, ground := Ground.phase }, { on := 7, ground := Ground.phase }, { on := 8, ground := Ground.phase }, { on := 9, ground := Ground.textOnly Departure.lateStores }, { on := 10, ground := Ground.textOnly Departure.lateStoresUnsure }], guard := none }) (v := .pointer (some ⟨B, off + 4, none⟩)) rfl (by kernel_rfl) (by kernel_rfl) (by kernel_rfl) (fun _ _ _ h => h) (Or.inl ⟨by rfl, ?uq9x12⟩) (by assumption) ?rq9x12
        case uq9x12 => (intro w hSw; (try dsimp only at hSw); go_simp; rw [show IntKind.i64.wrap 4 = 4 from (by decide)]; first | (rw [if_pos (by omega)]; first | rfl | simp) | (intro h9; exfalso; omega))
        simp only [Act.put, List.setIfInBounds_toArray, List.set_cons_zero, List.set_cons_succ]
        refine wpAnyH_ready (rs := [12]) (by kernel_rfl) (by simp) ?_
        refine AllReadyH.cons (o := { dst := none, op := Op.store 5 (Operand.tmp 121) (Operand.tmp 118), type := 0, pos := _, after := #[{ on := 11, ground := Ground.data }, { on := 8, ground := Ground.data }, { on := 0, ground := Ground.phase }, { on := 1, ground := Ground.phase }, { on := 2, ground := Ground.phase }, { on := 3, ground := Ground.textOnly Departure.lateStores }, { on := 4, ground := Ground.textOnly Departure.lateStores }, { on := 5, ground := Ground.textOnly Departure.lateStores }, { on := 6, ground := Ground.phase }, { on := 7, ground := Ground.phase }, { on := 8, ground := Ground.phase }, { on := 9, ground := Ground.textOnly Departure.lateStores }, { on := 10, ground := Ground.textOnly Departure.lateStoresUnsure }], guard := none }) rfl (fun K hK => ?_) AllReadyH.nil
        obtain ⟨b28, c28⟩ := Bu.c h27.u (j := off + 4) (by omega)
        have z28 := Bu.f h27.u
        go_simp
        refine hK.out _ _ trivial (fun hH28 => ?_)
        generalize hW28 : World.setCell w27 _ _ = W28
        have h28 := Bq.put h27 hW28
        clear hW28 c28 z28
        clear hK K
        (try simp only [Act.put, List.setIfInBounds_toArray, List.set_cons_zero, List.set_cons_succ])
        refine wpAnyH_take (i := 13) (oi := { dst := some 122, op := Op.indexAddr 146 (Operand.tmp 113) (Operand.tmp 115), type := 0, pos := _, after := #[{ on := 3, ground := Ground.data }, { on := 5, ground := Ground.data }, { on := 0, ground := Ground.phase }, { on := 1, ground := Ground.phase }, { on := 2, ground := Ground.phase }, { on := 3, ground := Ground.phase }, { on := 4, ground := Ground.phase }, { on := 5, ground := Ground.phase }, { on := 6, ground := Ground.phase }, { on := 7, ground := Ground.phase }, { on := 8, ground := Ground.phase }, { on := 9, ground := Ground.phase }, { on := 10, ground := Ground.phase }, { on := 11, ground := Ground.phase }, { on := 12, ground := Ground.phase }], guard := none }) (v := .pointer (some ⟨B, off + 3, none⟩)) rfl (by kernel_rfl) (by kernel_rfl) (by kernel_rfl) (fun _ _ _ h => h) (Or.inl ⟨by rfl, ?uq9x13⟩) (by assumption) ?rq9x13
        case uq9x13 => (intro w hSw; (try dsimp only at hSw); go_simp; rw [show IntKind.i64.wrap 3 = 3 from (by decide)]; first | (rw [if_pos (by omega)]; first | rfl | simp) | (intro h9; exfalso; omega))
        simp only [Act.put, List.setIfInBounds_toArray, List.set_cons_zero, List.set_cons_succ]
        refine wpAnyH_ready (rs := [14]) (by kernel_rfl) (by simp) ?_
        refine AllReadyH.cons (o := { dst := none, op := Op.store 5 (Operand.tmp 122) (Operand.tmp 120), type := 0, pos := _, after := #[{ on := 13, ground := Ground.data }, { on := 10, ground := Ground.data }, { on := 12, ground := Ground.chain }, { on := 0, ground := Ground.phase }, { on := 1, ground := Ground.phase }, { on := 2, ground := Ground.phase }, { on := 3, ground := Ground.phase }, { on := 4, ground := Ground.phase }, { on := 5, ground := Ground.phase }, { on := 6, ground := Ground.phase }, { on := 7, ground := Ground.phase }, { on := 8, ground := Ground.phase }, { on := 9, ground := Ground.phase }, { on := 10, ground := Ground.phase }, { on := 11, ground := Ground.phase }, { on := 12, ground := Ground.phase }], guard := none }) rfl (fun K hK => ?_) AllReadyH.nil
        obtain ⟨b29, c29⟩ := Bu.c h28.u (j := off + 3) (by omega)
        have z29 := Bu.f h28.u
        go_simp
        refine hK.out _ _ trivial (fun hH29 => ?_)
        generalize hW29 : World.setCell W28 _ _ = W29
        have h29 := Bq.put h28 hW29
        clear hW29 c29 z29
        clear hK K
        (try simp only [Act.put, List.setIfInBounds_toArray, List.set_cons_zero, List.set_cons_succ])
        refine wpAnyH_done (by kernel_rfl) ?_ _
        go_wp2_with fail
        have h30 := h29.drew
        refine wp_region_held_drew (S := fun _ => True) (by kernel_rfl) trivial (fun hHeld30 => ?_)
        generalize W29.drew = w30 at *
        refine wpAnyH_take (i := 0) (oi := { dst := some 123, op := Op.move (Operand.tmp 0), type := 146, pos := _, after := #[], guard := none }) (v := ?tq10x1) rfl (by kernel_rfl) (by kernel_rfl) (by kernel_rfl) (fun _ _ _ h => h) (Or.inl ⟨by rfl, ?uq10x1⟩) (by assumption) ?rq10x1
        case uq10x1 => (intro w hSw; (try dsimp only at hSw); go_simp; (try with_reducible rfl))
        simp only [Act.put, List.setIfInBounds_toArray, List.set_cons_zero, List.set_cons_succ]
        refine wpAnyH_take (i := 1) (oi := { dst := some 124, op := Op.move (Operand.tmp 4), type := 3, pos := _, after := #[], guard := none }) (v := ?tq10x2) rfl (by kernel_rfl) (by kernel_rfl) (by kernel_rfl) (fun _ _ _ h => h) (Or.inl ⟨by rfl, ?uq10x2⟩) (by assumption) ?rq10x2
        case uq10x2 => (intro w hSw; (try dsimp only at hSw); go_simp; (try with_reducible rfl))
        simp only [Act.put, List.setIfInBounds_toArray, List.set_cons_zero, List.set_cons_succ]
        refine wpAnyH_take (i := 2) (oi := { dst := some 125, op := Op.binOp BinOp.sub 3 (Operand.tmp 124) (Operand.const (Value.int IntKind.i64 3)) 3, type := 3, pos := _, after := #[{ on := 1, ground := Ground.data }], guard := none }) (v := ?tq10x3) rfl (by kernel_rfl) (by kernel_rfl) (by kernel_rfl) (fun _ _ _ h => h) (Or.inl ⟨by rfl, ?uq10x3⟩) (by assumption) ?rq10x3
        case uq10x3 => (intro w hSw; (try dsimp only at hSw); go_simp; (try with_reducible rfl))
        simp only [Act.put, List.setIfInBounds_toArray, List.set_cons_zero, List.set_cons_succ]
        refine wpAnyH_take (i := 3) (oi := { dst := some 126, op := Op.move (Operand.tmp 0), type := 146, pos := _, after := #[{ on := 12, ground := Ground.gcOnly Departure.lateStores }], guard := none }) (v := ?tq10x4) rfl (by kernel_rfl) (by kernel_rfl) (by kernel_rfl) (fun _ _ _ h => h) (Or.inl ⟨by rfl, ?uq10x4⟩) (by assumption) ?rq10x4
        case uq10x4 => (intro w hSw; (try dsimp only at hSw); go_simp; (try with_reducible rfl))
        simp only [Act.put, List.setIfInBounds_toArray, List.set_cons_zero, List.set_cons_succ]
        refine wpAnyH_take (i := 4) (oi := { dst := some 127, op := Op.move (Operand.tmp 4), type := 3, pos := _, after := #[{ on := 12, ground := Ground.gcOnly Departure.lateStores }], guard := none }) (v := ?tq10x5) rfl (by kernel_rfl) (by kernel_rfl) (by kernel_rfl) (fun _ _ _ h => h) (Or.inl ⟨by rfl, ?uq10x5⟩) (by assumption) ?rq10x5
        case uq10x5 => (intro w hSw; (try dsimp only at hSw); go_simp; (try with_reducible rfl))
        simp only [Act.put, List.setIfInBounds_toArray, List.set_cons_zero, List.set_cons_succ]
        refine wpAnyH_take (i := 5) (oi := { dst := some 128, op := Op.binOp BinOp.sub 3 (Operand.tmp 127) (Operand.const (Value.int IntKind.i64 4)) 3, type := 3, pos := _, after := #[{ on := 4, ground := Ground.data }, { on := 12, ground := Ground.gcOnly Departure.lateStores }], guard := none }) (v := ?tq10x6) rfl (by kernel_rfl) (by kernel_rfl) (by kernel_rfl) (fun _ _ _ h => h) (Or.inl ⟨by rfl, ?uq10x6⟩) (by assumption) ?rq10x6
        case uq10x6 => (intro w hSw; (try dsimp only at hSw); go_simp; (try with_reducible rfl))
        simp only [Act.put, List.setIfInBounds_toArray, List.set_cons_zero, List.set_cons_succ]
        refine wpAnyH_take (i := 6) (oi := { dst := some 129, op := Op.move (Operand.tmp 14), type := 46, pos := _, after := #[], guard := none }) (v := ?tq10x7) rfl (by kernel_rfl) (by kernel_rfl) (by kernel_rfl) (fun _ _ _ h => h) (Or.inl ⟨by rfl, ?uq10x7⟩) (by assumption) ?rq10x7
        case uq10x7 => (intro w hSw; (try dsimp only at hSw); go_simp; (try with_reducible rfl))
        simp only [Act.put, List.setIfInBounds_toArray, List.set_cons_zero, List.set_cons_succ]
        refine wpAnyH_take (i := 7) (oi := { dst := some 130, op := Op.binOp BinOp.add 46 (Operand.tmp 129) (Operand.const (Value.int IntKind.u32 1)) 46, type := 46, pos := _, after := #[{ on := 6, ground := Ground.data }], guard := none }) (v := ?tq10x8) rfl (by kernel_rfl) (by kernel_rfl) (by kernel_rfl) (fun _ _ _ h => h) (Or.inl ⟨by rfl, ?uq10x8⟩) (by assumption) ?rq10x8
        case uq10x8 => (intro w hSw; (try dsimp only at hSw); go_simp; (try with_reducible rfl))
        simp only [Act.put, List.setIfInBounds_toArray, List.set_cons_zero, List.set_cons_succ]
        refine wpAnyH_take (i := 8) (oi := { dst := some 131, op := Op.index 9 (Operand.const (Value.string smS)) (Operand.tmp 130), type := 5, pos := _, after := #[{ on := 7, ground := Ground.data }], guard := none }) (v := ?tq10x9) rfl (by kernel_rfl) (by kernel_rfl) (by kernel_rfl) (fun _ _ _ h => h) (Or.inl ⟨by rfl, ?uq10x9⟩) (by assumption) ?rq10x9
        case uq10x9 => (intro w hSw; (try dsimp only at hSw); go_simp; rw [dif_pos (by rw [smS_size]; first | omega | (rw [u32w _ (by omega) (by omega)]; omega))]; rfl)
        simp only [Act.put, List.setIfInBounds_toArray, List.set_cons_zero, List.set_cons_succ]
        refine wpAnyH_take (i := 9) (oi := { dst := some 132, op := Op.move (Operand.tmp 14), type := 46, pos := _, after := #[], guard := none }) (v := ?tq10x10) rfl (by kernel_rfl) (by kernel_rfl) (by kernel_rfl) (fun _ _ _ h => h) (Or.inl ⟨by rfl, ?uq10x10⟩) (by assumption) ?rq10x10
        case uq10x10 => (intro w hSw; (try dsimp only at hSw); go_simp; (try with_reducible rfl))
        simp only [Act.put, List.setIfInBounds_toArray, List.set_cons_zero, List.set_cons_succ]
        refine wpAnyH_take (i := 10) (oi := { dst := some 133, op := Op.index 9 (Operand.const (Value.string smS)) (Operand.tmp 132), type := 5, pos := _, after := #[{ on := 9, ground := Ground.data }], guard := none }) (v := ?tq10x11) rfl (by kernel_rfl) (by kernel_rfl) (by kernel_rfl) (fun _ _ _ h => h) (Or.inl ⟨by rfl, ?uq10x11⟩) (by assumption) ?rq10x11
        case uq10x11 => (intro w hSw; (try dsimp only at hSw); go_simp; rw [dif_pos (by rw [smS_size]; first | omega | (rw [u32w _ (by omega) (by omega)]; omega))]; rfl)
        simp only [Act.put, List.setIfInBounds_toArray, List.set_cons_zero, List.set_cons_succ]
        refine wpAnyH_take (i := 11) (oi := { dst := some 134, op := Op.indexAddr 146 (Operand.tmp 123) (Operand.tmp 125), type := 0, pos := _, after := #[{ on := 0, ground := Ground.data }, { on := 2, ground := Ground.data }, { on := 0, ground := Ground.phase }, { on := 1, ground := Ground.phase }, { on := 2, ground := Ground.phase }, { on := 3, ground := Ground.textOnly Departure.lateStores }, { on := 4, ground := Ground.textOnly Departure.lateStores }, { on := 5, ground := Ground.textOnly Departure.lateStores }, { on := 6, ground := Ground.phase }, { on := 7, ground := Ground.phase }, { on := 8, ground := Ground.phase }, { on := 9, ground := Ground.textOnly Departure.lateStores }, { on := 10, ground := Ground.textOnly Departure.lateStoresUnsure }], guard := none }) (v := .pointer (some ⟨B, off + 2, none⟩)) rfl (by kernel_rfl) (by kernel_rfl) (by kernel_rfl) (fun _ _ _ h => h) (Or.inl ⟨by rfl, ?uq10x12⟩) (by assumption) ?rq10x12
        case uq10x12 => (intro w hSw; (try dsimp only at hSw); go_simp; rw [show IntKind.i64.wrap 2 = 2 from (by decide)]; first | (rw [if_pos (by omega)]; first | rfl | simp) | (intro h9; exfalso; omega))
        simp only [Act.put, List.setIfInBounds_toArray, List.set_cons_zero, List.set_cons_succ]
        refine wpAnyH_ready (rs := [12]) (by kernel_rfl) (by simp) ?_
        refine AllReadyH.cons (o := { dst := none, op := Op.store 5 (Operand.tmp 134) (Operand.tmp 131), type := 0, pos := _, after := #[{ on := 11, ground := Ground.data }, { on := 8, ground := Ground.data }, { on := 0, ground := Ground.phase }, { on := 1, ground := Ground.phase }, { on := 2, ground := Ground.phase }, { on := 3, ground := Ground.textOnly Departure.lateStores }, { on := 4, ground := Ground.textOnly Departure.lateStores }, { on := 5, ground := Ground.textOnly Departure.lateStores }, { on := 6, ground := Ground.phase }, { on := 7, ground := Ground.phase }, { on := 8, ground := Ground.phase }, { on := 9, ground := Ground.textOnly Departure.lateStores }, { on := 10, ground := Ground.textOnly Departure.lateStoresUnsure }], guard := none }) rfl (fun K hK => ?_) AllReadyH.nil
        obtain ⟨b31, c31⟩ := Bu.c h30.u (j := off + 2) (by omega)
        have z31 := Bu.f h30.u
        go_simp
        refine hK.out _ _ trivial (fun hH31 => ?_)
        generalize hW31 : World.setCell w30 _ _ = W31
        have h31 := Bq.put h30 hW31
        clear hW31 c31 z31
        clear hK K
        (try simp only [Act.put, List.setIfInBounds_toArray, List.set_cons_zero, List.set_cons_succ])
        refine wpAnyH_take (i := 13) (oi := { dst := some 135, op := Op.indexAddr 146 (Operand.tmp 126) (Operand.tmp 128), type := 0, pos := _, after := #[{ on := 3, ground := Ground.data }, { on := 5, ground := Ground.data }, { on := 0, ground := Ground.phase }, { on := 1, ground := Ground.phase }, { on := 2, ground := Ground.phase }, { on := 3, ground := Ground.phase }, { on := 4, ground := Ground.phase }, { on := 5, ground := Ground.phase }, { on := 6, ground := Ground.phase }, { on := 7, ground := Ground.phase }, { on := 8, ground := Ground.phase }, { on := 9, ground := Ground.phase }, { on := 10, ground := Ground.phase }, { on := 11, ground := Ground.phase }, { on := 12, ground := Ground.phase }], guard := none }) (v := .pointer (some ⟨B, off + 1, none⟩)) rfl (by kernel_rfl) (by kernel_rfl) (by kernel_rfl) (fun _ _ _ h => h) (Or.inl ⟨by rfl, ?uq10x13⟩) (by assumption) ?rq10x13
        case uq10x13 => (intro w hSw; (try dsimp only at hSw); go_simp; rw [show IntKind.i64.wrap 1 = 1 from (by decide)]; first | (rw [if_pos (by omega)]; first | rfl | simp) | (intro h9; exfalso; omega))
        simp only [Act.put, List.setIfInBounds_toArray, List.set_cons_zero, List.set_cons_succ]
        refine wpAnyH_ready (rs := [14]) (by kernel_rfl) (by simp) ?_
        refine AllReadyH.cons (o := { dst := none, op := Op.store 5 (Operand.tmp 135) (Operand.tmp 133), type := 0, pos := _, after := #[{ on := 13, ground := Ground.data }, { on := 10, ground := Ground.data }, { on := 12, ground := Ground.chain }, { on := 0, ground := Ground.phase }, { on := 1, ground := Ground.phase }, { on := 2, ground := Ground.phase }, { on := 3, ground := Ground.phase }, { on := 4, ground := Ground.phase }, { on := 5, ground := Ground.phase }, { on := 6, ground := Ground.phase }, { on := 7, ground := Ground.phase }, { on := 8, ground := Ground.phase }, { on := 9, ground := Ground.phase }, { on := 10, ground := Ground.phase }, { on := 11, ground := Ground.phase }, { on := 12, ground := Ground.phase }], guard := none }) rfl (fun K hK => ?_) AllReadyH.nil
        obtain ⟨b32, c32⟩ := Bu.c h31.u (j := off + 1) (by omega)
        have z32 := Bu.f h31.u
        go_simp
        refine hK.out _ _ trivial (fun hH32 => ?_)
        generalize hW32 : World.setCell W31 _ _ = W32
        have h32 := Bq.put h31 hW32
        clear hW32 c32 z32
        clear hK K
        (try simp only [Act.put, List.setIfInBounds_toArray, List.set_cons_zero, List.set_cons_succ])
        refine wpAnyH_done (by kernel_rfl) ?_ _
        obtain ⟨b33, c33⟩ := Bu.c h32.u (j := off) (by omega)
        have z33 := Bu.f h32.u
        go_wp2_with fail
        generalize hW33 : World.setCell W32 _ _ = W33
        have h33 := Bq.set h32 hW33 (by omega) (by omega)
        clear hW33 c33 z33
        exact ⟨rfl, .tuple #[], by simp [results, Tryz.results96, go_sem], rfl, h33⟩
      · obtain rfl : d = 6 := hd8
        go_wp2_with fail
        have h34 := hb.drew
        refine wp_region_held_drew (S := fun _ => True) (by kernel_rfl) trivial (fun hHeld34 => ?_)
        generalize wr.drew = w34 at *
        refine wpAnyH_take (i := 0) (oi := { dst := some 110, op := Op.move (Operand.tmp 0), type := 146, pos := _, after := #[], guard := none }) (v := ?tq11x1) rfl (by kernel_rfl) (by kernel_rfl) (by kernel_rfl) (fun _ _ _ h => h) (Or.inl ⟨by rfl, ?uq11x1⟩) (by assumption) ?rq11x1
        case uq11x1 => (intro w hSw; (try dsimp only at hSw); go_simp; (try with_reducible rfl))
        simp only [Act.put, List.setIfInBounds_toArray, List.set_cons_zero, List.set_cons_succ]
        refine wpAnyH_take (i := 1) (oi := { dst := some 111, op := Op.move (Operand.tmp 4), type := 3, pos := _, after := #[], guard := none }) (v := ?tq11x2) rfl (by kernel_rfl) (by kernel_rfl) (by kernel_rfl) (fun _ _ _ h => h) (Or.inl ⟨by rfl, ?uq11x2⟩) (by assumption) ?rq11x2
        case uq11x2 => (intro w hSw; (try dsimp only at hSw); go_simp; (try with_reducible rfl))
        simp only [Act.put, List.setIfInBounds_toArray, List.set_cons_zero, List.set_cons_succ]
        refine wpAnyH_take (i := 2) (oi := { dst := some 112, op := Op.binOp BinOp.sub 3 (Operand.tmp 111) (Operand.const (Value.int IntKind.i64 1)) 3, type := 3, pos := _, after := #[{ on := 1, ground := Ground.data }], guard := none }) (v := ?tq11x3) rfl (by kernel_rfl) (by kernel_rfl) (by kernel_rfl) (fun _ _ _ h => h) (Or.inl ⟨by rfl, ?uq11x3⟩) (by assumption) ?rq11x3
        case uq11x3 => (intro w hSw; (try dsimp only at hSw); go_simp; (try with_reducible rfl))
        simp only [Act.put, List.setIfInBounds_toArray, List.set_cons_zero, List.set_cons_succ]
        refine wpAnyH_take (i := 3) (oi := { dst := some 113, op := Op.move (Operand.tmp 0), type := 146, pos := _, after := #[{ on := 12, ground := Ground.gcOnly Departure.lateStores }], guard := none }) (v := ?tq11x4) rfl (by kernel_rfl) (by kernel_rfl) (by kernel_rfl) (fun _ _ _ h => h) (Or.inl ⟨by rfl, ?uq11x4⟩) (by assumption) ?rq11x4
        case uq11x4 => (intro w hSw; (try dsimp only at hSw); go_simp; (try with_reducible rfl))
        simp only [Act.put, List.setIfInBounds_toArray, List.set_cons_zero, List.set_cons_succ]
        refine wpAnyH_take (i := 4) (oi := { dst := some 114, op := Op.move (Operand.tmp 4), type := 3, pos := _, after := #[{ on := 12, ground := Ground.gcOnly Departure.lateStores }], guard := none }) (v := ?tq11x5) rfl (by kernel_rfl) (by kernel_rfl) (by kernel_rfl) (fun _ _ _ h => h) (Or.inl ⟨by rfl, ?uq11x5⟩) (by assumption) ?rq11x5
        case uq11x5 => (intro w hSw; (try dsimp only at hSw); go_simp; (try with_reducible rfl))
        simp only [Act.put, List.setIfInBounds_toArray, List.set_cons_zero, List.set_cons_succ]
        refine wpAnyH_take (i := 5) (oi := { dst := some 115, op := Op.binOp BinOp.sub 3 (Operand.tmp 114) (Operand.const (Value.int IntKind.i64 2)) 3, type := 3, pos := _, after := #[{ on := 4, ground := Ground.data }, { on := 12, ground := Ground.gcOnly Departure.lateStores }], guard := none }) (v := ?tq11x6) rfl (by kernel_rfl) (by kernel_rfl) (by kernel_rfl) (fun _ _ _ h => h) (Or.inl ⟨by rfl, ?uq11x6⟩) (by assumption) ?rq11x6
        case uq11x6 => (intro w hSw; (try dsimp only at hSw); go_simp; (try with_reducible rfl))
        simp only [Act.put, List.setIfInBounds_toArray, List.set_cons_zero, List.set_cons_succ]
        refine wpAnyH_take (i := 6) (oi := { dst := some 116, op := Op.move (Operand.tmp 15), type := 46, pos := _, after := #[], guard := none }) (v := ?tq11x7) rfl (by kernel_rfl) (by kernel_rfl) (by kernel_rfl) (fun _ _ _ h => h) (Or.inl ⟨by rfl, ?uq11x7⟩) (by assumption) ?rq11x7
        case uq11x7 => (intro w hSw; (try dsimp only at hSw); go_simp; (try with_reducible rfl))
        simp only [Act.put, List.setIfInBounds_toArray, List.set_cons_zero, List.set_cons_succ]
        refine wpAnyH_take (i := 7) (oi := { dst := some 117, op := Op.binOp BinOp.add 46 (Operand.tmp 116) (Operand.const (Value.int IntKind.u32 1)) 46, type := 46, pos := _, after := #[{ on := 6, ground := Ground.data }], guard := none }) (v := ?tq11x8) rfl (by kernel_rfl) (by kernel_rfl) (by kernel_rfl) (fun _ _ _ h => h) (Or.inl ⟨by rfl, ?uq11x8⟩) (by assumption) ?rq11x8
        case uq11x8 => (intro w hSw; (try dsimp only at hSw); go_simp; (try with_reducible rfl))
        simp only [Act.put, List.setIfInBounds_toArray, List.set_cons_zero, List.set_cons_succ]
        refine wpAnyH_take (i := 8) (oi := { dst := some 118, op := Op.index 9 (Operand.const (Value.string smS)) (Operand.tmp 117), type := 5, pos := _, after := #[{ on := 7, ground := Ground.data }], guard := none }) (v := ?tq11x9) rfl (by kernel_rfl) (by kernel_rfl) (by kernel_rfl) (fun _ _ _ h => h) (Or.inl ⟨by rfl, ?uq11x9⟩) (by assumption) ?rq11x9
        case uq11x9 => (intro w hSw; (try dsimp only at hSw); go_simp; rw [dif_pos (by rw [smS_size]; first | omega | (rw [u32w _ (by omega) (by omega)]; omega))]; rfl)
        simp only [Act.put, List.setIfInBounds_toArray, List.set_cons_zero, List.set_cons_succ]
        refine wpAnyH_take (i := 9) (oi := { dst := some 119, op := Op.move (Operand.tmp 15), type := 46, pos := _, after := #[], guard := none }) (v := ?tq11x10) rfl (by kernel_rfl) (by kernel_rfl) (by kernel_rfl) (fun _ _ _ h => h) (Or.inl ⟨by rfl, ?uq11x10⟩) (by assumption) ?rq11x10
        case uq11x10 => (intro w hSw; (try dsimp only at hSw); go_simp; (try with_reducible rfl))
        simp only [Act.put, List.setIfInBounds_toArray, List.set_cons_zero, List.set_cons_succ]
        refine wpAnyH_take (i := 10) (oi := { dst := some 120, op := Op.index 9 (Operand.const (Value.string smS)) (Operand.tmp 119), type := 5, pos := _, after := #[{ on := 9, ground := Ground.data }], guard := none }) (v := ?tq11x11) rfl (by kernel_rfl) (by kernel_rfl) (by kernel_rfl) (fun _ _ _ h => h) (Or.inl ⟨by rfl, ?uq11x11⟩) (by assumption) ?rq11x11
        case uq11x11 => (intro w hSw; (try dsimp only at hSw); go_simp; rw [dif_pos (by rw [smS_size]; first | omega | (rw [u32w _ (by omega) (by omega)]; omega))]; rfl)
        simp only [Act.put, List.setIfInBounds_toArray, List.set_cons_zero, List.set_cons_succ]
        refine wpAnyH_take (i := 11) (oi := { dst := some 121, op := Op.indexAddr 146 (Operand.tmp 110) (Operand.tmp 112), type := 0, pos := _, after := #[{ on := 0, ground := Ground.data }, { on := 2, ground := Ground.data }, { on := 0, ground := Ground.phase }, { on := 1, ground := Ground.phase }, { on := 2, ground := Ground.phase }, { on := 3, ground := Ground.textOnly Departure.lateStores }, { on := 4, ground := Ground.textOnly Departure.lateStores }, { on := 5, ground := Ground.textOnly Departure.lateStores }, { on := 6, ground := Ground.phase }, { on := 7, ground := Ground.phase }, { on := 8, ground := Ground.phase }, { on := 9, ground := Ground.textOnly Departure.lateStores }, { on := 10, ground := Ground.textOnly Departure.lateStoresUnsure }], guard := none }) (v := .pointer (some ⟨B, off + 5, none⟩)) rfl (by kernel_rfl) (by kernel_rfl) (by kernel_rfl) (fun _ _ _ h => h) (Or.inl ⟨by rfl, ?uq11x12⟩) (by assumption) ?rq11x12
        case uq11x12 => (intro w hSw; (try dsimp only at hSw); go_simp; rw [show IntKind.i64.wrap 5 = 5 from (by decide)]; first | (rw [if_pos (by omega)]; first | rfl | simp) | (intro h9; exfalso; omega))
        simp only [Act.put, List.setIfInBounds_toArray, List.set_cons_zero, List.set_cons_succ]
        refine wpAnyH_ready (rs := [12]) (by kernel_rfl) (by simp) ?_
        refine AllReadyH.cons (o := { dst := none, op := Op.store 5 (Operand.tmp 121) (Operand.tmp 118), type := 0, pos := _, after := #[{ on := 11, ground := Ground.data }, { on := 8, ground := Ground.data }, { on := 0, ground := Ground.phase }, { on := 1, ground := Ground.phase }, { on := 2, ground := Ground.phase }, { on := 3, ground := Ground.textOnly Departure.lateStores }, { on := 4, ground := Ground.textOnly Departure.lateStores }, { on := 5, ground := Ground.textOnly Departure.lateStores }, { on := 6, ground := Ground.phase }, { on := 7, ground := Ground.phase }, { on := 8, ground := Ground.phase }, { on := 9, ground := Ground.textOnly Departure.lateStores }, { on := 10, ground := Ground.textOnly Departure.lateStoresUnsure }], guard := none }) rfl (fun K hK => ?_) AllReadyH.nil
        obtain ⟨b35, c35⟩ := Bu.c h34.u (j := off + 5) (by omega)
        have z35 := Bu.f h34.u
        go_simp
        refine hK.out _ _ trivial (fun hH35 => ?_)
        generalize hW35 : World.setCell w34 _ _ = W35
        have h35 := Bq.put h34 hW35
        clear hW35 c35 z35
        clear hK K
        (try simp only [Act.put, List.setIfInBounds_toArray, List.set_cons_zero, List.set_cons_succ])
        refine wpAnyH_take (i := 13) (oi := { dst := some 122, op := Op.indexAddr 146 (Operand.tmp 113) (Operand.tmp 115), type := 0, pos := _, after := #[{ on := 3, ground := Ground.data }, { on := 5, ground := Ground.data }, { on := 0, ground := Ground.phase }, { on := 1, ground := Ground.phase }, { on := 2, ground := Ground.phase }, { on := 3, ground := Ground.phase }, { on := 4, ground := Ground.phase }, { on := 5, ground := Ground.phase }, { on := 6, ground := Ground.phase }, { on := 7, ground := Ground.phase }, { on := 8, ground := Ground.phase }, { on := 9, ground := Ground.phase }, { on := 10, ground := Ground.phase }, { on := 11, ground := Ground.phase }, { on := 12, ground := Ground.phase }], guard := none }) (v := .pointer (some ⟨B, off + 4, none⟩)) rfl (by kernel_rfl) (by kernel_rfl) (by kernel_rfl) (fun _ _ _ h => h) (Or.inl ⟨by rfl, ?uq11x13⟩) (by assumption) ?rq11x13
        case uq11x13 => (intro w hSw; (try dsimp only at hSw); go_simp; rw [show IntKind.i64.wrap 4 = 4 from (by decide)]; first | (rw [if_pos (by omega)]; first | rfl | simp) | (intro h9; exfalso; omega))
        simp only [Act.put, List.setIfInBounds_toArray, List.set_cons_zero, List.set_cons_succ]
        refine wpAnyH_ready (rs := [14]) (by kernel_rfl) (by simp) ?_
        refine AllReadyH.cons (o := { dst := none, op := Op.store 5 (Operand.tmp 122) (Operand.tmp 120), type := 0, pos := _, after := #[{ on := 13, ground := Ground.data }, { on := 10, ground := Ground.data }, { on := 12, ground := Ground.chain }, { on := 0, ground := Ground.phase }, { on := 1, ground := Ground.phase }, { on := 2, ground := Ground.phase }, { on := 3, ground := Ground.phase }, { on := 4, ground := Ground.phase }, { on := 5, ground := Ground.phase }, { on := 6, ground := Ground.phase }, { on := 7, ground := Ground.phase }, { on := 8, ground := Ground.phase }, { on := 9, ground := Ground.phase }, { on := 10, ground := Ground.phase }, { on := 11, ground := Ground.phase }, { on := 12, ground := Ground.phase }], guard := none }) rfl (fun K hK => ?_) AllReadyH.nil
        obtain ⟨b36, c36⟩ := Bu.c h35.u (j := off + 4) (by omega)
        have z36 := Bu.f h35.u
        go_simp
        refine hK.out _ _ trivial (fun hH36 => ?_)
        generalize hW36 : World.setCell W35 _ _ = W36
        have h36 := Bq.put h35 hW36
        clear hW36 c36 z36
        clear hK K
        (try simp only [Act.put, List.setIfInBounds_toArray, List.set_cons_zero, List.set_cons_succ])
        refine wpAnyH_done (by kernel_rfl) ?_ _
        go_wp2_with fail
        have h37 := h36.drew
        refine wp_region_held_drew (S := fun _ => True) (by kernel_rfl) trivial (fun hHeld37 => ?_)
        generalize W36.drew = w37 at *
        refine wpAnyH_take (i := 0) (oi := { dst := some 123, op := Op.move (Operand.tmp 0), type := 146, pos := _, after := #[], guard := none }) (v := ?tq12x1) rfl (by kernel_rfl) (by kernel_rfl) (by kernel_rfl) (fun _ _ _ h => h) (Or.inl ⟨by rfl, ?uq12x1⟩) (by assumption) ?rq12x1
        case uq12x1 => (intro w hSw; (try dsimp only at hSw); go_simp; (try with_reducible rfl))
        simp only [Act.put, List.setIfInBounds_toArray, List.set_cons_zero, List.set_cons_succ]
        refine wpAnyH_take (i := 1) (oi := { dst := some 124, op := Op.move (Operand.tmp 4), type := 3, pos := _, after := #[], guard := none }) (v := ?tq12x2) rfl (by kernel_rfl) (by kernel_rfl) (by kernel_rfl) (fun _ _ _ h => h) (Or.inl ⟨by rfl, ?uq12x2⟩) (by assumption) ?rq12x2
        case uq12x2 => (intro w hSw; (try dsimp only at hSw); go_simp; (try with_reducible rfl))
        simp only [Act.put, List.setIfInBounds_toArray, List.set_cons_zero, List.set_cons_succ]
        refine wpAnyH_take (i := 2) (oi := { dst := some 125, op := Op.binOp BinOp.sub 3 (Operand.tmp 124) (Operand.const (Value.int IntKind.i64 3)) 3, type := 3, pos := _, after := #[{ on := 1, ground := Ground.data }], guard := none }) (v := ?tq12x3) rfl (by kernel_rfl) (by kernel_rfl) (by kernel_rfl) (fun _ _ _ h => h) (Or.inl ⟨by rfl, ?uq12x3⟩) (by assumption) ?rq12x3
        case uq12x3 => (intro w hSw; (try dsimp only at hSw); go_simp; (try with_reducible rfl))
        simp only [Act.put, List.setIfInBounds_toArray, List.set_cons_zero, List.set_cons_succ]
        refine wpAnyH_take (i := 3) (oi := { dst := some 126, op := Op.move (Operand.tmp 0), type := 146, pos := _, after := #[{ on := 12, ground := Ground.gcOnly Departure.lateStores }], guard := none }) (v := ?tq12x4) rfl (by kernel_rfl) (by kernel_rfl) (by kernel_rfl) (fun _ _ _ h => h) (Or.inl ⟨by rfl, ?uq12x4⟩) (by assumption) ?rq12x4
        case uq12x4 => (intro w hSw; (try dsimp only at hSw); go_simp; (try with_reducible rfl))
        simp only [Act.put, List.setIfInBounds_toArray, List.set_cons_zero, List.set_cons_succ]
        refine wpAnyH_take (i := 4) (oi := { dst := some 127, op := Op.move (Operand.tmp 4), type := 3, pos := _, after := #[{ on := 12, ground := Ground.gcOnly Departure.lateStores }], guard := none }) (v := ?tq12x5) rfl (by kernel_rfl) (by kernel_rfl) (by kernel_rfl) (fun _ _ _ h => h) (Or.inl ⟨by rfl, ?uq12x5⟩) (by assumption) ?rq12x5
        case uq12x5 => (intro w hSw; (try dsimp only at hSw); go_simp; (try with_reducible rfl))
        simp only [Act.put, List.setIfInBounds_toArray, List.set_cons_zero, List.set_cons_succ]
        refine wpAnyH_take (i := 5) (oi := { dst := some 128, op := Op.binOp BinOp.sub 3 (Operand.tmp 127) (Operand.const (Value.int IntKind.i64 4)) 3, type := 3, pos := _, after := #[{ on := 4, ground := Ground.data }, { on := 12, ground := Ground.gcOnly Departure.lateStores }], guard := none }) (v := ?tq12x6) rfl (by kernel_rfl) (by kernel_rfl) (by kernel_rfl) (fun _ _ _ h => h) (Or.inl ⟨by rfl, ?uq12x6⟩) (by assumption) ?rq12x6
        case uq12x6 => (intro w hSw; (try dsimp only at hSw); go_simp; (try with_reducible rfl))
        simp only [Act.put, List.setIfInBounds_toArray, List.set_cons_zero, List.set_cons_succ]
        refine wpAnyH_take (i := 6) (oi := { dst := some 129, op := Op.move (Operand.tmp 14), type := 46, pos := _, after := #[], guard := none }) (v := ?tq12x7) rfl (by kernel_rfl) (by kernel_rfl) (by kernel_rfl) (fun _ _ _ h => h) (Or.inl ⟨by rfl, ?uq12x7⟩) (by assumption) ?rq12x7
        case uq12x7 => (intro w hSw; (try dsimp only at hSw); go_simp; (try with_reducible rfl))
        simp only [Act.put, List.setIfInBounds_toArray, List.set_cons_zero, List.set_cons_succ]
        refine wpAnyH_take (i := 7) (oi := { dst := some 130, op := Op.binOp BinOp.add 46 (Operand.tmp 129) (Operand.const (Value.int IntKind.u32 1)) 46, type := 46, pos := _, after := #[{ on := 6, ground := Ground.data }], guard := none }) (v := ?tq12x8) rfl (by kernel_rfl) (by kernel_rfl) (by kernel_rfl) (fun _ _ _ h => h) (Or.inl ⟨by rfl, ?uq12x8⟩) (by assumption) ?rq12x8
        case uq12x8 => (intro w hSw; (try dsimp only at hSw); go_simp; (try with_reducible rfl))
        simp only [Act.put, List.setIfInBounds_toArray, List.set_cons_zero, List.set_cons_succ]
        refine wpAnyH_take (i := 8) (oi := { dst := some 131, op := Op.index 9 (Operand.const (Value.string smS)) (Operand.tmp 130), type := 5, pos := _, after := #[{ on := 7, ground := Ground.data }], guard := none }) (v := ?tq12x9) rfl (by kernel_rfl) (by kernel_rfl) (by kernel_rfl) (fun _ _ _ h => h) (Or.inl ⟨by rfl, ?uq12x9⟩) (by assumption) ?rq12x9
        case uq12x9 => (intro w hSw; (try dsimp only at hSw); go_simp; rw [dif_pos (by rw [smS_size]; first | omega | (rw [u32w _ (by omega) (by omega)]; omega))]; rfl)
        simp only [Act.put, List.setIfInBounds_toArray, List.set_cons_zero, List.set_cons_succ]
        refine wpAnyH_take (i := 9) (oi := { dst := some 132, op := Op.move (Operand.tmp 14), type := 46, pos := _, after := #[], guard := none }) (v := ?tq12x10) rfl (by kernel_rfl) (by kernel_rfl) (by kernel_rfl) (fun _ _ _ h => h) (Or.inl ⟨by rfl, ?uq12x10⟩) (by assumption) ?rq12x10
        case uq12x10 => (intro w hSw; (try dsimp only at hSw); go_simp; (try with_reducible rfl))
        simp only [Act.put, List.setIfInBounds_toArray, List.set_cons_zero, List.set_cons_succ]
        refine wpAnyH_take (i := 10) (oi := { dst := some 133, op := Op.index 9 (Operand.const (Value.string smS)) (Operand.tmp 132), type := 5, pos := _, after := #[{ on := 9, ground := Ground.data }], guard := none }) (v := ?tq12x11) rfl (by kernel_rfl) (by kernel_rfl) (by kernel_rfl) (fun _ _ _ h => h) (Or.inl ⟨by rfl, ?uq12x11⟩) (by assumption) ?rq12x11
        case uq12x11 => (intro w hSw; (try dsimp only at hSw); go_simp; rw [dif_pos (by rw [smS_size]; first | omega | (rw [u32w _ (by omega) (by omega)]; omega))]; rfl)
        simp only [Act.put, List.setIfInBounds_toArray, List.set_cons_zero, List.set_cons_succ]
        refine wpAnyH_take (i := 11) (oi := { dst := some 134, op := Op.indexAddr 146 (Operand.tmp 123) (Operand.tmp 125), type := 0, pos := _, after := #[{ on := 0, ground := Ground.data }, { on := 2, ground := Ground.data }, { on := 0, ground := Ground.phase }, { on := 1, ground := Ground.phase }, { on := 2, ground := Ground.phase }, { on := 3, ground := Ground.textOnly Departure.lateStores }, { on := 4, ground := Ground.textOnly Departure.lateStores }, { on := 5, ground := Ground.textOnly Departure.lateStores }, { on := 6, ground := Ground.phase }, { on := 7, ground := Ground.phase }, { on := 8, ground := Ground.phase }, { on := 9, ground := Ground.textOnly Departure.lateStores }, { on := 10, ground := Ground.textOnly Departure.lateStoresUnsure }], guard := none }) (v := .pointer (some ⟨B, off + 3, none⟩)) rfl (by kernel_rfl) (by kernel_rfl) (by kernel_rfl) (fun _ _ _ h => h) (Or.inl ⟨by rfl, ?uq12x12⟩) (by assumption) ?rq12x12
        case uq12x12 => (intro w hSw; (try dsimp only at hSw); go_simp; rw [show IntKind.i64.wrap 3 = 3 from (by decide)]; first | (rw [if_pos (by omega)]; first | rfl | simp) | (intro h9; exfalso; omega))
        simp only [Act.put, List.setIfInBounds_toArray, List.set_cons_zero, List.set_cons_succ]
        refine wpAnyH_ready (rs := [12]) (by kernel_rfl) (by simp) ?_
        refine AllReadyH.cons (o := { dst := none, op := Op.store 5 (Operand.tmp 134) (Operand.tmp 131), type := 0, pos := _, after := #[{ on := 11, ground := Ground.data }, { on := 8, ground := Ground.data }, { on := 0, ground := Ground.phase }, { on := 1, ground := Ground.phase }, { on := 2, ground := Ground.phase }, { on := 3, ground := Ground.textOnly Departure.lateStores }, { on := 4, ground := Ground.textOnly Departure.lateStores }, { on := 5, ground := Ground.textOnly Departure.lateStores }, { on := 6, ground := Ground.phase }, { on := 7, ground := Ground.phase }, { on := 8, ground := Ground.phase }, { on := 9, ground := Ground.textOnly Departure.lateStores }, { on := 10, ground := Ground.textOnly Departure.lateStoresUnsure }], guard := none }) rfl (fun K hK => ?_) AllReadyH.nil
        obtain ⟨b38, c38⟩ := Bu.c h37.u (j := off + 3) (by omega)
        have z38 := Bu.f h37.u
        go_simp
        refine hK.out _ _ trivial (fun hH38 => ?_)
        generalize hW38 : World.setCell w37 _ _ = W38
        have h38 := Bq.put h37 hW38
        clear hW38 c38 z38
        clear hK K
        (try simp only [Act.put, List.setIfInBounds_toArray, List.set_cons_zero, List.set_cons_succ])
        refine wpAnyH_take (i := 13) (oi := { dst := some 135, op := Op.indexAddr 146 (Operand.tmp 126) (Operand.tmp 128), type := 0, pos := _, after := #[{ on := 3, ground := Ground.data }, { on := 5, ground := Ground.data }, { on := 0, ground := Ground.phase }, { on := 1, ground := Ground.phase }, { on := 2, ground := Ground.phase }, { on := 3, ground := Ground.phase }, { on := 4, ground := Ground.phase }, { on := 5, ground := Ground.phase }, { on := 6, ground := Ground.phase }, { on := 7, ground := Ground.phase }, { on := 8, ground := Ground.phase }, { on := 9, ground := Ground.phase }, { on := 10, ground := Ground.phase }, { on := 11, ground := Ground.phase }, { on := 12, ground := Ground.phase }], guard := none }) (v := .pointer (some ⟨B, off + 2, none⟩)) rfl (by kernel_rfl) (by kernel_rfl) (by kernel_rfl) (fun _ _ _ h => h) (Or.inl ⟨by rfl, ?uq12x13⟩) (by assumption) ?rq12x13
        case uq12x13 => (intro w hSw; (try dsimp only at hSw); go_simp; rw [show IntKind.i64.wrap 2 = 2 from (by decide)]; first | (rw [if_pos (by omega)]; first | rfl | simp) | (intro h9; exfalso; omega))
        simp only [Act.put, List.setIfInBounds_toArray, List.set_cons_zero, List.set_cons_succ]
        refine wpAnyH_ready (rs := [14]) (by kernel_rfl) (by simp) ?_
        refine AllReadyH.cons (o := { dst := none, op := Op.store 5 (Operand.tmp 135) (Operand.tmp 133), type := 0, pos := _, after := #[{ on := 13, ground := Ground.data }, { on := 10, ground := Ground.data }, { on := 12, ground := Ground.chain }, { on := 0, ground := Ground.phase }, { on := 1, ground := Ground.phase }, { on := 2, ground := Ground.phase }, { on := 3, ground := Ground.phase }, { on := 4, ground := Ground.phase }, { on := 5, ground := Ground.phase }, { on := 6, ground := Ground.phase }, { on := 7, ground := Ground.phase }, { on := 8, ground := Ground.phase }, { on := 9, ground := Ground.phase }, { on := 10, ground := Ground.phase }, { on := 11, ground := Ground.phase }, { on := 12, ground := Ground.phase }], guard := none }) rfl (fun K hK => ?_) AllReadyH.nil
        obtain ⟨b39, c39⟩ := Bu.c h38.u (j := off + 2) (by omega)
        have z39 := Bu.f h38.u
        go_simp
        refine hK.out _ _ trivial (fun hH39 => ?_)
        generalize hW39 : World.setCell W38 _ _ = W39
        have h39 := Bq.put h38 hW39
        clear hW39 c39 z39
        clear hK K
        (try simp only [Act.put, List.setIfInBounds_toArray, List.set_cons_zero, List.set_cons_succ])
        refine wpAnyH_done (by kernel_rfl) ?_ _
        go_wp2_with fail
        have h40 := h39.drew
        refine wp_region_held_drew (S := fun _ => True) (by kernel_rfl) trivial (fun hHeld40 => ?_)
        generalize W39.drew = w40 at *
        refine wpAnyH_take (i := 0) (oi := { dst := some 145, op := Op.move (Operand.tmp 0), type := 146, pos := _, after := #[], guard := none }) (v := ?tq13x1) rfl (by kernel_rfl) (by kernel_rfl) (by kernel_rfl) (fun _ _ _ h => h) (Or.inl ⟨by rfl, ?uq13x1⟩) (by assumption) ?rq13x1
        case uq13x1 => (intro w hSw; (try dsimp only at hSw); go_simp; (try with_reducible rfl))
        simp only [Act.put, List.setIfInBounds_toArray, List.set_cons_zero, List.set_cons_succ]
        refine wpAnyH_take (i := 1) (oi := { dst := some 146, op := Op.move (Operand.tmp 4), type := 3, pos := _, after := #[], guard := none }) (v := ?tq13x2) rfl (by kernel_rfl) (by kernel_rfl) (by kernel_rfl) (fun _ _ _ h => h) (Or.inl ⟨by rfl, ?uq13x2⟩) (by assumption) ?rq13x2
        case uq13x2 => (intro w hSw; (try dsimp only at hSw); go_simp; (try with_reducible rfl))
        simp only [Act.put, List.setIfInBounds_toArray, List.set_cons_zero, List.set_cons_succ]
        refine wpAnyH_take (i := 2) (oi := { dst := some 147, op := Op.binOp BinOp.sub 3 (Operand.tmp 146) (Operand.const (Value.int IntKind.i64 1)) 3, type := 3, pos := _, after := #[{ on := 1, ground := Ground.data }], guard := none }) (v := ?tq13x3) rfl (by kernel_rfl) (by kernel_rfl) (by kernel_rfl) (fun _ _ _ h => h) (Or.inl ⟨by rfl, ?uq13x3⟩) (by assumption) ?rq13x3
        case uq13x3 => (intro w hSw; (try dsimp only at hSw); go_simp; (try with_reducible rfl))
        simp only [Act.put, List.setIfInBounds_toArray, List.set_cons_zero, List.set_cons_succ]
        refine wpAnyH_take (i := 3) (oi := { dst := some 148, op := Op.move (Operand.tmp 0), type := 146, pos := _, after := #[{ on := 12, ground := Ground.gcOnly Departure.lateStores }], guard := none }) (v := ?tq13x4) rfl (by kernel_rfl) (by kernel_rfl) (by kernel_rfl) (fun _ _ _ h => h) (Or.inl ⟨by rfl, ?uq13x4⟩) (by assumption) ?rq13x4
        case uq13x4 => (intro w hSw; (try dsimp only at hSw); go_simp; (try with_reducible rfl))
        simp only [Act.put, List.setIfInBounds_toArray, List.set_cons_zero, List.set_cons_succ]
        refine wpAnyH_take (i := 4) (oi := { dst := some 149, op := Op.move (Operand.tmp 4), type := 3, pos := _, after := #[{ on := 12, ground := Ground.gcOnly Departure.lateStores }], guard := none }) (v := ?tq13x5) rfl (by kernel_rfl) (by kernel_rfl) (by kernel_rfl) (fun _ _ _ h => h) (Or.inl ⟨by rfl, ?uq13x5⟩) (by assumption) ?rq13x5
        case uq13x5 => (intro w hSw; (try dsimp only at hSw); go_simp; (try with_reducible rfl))
        simp only [Act.put, List.setIfInBounds_toArray, List.set_cons_zero, List.set_cons_succ]
        refine wpAnyH_take (i := 5) (oi := { dst := some 150, op := Op.binOp BinOp.sub 3 (Operand.tmp 149) (Operand.const (Value.int IntKind.i64 2)) 3, type := 3, pos := _, after := #[{ on := 4, ground := Ground.data }, { on := 12, ground := Ground.gcOnly Departure.lateStores }], guard := none }) (v := ?tq13x6) rfl (by kernel_rfl) (by kernel_rfl) (by kernel_rfl) (fun _ _ _ h => h) (Or.inl ⟨by rfl, ?uq13x6⟩) (by assumption) ?rq13x6
        case uq13x6 => (intro w hSw; (try dsimp only at hSw); go_simp; (try with_reducible rfl))
        simp only [Act.put, List.setIfInBounds_toArray, List.set_cons_zero, List.set_cons_succ]
        refine wpAnyH_take (i := 6) (oi := { dst := some 151, op := Op.move (Operand.tmp 16), type := 46, pos := _, after := #[], guard := none }) (v := ?tq13x7) rfl (by kernel_rfl) (by kernel_rfl) (by kernel_rfl) (fun _ _ _ h => h) (Or.inl ⟨by rfl, ?uq13x7⟩) (by assumption) ?rq13x7
        case uq13x7 => (intro w hSw; (try dsimp only at hSw); go_simp; (try with_reducible rfl))
        simp only [Act.put, List.setIfInBounds_toArray, List.set_cons_zero, List.set_cons_succ]
        refine wpAnyH_take (i := 7) (oi := { dst := some 152, op := Op.binOp BinOp.add 46 (Operand.tmp 151) (Operand.const (Value.int IntKind.u32 1)) 46, type := 46, pos := _, after := #[{ on := 6, ground := Ground.data }], guard := none }) (v := ?tq13x8) rfl (by kernel_rfl) (by kernel_rfl) (by kernel_rfl) (fun _ _ _ h => h) (Or.inl ⟨by rfl, ?uq13x8⟩) (by assumption) ?rq13x8
        case uq13x8 => (intro w hSw; (try dsimp only at hSw); go_simp; (try with_reducible rfl))
        simp only [Act.put, List.setIfInBounds_toArray, List.set_cons_zero, List.set_cons_succ]
        refine wpAnyH_take (i := 8) (oi := { dst := some 153, op := Op.index 9 (Operand.const (Value.string smS)) (Operand.tmp 152), type := 5, pos := _, after := #[{ on := 7, ground := Ground.data }], guard := none }) (v := ?tq13x9) rfl (by kernel_rfl) (by kernel_rfl) (by kernel_rfl) (fun _ _ _ h => h) (Or.inl ⟨by rfl, ?uq13x9⟩) (by assumption) ?rq13x9
        case uq13x9 => (intro w hSw; (try dsimp only at hSw); go_simp; rw [dif_pos (by rw [smS_size]; first | omega | (rw [u32w _ (by omega) (by omega)]; omega))]; rfl)
        simp only [Act.put, List.setIfInBounds_toArray, List.set_cons_zero, List.set_cons_succ]
        refine wpAnyH_take (i := 9) (oi := { dst := some 154, op := Op.move (Operand.tmp 16), type := 46, pos := _, after := #[], guard := none }) (v := ?tq13x10) rfl (by kernel_rfl) (by kernel_rfl) (by kernel_rfl) (fun _ _ _ h => h) (Or.inl ⟨by rfl, ?uq13x10⟩) (by assumption) ?rq13x10
        case uq13x10 => (intro w hSw; (try dsimp only at hSw); go_simp; (try with_reducible rfl))
        simp only [Act.put, List.setIfInBounds_toArray, List.set_cons_zero, List.set_cons_succ]
        refine wpAnyH_take (i := 10) (oi := { dst := some 155, op := Op.index 9 (Operand.const (Value.string smS)) (Operand.tmp 154), type := 5, pos := _, after := #[{ on := 9, ground := Ground.data }], guard := none }) (v := ?tq13x11) rfl (by kernel_rfl) (by kernel_rfl) (by kernel_rfl) (fun _ _ _ h => h) (Or.inl ⟨by rfl, ?uq13x11⟩) (by assumption) ?rq13x11
        case uq13x11 => (intro w hSw; (try dsimp only at hSw); go_simp; rw [dif_pos (by rw [smS_size]; first | omega | (rw [u32w _ (by omega) (by omega)]; omega))]; rfl)
        simp only [Act.put, List.setIfInBounds_toArray, List.set_cons_zero, List.set_cons_succ]
        refine wpAnyH_take (i := 11) (oi := { dst := some 156, op := Op.indexAddr 146 (Operand.tmp 145) (Operand.tmp 147), type := 0, pos := _, after := #[{ on := 0, ground := Ground.data }, { on := 2, ground := Ground.data }, { on := 0, ground := Ground.phase }, { on := 1, ground := Ground.phase }, { on := 2, ground := Ground.phase }, { on := 3, ground := Ground.textOnly Departure.lateStores }, { on := 4, ground := Ground.textOnly Departure.lateStores }, { on := 5, ground := Ground.textOnly Departure.lateStores }, { on := 6, ground := Ground.phase }, { on := 7, ground := Ground.phase }, { on := 8, ground := Ground.phase }, { on := 9, ground := Ground.textOnly Departure.lateStores }, { on := 10, ground := Ground.textOnly Departure.lateStoresUnsure }], guard := none }) (v := .pointer (some ⟨B, off + 1, none⟩)) rfl (by kernel_rfl) (by kernel_rfl) (by kernel_rfl) (fun _ _ _ h => h) (Or.inl ⟨by rfl, ?uq13x12⟩) (by assumption) ?rq13x12
        case uq13x12 => (intro w hSw; (try dsimp only at hSw); go_simp; rw [show IntKind.i64.wrap 1 = 1 from (by decide)]; first | (rw [if_pos (by omega)]; first | rfl | simp) | (intro h9; exfalso; omega))
        simp only [Act.put, List.setIfInBounds_toArray, List.set_cons_zero, List.set_cons_succ]
        refine wpAnyH_ready (rs := [12]) (by kernel_rfl) (by simp) ?_
        refine AllReadyH.cons (o := { dst := none, op := Op.store 5 (Operand.tmp 156) (Operand.tmp 153), type := 0, pos := _, after := #[{ on := 11, ground := Ground.data }, { on := 8, ground := Ground.data }, { on := 0, ground := Ground.phase }, { on := 1, ground := Ground.phase }, { on := 2, ground := Ground.phase }, { on := 3, ground := Ground.textOnly Departure.lateStores }, { on := 4, ground := Ground.textOnly Departure.lateStores }, { on := 5, ground := Ground.textOnly Departure.lateStores }, { on := 6, ground := Ground.phase }, { on := 7, ground := Ground.phase }, { on := 8, ground := Ground.phase }, { on := 9, ground := Ground.textOnly Departure.lateStores }, { on := 10, ground := Ground.textOnly Departure.lateStoresUnsure }], guard := none }) rfl (fun K hK => ?_) AllReadyH.nil
        obtain ⟨b41, c41⟩ := Bu.c h40.u (j := off + 1) (by omega)
        have z41 := Bu.f h40.u
        go_simp
        refine hK.out _ _ trivial (fun hH41 => ?_)
        generalize hW41 : World.setCell w40 _ _ = W41
        have h41 := Bq.put h40 hW41
        clear hW41 c41 z41
        clear hK K
        (try simp only [Act.put, List.setIfInBounds_toArray, List.set_cons_zero, List.set_cons_succ])
        refine wpAnyH_take (i := 13) (oi := { dst := some 157, op := Op.indexAddr 146 (Operand.tmp 148) (Operand.tmp 150), type := 0, pos := _, after := #[{ on := 3, ground := Ground.data }, { on := 5, ground := Ground.data }, { on := 0, ground := Ground.phase }, { on := 1, ground := Ground.phase }, { on := 2, ground := Ground.phase }, { on := 3, ground := Ground.phase }, { on := 4, ground := Ground.phase }, { on := 5, ground := Ground.phase }, { on := 6, ground := Ground.phase }, { on := 7, ground := Ground.phase }, { on := 8, ground := Ground.phase }, { on := 9, ground := Ground.phase }, { on := 10, ground := Ground.phase }, { on := 11, ground := Ground.phase }, { on := 12, ground := Ground.phase }], guard := none }) (v := .pointer (some ⟨B, off, none⟩)) rfl (by kernel_rfl) (by kernel_rfl) (by kernel_rfl) (fun _ _ _ h => h) (Or.inl ⟨by rfl, ?uq13x13⟩) (by assumption) ?rq13x13
        case uq13x13 => (intro w hSw; (try dsimp only at hSw); go_simp; rw [show IntKind.i64.wrap 0 = 0 from (by decide)]; first | (rw [if_pos (by omega)]; first | rfl | simp) | (intro h9; exfalso; omega))
        simp only [Act.put, List.setIfInBounds_toArray, List.set_cons_zero, List.set_cons_succ]
        refine wpAnyH_ready (rs := [14]) (by kernel_rfl) (by simp) ?_
        refine AllReadyH.cons (o := { dst := none, op := Op.store 5 (Operand.tmp 157) (Operand.tmp 155), type := 0, pos := _, after := #[{ on := 13, ground := Ground.data }, { on := 10, ground := Ground.data }, { on := 12, ground := Ground.chain }, { on := 0, ground := Ground.phase }, { on := 1, ground := Ground.phase }, { on := 2, ground := Ground.phase }, { on := 3, ground := Ground.phase }, { on := 4, ground := Ground.phase }, { on := 5, ground := Ground.phase }, { on := 6, ground := Ground.phase }, { on := 7, ground := Ground.phase }, { on := 8, ground := Ground.phase }, { on := 9, ground := Ground.phase }, { on := 10, ground := Ground.phase }, { on := 11, ground := Ground.phase }, { on := 12, ground := Ground.phase }], guard := none }) rfl (fun K hK => ?_) AllReadyH.nil
        obtain ⟨b42, c42⟩ := Bu.c h41.u (j := off) (by omega)
        have z42 := Bu.f h41.u
        go_simp
        refine hK.out _ _ trivial (fun hH42 => ?_)
        generalize hW42 : World.setCell W41 _ _ = W42
        have h42 := Bq.put h41 hW42
        clear hW42 c42 z42
        clear hK K
        (try simp only [Act.put, List.setIfInBounds_toArray, List.set_cons_zero, List.set_cons_succ])
        refine wpAnyH_done (by kernel_rfl) ?_ _
        go_wp2_with fail
        exact ⟨rfl, .tuple #[], by simp [results, Tryz.results96, go_sem], rfl, h42⟩
      · obtain rfl : d = 7 := hd8
        go_wp2_with fail
        have h43 := hb.drew
        refine wp_region_held_drew (S := fun _ => True) (by kernel_rfl) trivial (fun hHeld43 => ?_)
        generalize wr.drew = w43 at *
        refine wpAnyH_take (i := 0) (oi := { dst := some 110, op := Op.move (Operand.tmp 0), type := 146, pos := _, after := #[], guard := none }) (v := ?tq14x1) rfl (by kernel_rfl) (by kernel_rfl) (by kernel_rfl) (fun _ _ _ h => h) (Or.inl ⟨by rfl, ?uq14x1⟩) (by assumption) ?rq14x1
        case uq14x1 => (intro w hSw; (try dsimp only at hSw); go_simp; (try with_reducible rfl))
        simp only [Act.put, List.setIfInBounds_toArray, List.set_cons_zero, List.set_cons_succ]
        refine wpAnyH_take (i := 1) (oi := { dst := some 111, op := Op.move (Operand.tmp 4), type := 3, pos := _, after := #[], guard := none }) (v := ?tq14x2) rfl (by kernel_rfl) (by kernel_rfl) (by kernel_rfl) (fun _ _ _ h => h) (Or.inl ⟨by rfl, ?uq14x2⟩) (by assumption) ?rq14x2
        case uq14x2 => (intro w hSw; (try dsimp only at hSw); go_simp; (try with_reducible rfl))
        simp only [Act.put, List.setIfInBounds_toArray, List.set_cons_zero, List.set_cons_succ]
        refine wpAnyH_take (i := 2) (oi := { dst := some 112, op := Op.binOp BinOp.sub 3 (Operand.tmp 111) (Operand.const (Value.int IntKind.i64 1)) 3, type := 3, pos := _, after := #[{ on := 1, ground := Ground.data }], guard := none }) (v := ?tq14x3) rfl (by kernel_rfl) (by kernel_rfl) (by kernel_rfl) (fun _ _ _ h => h) (Or.inl ⟨by rfl, ?uq14x3⟩) (by assumption) ?rq14x3
        case uq14x3 => (intro w hSw; (try dsimp only at hSw); go_simp; (try with_reducible rfl))
        simp only [Act.put, List.setIfInBounds_toArray, List.set_cons_zero, List.set_cons_succ]
        refine wpAnyH_take (i := 3) (oi := { dst := some 113, op := Op.move (Operand.tmp 0), type := 146, pos := _, after := #[{ on := 12, ground := Ground.gcOnly Departure.lateStores }], guard := none }) (v := ?tq14x4) rfl (by kernel_rfl) (by kernel_rfl) (by kernel_rfl) (fun _ _ _ h => h) (Or.inl ⟨by rfl, ?uq14x4⟩) (by assumption) ?rq14x4
        case uq14x4 => (intro w hSw; (try dsimp only at hSw); go_simp; (try with_reducible rfl))
        simp only [Act.put, List.setIfInBounds_toArray, List.set_cons_zero, List.set_cons_succ]
        refine wpAnyH_take (i := 4) (oi := { dst := some 114, op := Op.move (Operand.tmp 4), type := 3, pos := _, after := #[{ on := 12, ground := Ground.gcOnly Departure.lateStores }], guard := none }) (v := ?tq14x5) rfl (by kernel_rfl) (by kernel_rfl) (by kernel_rfl) (fun _ _ _ h => h) (Or.inl ⟨by rfl, ?uq14x5⟩) (by assumption) ?rq14x5
        case uq14x5 => (intro w hSw; (try dsimp only at hSw); go_simp; (try with_reducible rfl))
        simp only [Act.put, List.setIfInBounds_toArray, List.set_cons_zero, List.set_cons_succ]
        refine wpAnyH_take (i := 5) (oi := { dst := some 115, op := Op.binOp BinOp.sub 3 (Operand.tmp 114) (Operand.const (Value.int IntKind.i64 2)) 3, type := 3, pos := _, after := #[{ on := 4, ground := Ground.data }, { on := 12, ground := Ground.gcOnly Departure.lateStores }], guard := none }) (v := ?tq14x6) rfl (by kernel_rfl) (by kernel_rfl) (by kernel_rfl) (fun _ _ _ h => h) (Or.inl ⟨by rfl, ?uq14x6⟩) (by assumption) ?rq14x6
        case uq14x6 => (intro w hSw; (try dsimp only at hSw); go_simp; (try with_reducible rfl))
        simp only [Act.put, List.setIfInBounds_toArray, List.set_cons_zero, List.set_cons_succ]
        refine wpAnyH_take (i := 6) (oi := { dst := some 116, op := Op.move (Operand.tmp 15), type := 46, pos := _, after := #[], guard := none }) (v := ?tq14x7) rfl (by kernel_rfl) (by kernel_rfl) (by kernel_rfl) (fun _ _ _ h => h) (Or.inl ⟨by rfl, ?uq14x7⟩) (by assumption) ?rq14x7
        case uq14x7 => (intro w hSw; (try dsimp only at hSw); go_simp; (try with_reducible rfl))
        simp only [Act.put, List.setIfInBounds_toArray, List.set_cons_zero, List.set_cons_succ]
        refine wpAnyH_take (i := 7) (oi := { dst := some 117, op := Op.binOp BinOp.add 46 (Operand.tmp 116) (Operand.const (Value.int IntKind.u32 1)) 46, type := 46, pos := _, after := #[{ on := 6, ground := Ground.data }], guard := none }) (v := ?tq14x8) rfl (by kernel_rfl) (by kernel_rfl) (by kernel_rfl) (fun _ _ _ h => h) (Or.inl ⟨by rfl, ?uq14x8⟩) (by assumption) ?rq14x8
        case uq14x8 => (intro w hSw; (try dsimp only at hSw); go_simp; (try with_reducible rfl))
        simp only [Act.put, List.setIfInBounds_toArray, List.set_cons_zero, List.set_cons_succ]
        refine wpAnyH_take (i := 8) (oi := { dst := some 118, op := Op.index 9 (Operand.const (Value.string smS)) (Operand.tmp 117), type := 5, pos := _, after := #[{ on := 7, ground := Ground.data }], guard := none }) (v := ?tq14x9) rfl (by kernel_rfl) (by kernel_rfl) (by kernel_rfl) (fun _ _ _ h => h) (Or.inl ⟨by rfl, ?uq14x9⟩) (by assumption) ?rq14x9
        case uq14x9 => (intro w hSw; (try dsimp only at hSw); go_simp; rw [dif_pos (by rw [smS_size]; first | omega | (rw [u32w _ (by omega) (by omega)]; omega))]; rfl)
        simp only [Act.put, List.setIfInBounds_toArray, List.set_cons_zero, List.set_cons_succ]
        refine wpAnyH_take (i := 9) (oi := { dst := some 119, op := Op.move (Operand.tmp 15), type := 46, pos := _, after := #[], guard := none }) (v := ?tq14x10) rfl (by kernel_rfl) (by kernel_rfl) (by kernel_rfl) (fun _ _ _ h => h) (Or.inl ⟨by rfl, ?uq14x10⟩) (by assumption) ?rq14x10
        case uq14x10 => (intro w hSw; (try dsimp only at hSw); go_simp; (try with_reducible rfl))
        simp only [Act.put, List.setIfInBounds_toArray, List.set_cons_zero, List.set_cons_succ]
        refine wpAnyH_take (i := 10) (oi := { dst := some 120, op := Op.index 9 (Operand.const (Value.string smS)) (Operand.tmp 119), type := 5, pos := _, after := #[{ on := 9, ground := Ground.data }], guard := none }) (v := ?tq14x11) rfl (by kernel_rfl) (by kernel_rfl) (by kernel_rfl) (fun _ _ _ h => h) (Or.inl ⟨by rfl, ?uq14x11⟩) (by assumption) ?rq14x11
        case uq14x11 => (intro w hSw; (try dsimp only at hSw); go_simp; rw [dif_pos (by rw [smS_size]; first | omega | (rw [u32w _ (by omega) (by omega)]; omega))]; rfl)
        simp only [Act.put, List.setIfInBounds_toArray, List.set_cons_zero, List.set_cons_succ]
        refine wpAnyH_take (i := 11) (oi := { dst := some 121, op := Op.indexAddr 146 (Operand.tmp 110) (Operand.tmp 112), type := 0, pos := _, after := #[{ on := 0, ground := Ground.data }, { on := 2, ground := Ground.data }, { on := 0, ground := Ground.phase }, { on := 1, ground := Ground.phase }, { on := 2, ground := Ground.phase }, { on := 3, ground := Ground.textOnly Departure.lateStores }, { on := 4, ground := Ground.textOnly Departure.lateStores }, { on := 5, ground := Ground.textOnly Departure.lateStores }, { on := 6, ground := Ground.phase }, { on := 7, ground := Ground.phase }, { on := 8, ground := Ground.phase }, { on := 9, ground := Ground.textOnly Departure.lateStores }, { on := 10, ground := Ground.textOnly Departure.lateStoresUnsure }], guard := none }) (v := .pointer (some ⟨B, off + 6, none⟩)) rfl (by kernel_rfl) (by kernel_rfl) (by kernel_rfl) (fun _ _ _ h => h) (Or.inl ⟨by rfl, ?uq14x12⟩) (by assumption) ?rq14x12
        case uq14x12 => (intro w hSw; (try dsimp only at hSw); go_simp; rw [show IntKind.i64.wrap 6 = 6 from (by decide)]; first | (rw [if_pos (by omega)]; first | rfl | simp) | (intro h9; exfalso; omega))
        simp only [Act.put, List.setIfInBounds_toArray, List.set_cons_zero, List.set_cons_succ]
        refine wpAnyH_ready (rs := [12]) (by kernel_rfl) (by simp) ?_
        refine AllReadyH.cons (o := { dst := none, op := Op.store 5 (Operand.tmp 121) (Operand.tmp 118), type := 0, pos := _, after := #[{ on := 11, ground := Ground.data }, { on := 8, ground := Ground.data }, { on := 0, ground := Ground.phase }, { on := 1, ground := Ground.phase }, { on := 2, ground := Ground.phase }, { on := 3, ground := Ground.textOnly Departure.lateStores }, { on := 4, ground := Ground.textOnly Departure.lateStores }, { on := 5, ground := Ground.textOnly Departure.lateStores }, { on := 6, ground := Ground.phase }, { on := 7, ground := Ground.phase }, { on := 8, ground := Ground.phase }, { on := 9, ground := Ground.textOnly Departure.lateStores }, { on := 10, ground := Ground.textOnly Departure.lateStoresUnsure }], guard := none }) rfl (fun K hK => ?_) AllReadyH.nil
        obtain ⟨b44, c44⟩ := Bu.c h43.u (j := off + 6) (by omega)
        have z44 := Bu.f h43.u
        go_simp
        refine hK.out _ _ trivial (fun hH44 => ?_)
        generalize hW44 : World.setCell w43 _ _ = W44
        have h44 := Bq.put h43 hW44
        clear hW44 c44 z44
        clear hK K
        (try simp only [Act.put, List.setIfInBounds_toArray, List.set_cons_zero, List.set_cons_succ])
        refine wpAnyH_take (i := 13) (oi := { dst := some 122, op := Op.indexAddr 146 (Operand.tmp 113) (Operand.tmp 115), type := 0, pos := _, after := #[{ on := 3, ground := Ground.data }, { on := 5, ground := Ground.data }, { on := 0, ground := Ground.phase }, { on := 1, ground := Ground.phase }, { on := 2, ground := Ground.phase }, { on := 3, ground := Ground.phase }, { on := 4, ground := Ground.phase }, { on := 5, ground := Ground.phase }, { on := 6, ground := Ground.phase }, { on := 7, ground := Ground.phase }, { on := 8, ground := Ground.phase }, { on := 9, ground := Ground.phase }, { on := 10, ground := Ground.phase }, { on := 11, ground := Ground.phase }, { on := 12, ground := Ground.phase }], guard := none }) (v := .pointer (some ⟨B, off + 5, none⟩)) rfl (by kernel_rfl) (by kernel_rfl) (by kernel_rfl) (fun _ _ _ h => h) (Or.inl ⟨by rfl, ?uq14x13⟩) (by assumption) ?rq14x13
        case uq14x13 => (intro w hSw; (try dsimp only at hSw); go_simp; rw [show IntKind.i64.wrap 5 = 5 from (by decide)]; first | (rw [if_pos (by omega)]; first | rfl | simp) | (intro h9; exfalso; omega))
        simp only [Act.put, List.setIfInBounds_toArray, List.set_cons_zero, List.set_cons_succ]
        refine wpAnyH_ready (rs := [14]) (by kernel_rfl) (by simp) ?_
        refine AllReadyH.cons (o := { dst := none, op := Op.store 5 (Operand.tmp 122) (Operand.tmp 120), type := 0, pos := _, after := #[{ on := 13, ground := Ground.data }, { on := 10, ground := Ground.data }, { on := 12, ground := Ground.chain }, { on := 0, ground := Ground.phase }, { on := 1, ground := Ground.phase }, { on := 2, ground := Ground.phase }, { on := 3, ground := Ground.phase }, { on := 4, ground := Ground.phase }, { on := 5, ground := Ground.phase }, { on := 6, ground := Ground.phase }, { on := 7, ground := Ground.phase }, { on := 8, ground := Ground.phase }, { on := 9, ground := Ground.phase }, { on := 10, ground := Ground.phase }, { on := 11, ground := Ground.phase }, { on := 12, ground := Ground.phase }], guard := none }) rfl (fun K hK => ?_) AllReadyH.nil
        obtain ⟨b45, c45⟩ := Bu.c h44.u (j := off + 5) (by omega)
        have z45 := Bu.f h44.u
        go_simp
        refine hK.out _ _ trivial (fun hH45 => ?_)
        generalize hW45 : World.setCell W44 _ _ = W45
        have h45 := Bq.put h44 hW45
        clear hW45 c45 z45
        clear hK K
        (try simp only [Act.put, List.setIfInBounds_toArray, List.set_cons_zero, List.set_cons_succ])
        refine wpAnyH_done (by kernel_rfl) ?_ _
        go_wp2_with fail
        have h46 := h45.drew
        refine wp_region_held_drew (S := fun _ => True) (by kernel_rfl) trivial (fun hHeld46 => ?_)
        generalize W45.drew = w46 at *
        refine wpAnyH_take (i := 0) (oi := { dst := some 123, op := Op.move (Operand.tmp 0), type := 146, pos := _, after := #[], guard := none }) (v := ?tq15x1) rfl (by kernel_rfl) (by kernel_rfl) (by kernel_rfl) (fun _ _ _ h => h) (Or.inl ⟨by rfl, ?uq15x1⟩) (by assumption) ?rq15x1
        case uq15x1 => (intro w hSw; (try dsimp only at hSw); go_simp; (try with_reducible rfl))
        simp only [Act.put, List.setIfInBounds_toArray, List.set_cons_zero, List.set_cons_succ]
        refine wpAnyH_take (i := 1) (oi := { dst := some 124, op := Op.move (Operand.tmp 4), type := 3, pos := _, after := #[], guard := none }) (v := ?tq15x2) rfl (by kernel_rfl) (by kernel_rfl) (by kernel_rfl) (fun _ _ _ h => h) (Or.inl ⟨by rfl, ?uq15x2⟩) (by assumption) ?rq15x2
        case uq15x2 => (intro w hSw; (try dsimp only at hSw); go_simp; (try with_reducible rfl))
        simp only [Act.put, List.setIfInBounds_toArray, List.set_cons_zero, List.set_cons_succ]
        refine wpAnyH_take (i := 2) (oi := { dst := some 125, op := Op.binOp BinOp.sub 3 (Operand.tmp 124) (Operand.const (Value.int IntKind.i64 3)) 3, type := 3, pos := _, after := #[{ on := 1, ground := Ground.data }], guard := none }) (v := ?tq15x3) rfl (by kernel_rfl) (by kernel_rfl) (by kernel_rfl) (fun _ _ _ h => h) (Or.inl ⟨by rfl, ?uq15x3⟩) (by assumption) ?rq15x3
        case uq15x3 => (intro w hSw; (try dsimp only at hSw); go_simp; (try with_reducible rfl))
        simp only [Act.put, List.setIfInBounds_toArray, List.set_cons_zero, List.set_cons_succ]
        refine wpAnyH_take (i := 3) (oi := { dst := some 126, op := Op.move (Operand.tmp 0), type := 146, pos := _, after := #[{ on := 12, ground := Ground.gcOnly Departure.lateStores }], guard := none }) (v := ?tq15x4) rfl (by kernel_rfl) (by kernel_rfl) (by kernel_rfl) (fun _ _ _ h => h) (Or.inl ⟨by rfl, ?uq15x4⟩) (by assumption) ?rq15x4
        case uq15x4 => (intro w hSw; (try dsimp only at hSw); go_simp; (try with_reducible rfl))
        simp only [Act.put, List.setIfInBounds_toArray, List.set_cons_zero, List.set_cons_succ]
        refine wpAnyH_take (i := 4) (oi := { dst := some 127, op := Op.move (Operand.tmp 4), type := 3, pos := _, after := #[{ on := 12, ground := Ground.gcOnly Departure.lateStores }], guard := none }) (v := ?tq15x5) rfl (by kernel_rfl) (by kernel_rfl) (by kernel_rfl) (fun _ _ _ h => h) (Or.inl ⟨by rfl, ?uq15x5⟩) (by assumption) ?rq15x5
        case uq15x5 => (intro w hSw; (try dsimp only at hSw); go_simp; (try with_reducible rfl))
        simp only [Act.put, List.setIfInBounds_toArray, List.set_cons_zero, List.set_cons_succ]
        refine wpAnyH_take (i := 5) (oi := { dst := some 128, op := Op.binOp BinOp.sub 3 (Operand.tmp 127) (Operand.const (Value.int IntKind.i64 4)) 3, type := 3, pos := _, after := #[{ on := 4, ground := Ground.data }, { on := 12, ground := Ground.gcOnly Departure.lateStores }], guard := none }) (v := ?tq15x6) rfl (by kernel_rfl) (by kernel_rfl) (by kernel_rfl) (fun _ _ _ h => h) (Or.inl ⟨by rfl, ?uq15x6⟩) (by assumption) ?rq15x6
        case uq15x6 => (intro w hSw; (try dsimp only at hSw); go_simp; (try with_reducible rfl))
        simp only [Act.put, List.setIfInBounds_toArray, List.set_cons_zero, List.set_cons_succ]
        refine wpAnyH_take (i := 6) (oi := { dst := some 129, op := Op.move (Operand.tmp 14), type := 46, pos := _, after := #[], guard := none }) (v := ?tq15x7) rfl (by kernel_rfl) (by kernel_rfl) (by kernel_rfl) (fun _ _ _ h => h) (Or.inl ⟨by rfl, ?uq15x7⟩) (by assumption) ?rq15x7
        case uq15x7 => (intro w hSw; (try dsimp only at hSw); go_simp; (try with_reducible rfl))
        simp only [Act.put, List.setIfInBounds_toArray, List.set_cons_zero, List.set_cons_succ]
        refine wpAnyH_take (i := 7) (oi := { dst := some 130, op := Op.binOp BinOp.add 46 (Operand.tmp 129) (Operand.const (Value.int IntKind.u32 1)) 46, type := 46, pos := _, after := #[{ on := 6, ground := Ground.data }], guard := none }) (v := ?tq15x8) rfl (by kernel_rfl) (by kernel_rfl) (by kernel_rfl) (fun _ _ _ h => h) (Or.inl ⟨by rfl, ?uq15x8⟩) (by assumption) ?rq15x8
        case uq15x8 => (intro w hSw; (try dsimp only at hSw); go_simp; (try with_reducible rfl))
        simp only [Act.put, List.setIfInBounds_toArray, List.set_cons_zero, List.set_cons_succ]
        refine wpAnyH_take (i := 8) (oi := { dst := some 131, op := Op.index 9 (Operand.const (Value.string smS)) (Operand.tmp 130), type := 5, pos := _, after := #[{ on := 7, ground := Ground.data }], guard := none }) (v := ?tq15x9) rfl (by kernel_rfl) (by kernel_rfl) (by kernel_rfl) (fun _ _ _ h => h) (Or.inl ⟨by rfl, ?uq15x9⟩) (by assumption) ?rq15x9
        case uq15x9 => (intro w hSw; (try dsimp only at hSw); go_simp; rw [dif_pos (by rw [smS_size]; first | omega | (rw [u32w _ (by omega) (by omega)]; omega))]; rfl)
        simp only [Act.put, List.setIfInBounds_toArray, List.set_cons_zero, List.set_cons_succ]
        refine wpAnyH_take (i := 9) (oi := { dst := some 132, op := Op.move (Operand.tmp 14), type := 46, pos := _, after := #[], guard := none }) (v := ?tq15x10) rfl (by kernel_rfl) (by kernel_rfl) (by kernel_rfl) (fun _ _ _ h => h) (Or.inl ⟨by rfl, ?uq15x10⟩) (by assumption) ?rq15x10
        case uq15x10 => (intro w hSw; (try dsimp only at hSw); go_simp; (try with_reducible rfl))
        simp only [Act.put, List.setIfInBounds_toArray, List.set_cons_zero, List.set_cons_succ]
        refine wpAnyH_take (i := 10) (oi := { dst := some 133, op := Op.index 9 (Operand.const (Value.string smS)) (Operand.tmp 132), type := 5, pos := _, after := #[{ on := 9, ground := Ground.data }], guard := none }) (v := ?tq15x11) rfl (by kernel_rfl) (by kernel_rfl) (by kernel_rfl) (fun _ _ _ h => h) (Or.inl ⟨by rfl, ?uq15x11⟩) (by assumption) ?rq15x11
        case uq15x11 => (intro w hSw; (try dsimp only at hSw); go_simp; rw [dif_pos (by rw [smS_size]; first | omega | (rw [u32w _ (by omega) (by omega)]; omega))]; rfl)
        simp only [Act.put, List.setIfInBounds_toArray, List.set_cons_zero, List.set_cons_succ]
        refine wpAnyH_take (i := 11) (oi := { dst := some 134, op := Op.indexAddr 146 (Operand.tmp 123) (Operand.tmp 125), type := 0, pos := _, after := #[{ on := 0, ground := Ground.data }, { on := 2, ground := Ground.data }, { on := 0, ground := Ground.phase }, { on := 1, ground := Ground.phase }, { on := 2, ground := Ground.phase }, { on := 3, ground := Ground.textOnly Departure.lateStores }, { on := 4, ground := Ground.textOnly Departure.lateStores }, { on := 5, ground := Ground.textOnly Departure.lateStores }, { on := 6, ground := Ground.phase }, { on := 7, ground := Ground.phase }, { on := 8, ground := Ground.phase }, { on := 9, ground := Ground.textOnly Departure.lateStores }, { on := 10, ground := Ground.textOnly Departure.lateStoresUnsure }], guard := none }) (v := .pointer (some ⟨B, off + 4, none⟩)) rfl (by kernel_rfl) (by kernel_rfl) (by kernel_rfl) (fun _ _ _ h => h) (Or.inl ⟨by rfl, ?uq15x12⟩) (by assumption) ?rq15x12
        case uq15x12 => (intro w hSw; (try dsimp only at hSw); go_simp; rw [show IntKind.i64.wrap 4 = 4 from (by decide)]; first | (rw [if_pos (by omega)]; first | rfl | simp) | (intro h9; exfalso; omega))
        simp only [Act.put, List.setIfInBounds_toArray, List.set_cons_zero, List.set_cons_succ]
        refine wpAnyH_ready (rs := [12]) (by kernel_rfl) (by simp) ?_
        refine AllReadyH.cons (o := { dst := none, op := Op.store 5 (Operand.tmp 134) (Operand.tmp 131), type := 0, pos := _, after := #[{ on := 11, ground := Ground.data }, { on := 8, ground := Ground.data }, { on := 0, ground := Ground.phase }, { on := 1, ground := Ground.phase }, { on := 2, ground := Ground.phase }, { on := 3, ground := Ground.textOnly Departure.lateStores }, { on := 4, ground := Ground.textOnly Departure.lateStores }, { on := 5, ground := Ground.textOnly Departure.lateStores }, { on := 6, ground := Ground.phase }, { on := 7, ground := Ground.phase }, { on := 8, ground := Ground.phase }, { on := 9, ground := Ground.textOnly Departure.lateStores }, { on := 10, ground := Ground.textOnly Departure.lateStoresUnsure }], guard := none }) rfl (fun K hK => ?_) AllReadyH.nil
        obtain ⟨b47, c47⟩ := Bu.c h46.u (j := off + 4) (by omega)
        have z47 := Bu.f h46.u
        go_simp
        refine hK.out _ _ trivial (fun hH47 => ?_)
        generalize hW47 : World.setCell w46 _ _ = W47
        have h47 := Bq.put h46 hW47
        clear hW47 c47 z47
        clear hK K
        (try simp only [Act.put, List.setIfInBounds_toArray, List.set_cons_zero, List.set_cons_succ])
        refine wpAnyH_take (i := 13) (oi := { dst := some 135, op := Op.indexAddr 146 (Operand.tmp 126) (Operand.tmp 128), type := 0, pos := _, after := #[{ on := 3, ground := Ground.data }, { on := 5, ground := Ground.data }, { on := 0, ground := Ground.phase }, { on := 1, ground := Ground.phase }, { on := 2, ground := Ground.phase }, { on := 3, ground := Ground.phase }, { on := 4, ground := Ground.phase }, { on := 5, ground := Ground.phase }, { on := 6, ground := Ground.phase }, { on := 7, ground := Ground.phase }, { on := 8, ground := Ground.phase }, { on := 9, ground := Ground.phase }, { on := 10, ground := Ground.phase }, { on := 11, ground := Ground.phase }, { on := 12, ground := Ground.phase }], guard := none }) (v := .pointer (some ⟨B, off + 3, none⟩)) rfl (by kernel_rfl) (by kernel_rfl) (by kernel_rfl) (fun _ _ _ h => h) (Or.inl ⟨by rfl, ?uq15x13⟩) (by assumption) ?rq15x13
        case uq15x13 => (intro w hSw; (try dsimp only at hSw); go_simp; rw [show IntKind.i64.wrap 3 = 3 from (by decide)]; first | (rw [if_pos (by omega)]; first | rfl | simp) | (intro h9; exfalso; omega))
        simp only [Act.put, List.setIfInBounds_toArray, List.set_cons_zero, List.set_cons_succ]
        refine wpAnyH_ready (rs := [14]) (by kernel_rfl) (by simp) ?_
        refine AllReadyH.cons (o := { dst := none, op := Op.store 5 (Operand.tmp 135) (Operand.tmp 133), type := 0, pos := _, after := #[{ on := 13, ground := Ground.data }, { on := 10, ground := Ground.data }, { on := 12, ground := Ground.chain }, { on := 0, ground := Ground.phase }, { on := 1, ground := Ground.phase }, { on := 2, ground := Ground.phase }, { on := 3, ground := Ground.phase }, { on := 4, ground := Ground.phase }, { on := 5, ground := Ground.phase }, { on := 6, ground := Ground.phase }, { on := 7, ground := Ground.phase }, { on := 8, ground := Ground.phase }, { on := 9, ground := Ground.phase }, { on := 10, ground := Ground.phase }, { on := 11, ground := Ground.phase }, { on := 12, ground := Ground.phase }], guard := none }) rfl (fun K hK => ?_) AllReadyH.nil
        obtain ⟨b48, c48⟩ := Bu.c h47.u (j := off + 3) (by omega)
        have z48 := Bu.f h47.u
        go_simp
        refine hK.out _ _ trivial (fun hH48 => ?_)
        generalize hW48 : World.setCell W47 _ _ = W48
        have h48 := Bq.put h47 hW48
        clear hW48 c48 z48
        clear hK K
        (try simp only [Act.put, List.setIfInBounds_toArray, List.set_cons_zero, List.set_cons_succ])
        refine wpAnyH_done (by kernel_rfl) ?_ _
        go_wp2_with fail
        have h49 := h48.drew
        refine wp_region_held_drew (S := fun _ => True) (by kernel_rfl) trivial (fun hHeld49 => ?_)
        generalize W48.drew = w49 at *
        refine wpAnyH_take (i := 0) (oi := { dst := some 145, op := Op.move (Operand.tmp 0), type := 146, pos := _, after := #[], guard := none }) (v := ?tq16x1) rfl (by kernel_rfl) (by kernel_rfl) (by kernel_rfl) (fun _ _ _ h => h) (Or.inl ⟨by rfl, ?uq16x1⟩) (by assumption) ?rq16x1
        case uq16x1 => (intro w hSw; (try dsimp only at hSw); go_simp; (try with_reducible rfl))
        simp only [Act.put, List.setIfInBounds_toArray, List.set_cons_zero, List.set_cons_succ]
        refine wpAnyH_take (i := 1) (oi := { dst := some 146, op := Op.move (Operand.tmp 4), type := 3, pos := _, after := #[], guard := none }) (v := ?tq16x2) rfl (by kernel_rfl) (by kernel_rfl) (by kernel_rfl) (fun _ _ _ h => h) (Or.inl ⟨by rfl, ?uq16x2⟩) (by assumption) ?rq16x2
        case uq16x2 => (intro w hSw; (try dsimp only at hSw); go_simp; (try with_reducible rfl))
        simp only [Act.put, List.setIfInBounds_toArray, List.set_cons_zero, List.set_cons_succ]
        refine wpAnyH_take (i := 2) (oi := { dst := some 147, op := Op.binOp BinOp.sub 3 (Operand.tmp 146) (Operand.const (Value.int IntKind.i64 1)) 3, type := 3, pos := _, after := #[{ on := 1, ground := Ground.data }], guard := none }) (v := ?tq16x3) rfl (by kernel_rfl) (by kernel_rfl) (by kernel_rfl) (fun _ _ _ h => h) (Or.inl ⟨by rfl, ?uq16x3⟩) (by assumption) ?rq16x3
        case uq16x3 => (intro w hSw; (try dsimp only at hSw); go_simp; (try with_reducible rfl))
        simp only [Act.put, List.setIfInBounds_toArray, List.set_cons_zero, List.set_cons_succ]
        refine wpAnyH_take (i := 3) (oi := { dst := some 148, op := Op.move (Operand.tmp 0), type := 146, pos := _, after := #[{ on := 12, ground := Ground.gcOnly Departure.lateStores }], guard := none }) (v := ?tq16x4) rfl (by kernel_rfl) (by kernel_rfl) (by kernel_rfl) (fun _ _ _ h => h) (Or.inl ⟨by rfl, ?uq16x4⟩) (by assumption) ?rq16x4
        case uq16x4 => (intro w hSw; (try dsimp only at hSw); go_simp; (try with_reducible rfl))
        simp only [Act.put, List.setIfInBounds_toArray, List.set_cons_zero, List.set_cons_succ]
        refine wpAnyH_take (i := 4) (oi := { dst := some 149, op := Op.move (Operand.tmp 4), type := 3, pos := _, after := #[{ on := 12, ground := Ground.gcOnly Departure.lateStores }], guard := none }) (v := ?tq16x5) rfl (by kernel_rfl) (by kernel_rfl) (by kernel_rfl) (fun _ _ _ h => h) (Or.inl ⟨by rfl, ?uq16x5⟩) (by assumption) ?rq16x5
        case uq16x5 => (intro w hSw; (try dsimp only at hSw); go_simp; (try with_reducible rfl))
        simp only [Act.put, List.setIfInBounds_toArray, List.set_cons_zero, List.set_cons_succ]
        refine wpAnyH_take (i := 5) (oi := { dst := some 150, op := Op.binOp BinOp.sub 3 (Operand.tmp 149) (Operand.const (Value.int IntKind.i64 2)) 3, type := 3, pos := _, after := #[{ on := 4, ground := Ground.data }, { on := 12, ground := Ground.gcOnly Departure.lateStores }], guard := none }) (v := ?tq16x6) rfl (by kernel_rfl) (by kernel_rfl) (by kernel_rfl) (fun _ _ _ h => h) (Or.inl ⟨by rfl, ?uq16x6⟩) (by assumption) ?rq16x6
        case uq16x6 => (intro w hSw; (try dsimp only at hSw); go_simp; (try with_reducible rfl))
        simp only [Act.put, List.setIfInBounds_toArray, List.set_cons_zero, List.set_cons_succ]
        refine wpAnyH_take (i := 6) (oi := { dst := some 151, op := Op.move (Operand.tmp 16), type := 46, pos := _, after := #[], guard := none }) (v := ?tq16x7) rfl (by kernel_rfl) (by kernel_rfl) (by kernel_rfl) (fun _ _ _ h => h) (Or.inl ⟨by rfl, ?uq16x7⟩) (by assumption) ?rq16x7
        case uq16x7 => (intro w hSw; (try dsimp only at hSw); go_simp; (try with_reducible rfl))
        simp only [Act.put, List.setIfInBounds_toArray, List.set_cons_zero, List.set_cons_succ]
        refine wpAnyH_take (i := 7) (oi := { dst := some 152, op := Op.binOp BinOp.add 46 (Operand.tmp 151) (Operand.const (Value.int IntKind.u32 1)) 46, type := 46, pos := _, after := #[{ on := 6, ground := Ground.data }], guard := none }) (v := ?tq16x8) rfl (by kernel_rfl) (by kernel_rfl) (by kernel_rfl) (fun _ _ _ h => h) (Or.inl ⟨by rfl, ?uq16x8⟩) (by assumption) ?rq16x8
        case uq16x8 => (intro w hSw; (try dsimp only at hSw); go_simp; (try with_reducible rfl))
        simp only [Act.put, List.setIfInBounds_toArray, List.set_cons_zero, List.set_cons_succ]
        refine wpAnyH_take (i := 8) (oi := { dst := some 153, op := Op.index 9 (Operand.const (Value.string smS)) (Operand.tmp 152), type := 5, pos := _, after := #[{ on := 7, ground := Ground.data }], guard := none }) (v := ?tq16x9) rfl (by kernel_rfl) (by kernel_rfl) (by kernel_rfl) (fun _ _ _ h => h) (Or.inl ⟨by rfl, ?uq16x9⟩) (by assumption) ?rq16x9
        case uq16x9 => (intro w hSw; (try dsimp only at hSw); go_simp; rw [dif_pos (by rw [smS_size]; first | omega | (rw [u32w _ (by omega) (by omega)]; omega))]; rfl)
        simp only [Act.put, List.setIfInBounds_toArray, List.set_cons_zero, List.set_cons_succ]
        refine wpAnyH_take (i := 9) (oi := { dst := some 154, op := Op.move (Operand.tmp 16), type := 46, pos := _, after := #[], guard := none }) (v := ?tq16x10) rfl (by kernel_rfl) (by kernel_rfl) (by kernel_rfl) (fun _ _ _ h => h) (Or.inl ⟨by rfl, ?uq16x10⟩) (by assumption) ?rq16x10
        case uq16x10 => (intro w hSw; (try dsimp only at hSw); go_simp; (try with_reducible rfl))
        simp only [Act.put, List.setIfInBounds_toArray, List.set_cons_zero, List.set_cons_succ]
        refine wpAnyH_take (i := 10) (oi := { dst := some 155, op := Op.index 9 (Operand.const (Value.string smS)) (Operand.tmp 154), type := 5, pos := _, after := #[{ on := 9, ground := Ground.data }], guard := none }) (v := ?tq16x11) rfl (by kernel_rfl) (by kernel_rfl) (by kernel_rfl) (fun _ _ _ h => h) (Or.inl ⟨by rfl, ?uq16x11⟩) (by assumption) ?rq16x11
        case uq16x11 => (intro w hSw; (try dsimp only at hSw); go_simp; rw [dif_pos (by rw [smS_size]; first | omega | (rw [u32w _ (by omega) (by omega)]; omega))]; rfl)
        simp only [Act.put, List.setIfInBounds_toArray, List.set_cons_zero, List.set_cons_succ]
        refine wpAnyH_take (i := 11) (oi := { dst := some 156, op := Op.indexAddr 146 (Operand.tmp 145) (Operand.tmp 147), type := 0, pos := _, after := #[{ on := 0, ground := Ground.data }, { on := 2, ground := Ground.data }, { on := 0, ground := Ground.phase }, { on := 1, ground := Ground.phase }, { on := 2, ground := Ground.phase }, { on := 3, ground := Ground.textOnly Departure.lateStores }, { on := 4, ground := Ground.textOnly Departure.lateStores }, { on := 5, ground := Ground.textOnly Departure.lateStores }, { on := 6, ground := Ground.phase }, { on := 7, ground := Ground.phase }, { on := 8, ground := Ground.phase }, { on := 9, ground := Ground.textOnly Departure.lateStores }, { on := 10, ground := Ground.textOnly Departure.lateStoresUnsure }], guard := none }) (v := .pointer (some ⟨B, off + 2, none⟩)) rfl (by kernel_rfl) (by kernel_rfl) (by kernel_rfl) (fun _ _ _ h => h) (Or.inl ⟨by rfl, ?uq16x12⟩) (by assumption) ?rq16x12
        case uq16x12 => (intro w hSw; (try dsimp only at hSw); go_simp; rw [show IntKind.i64.wrap 2 = 2 from (by decide)]; first | (rw [if_pos (by omega)]; first | rfl | simp) | (intro h9; exfalso; omega))
        simp only [Act.put, List.setIfInBounds_toArray, List.set_cons_zero, List.set_cons_succ]
        refine wpAnyH_ready (rs := [12]) (by kernel_rfl) (by simp) ?_
        refine AllReadyH.cons (o := { dst := none, op := Op.store 5 (Operand.tmp 156) (Operand.tmp 153), type := 0, pos := _, after := #[{ on := 11, ground := Ground.data }, { on := 8, ground := Ground.data }, { on := 0, ground := Ground.phase }, { on := 1, ground := Ground.phase }, { on := 2, ground := Ground.phase }, { on := 3, ground := Ground.textOnly Departure.lateStores }, { on := 4, ground := Ground.textOnly Departure.lateStores }, { on := 5, ground := Ground.textOnly Departure.lateStores }, { on := 6, ground := Ground.phase }, { on := 7, ground := Ground.phase }, { on := 8, ground := Ground.phase }, { on := 9, ground := Ground.textOnly Departure.lateStores }, { on := 10, ground := Ground.textOnly Departure.lateStoresUnsure }], guard := none }) rfl (fun K hK => ?_) AllReadyH.nil
        obtain ⟨b50, c50⟩ := Bu.c h49.u (j := off + 2) (by omega)
        have z50 := Bu.f h49.u
        go_simp
        refine hK.out _ _ trivial (fun hH50 => ?_)
        generalize hW50 : World.setCell w49 _ _ = W50
        have h50 := Bq.put h49 hW50
        clear hW50 c50 z50
        clear hK K
        (try simp only [Act.put, List.setIfInBounds_toArray, List.set_cons_zero, List.set_cons_succ])
        refine wpAnyH_take (i := 13) (oi := { dst := some 157, op := Op.indexAddr 146 (Operand.tmp 148) (Operand.tmp 150), type := 0, pos := _, after := #[{ on := 3, ground := Ground.data }, { on := 5, ground := Ground.data }, { on := 0, ground := Ground.phase }, { on := 1, ground := Ground.phase }, { on := 2, ground := Ground.phase }, { on := 3, ground := Ground.phase }, { on := 4, ground := Ground.phase }, { on := 5, ground := Ground.phase }, { on := 6, ground := Ground.phase }, { on := 7, ground := Ground.phase }, { on := 8, ground := Ground.phase }, { on := 9, ground := Ground.phase }, { on := 10, ground := Ground.phase }, { on := 11, ground := Ground.phase }, { on := 12, ground := Ground.phase }], guard := none }) (v := .pointer (some ⟨B, off + 1, none⟩)) rfl (by kernel_rfl) (by kernel_rfl) (by kernel_rfl) (fun _ _ _ h => h) (Or.inl ⟨by rfl, ?uq16x13⟩) (by assumption) ?rq16x13
        case uq16x13 => (intro w hSw; (try dsimp only at hSw); go_simp; rw [show IntKind.i64.wrap 1 = 1 from (by decide)]; first | (rw [if_pos (by omega)]; first | rfl | simp) | (intro h9; exfalso; omega))
        simp only [Act.put, List.setIfInBounds_toArray, List.set_cons_zero, List.set_cons_succ]
        refine wpAnyH_ready (rs := [14]) (by kernel_rfl) (by simp) ?_
        refine AllReadyH.cons (o := { dst := none, op := Op.store 5 (Operand.tmp 157) (Operand.tmp 155), type := 0, pos := _, after := #[{ on := 13, ground := Ground.data }, { on := 10, ground := Ground.data }, { on := 12, ground := Ground.chain }, { on := 0, ground := Ground.phase }, { on := 1, ground := Ground.phase }, { on := 2, ground := Ground.phase }, { on := 3, ground := Ground.phase }, { on := 4, ground := Ground.phase }, { on := 5, ground := Ground.phase }, { on := 6, ground := Ground.phase }, { on := 7, ground := Ground.phase }, { on := 8, ground := Ground.phase }, { on := 9, ground := Ground.phase }, { on := 10, ground := Ground.phase }, { on := 11, ground := Ground.phase }, { on := 12, ground := Ground.phase }], guard := none }) rfl (fun K hK => ?_) AllReadyH.nil
        obtain ⟨b51, c51⟩ := Bu.c h50.u (j := off + 1) (by omega)
        have z51 := Bu.f h50.u
        go_simp
        refine hK.out _ _ trivial (fun hH51 => ?_)
        generalize hW51 : World.setCell W50 _ _ = W51
        have h51 := Bq.put h50 hW51
        clear hW51 c51 z51
        clear hK K
        (try simp only [Act.put, List.setIfInBounds_toArray, List.set_cons_zero, List.set_cons_succ])
        refine wpAnyH_done (by kernel_rfl) ?_ _
        obtain ⟨b52, c52⟩ := Bu.c h51.u (j := off) (by omega)
        have z52 := Bu.f h51.u
        go_wp2_with fail
        generalize hW52 : World.setCell W51 _ _ = W52
        have h52 := Bq.set h51 hW52 (by omega) (by omega)
        clear hW52 c52 z52
        exact ⟨rfl, .tuple #[], by simp [results, Tryz.results96, go_sem], rfl, h52⟩
end Go.Proofs.YtajagjcfmaggiaaGreatDoor
