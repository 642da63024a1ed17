/- maps.Copy at the sets of numbers, walked; bounds on a set; no condition but those that each theorem names. -/
import Derived.Test.YtcnglhlljmfanaaGreatDoorKe
import Derived.Laws.IdiomRangeMap
namespace Go.Proofs.YtcnglhlljmfanaaGreatDoor
open Go.RowKit Tp Go.Maps

theorem owns_tight {w : World} {k : TypeId} {R : Value → Option (DataW Value × List MemPlace)} {b n : Nat} {D : DataW Value} (h : w.ownsMap Tryz.prog k R b n D) : w.ownsMap Tryz.prog k R b (Maps.size D) D := by
  obtain ⟨es, clock, hb, F, _, rfl⟩ := h
  exact ⟨es, clock, hb, F, by simp [Maps.size, length_sorted], rfl⟩

theorem SetAt.tight {w : World} {x : Option Nat} {s : Int → Bool} {K : Nat} (h : SetAt w x s K) (U : List Int) (hU : ∀ i, s i = true → i ∈ U) : SetAt w x s U.length := by
  cases x with
  | none => exact h
  | some b =>
    obtain ⟨l, h1, h2, _, h4, _⟩ := SetAt.keys h
    obtain ⟨n, D, ho, hn, hD⟩ := h
    have hl := ho.len Tryz.underlying36 0
    rw [h4 0] at hl
    have e : l.length = Maps.size D := by simp at hl; exact_mod_cast hl
    exact ⟨_, D, owns_tight ho, by rw [← e]; exact nodup_le l U h1 (fun i hi => hU i ((h2 i).1 hi)), hD⟩

set_option maxHeartbeats 4000000 in
set_option maxRecDepth 100000 in
theorem copy_any (bd : Nat) (src : Option Nat) (s1 s2 : Int → Bool) (K1 K2 : Nat) (w : World) (h1 : SetAt w (some bd) s1 K1) (h2 : SetAt w src s2 K2) (hne : src ≠ some bd) (hK : K1 + K2 < maxLen) :
    Calls Tryz.prog 77 #[.map (some bd), .map src] w fun e w' => e = .returned (.tuple #[]) ∧ SetAt w' (some bd) (fun i => s1 i || s2 i) (K1 + K2) ∧ But (fun k => k = bd) w w' := by
  cases src with
  | none =>
    have hrg := run_range_nilMap (P := Tryz.prog) w 36 _ _ Tryz.underlying36
    have hnx : ∀ ty, (Instr.next (.pointer (some ⟨w.heap.size, 0, none⟩)) false ty).run Tryz.prog (w.alloc (.mapIter none 0 #[] 0)) = _ := fun ty => run_next_nilMap _ ty 0 0 #[]
    go_enter Tryz.func77, Tryz.ntmps77
    go_wp2
    refine wp_loop_rounds 1 ?_
    rw [rounds_succ]
    go_wp2
    go_end0
    have e : (fun i => s1 i || s2 i) = s1 := funext fun i => by rw [h2 i]; simp
    rw [e]
    exact ⟨rfl, (h1.but (But.alloc (C := fun _ => False) w _) (fun _ _ h => h)).mono (by omega), But.alloc _ _⟩
  | some bs =>
    obtain ⟨nd, Dd, hd, hnd, hDd⟩ := h1
    obtain ⟨ns, Ds, hs, hns, hDs⟩ := h2
    have hbd := hd.lt
    have hbs := hs.lt
    have hsz := hs.size_le
    have hne' : bs ≠ bd := fun e => hne (by rw [e])
    go_enter Tryz.func77, Tryz.ntmps77
    go_wp2_with (first
      | (at_range; refine wpList_range_own _ rfl _ 36 rfl 3 68 intK Tryz.underlying36 unitElem bs ns _ rfl hs ?_; intro w0 hrg0 hg0 hs0)
      | go_in)
    go_frame
    go_loopw [8] (fun _ wr => ∃ (left : Lit → Bool) (cnt : Nat) (Do : DataW Value), wr.ranges Tryz.prog 3 unitElem bs w.heap.size ns Ds left cnt ∧ cnt ≤ Maps.size Ds ∧
        wr.ownsMap Tryz.prog 3 unitElem bd (nd + (Maps.size Ds - cnt)) Do ∧ (∀ i, Maps.has Do (.int .i64 i) = (s1 i || (s2 i && !left (.int .i64 i)))) ∧ w.grownBy wr (some bd))
      (fun _ wr => wr.rangeLeft bs w.heap.size)
    case atStart =>
      exact ⟨_, _, Dd, hrg0, Nat.le_refl _, (hd.kept hg0 (by simp)).mono (by omega), fun i => by rw [hDd i, hDs i]; cases s2 i <;> simp, hg0.but _⟩
    case round =>
      obtain ⟨left, cnt, Do, hrg, hcs, hout, hM, hgw⟩ := hrel
      go_wp2_with (first
        | (at_next; refine wpList_next_ranges _ rfl _ rfl 3 intK unitElem encZ (fun _ : Unit => .agg #[]) (fun key kl hk => by obtain ⟨x, hx, _⟩ := Maps.keyOf_i64 Tryz.underlying3 hk; exact ⟨x, hx⟩) (fun v y hv => by obtain ⟨rfl, _⟩ := unitElem_inv hv; exact ⟨(), rfl⟩) bs w.heap.size ns _ _ _ rfl hrg ?_ ?_)
        | go_in)
      · intro hc0 hl0
        go_wp2
        go_end0
        refine ⟨rfl, ⟨_, Do, hout, by omega, fun i => by rw [hM i, hl0]; simp⟩, But.grown hgw (fun k e _ => by cases e; rfl)⟩
      · intro x c kl y w1 cnt1 hkey hlx hv hat hrg1 hlt hg1 hs1 hen
        obtain ⟨x', ex, rfl, hwx⟩ := Maps.keyOf_i64 Tryz.underlying3 hkey
        obtain rfl : x = x' := encZ_inj ex
        have hout1 := hout.kept hg1 (fun e => by have := Option.some.inj e; omega)
        go_wp2_with (first
          | (at_mapUpdate; refine wpList_mapUpdate_own _ rfl _ _ _ 36 rfl 3 68 intK Tryz.underlying36 unitElem bd _ _ rfl (hout1.alloc _) (by omega) _ _ _ rfl rfl hkey (.agg []) [] unitElem_mk ?_; intro w2 hout2 hg2; go_frame)
          | go_in)
        have hg1' := World.grownBy.andThen (World.grownBy_alloc w1 (.cells #[] 68) (some bd)) hg2 (fun j hj => .inr hj)
        have hrg2 := hrg1.kept hg1' (fun e => hne' (Option.some.inj e)) (fun e => by have := Option.some.inj e; omega)
        go_roundw
        case rel =>
          refine ⟨_, cnt1, _, hrg2, by omega, hout2.mono (by omega), fun i => ?_, (hgw.andThen hg1 (fun j hj => .inl (by cases hj; exact Nat.le_refl _))).andThen hg1' (fun j hj => .inr hj)⟩
          by_cases e : i = x
          · subst e
            rw [has_put_same hout.isMap (key_i64 _)]
            have : Maps.has Ds (.int .i64 i) = true := has_true_of_atKey hat
            rw [hDs i] at this
            simp [this, Lit.sameKey]
          · rw [has_put_other (lit_ne e), hM i]
            simp [Lit.sameKey, e]
        case measure => rw [hrg2.left_eq, hrg.left_eq]; exact hlt
end Go.Proofs.YtcnglhlljmfanaaGreatDoor
