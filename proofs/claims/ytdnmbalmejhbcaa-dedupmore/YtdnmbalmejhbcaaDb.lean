/- Which numbers are known; the conditions: the row in memory, of a size that can be. -/
import Derived.Test.YtdnmbalmejhbcaaDa
namespace Go.Proofs.Ytdnmbalmejhbcaa
open Go.RowKit Go.Shelf
attribute [local go_sem] Oper.semAt_some

set_option maxRecDepth 100000 in
set_option maxHeartbeats 4000000 in
theorem knows_any (ad : Option Addr) (zs : List Int) (cap : Nat) (id : Int) (w : World) (hreach : zs.length ≤ 9223372036854775807) (hI : Sl w ad cap zs) :
    Calls Try.prog 11 #[.agg #[.slice ad zs.length cap], .int .i64 id] w fun e w' => e = .returned (.bool (decide (id ∈ zs))) ∧ Below w.heap.size w w' := by
  refine (callsIn_wide (n := 6)).1 ?_
  refine callsIn_of_wp_marks Try.func11 rfl trivial ?_ rfl
  simp only [Try.ntmps11, List.size_toArray, List.length_cons, List.length_nil, Nat.reduceAdd, Nat.reduceSub, Array.replicate_succ, Array.replicate_zero, List.push_toArray, List.append_toArray, List.nil_append, List.cons_append]
  have HI := Lib.hid hI
  clear hI
  gi_wp2_with (refine ⟨trivial, ?_⟩; gi_at_call 16; refine (latest_in Fence.wide _ trivial rfl ad zs.length cap _).mono ?_; rintro e w' ⟨rfl, rfl⟩)
  have A1 := ((Bk.new (w.alloc (.cells #[.slice ad zs.length cap] 24)) #[.int .i64 id] 2).alloc (.cells #[.bool false] 4)).alloc (.cells #[.slice ad zs.length cap] 22)
  have A2 := (Bk.new ((w.alloc (.cells #[.slice ad zs.length cap] 24)).alloc (.cells #[.int .i64 id] 2)) #[.bool false] 4).alloc (.cells #[.slice ad zs.length cap] 22)
  have A3 := Bk.new (((w.alloc (.cells #[.slice ad zs.length cap] 24)).alloc (.cells #[.int .i64 id] 2)).alloc (.cells #[.bool false] 4)) #[.slice ad zs.length cap] 22
  have hB0 := below_al (o := .cells #[.slice ad zs.length cap] 22) (below_al (o := .cells #[.bool false] 4) (below2 w (.cells #[.slice ad zs.length cap] 24) (.cells #[.int .i64 id] 2)))
  obtain ⟨W0, hW0⟩ : ∃ W0, (((w.alloc (.cells #[.slice ad zs.length cap] 24)).alloc (.cells #[.int .i64 id] 2)).alloc (.cells #[.bool false] 4)).alloc (.cells #[.slice ad zs.length cap] 22) = W0 := ⟨_, rfl⟩
  have hsz : W0.heap.size = w.heap.size + 4 := by rw [← hW0]; simp
  simp only [World.size_alloc] at A1 A2 A3
  rw [hW0] at A1 A2 A3 hB0 ⊢
  clear hW0
  refine wpIn_rangeFunc_ownH rfl (by decide) (gf := 18) (lb := #[.pointer (some ⟨w.heap.size + 1 + 1 + 1, 0, none⟩)]) rfl trivial (enters_of Try.func18 (by kernel_rfl) rfl)
    (latest_stops Fence.wide (6 - 1) trivial rfl (by decide) (w.heap.size + 1 + 1 + 1) W0.heap.size cap ad zs hreach W0 rfl (by omega) (A3.c 0) (HI.out.step hB0)) belowK_t (belowK_b (by omega)) (Below.refl _ _) (fun _ => rfl)
    (fun pre W => (Bk W (w.heap.size + 1) #[.int .i64 id] 2 ∧ Bk W (w.heap.size + 1 + 1) #[.bool false] 4 ∧ ∀ y ∈ pre, y ≠ id) ∧ Below w.heap.size w W)
    (fun c pre W => (Bk W (w.heap.size + 1 + 1) #[.bool true] 4 ∧ (c = .ret ∧ id ∈ pre)) ∧ Below w.heap.size w W)
    (OwnFrom.and (OwnFrom.and (Own.from (bk_own _ (fun _ => _) _) _) (OwnFrom.and (Own.from (bk_own _ (fun _ => _) _) _) (fun _ _ _ _ h _ _ => h))) (ownFrom_below (Nat.le_refl _) (by omega)))
    (fun c => OwnFrom.and (OwnFrom.and (Own.from (bk_own _ (fun _ => _) _) _) (fun _ _ _ _ h _ _ => h)) (ownFrom_below (Nat.le_refl _) (by omega)))
    ⟨⟨A1, A2, fun y hy => by cases hy⟩, hB0⟩
    (fun x a' W => a' = { tmps := #[.agg #[.slice ad zs.length cap], .int .i64 id, .pointer (some ⟨w.heap.size, 0, none⟩), .pointer (some ⟨w.heap.size + 1, 0, none⟩), .pointer (some ⟨w.heap.size + 1 + 1, 0, none⟩), .int .i64 x, .pointer (some ⟨w.heap.size, 0, none⟩), .slice ad zs.length cap, .func (.func 18) #[] #[.pointer (some ⟨w.heap.size + 1 + 1 + 1, 0, none⟩)], .int .i64 x, undef, undef, undef], defers := [] })
    (fun x a' _ X Y row hs hg hr => hs)
    ?assign ?body ?done ?stop
  case assign =>
    rintro l pre x W K ⟨⟨bA, bB, hag⟩, hB⟩ hK
    gi_wp2
    exact hK _ _ ((keeps_below (Below.refl _ _)).from _) (Below.refl _ _) ⟨⟨bA, bB, hag⟩, hB⟩ rfl
  case body =>
    rintro l pre x a' W hl hr ⟨⟨bA, bB, hag⟩, hB⟩ rfl hlt
    have c1 := bA.c 0
    have f2 := bB.f 0
    have c2 := bB.c 0
    have hs := bB.lt
    by_cases hx : x = id
    · subst hx
      gi_wp2
      refine ⟨(KeepsOthers.setCell _ _ _).from _, ⟨bB.set 0 (.bool true), rfl, by simp⟩, hB.setCell (p := ⟨w.heap.size + 1 + 1, 0, none⟩) (by simp; omega) _⟩
    · gi_wp2
      refine ⟨(keeps_below (Below.refl _ _)).from _, Below.refl _ _, ⟨bA, bB, fun y hy => ?_⟩, hB⟩
      rcases List.mem_append.1 hy with h | h
      · exact hag y h
      · simp at h; rw [h]; exact hx
  case done =>
    rintro D ys W hD rfl ⟨⟨bA, bB, hag⟩, hB⟩ hK
    have hd : decide (id ∈ zs) = false := by
      refine decide_eq_false fun h => hag id (by simpa using h) rfl
    have HD := Lib.hid hd
    clear hag hd bA
    have f2 := bB.f 0
    have c0 := bB.c 0
    have hlt := bB.lt
    have hKs : (W.setCell ⟨w.heap.size + 1 + 1, 0, none⟩ (.bool false)).heap[D]? = some (.deferred (some [])) := (Below.heap_setCell _ _ _ _ (by simp; omega)).trans hK
    have b2 : Bk ((W.setCell ⟨w.heap.size + 1 + 1, 0, none⟩ (.bool false)).putObj D (.deferred none)) (w.heap.size + 1 + 1) #[.bool false] 4 := (World.putObj_heap_other (by omega)).trans (bB.set 0 (.bool false))
    have c2 := b2.c 0
    have FIN : Hid (Below w.heap.size w ((W.setCell ⟨w.heap.size + 1 + 1, 0, none⟩ (.bool false)).putObj D (.deferred none))) := by
      refine Lib.hid ?_
      have e3 : Below w.heap.size w (W.setCell ⟨w.heap.size + 1 + 1, 0, none⟩ (.bool false)) := hB.setCell (p := ⟨w.heap.size + 1 + 1, 0, none⟩) (by simp; omega) _
      exact e3.trans (belowK_b (w := w) (Nat.le_refl _) _ D _ _ (by omega) hKs rfl rfl)
    clear bB b2 hB
    gi_wp2
    refine ⟨by simp, .inl ⟨_, _, rfl, run_takeDeferred hKs, ?_⟩⟩
    refine ⟨.bool false, ?_, by rw [HD.out], FIN.out⟩
    simp [results, Try.results11, go_sem, c2]
  case stop =>
    rintro D cc pre W hD ⟨kk, hpre⟩ ⟨⟨bB, rfl, hp⟩, hB⟩ hK
    have hd : decide (id ∈ zs) = true := by
      refine decide_eq_true ?_
      rw [hpre] at hp
      simpa using List.mem_of_mem_take hp
    have HD := Lib.hid hd
    clear hd hp hpre
    have hlt := bB.lt
    have b2 : Bk (W.putObj D (.deferred none)) (w.heap.size + 1 + 1) #[.bool true] 4 := (World.putObj_heap_other (by omega)).trans bB
    have c2 := b2.c 0
    have FIN : Hid (Below w.heap.size w (W.putObj D (.deferred none))) := Lib.hid (hB.trans (belowK_b (w := w) (Nat.le_refl _) _ D _ _ (by omega) hK rfl rfl))
    clear bB b2 hB
    gi_wp2
    refine ⟨by simp, .inl ⟨_, _, rfl, run_takeDeferred hK, ?_⟩⟩
    refine ⟨.bool true, ?_, by rw [HD.out], FIN.out⟩
    simp [results, Try.results11, go_sem, c2]
end Go.Proofs.Ytdnmbalmejhbcaa
