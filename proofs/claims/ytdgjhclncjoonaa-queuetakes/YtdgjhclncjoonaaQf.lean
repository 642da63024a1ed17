/- One message taken out of a row: slices.Delete; the conditions: the row in a block of its own. -/
import Derived.Test.YtdgjhclncjoonaaQe
import Derived.Test.YtdgjhclncjoonaaBb
import Derived.Deep.RegionLaw
import Derived.Lib.SliceRun
namespace Go.Proofs.Ytdgjhclncjoonaa
open Go.RowKit

theorem Ke.sets {A : Nat} : ∀ (vs : List Value) (o : Nat) (w : World), Ke A w (w.setCells A o vs)
  | [], _, w => Ke.refl A w
  | v :: r, o, w => ((Ke.refl A w).set o v).trans (Ke.sets r (o + 1) _)
/-- A row of cells written into a block. -/
theorem Bk.sets {g : Nat} {T : TypeId} : ∀ (vs : List Value) (o : Nat) (w : World) (cur : Array Value), Bk w g cur T → o + vs.length ≤ cur.size → ∃ cur' : Array Value, Bk (w.setCells g o vs) g cur' T ∧ cur'.size = cur.size ∧ ∀ i, cur'[i]? = if o ≤ i ∧ i < o + vs.length then vs[i - o]? else cur[i]?
  | [], o, w, cur, h, _ => ⟨cur, h, rfl, fun i => by simp; omega⟩
  | v :: r, o, w, cur, h, hl => by
    simp only [List.length_cons] at hl
    obtain ⟨c', h1, h2, h3⟩ := Bk.sets r (o + 1) (w.setCell ⟨g, o, none⟩ v) _ (h.set o v) (by simp; omega)
    refine ⟨c', h1, by simpa using h2, fun i => ?_⟩
    rw [h3]
    simp only [List.length_cons]
    by_cases c1 : i = o
    · subst c1
      rw [if_neg (by omega), if_pos (by omega), Nat.sub_self, Array.getElem?_setIfInBounds, if_pos rfl, if_pos (by omega)]
      rfl
    · by_cases c2 : o + 1 ≤ i ∧ i < o + 1 + r.length
      · rw [if_pos c2, if_pos (by omega), show i - o = (i - (o + 1)) + 1 by omega]
        rfl
      · rw [if_neg c2, if_neg (by omega), Array.getElem?_setIfInBounds, if_neg (by omega)]
/-- The thirteen cells of no message. -/
def zm : List Value := [.int .i64 0, .string ⟨#[]⟩, .int .i64 0, .int .i64 0, .int .u64 0, .string ⟨#[]⟩, .slice none 0 0, .int .i64 0, .int .i64 0, .string ⟨#[]⟩, .int .i64 0, .int .i64 0, .int .i64 0]
theorem zm_len : zm.length = 13 := rfl
theorem run_clear_one (w : World) (ty : TypeId) (b o c : Nat) (hc : ∀ j, j < 13 → (w.cell? ⟨b, o + j, none⟩).isSome = true) (hf : ∀ j, j < 13 → w.frozen? ⟨b, o + j, none⟩ = false) :
    (Builtin.clear_ #[22] ty #[.slice (some ⟨b, o, none⟩) 1 c]).run Try.prog w = .ok (.tuple #[]) (w.setCells b o zm) := by
  have hv : ∀ w, (zeroValue 30).run Try.prog w = .ok (.agg zm.toArray) w := fun w => by kernel_rfl
  have hzc : (Builtin.zeroCells (Value.agg zm.toArray).cells 1).toList = zm := by kernel_rfl
  have hst := run_storeCells_cells (P := Try.prog) b o zm 0 w (by simpa [zm_len] using hc) (by simpa [zm_len] using hf) (fun v hv => List.all_eq_true.1 (show zm.all (fun v => v.oneCell') = true by decide) v hv)
  simp only [Nat.add_zero] at hst
  simp [Builtin.clear_, run_underlying Try.underlying22, hv, hzc, hst]

set_option maxRecDepth 100000 in
set_option maxHeartbeats 4000000 in
theorem delete_any (g k m cap : Nat) (cur : Array Value) (w : World) (h : Bk w g cur 30) (hz : cur.size = cap * 13) (hcap : k + 1 + m ≤ cap) (hm : cap ≤ maxLen) (h1 : ∀ i v, i < (k + 1 + m) * 13 → cur[i]? = some v → v.oneCell' = true) :
    Calls Try.prog 35 #[.slice (some ⟨g, 0, none⟩) (k + 1 + m) cap, .int .i64 k, .int .i64 ((k : Int) + 1)] w fun e w' => e = .returned (.slice (some ⟨g, 0, none⟩) (k + m) cap) ∧ (∃ cur' : Array Value, Bk w' g cur' 30 ∧ cur'.size = cur.size ∧ (∀ i, i < k * 13 → cur'[i]? = cur[i]?) ∧ ∀ i, k * 13 ≤ i → i < (k + m) * 13 → cur'[i]? = cur[i + 13]?) ∧ Ke g w w' := by
  obtain ⟨i0, hi0, hz0, hz1, hz2⟩ := infoM_parts
  obtain ⟨news, hnews⟩ : ∃ news, news = (cur.toList.drop ((k + 1) * 13)).take (m * 13) := ⟨_, rfl⟩
  have hlen : news.length = m * 13 := by rw [hnews]; simp; omega
  have hget : ∀ t, t < m * 13 → news[t]? = cur[(k + 1) * 13 + t]? := fun t ht => by
    rw [hnews, List.getElem?_take, if_pos ht, List.getElem?_drop, Array.getElem?_toList]
  obtain ⟨A, hA, hsrc⟩ : ∃ A : Addr, (if cap = k + 1 then some (⟨g, 0, none⟩ : Addr) else some ⟨g, (k + 1) * 13, none⟩) = some A ∧ Hid (∀ t u, news[t]? = some u → w.drew.cell? (A.add t) = some u) := by
    by_cases hc : cap = k + 1
    · refine ⟨⟨g, 0, none⟩, by simp [hc], fun t u hu => ?_⟩
      have h0 : news.length = 0 := by rw [hlen]; omega
      rw [List.length_eq_zero_iff.1 h0] at hu
      simp at hu
    · refine ⟨⟨g, (k + 1) * 13, none⟩, by simp [hc], fun t u hu => ?_⟩
      have ht : t < m * 13 := by
        have := (List.getElem?_eq_some_iff.1 hu).1
        rwa [hlen] at this
      rw [hget t ht] at hu
      rw [add13]
      exact (h.c _).trans hu
  have s1 : Hid (news.length = m * 13) := hlen
  have s2 : Hid (∀ u ∈ news, u.oneCell' = true) := fun u hu => by
    obtain ⟨t, ht, e⟩ := List.mem_iff_getElem.1 hu
    rw [hlen] at ht
    exact h1 ((k + 1) * 13 + t) u (by omega) (by rw [← hget t ht, List.getElem?_eq_getElem (by omega), e])
  have s3 : Hid (∀ t, t < news.length → (w.drew.cell? ⟨g, 0 + k * 13 + t, none⟩).isSome = true ∧ w.drew.frozen? ⟨g, 0 + k * 13 + t, none⟩ = false) := fun t ht => by
    rw [hlen] at ht
    refine ⟨?_, h.f _⟩
    show (w.cell? _).isSome = true
    rw [h.c, Array.getElem?_eq_getElem (by omega)]
    rfl
  obtain ⟨W1, hW1⟩ : ∃ W1, W1 = w.drew.setCells g (0 + k * 13) news := ⟨_, rfl⟩
  obtain ⟨c1, q1, q2, q3⟩ := Bk.sets (T := 30) news (0 + k * 13) w.drew cur h (by omega)
  rw [← hW1] at q1
  have hcl : ∀ ty, (Builtin.clear_ #[22] ty #[.slice (some ⟨g, (k + m) * 13, none⟩) (k + 1 + m - (k + m)) (cap - (k + m))]).run Try.prog W1 = .ok (.tuple #[]) (W1.setCells g ((k + m) * 13) zm) :=
    fun ty => by rw [show k + 1 + m - (k + m) = 1 by omega]; exact run_clear_one W1 ty g ((k + m) * 13) _ (fun j hj => by rw [q1.c, Array.getElem?_eq_getElem (by omega)]; rfl) (fun j hj => q1.f _)
  obtain ⟨c2, r1, r2, r3⟩ := Bk.sets (T := 30) zm ((k + m) * 13) W1 c1 q1 (by rw [zm_len]; omega)
  have FIN : Hid ((∃ cur' : Array Value, Bk (W1.setCells g ((k + m) * 13) zm) g cur' 30 ∧ cur'.size = cur.size ∧ (∀ i, i < k * 13 → cur'[i]? = cur[i]?) ∧ ∀ i, k * 13 ≤ i → i < (k + m) * 13 → cur'[i]? = cur[i + 13]?) ∧ Ke g w (W1.setCells g ((k + m) * 13) zm)) := by
    refine ⟨⟨c2, r1, r2.trans q2, fun i hi => ?_, fun i hi hi2 => ?_⟩, ?_⟩
    · rw [r3, if_neg (by omega), q3, if_neg (by omega)]
    · rw [r3, if_neg (by omega), q3, if_pos (by omega), hget _ (by omega), show (k + 1) * 13 + (i - (0 + k * 13)) = i + 13 by omega]
    · rw [hW1]
      exact ((Ke.refl g w).drew.trans (Ke.sets _ _ _)).trans (Ke.sets _ _ _)
  have hW : Hid (W1 = w.drew.setCells g (0 + k * 13) news) := hW1
  have k0 : (0 : Int) ≤ (k : Int) := by omega
  have k1 : (0 : Int) ≤ (k : Int) + 1 := by omega
  have k2 : (k : Int) + 1 ≤ (k : Int) + 1 + m := by omega
  have hk1 : k ≤ cap := by omega
  have hk2 : k + 1 ≤ cap := by omega
  unfold maxLen at hm
  clear hW1 q1 q2 q3 r1 r2 r3 h hget hnews hlen h1 hz
  go_enter Try.func35, Try.ntmps35
  go_wp2_with fail
  go_region_law (refine step_append_room rfl (.tmp 22) (.tmp 25) 22 rfl 30 i0 13 Try.underlying22 hi0 hz1 g 0 k cap (by simp [Act.eval, Act.put]) A m (cap - (k + 1)) news (by simp [Act.eval, Act.put]) s1.out hsrc.out s2.out (by omega) s3.out ?_; rw [← hW.out])
  go_wp2_with fail
  go_ret
  exact ⟨rfl, FIN.out⟩
theorem delete_n (g k n cap : Nat) (cur : Array Value) (w : World) (h : Bk w g cur 30) (hz : cur.size = cap * 13) (hk : k < n) (hcap : n ≤ cap) (hm : cap ≤ maxLen) (h1 : ∀ i v, i < n * 13 → cur[i]? = some v → v.oneCell' = true) :
    Calls Try.prog 35 #[.slice (some ⟨g, 0, none⟩) n cap, .int .i64 k, .int .i64 ((k : Int) + 1)] w fun e w' => e = .returned (.slice (some ⟨g, 0, none⟩) (n - 1) cap) ∧ (∃ cur' : Array Value, Bk w' g cur' 30 ∧ cur'.size = cur.size ∧ (∀ i, i < k * 13 → cur'[i]? = cur[i]?) ∧ ∀ i, k * 13 ≤ i → i < (n - 1) * 13 → cur'[i]? = cur[i + 13]?) ∧ Ke g w w' := by
  obtain ⟨m, rfl⟩ : ∃ m, n = k + 1 + m := ⟨n - (k + 1), by omega⟩
  have := delete_any g k m cap cur w h hz hcap hm h1
  rw [show k + 1 + m - 1 = k + m by omega]
  exact this
end Go.Proofs.Ytdgjhclncjoonaa
