/- Filters of a trie that stands for a list of subscriptions: rising, each once; no condition but those that each theorem names. -/
import Derived.Test.YtcnglhlljmfanaaGreatDoorKv
import Derived.Test.YtcnglhlljmfanaaGreatDoorShelf
import Derived.Sort.OwnSorted
namespace Go.Proofs.YtcnglhlljmfanaaGreatDoor
open Go.RowKit Tp Go.Maps Go.Shelf Go.Sort

/-- Texts that rise. -/
def TRise (l : List Bs) : Prop := l.Pairwise (· < ·)
theorem blt_irr (a : Bs) : ¬ a < a := List.lt_irrefl a
theorem blt_tr (a b c : Bs) (h : a < b) (h' : b < c) : a < c := List.lt_trans h h'
theorem blt_of {a b : Bs} (h : a ≤ b) (hne : a ≠ b) : a < b := by
  by_cases h' : a < b
  · exact h'
  · exact absurd (List.le_antisymm h (List.not_lt.1 h')) hne
theorem TRise.ext {l l' : List Bs} (h : TRise l) (h' : TRise l') (e : ∀ x, x ∈ l ↔ x ∈ l') : l = l' := rise_ext _ blt_irr blt_tr l l' h h' e
theorem sort_rise {l : List Bs} (h : l.Nodup) : TRise (l.mergeSort fun x y => decide (x ≤ y)) ∧ ∀ x, x ∈ (l.mergeSort fun x y => decide (x ≤ y)) ↔ x ∈ l := by
  have hp := List.mergeSort_perm l (fun x y => decide (x ≤ y))
  refine ⟨?_, fun x => hp.mem_iff⟩
  have hs : (l.mergeSort fun x y => decide (x ≤ y)).Pairwise (fun a b => decide (a ≤ b) = true) := List.pairwise_mergeSort (fun a b c h1 h2 => by simp at h1 h2 ⊢; exact List.le_trans h1 h2) (fun a b => by simp; exact List.le_total a b) l
  have hn : (l.mergeSort fun x y => decide (x ≤ y)).Nodup := hp.nodup_iff.2 h
  refine (hs.and hn).imp fun {a b} ⟨h1, h2⟩ => blt_of (by simpa using h1) h2

/-- A row of texts, new since B. -/
def TextsAt (W : World) (B : Nat) (v : Value) (l : List Bs) : Prop := W.ownsRow B 9 1 v l.length (l.map fun x => Value.string (bs x))

section
variable {w : World} {t B : Nat} {A : List (Bs × Int)} {nd : Pth → Option Nd} {own : Nat → Option (Pth × Nat)} {n : Nd} {K : Nat}

theorem filA_mem {ps : List Pth} (hps : ∀ q, q ∈ ps ↔ q ≠ [] ∧ ∃ e ∈ A, q <+: lvs e.1) (f : Bs) : f ∈ filA A ps ↔ ∃ i, (f, i) ∈ A := by
  unfold filA
  simp only [List.mem_map, List.mem_filter, decide_eq_true_eq]
  constructor
  · rintro ⟨q, ⟨_, hc⟩, rfl⟩
    obtain ⟨e, he, rfl⟩ := cntA_pos hc
    rw [glue_lvs]; exact ⟨e.2, he⟩
  · rintro ⟨i, hi⟩
    refine ⟨lvs f, ⟨(hps _).2 ⟨lvs_ne _, (f, i), hi, List.prefix_refl _⟩, ?_⟩, glue_lvs f⟩
    unfold cntA
    exact List.length_pos_of_mem (List.mem_filter.2 ⟨hi, by simp⟩)
theorem filA_nodup {ps : List Pth} (hn : ps.Nodup) : (filA A ps).Nodup := by
  unfold filA
  have h1 : (ps.filter fun q => decide (0 < cntA A q)).Nodup := hn.sublist List.filter_sublist
  have h2 : ∀ q ∈ (ps.filter fun q => decide (0 < cntA A q)), lvs (glue q) = q := fun q hq => by
    have := (List.mem_filter.1 hq).2
    simp only [decide_eq_true_eq] at this
    obtain ⟨e, he, rfl⟩ := cntA_pos this
    rw [glue_lvs]
  generalize (ps.filter fun q => decide (0 < cntA A q)) = L at h1 h2
  induction L with
  | nil => simp
  | cons q L ih =>
    rw [List.nodup_cons] at h1
    rw [List.map_cons, List.nodup_cons]
    refine ⟨fun hm => ?_, ih h1.2 (fun q hq => h2 q (by simp [hq]))⟩
    obtain ⟨q', hq', e⟩ := List.mem_map.1 hm
    have e1 := h2 q (by simp)
    have e2 := h2 q' (by simp [hq'])
    rw [← e1, ← e, e2] at h1
    exact h1.1 hq'

set_option maxRecDepth 100000 in
set_option maxHeartbeats 4000000 in
theorem filters_any (h : TrieAt w t B A nd own n K) (hA : A.length ≤ 4398046511104) :
    Calls Tryz.prog 18 #[.pointer (some ⟨t, 0, none⟩)] w fun e W' => ∃ a c l, e = .returned (.slice a l.length c) ∧ TRise l ∧ (∀ f, f ∈ l ↔ ∃ i, (f, i) ∈ A) ∧ l.length ≤ A.length ∧ TextsAt W' w.heap.size (.slice a l.length c) l ∧ Below w.heap.size w W' := by
  have hB0 := below1 w (.cells #[.slice none 0 0] 47)
  have h1 := h.below hB0
  have hnew := heap_alloc_new w (.cells #[.slice none 0 0] 47)
  have hsb : own w.heap.size = none := by
    cases ho : own w.heap.size with
    | none => rfl
    | some z => exact absurd (h.g.lt _ (by rw [ho]; simp)) (by omega)
  have hE := Lib.hid (eachT_any h1 (filVis h1 w.heap.size w.heap.size hA) (fun k => k = w.heap.size) ⟨.slice none 0 0, funext fun k => by simp [Value.ownBlock], by simpa using hnew, World.ownsRow_nil _ _ _ _, by simp [Value.ownBlock], List.nodup_nil, hB0.size, Nat.le_refl _⟩ (fun k hk => hk ▸ hsb))
  have hmf : ∀ (fn : Fn) (first cap : Array Value) (w : World), (Instr.makeFunc fn first cap).run Tryz.prog w = .ok (.func fn first cap) w := fun _ _ _ _ => rfl
  have KS : Hid (∀ (W : World) (fb : Nat) lv l, W.heap[fb]? = some (.cells #[lv] 47 (0, 0)) → TextsAt W w.heap.size lv l → lv.ownBlock ≠ some fb → l.Nodup → l.length ≤ A.length → Below w.heap.size w W →
      Calls Tryz.prog 41 #[lv] W fun e w' => e = .returned (.tuple #[]) ∧ w'.cell? ⟨fb, 0, none⟩ = some lv ∧ (∃ a c, lv = .slice a (l.mergeSort fun x y => decide (x ≤ y)).length c) ∧ TextsAt w' w.heap.size lv (l.mergeSort fun x y => decide (x ≤ y)) ∧ Below w.heap.size w w') := fun W fb lv l k1 k2 k3 k4 k5 k6 => by
    have hlen : (l.mergeSort fun x y => decide (x ≤ y)).length = l.length := List.length_mergeSort _
    have hfb := (Array.getElem?_eq_some_iff.1 k1).1
    obtain ⟨q0, ⟨rfl, q1⟩ | ⟨g, cap, cur, rfl, q1, q2, q3, q4, q5, q6⟩⟩ := id k2
    · obtain rfl : l = [] := List.eq_nil_of_length_eq_zero q1
      refine (Tryz.slices_Sort_string_none none 0 W).mono fun e w' ⟨r1, r2⟩ => ?_
      subst r2
      exact ⟨r1, by rw [cell_at k1 0]; rfl, ⟨none, 0, by simp⟩, by simpa using k2, k6⟩
    · have hg := (Array.getElem?_eq_some_iff.1 q2).1
      refine (Tryz.slices_Sort_string g 0 cap l W (holds_of_block q2 (by rw [Nat.mul_one] at q6; exact q6)) hg (by omega)).mono fun e w' ⟨r1, N, os, r2⟩ => ?_
      subst r2
      have hG := grownBy_sorted (w := W) (g := g) (n := N) (os := os) (l.mergeSort fun x y => decide (x ≤ y)).toArray
      have hO := ownsRow_sorted (n := N) (os := os) hlen q1 q2 q3 q4 q5
      have hne : fb ≠ g := fun e => k3 (by rw [e]; rfl)
      refine ⟨r1, ?_, ⟨_, _, by rw [hlen]⟩, by unfold TextsAt; rw [hlen]; exact hO, ?_⟩
      · rw [hG.cell_far ⟨fb, 0, none⟩ hfb (fun e => hne (Option.some.inj e)), cell_at k1 0]; rfl
      · have hBt : But (fun k => k = g) W _ := But.grown hG (fun k e _ => (Option.some.inj e).symm)
        exact ⟨hBt.os.trans k6.os, hBt.tape.trans k6.tape, hBt.output.trans k6.output, Nat.le_trans k6.size hBt.size, fun k hk => (hBt.block k (by have := k6.size; omega) (by omega)).trans (k6.block k hk)⟩
  go_enter Tryz.func18, Tryz.ntmps18
  go_wp2_with (first
    | (go_at_call 38; refine hE.out.mono ?_; rintro e w2 ⟨rfl, V2, ps, ⟨lv, rfl, hc2, ho2, hne2, _, _, _⟩, hn2, hps2, hB2, hV2⟩; have hd2 := cell_at hc2 0; simp at hd2; have hBw : Below w.heap.size w w2 := ⟨hB2.os.trans hB0.os, hB2.tape.trans hB0.tape, hB2.output.trans hB0.output, Nat.le_trans hB0.size hB2.size, fun k hk => (hB2.block k (by have := hB0.size; omega) (by omega)).trans (hB0.block k hk)⟩; have hfl := filA_len (A := A) hn2; have hfn := filA_nodup (A := A) hn2)
    | (go_at_call 41; refine (KS.out _ _ lv _ hc2 ho2 hne2 hfn hfl hBw).mono ?_; rintro e w3 ⟨rfl, hd3, ⟨a3, c3, rfl⟩, ho3, hb3⟩))
  go_ret
  obtain ⟨s1, s2⟩ := sort_rise hfn
  exact ⟨a3, c3, (filA A ps).mergeSort fun x y => decide (x ≤ y), by rw [List.length_mergeSort]; rfl, s1, fun f => (s2 f).trans (filA_mem hps2 f), by rw [List.length_mergeSort]; exact hfl, ho3, hb3⟩
end
end Go.Proofs.YtcnglhlljmfanaaGreatDoor
