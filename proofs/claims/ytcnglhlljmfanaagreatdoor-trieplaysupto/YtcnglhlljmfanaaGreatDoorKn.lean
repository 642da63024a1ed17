/- slices.Sorted of maps.Keys at a set of numbers: the numbers, rising, in a row of their own; no condition but those that each theorem names. -/
import Derived.Test.YtcnglhlljmfanaaGreatDoorKf
import Derived.Test.YtcnglhlljmfanaaGreatDoorShelf
import Derived.Test.YtcnglhlljmfanaaGreatDoorShelf3
import Derived.Shelf.SortM.Plain
import Derived.Shelf.SortM.SortNone
namespace Go.Proofs.YtcnglhlljmfanaaGreatDoor
open Go.RowKit Tp Go.Maps Go.Shelf Go.Sort

/-- A row that rises. -/
def Rise (l : List Int) : Prop := l.Pairwise (· < ·)
theorem Rise.ext {a b : List Int} (ha : Rise a) (hb : Rise b) (h : ∀ i, i ∈ a ↔ i ∈ b) : a = b := rise_ext (· < ·) (fun a => Int.lt_irrefl a) (fun _ _ _ => Int.lt_trans) a b ha hb h

theorem rise_sorted (ss : List Int) (h : ss.Nodup) : Rise (ss.mergeSort leI) := by
  have tr : ∀ a b c : Int, leI a b = true → leI b c = true → leI a c = true := fun a b c h1 h2 => by simp only [leI, decide_eq_true_eq] at *; exact Int.le_trans h1 h2
  have to : ∀ a b : Int, (leI a b || leI b a) = true := fun a b => by simp only [leI, Bool.or_eq_true, decide_eq_true_eq]; exact Int.le_total a b
  have h1 := List.pairwise_mergeSort tr to ss
  have h2 : (ss.mergeSort leI).Nodup := (List.mergeSort_perm ss leI).nodup_iff.2 h
  refine (h1.and h2).imp fun {a b} ⟨h3, h4⟩ => ?_
  simp only [leI, decide_eq_true_eq] at h3
  omega

theorem sortsI (m : Nat) : AnyZI.SortsIn Tryz.prog Tryz.sortedA_ren Fence.wide m :=
  ⟨fun blk off cap ss W hH hblk hsz => callsIn_wide.2 (Tryz.slices_Sort_int blk off cap ss W hH hblk hsz),
   fun p cap W => callsIn_wide.2 (Tryz.slices_Sort_int_none p cap W)⟩

theorem keys_any (mb : Option Nat) (W : World) :
    Calls Tryz.prog 34 #[.map mb] W fun e w' => e = .returned (.func (.func 60) #[] #[.pointer (some ⟨W.heap.size, 0, none⟩)]) ∧ w' = W.alloc (.cells #[.map mb] 36) :=
  (callsIn_wide (n := 5)).1 (AnyZI.keys_in Tryz.keysA Fence.wide 5 trivial rfl mb W)

theorem sorted_any (Bm : Nat) (x : Option Nat) (s : Int → Bool) (K : Nat) (W : World) (hs : SetAt W x s K) (hK : K * 8 ≤ 140737488355328) (hBm : Bm < W.heap.size) (hm : W.cell? ⟨Bm, 0, none⟩ = some (.map x)) :
    Calls Tryz.prog 33 #[.func (.func 60) #[] #[.pointer (some ⟨Bm, 0, none⟩)]] W fun e w' => ∃ v l, e = .returned v ∧ Rise l ∧ (∀ i, i ∈ l ↔ s i = true) ∧ l.length ≤ K ∧ w'.ownsRow W.heap.size 3 1 v l.length (l.map (Value.int .i64)) ∧ Below W.heap.size W w' := by
  cases x with
  | none =>
    have hseq : SeqGives Fence.wide 2 Tryz.prog 60 #[.pointer (some ⟨Bm, 0, none⟩)] encZ (fun ss : List Int => ss = []) 0 W :=
      AnyZI.keys_gives_nil (ρ := Tryz.keysA_ren) { Tryz.keysA with } Fence.wide _ trivial rfl Bm _ hBm hm
    have cS := AnyZI.sorted_in Tryz.sortedA Fence.wide 5 trivial trivial trivial trivial rfl (by omega) (sortsI _) (enters_of Tryz.func59 (by kernel_rfl) rfl) 60 #[.pointer (some ⟨Bm, 0, none⟩)] trivial (enters_of Tryz.func60 (by kernel_rfl) rfl) _ _ (by decide) (by omega) _ hseq
    refine (callsIn_wide.1 cS).mono fun e w' ⟨v, ss, he, hS, hrow, hnil, hb⟩ => ⟨v, [], he, List.Pairwise.nil, fun i => by simp [show s i = false from hs i], Nat.zero_le _, ?_, hb⟩
    subst hS
    have h1 : w'.ownsRow W.heap.size (Tryz.sortedA_ren.t 26) 1 v 0 [] := by simpa using hrow
    exact h1
  | some b =>
    obtain ⟨l, l1, l2, l3, l4, l5⟩ := hs.keys
    obtain ⟨nn, D, ho, hn, hD⟩ := hs
    have hz := ho.size_le
    have hseq : SeqGives Fence.wide 2 Tryz.prog 60 #[.pointer (some ⟨Bm, 0, none⟩)] encZ (fun ss => ss.Perm (intKeys D)) (Maps.size D) W :=
      AnyZI.keys_gives (ρ := Tryz.keysA_ren) { Tryz.keysA with } Fence.wide _ trivial rfl (by omega) Bm b nn D _ hBm hm ho
    have cS := AnyZI.sorted_in Tryz.sortedA Fence.wide 5 trivial trivial trivial trivial rfl (by omega) (sortsI _) (enters_of Tryz.func59 (by kernel_rfl) rfl) 60 #[.pointer (some ⟨Bm, 0, none⟩)] trivial (enters_of Tryz.func60 (by kernel_rfl) rfl) _ _ (by unfold maxLen; omega) (by omega) _ hseq
    refine (callsIn_wide.1 cS).mono fun e w' ⟨v, ss, he, hS, hrow, hnil, hb⟩ => ?_
    have hperm : l.Perm (intKeys D) := by
      obtain ⟨es, rfl, hpw, _⟩ := ho.entries intK
      obtain ⟨es', e', hko⟩ := ho.keysOf
      cases e'
      refine perm_intKeys hpw (fun p hp => ?_) l1 (fun x => by rw [l2 x, ← hD x])
      obtain ⟨v, hv⟩ := hko p hp
      obtain ⟨i, _, h2, _⟩ := Maps.keyOf_i64 Tryz.underlying3 hv
      exact ⟨i, h2⟩
    have hp2 : ss.Perm l := hS.trans hperm.symm
    refine ⟨v, ss.mergeSort leI, he, rise_sorted ss (hp2.nodup_iff.2 l1), fun i => ?_, ?_, ?_, hb⟩
    · rw [(List.mergeSort_perm ss leI).mem_iff, hp2.mem_iff, l2 i]
    · rw [List.length_mergeSort, hp2.length_eq]; exact l3
    · rw [List.length_mergeSort]; exact hrow
end Go.Proofs.YtcnglhlljmfanaaGreatDoor
