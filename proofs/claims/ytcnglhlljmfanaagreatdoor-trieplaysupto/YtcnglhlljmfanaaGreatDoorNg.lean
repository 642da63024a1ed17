/- whole: the trie and the list say the same of all that asks for no text; what is asked: what each theorem names. -/
import Derived.Test.YtcnglhlljmfanaaGreatDoorNf
import Derived.Test.YtcnglhlljmfanaaGreatDoorMd
import Derived.Test.YtcnglhlljmfanaaGreatDoorKw
namespace Go.Proofs.YtcnglhlljmfanaaGreatDoor
open Go.RowKit Tp Go.Maps Go.Shelf

/-- The same subscriptions. -/
def Same (A L : List (Bs × Int)) : Prop := (∀ e, e ∈ A ↔ e ∈ L) ∧ A.length = L.length
theorem Same.refl (A : List (Bs × Int)) : Same A A := ⟨fun _ => Iff.rfl, rfl⟩

theorem len_eq_nodes {A L : List (Bs × Int)} (h : ∀ e, e ∈ A ↔ e ∈ L) {ps ps' : List Pth} (h1 : ps.Nodup) (h2 : ∀ q, q ∈ ps ↔ q ≠ [] ∧ ∃ e ∈ A, q <+: lvs e.1) (h3 : Lvl (L.map fun e => lvs e.1) ps') : ps.length = ps'.length := by
  refine nodup_eq ps ps' h1 h3.1 (fun q => ?_)
  rw [h2 q, h3.2 q]
  constructor
  · rintro ⟨a, e, he, hp⟩; exact ⟨a, lvs e.1, List.mem_map.2 ⟨e, (h e).1 he, rfl⟩, hp⟩
  · rintro ⟨a, m, hm, hp⟩
    obtain ⟨e, he, rfl⟩ := List.mem_map.1 hm
    exact ⟨a, e, (h e).2 he, hp⟩

set_option maxRecDepth 100000 in
set_option maxHeartbeats 4000000 in
theorem whole_any {w0 W : World} {t lb : Nat} {A L : List (Bs × Int)} {K : Nat} (h : TL w0 W t lb A L K) (hs : Same A L) (hA : A.length ≤ 1048576) :
    Calls Tryz.prog 6 #[.pointer (some ⟨t, 0, none⟩), .pointer (some ⟨lb, 0, none⟩)] W fun e w' => e = .returned (.bool true) ∧ Below W.heap.size W w' := by
  have hsub := h.subs
  have hLs : ∀ e ∈ L, e.1.length ≤ 65535 := fun e he => by
    have hfil := hsub.fil e ((hs.1 e).2 he)
    simp only [isFilter, okText, Bool.and_eq_true, decide_eq_true_eq] at hfil; exact hfil.1.1.1.2
  obtain ⟨hb0, nd, own, n, v, h2, h3, h4, h5, h6⟩ := h
  have hlen := hs.2
  obtain ⟨av, cv, rfl, hcl⟩ := list_cells h3
  have CL := Lib.hid hcl
  have K1 : Hid (∀ W', Below W.heap.size W W' → Calls Tryz.prog 18 #[.pointer (some ⟨t, 0, none⟩)] W' fun e w' => ∃ a c F, e = .returned (.slice a F.length c) ∧ TRise F ∧ (∀ f, f ∈ F ↔ ∃ i, (f, i) ∈ A) ∧ F.length ≤ A.length ∧ TextsAt w' W'.heap.size (.slice a F.length c) F ∧ Below W'.heap.size W' w') := fun W' hW => filters_any (h2.below hW) (by omega)
  have K2 : Hid (∀ W', Below W.heap.size W W' → Calls Tryz.prog 19 #[.pointer (some ⟨lb, 0, none⟩)] W' fun e w' => ∃ a c F, e = .returned (.slice a F.length c) ∧ TRise F ∧ (∀ f, f ∈ F ↔ ∃ i, (f, i) ∈ L) ∧ F.length ≤ L.length ∧ TextsAt w' W'.heap.size (.slice a F.length c) F ∧ Below W'.heap.size W' w') := fun W' hW => lfilters_any (h3.below hW) (by omega)
  have K3 : Hid (∀ W', Below W.heap.size W W' → Calls Tryz.prog 20 #[.pointer (some ⟨t, 0, none⟩)] W' fun e w' => e = .returned (.int .i64 (L.length : Nat)) ∧ Below W.heap.size W w') := fun W' hW => (len_any (h2.below hW) (by omega)).mono fun e w' ⟨q1, q2⟩ => ⟨by rw [q1, hlen], hW.trans (q2.mono hW.size)⟩
  have K4 : Hid (∀ W', Below W.heap.size W W' → Calls Tryz.prog 21 #[.pointer (some ⟨t, 0, none⟩)] W' fun e w' => ∃ ps : List Pth, e = .returned (.int .i64 (ps.length : Nat)) ∧ ps.Nodup ∧ (∀ q, q ∈ ps ↔ q ≠ [] ∧ ∃ e ∈ A, q <+: lvs e.1) ∧ Below W.heap.size W w') := fun W' hW => (nodes_any (h2.below hW) (by omega)).mono fun e w' ⟨ps, q1, q2, q3, q4⟩ => ⟨ps, q1, q2, q3, hW.trans (q4.mono hW.size)⟩
  have K5 : Hid (∀ W', Below W.heap.size W W' → Calls Tryz.prog 22 #[.pointer (some ⟨lb, 0, none⟩)] W' fun e w' => ∃ ps, e = .returned (.int .i64 (ps.length : Nat)) ∧ Lvl (L.map fun e => lvs e.1) ps ∧ Below W.heap.size W w') := fun W' hW => (lnodes_any (h3.below hW) hLs (by omega)).mono fun e w' ⟨⟨ps, q1, q2⟩, q3⟩ => ⟨ps, q1, q2, hW.trans (q3.mono hW.size)⟩
  have KT := Lib.hid sameT_any
  have HS := Lib.hid hs
  clear hcl h2 h3 hs hsub
  go_enter Tryz.func6, Tryz.ntmps6
  have x0 := (CL.out _ (Below.refl _ _)).1
  go_wp2_with fail
  go_region_held3 (fun W' => W'.cell? ⟨lb, 0, none⟩ = some (.slice av L.length cv)) (first | with_reducible assumption | exact x0) (first
    | (go_at_call 18; refine (K1.out _ (Below.drew (Below.refl _ _))).mono ?_; rintro e w1 ⟨a1, c1, F1, rfl, r1, r2, r3, r4, r5⟩; have b1 : Below W.heap.size W w1 := (Below.drew (Below.refl _ _)).trans r5; have x1 := (CL.out _ b1).1)
    | (go_at_call 19; refine (K2.out _ b1).mono ?_; rintro e w2 ⟨a2, c2, F2, rfl, p1, p2, p3, p4, p5⟩; have b2 : Below W.heap.size W w2 := b1.trans (p5.mono b1.size); have x2 := (CL.out _ b2).1; have e12 : F1 = F2 := r1.ext p1 (fun f => by rw [r2 f, p2 f]; exact ⟨fun ⟨i, h⟩ => ⟨i, (HS.out.1 _).1 h⟩, fun ⟨i, h⟩ => ⟨i, (HS.out.1 _).2 h⟩⟩); have E12 := Lib.hid e12; have R4 := Lib.hid ((TextsAt.row r4).below p5); have P4 := Lib.hid (TextsAt.row p4); clear e12 r1 r2 p1 p2 r4 p4)
    | (go_at_call 17; refine (KT.out _ _ F1 F2 _ R4.out P4.out (by omega)).mono ?_; rintro e w3 ⟨rfl, q3⟩; rw [decide_eq_true E12.out]; have b3 : Below W.heap.size W w3 := b2.trans (q3.mono b2.size); have x3 := (CL.out _ b3).1)
    | (go_at_call 20; refine (K3.out _ b3).mono ?_; rintro e w4 ⟨rfl, b4⟩; have x4 := (CL.out _ b4).1)
    | (go_at_call 21; refine (K4.out _ b4).mono ?_; rintro e w5 ⟨ps1, rfl, s1, s2, b5⟩; have x5 := (CL.out _ b5).1)
    | (go_at_call 22; refine (K5.out _ b5).mono ?_; rintro e w6 ⟨ps2, rfl, s3, b6⟩; have x6 := (CL.out _ b6).1; have e6 := len_eq_nodes HS.out.1 s1 s2 s3; rw [e6]))
  go_wp2
  go_ret
  exact ⟨rfl, b6⟩
end Go.Proofs.YtcnglhlljmfanaaGreatDoor
