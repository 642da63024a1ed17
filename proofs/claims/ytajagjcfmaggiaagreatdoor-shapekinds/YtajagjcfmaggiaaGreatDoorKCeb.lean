/- The package's Map, and the document's Maps; the conditions: the value in memory, valid, the numbers in memory, the tables as they are laid, the topic not too long. -/
import Derived.Test.YtajagjcfmaggiaaGreatDoorKCea
import Derived.Test.YtajagjcfmaggiaaGreatDoorKCbg
import Derived.Test.YtajagjcfmaggiaaGreatDoorKCcc
import Derived.Test.YtajagjcfmaggiaaGreatDoorKCce
namespace Go.Proofs.YtajagjcfmaggiaaGreatDoor
open Go.RowKit

theorem rows_one (L : Lb) (tp : ByteArray) (op : Int) {m : Nat} (t : Dt.Tr (m + 1)) : rows L tp [op] (good t) = mapP L op tp t := by
  simp only [rows, step_good]
  exact ite_self _

set_option maxRecDepth 100000 in
set_option maxHeartbeats 1000000 in
theorem smap_any (L : Lb) (op : Int) (tp : ByteArray) (htp : tp.size ≤ maxLen) (k i u : Int) (s : ByteArray) (a : Option Addr) (n c : Nat) {m : Nat} (t : Dt.Tr (m + 1)) (ho : Ok (m + 1) t) (w : World) (hr : Dt.Rep w (m + 1) [.int .i64 k, .int .i64 i, .int .u64 u, .string s, .slice a n c] t) (hT : Dt.Tab14 w) (hP : op = 5 → t.kd = 2 → NameOk L w) :
    Calls Tryz.prog 10 #[.int .i64 op, .string tp, .agg #[.int .i64 k, .int .i64 i, .int .u64 u, .string s, .slice a n c]] w (GM (mapP L op tp t) w) := by
  have B1 : Below w.heap.size w (((w.alloc (.cells #[.int .i64 k, .int .i64 i, .int .u64 u, .string s, .slice a n c] 25)).alloc (.cells (rErr 0 0 0 0) 33)).alloc (.cells #[.int .i64 op] 3)) := (below2 w _ _).trans ((below1 _ _).mono (by simp; omega))
  have R1 : Bk (((w.alloc (.cells #[.int .i64 k, .int .i64 i, .int .u64 u, .string s, .slice a n c] 25)).alloc (.cells (rErr 0 0 0 0) 33)).alloc (.cells #[.int .i64 op] 3)) (w.heap.size + 1) (rErr 0 0 0 0) 33 := (Bk.new2 w _ _ _).alloc _
  have N1 : Bk (((w.alloc (.cells #[.int .i64 k, .int .i64 i, .int .u64 u, .string s, .slice a n c] 25)).alloc (.cells (rErr 0 0 0 0) 33)).alloc (.cells #[.int .i64 op] 3)) (w.heap.size + 1 + 1) #[.int .i64 op] 3 := by
    have := Bk.new ((w.alloc (.cells #[.int .i64 k, .int .i64 i, .int .u64 u, .string s, .slice a n c] 25)).alloc (.cells (rErr 0 0 0 0) 33)) #[.int .i64 op] 3
    rwa [World.size_alloc, World.size_alloc] at this
  have HM := Lib.hid (maps_any L [op] (some ⟨w.heap.size + 1 + 1, 0, none⟩) 1 tp htp k i u s a n c t ho _ (Dt.Rep.below B1 _ _ _ hr) (.inr ⟨w.heap.size + 1 + 1, 0, rfl, fun j x hx => by
    match j, hx with
    | 0, hx =>
      obtain rfl : op = x := by simpa using hx
      exact N1.c 0
    | j + 1, hx => simp at hx⟩) (by simp) (hT.below B1) (by
    by_cases h2 : t.kd = 2
    · exact .inl fun x hx e => by
        obtain rfl : x = op := by simpa using hx
        exact (hP e h2).below B1
    · exact .inr ⟨rfl, h2⟩))
  rw [rows_one] at HM
  obtain ⟨r, hr'⟩ : ∃ r, mapP L op tp t = r := ⟨_, rfl⟩
  rw [hr'] at HM ⊢
  clear hr hT hP ho hr' N1
  go_enter Tryz.func10, Tryz.ntmps10
  go_wp2_with fail
  refine HM.out.mono ?_
  rintro e w2 ⟨k', i', u', s', a', n', c', rfl, rf, b2⟩
  have RF := Lib.hid rf
  clear rf
  have r2 := R1.step b2
  have B2 := B1.trans (b2.mono B1.size)
  obtain ⟨c0, c1, c2, c3, c4, c5, c6, c7, c8, c9⟩ := r2.c10
  have z2 := r2.f
  go_wp2_with fail
  obtain ⟨k1, k2, k3, k4⟩ := set10 r2 (.int .i64 r.er) (.int .i64 0) (.int .i64 r.pk) (.int .i64 r.pn) (.bool r.has) (.int .i64 k') (.int .i64 i') (.int .u64 u') (.string s') (.slice a' n' c') rfl
  have KF := B2.trans (k4.mono (by omega))
  obtain ⟨q0, q1, q2, q3, q4, q5, q6, q7, q8, q9⟩ := k1.c10
  refine bodyPost_ret (v := .agg (rcs r.er 0 r.pk r.pn r.has k' i' u' s' a' n' c')) ?_ rfl ⟨k', i', u', s', a', n', c', rfl, ?hz, KF⟩
  case hz =>
    exact Dt.Rf.to (fun g hg => by
      have hg1 : w.heap.size + 1 + 1 + 1 ≤ g := by simpa using hg.1
      exact ⟨⟨by omega, by have := hg.2; omega⟩, k3 g (by omega)⟩) _ _ _ RF.out
  simp [results, Tryz.results10, go_sem, q0, q1, q2, q3, q4, q5, q6, q7, q8, q9]

end Go.Proofs.YtajagjcfmaggiaaGreatDoor
/- The law's own look at the program (awake), and the law ShapeMaps; the conditions: the value in memory, its numbers within 64 bits, the tables as they are laid. -/
namespace Go.Proofs.YtajagjcfmaggiaaGreatDoor
open Go.RowKit

theorem aw1 (w : World) (hT : Dt.Tab14 w) : Calls Tryz.prog 10 #[.int .i64 1, .string ⟨#[116]⟩, .agg #[.int .i64 1, .int .i64 5, .int .u64 0, .string ⟨#[]⟩, .slice none 0 0]] w fun e w' => ∃ k' u' s' a' n' c', e = .returned (.agg (rcs 0 0 0 0 true k' 10 u' s' a' n' c')) ∧ Below w.heap.size w w' := by
  have o : Ok 1 (nd (n := 0) 1 5 0 ⟨#[]⟩ []) := ok_leaf (m := 0) 1 5 0 ⟨#[]⟩ (by decide) u00 (by constructor <;> decide)
  have e : mapP keyL 1 ⟨#[116]⟩ (nd (n := 0) 1 5 0 ⟨#[]⟩ []) = good (Dt.lf 1 10 0) := by
    unfold mapP
    rw [if_pos rfl, if_pos (by decide)]
    have h : Dt.addT 1 5 0 1 5 0 = Dt.lf 1 10 0 := by simp [Dt.addT, wrap64]
    exact congrArg good h
  refine (smap_any keyL 1 ⟨#[116]⟩ (by decide) 1 5 0 ⟨#[]⟩ none 0 0 _ o w ⟨none, 0, rfl, Nat.zero_le _, Nat.zero_le _, Nat.zero_le _, .inl rfl⟩ hT (fun e => absurd e (by decide))).mono fun e' w' h => ?_
  rw [e] at h
  obtain ⟨k', i', u', s', a', n', c', he, rf, hb⟩ := h
  obtain ⟨-, e2, -⟩ := rz_kd (Rz.of_rf _ _ _ rf)
  obtain rfl : i' = 10 := e2
  exact ⟨k', u', s', a', n', c', he, hb⟩
theorem aw2 (w : World) (hT : Dt.Tab14 w) : Calls Tryz.prog 10 #[.int .i64 1, .string ⟨#[116]⟩, .agg #[.int .i64 4, .int .i64 0, .int .u64 0, .string ⟨#[97]⟩, .slice none 0 0]] w fun e w' => ∃ k' i' u' s' a' n' c', e = .returned (.agg (rcs 110 0 2 5 false k' i' u' s' a' n' c')) ∧ Below w.heap.size w w' := by
  have o : Ok 1 (nd (n := 0) 4 0 0 ⟨#[97]⟩ []) := ok_leaf (m := 0) 4 0 0 ⟨#[97]⟩ (by decide) u00 i00
  have e : mapP keyL 1 ⟨#[116]⟩ (nd (n := 0) 4 0 0 ⟨#[97]⟩ []) = bad 110 2 5 := by rfl
  refine (smap_any keyL 1 ⟨#[116]⟩ (by decide) 4 0 0 ⟨#[97]⟩ none 0 0 _ o w ⟨none, 0, rfl, by decide, Nat.zero_le _, Nat.zero_le _, .inl rfl⟩ hT (fun e => absurd e (by decide))).mono fun e' w' h => ?_
  rw [e] at h
  obtain ⟨k', i', u', s', a', n', c', he, rf, hb⟩ := h
  exact ⟨k', i', u', s', a', n', c', he, hb⟩

set_option maxRecDepth 100000 in
set_option maxHeartbeats 1000000 in
theorem awake_any (w : World) (hT : Dt.Tab14 w) : Calls Tryz.prog 8 #[] w fun e w' => e = .returned (.bool true) ∧ Below w.heap.size w w' := by
  have H1 := Lib.hid (aw1 w hT)
  have H2 := Lib.hid (fun wx (hx : Below w.heap.size w wx) => aw2 wx (hT.below hx))
  clear hT
  go_enter Tryz.func8, Tryz.ntmps8
  go_wp2_with fail
  refine H1.out.mono ?_
  rintro e w1 ⟨k', u', s', a', n', c', rfl, b1⟩
  have B1 := b1.trans ((below1 w1 (.cells (rcs 0 0 0 0 true k' 10 u' s' a' n' c') 33)).mono b1.size)
  have N1 := Bk.new w1 (rcs 0 0 0 0 true k' 10 u' s' a' n' c') 33
  go_wp2_with fail
  refine (H2.out _ B1).mono ?_
  rintro e w2 ⟨k2, i2, u2, s2, a2, n2, c2, rfl, b2⟩
  have M1 := N1.step b2
  have hlt := M1.lt
  obtain ⟨c0, c1, c2', c3, c4, c5, c6, c7, c8, c9⟩ := M1.c10
  have B2 := B1.trans (b2.mono B1.size)
  have B3 := B2.trans ((below1 w2 (.cells (rcs 110 0 2 5 false k2 i2 u2 s2 a2 n2 c2) 33)).mono B2.size)
  clear N1 M1 b2 H1 H2
  go_wp2
  go_ret
  exact ⟨rfl, B3⟩

end Go.Proofs.YtajagjcfmaggiaaGreatDoor
/- The kinds that may come of a map, of the package and of the document; no condition but those that each theorem names. -/
namespace Go.Proofs.YtajagjcfmaggiaaGreatDoor
open Go.RowKit

theorem sinceKd {P : Program} {f : Nat} {args : Array Value} {w wx : World} {k : Int} (h : Calls P f args wx fun e w' => ∃ u, e = .returned u ∧ Kd k u ∧ Below wx.heap.size wx w') (hx : Below w.heap.size w wx) : Calls P f args wx fun e w' => ∃ u, e = .returned u ∧ Kd k u ∧ Below w.heap.size w w' :=
  h.mono fun _ _ ⟨u, a, c, b⟩ => ⟨u, a, c, hx.trans (b.mono hx.size)⟩
set_option maxRecDepth 100000 in
set_option maxHeartbeats 2000000 in
theorem implements_of (k f : Int) (Q F : Nat) (p : Int → Bool) (w : World) (hq : qfc f = Q) (hm : Meth Q F) (hA : Asks F p) : Calls Tryz.prog 80 #[.int .i64 k, .int .i64 f] w fun e w' => e = .returned (.bool (p k)) ∧ Below w.heap.size w w' := by
  have HI : Hid (∀ wx, Below w.heap.size w wx → Calls Tryz.prog 71 #[.int .i64 f] wx fun e w' => e = .returned (.agg #[.iface Q (.agg #[]), .int .u8 (mbits f)]) ∧ Below w.heap.size w w') := fun wx hx => by have := since (interfaceOf_any f wx) hx; rw [hq] at this; exact this
  have HK : Hid (∀ wx, Below w.heap.size w wx → Calls Tryz.prog 46 #[.int .i64 k] wx fun e w' => ∃ u, e = .returned u ∧ Kd k u ∧ Below w.heap.size w w') := fun wx hx => sinceKd (ofKind_any k wx) hx
  have HA : Hid (∀ u wx, Kd k u → Below w.heap.size w wx → Calls Tryz.prog F #[.agg #[], u] wx fun e w' => e = .returned (.bool (p k)) ∧ Below w.heap.size w w') := fun u wx hu hx => since (hA k u wx hu) hx
  have hb0 := Below.refl w.heap.size w
  have hfd := fld0
  obtain ⟨hmm, hcf⟩ := hm
  clear hq hA
  go_enter Tryz.func80, Tryz.ntmps80
  go_wp2_with fail
  go_region_held3 (fun w' => Below w.heap.size w w') (first | assumption | exact Below.drew (by assumption)) (first | (go_at_call 71; refine (HI.out _ (by first | assumption | exact Below.drew (by assumption))).mono ?_; rintro e wa ⟨rfl, ba⟩) | (go_at_call 46; refine (HK.out _ (by first | assumption | exact Below.drew (by assumption))).mono ?_; rintro e wa ⟨ua, rfl, hu, ba⟩) | (refine (HA.out _ _ (by assumption) (by first | assumption | exact Below.drew (by assumption))).mono ?_; rintro e wa ⟨rfl, ba⟩))
  all_goals go_wp2
  all_goals go_ret
  all_goals exact ⟨rfl, by first | assumption | exact Below.drew (by assumption)⟩
theorem implements_any (k f : Int) (w : World) : Calls Tryz.prog 80 #[.int .i64 k, .int .i64 f] w fun e w' => e = .returned (.bool (impl k f)) ∧ Below w.heap.size w w' := by
  obtain ⟨F, hm, hA⟩ := face_asks f
  exact implements_of k f (qfc f) F (fun k => impl k f) w rfl hm hA

/-- The kinds that may come. -/
def kiP (op k : Int) : Nat :=
  if op = 1 then (if impl k 5 = true then 2 ^ k.toNat else 0) else if op = 2 then 256 else if op = 3 then (if k = 11 then 16383 else 0)
  else if op = 4 then (if impl k 0 = true then 2 else 0) else if op = 5 then (if impl k 1 = true then 16 else 0) else if op = 6 then (if k = 6 then 64 else 0)
  else if op = 7 then 512 else if op = 8 then 2 ^ (kyK k).toNat else 0
theorem when_no (k : Int) (w : World) : Calls Tryz.prog 79 #[.bool false, .int .i64 k] w fun e w' => e = .returned (.int .u32 0) ∧ w' = w := by
  go_enter Tryz.func79, Tryz.ntmps79
  go_wp2
  go_ret
  exact ⟨rfl, rfl⟩

set_option maxRecDepth 100000 in
set_option maxHeartbeats 1000000 in
theorem when_yes (k : Int) (hk : 0 ≤ k ∧ k ≤ 13) (w : World) : Calls Tryz.prog 79 #[.bool true, .int .i64 k] w fun e w' => e = .returned (.int .u32 ((2 ^ k.toNat : Nat) : Int)) ∧ w' = w := by
  rcases kind_cases hk with rfl | rfl | rfl | rfl | rfl | rfl | rfl | rfl | rfl | rfl | rfl | rfl | rfl | rfl
  all_goals
    go_enter Tryz.func79, Tryz.ntmps79
    go_wp2
    go_ret
    exact ⟨rfl, rfl⟩

set_option maxRecDepth 100000 in
set_option maxHeartbeats 1000000 in
theorem doubleKinds_any (k : Int) (hk : 0 ≤ k ∧ k ≤ 13) (w : World) : Calls Tryz.prog 52 #[.int .i64 k] w fun e w' => e = .returned (.int .u32 ((if impl k 5 = true then 2 ^ k.toNat else 0 : Nat) : Int)) ∧ Below w.heap.size w w' := by
  have HI := Lib.hid (implements_any k 5 w)
  have HY := Lib.hid (when_yes k)
  cases hq : impl k 5 with
  | false =>
    rw [hq] at HI
    clear hq
    go_enter Tryz.func52, Tryz.ntmps52
    go_wp2_with fail
    refine HI.out.mono ?_
    rintro e w1 ⟨rfl, b1⟩
    go_wp2_with fail
    refine (when_no _ _).mono ?_
    rintro e w2 ⟨rfl, rfl⟩
    go_wp2
    go_ret
    exact ⟨rfl, b1⟩
  | true =>
    rw [hq] at HI
    clear hq
    go_enter Tryz.func52, Tryz.ntmps52
    go_wp2_with fail
    refine HI.out.mono ?_
    rintro e w1 ⟨rfl, b1⟩
    go_wp2_with fail
    refine (HY.out hk _).mono ?_
    rintro e w2 ⟨rfl, rfl⟩
    go_wp2
    go_ret
    exact ⟨rfl, b1⟩

set_option maxRecDepth 100000 in
set_option maxHeartbeats 1000000 in
theorem sizeKinds_any (k : Int) (w : World) : Calls Tryz.prog 58 #[.int .i64 k] w fun e w' => e = .returned (.int .u32 ((if impl k 0 = true then 2 else 0 : Nat) : Int)) ∧ Below w.heap.size w w' := by
  have HI := Lib.hid (implements_any k 0 w)
  have HY := Lib.hid (when_yes 1)
  cases hq : impl k 0 with
  | false =>
    rw [hq] at HI
    clear hq
    go_enter Tryz.func58, Tryz.ntmps58
    go_wp2_with fail
    refine HI.out.mono ?_
    rintro e w1 ⟨rfl, b1⟩
    go_wp2_with fail
    refine (when_no _ _).mono ?_
    rintro e w2 ⟨rfl, rfl⟩
    go_wp2
    go_ret
    exact ⟨rfl, b1⟩
  | true =>
    rw [hq] at HI
    clear hq
    go_enter Tryz.func58, Tryz.ntmps58
    go_wp2_with fail
    refine HI.out.mono ?_
    rintro e w1 ⟨rfl, b1⟩
    go_wp2_with fail
    refine (HY.out (by decide) _).mono ?_
    rintro e w2 ⟨rfl, rfl⟩
    go_wp2
    go_ret
    exact ⟨rfl, b1⟩

set_option maxRecDepth 100000 in
set_option maxHeartbeats 1000000 in
theorem nameKinds_any (k : Int) (w : World) : Calls Tryz.prog 60 #[.int .i64 k] w fun e w' => e = .returned (.int .u32 ((if impl k 1 = true then 16 else 0 : Nat) : Int)) ∧ Below w.heap.size w w' := by
  have HI := Lib.hid (implements_any k 1 w)
  have HY := Lib.hid (when_yes 4)
  cases hq : impl k 1 with
  | false =>
    rw [hq] at HI
    clear hq
    go_enter Tryz.func60, Tryz.ntmps60
    go_wp2_with fail
    refine HI.out.mono ?_
    rintro e w1 ⟨rfl, b1⟩
    go_wp2_with fail
    refine (when_no _ _).mono ?_
    rintro e w2 ⟨rfl, rfl⟩
    go_wp2
    go_ret
    exact ⟨rfl, b1⟩
  | true =>
    rw [hq] at HI
    clear hq
    go_enter Tryz.func60, Tryz.ntmps60
    go_wp2_with fail
    refine HI.out.mono ?_
    rintro e w1 ⟨rfl, b1⟩
    go_wp2_with fail
    refine (HY.out (by decide) _).mono ?_
    rintro e w2 ⟨rfl, rfl⟩
    go_wp2
    go_ret
    exact ⟨rfl, b1⟩

set_option maxRecDepth 100000 in
set_option maxHeartbeats 1000000 in
theorem listKinds_any (k : Int) (w : World) : Calls Tryz.prog 54 #[.int .i64 k] w fun e w' => e = .returned (.int .u32 ((256 : Nat) : Int)) ∧ Below w.heap.size w w' := by
  have HY := Lib.hid (when_yes 8 (by decide) w)
  go_enter Tryz.func54, Tryz.ntmps54
  go_wp2_with fail
  refine HY.out.mono ?_
  rintro e w2 ⟨rfl, rfl⟩
  go_wp2
  go_ret
  exact ⟨rfl, Below.refl _ _⟩

set_option maxRecDepth 100000 in
set_option maxHeartbeats 1000000 in
theorem pairKinds_any (k : Int) (w : World) : Calls Tryz.prog 64 #[.int .i64 k] w fun e w' => e = .returned (.int .u32 ((512 : Nat) : Int)) ∧ Below w.heap.size w w' := by
  have HY := Lib.hid (when_yes 9 (by decide) w)
  go_enter Tryz.func64, Tryz.ntmps64
  go_wp2_with fail
  refine HY.out.mono ?_
  rintro e w2 ⟨rfl, rfl⟩
  go_wp2
  go_ret
  exact ⟨rfl, Below.refl _ _⟩

set_option maxRecDepth 100000 in
set_option maxHeartbeats 1000000 in
theorem noKind_any (k : Int) (w : World) : Calls Tryz.prog 50 #[.int .i64 k] w fun e w' => e = .returned (.int .u32 0) ∧ Below w.heap.size w w' := by
  go_enter Tryz.func50, Tryz.ntmps50
  go_wp2
  go_ret
  exact ⟨rfl, Below.refl _ _⟩

set_option maxRecDepth 100000 in
set_option maxHeartbeats 1000000 in
theorem openKinds_any (k : Int) (w : World) : Calls Tryz.prog 56 #[.int .i64 k] w fun e w' => e = .returned (.int .u32 ((if k = 11 then 16383 else 0 : Nat) : Int)) ∧ Below w.heap.size w w' := by
  by_cases h : k = 11
  · subst h
    go_enter Tryz.func56, Tryz.ntmps56
    go_wp2
    go_ret
    exact ⟨rfl, Below.refl _ _⟩
  · rw [if_neg h]
    have h' : (k == 11) = false := by simpa using h
    go_enter Tryz.func56, Tryz.ntmps56
    go_wp2
    go_ret
    exact ⟨rfl, Below.refl _ _⟩

set_option maxRecDepth 100000 in
set_option maxHeartbeats 1000000 in
theorem notKinds_any (k : Int) (w : World) : Calls Tryz.prog 62 #[.int .i64 k] w fun e w' => e = .returned (.int .u32 ((if k = 6 then 64 else 0 : Nat) : Int)) ∧ Below w.heap.size w w' := by
  have HY := Lib.hid (when_yes 6 (by decide) w)
  by_cases h : k = 6
  · subst h
    go_enter Tryz.func62, Tryz.ntmps62
    go_wp2_with fail
    refine HY.out.mono ?_
    rintro e w2 ⟨rfl, rfl⟩
    go_wp2
    go_ret
    exact ⟨rfl, Below.refl _ _⟩
  · rw [if_neg h]
    have h' : (k == 6) = false := by simpa using h
    go_enter Tryz.func62, Tryz.ntmps62
    go_wp2_with fail
    refine (when_no _ _).mono ?_
    rintro e w2 ⟨rfl, rfl⟩
    go_wp2
    go_ret
    exact ⟨rfl, Below.refl _ _⟩
theorem kyK_in {k : Int} (hk : 0 ≤ k ∧ k ≤ 13) : 0 ≤ kyK k ∧ kyK k ≤ 13 := by
  unfold kyK
  repeat' split
  all_goals omega

set_option maxRecDepth 100000 in
set_option maxHeartbeats 1000000 in
theorem keyKinds_any (k : Int) (hk : 0 ≤ k ∧ k ≤ 13) (w : World) : Calls Tryz.prog 66 #[.int .i64 k] w fun e w' => e = .returned (.int .u32 ((2 ^ (kyK k).toNat : Nat) : Int)) ∧ Below w.heap.size w w' := by
  have HY := Lib.hid (when_yes (kyK k) (kyK_in hk))
  have HK := Lib.hid (keyKind_any k)
  clear hk
  go_enter Tryz.func66, Tryz.ntmps66
  go_wp2_with fail
  refine (HK.out _).mono ?_
  rintro e w2 ⟨rfl, rfl⟩
  go_wp2_with fail
  refine (HY.out _).mono ?_
  rintro e w2 ⟨rfl, rfl⟩
  go_wp2
  go_ret
  exact ⟨rfl, Below.refl _ _⟩

theorem kfn_any (op k : Int) (hk : 0 ≤ k ∧ k ≤ 13) (w : World) : Calls Tryz.prog (kfn op) #[.int .i64 k] w fun e w' => e = .returned (.int .u32 ((kiP op k : Nat) : Int)) ∧ Below w.heap.size w w' := by
  unfold kfn kiP
  by_cases o1 : op = 1
  · rw [if_pos o1, if_pos o1]
    exact doubleKinds_any k hk w
  rw [if_neg o1, if_neg o1]
  by_cases o2 : op = 2
  · rw [if_pos o2, if_pos o2]
    exact listKinds_any k w
  rw [if_neg o2, if_neg o2]
  by_cases o3 : op = 3
  · rw [if_pos o3, if_pos o3]
    exact openKinds_any k w
  rw [if_neg o3, if_neg o3]
  by_cases o4 : op = 4
  · rw [if_pos o4, if_pos o4]
    exact sizeKinds_any k w
  rw [if_neg o4, if_neg o4]
  by_cases o5 : op = 5
  · rw [if_pos o5, if_pos o5]
    exact nameKinds_any k w
  rw [if_neg o5, if_neg o5]
  by_cases o6 : op = 6
  · rw [if_pos o6, if_pos o6]
    exact notKinds_any k w
  rw [if_neg o6, if_neg o6]
  by_cases o7 : op = 7
  · rw [if_pos o7, if_pos o7]
    exact pairKinds_any k w
  rw [if_neg o7, if_neg o7]
  by_cases o8 : op = 8
  · rw [if_pos o8, if_pos o8]
    exact keyKinds_any k hk w
  rw [if_neg o8, if_neg o8]
  exact noKind_any k w
end Go.Proofs.YtajagjcfmaggiaaGreatDoor
