/- Match and Under of a trie that stands for a list of subscriptions; what is asked of the world: the two tables of unicode/utf8 as their text lays them. -/
import Derived.Test.YtcnglhlljmfanaaGreatDoorKm
import Derived.Test.YtcnglhlljmfanaaGreatDoorKn
namespace Go.Proofs.YtcnglhlljmfanaaGreatDoor
open Go.RowKit Tp Go.Maps Go.Shelf

theorem dolHead {n : Bs} : Lib.hasPrefix n [36] = dol n := by
  cases n with
  | nil => simp [Lib.hasPrefix, dol, List.isPrefixOf]
  | cons x r => simp [Lib.hasPrefix, dol, List.isPrefixOf]; exact BEq.comm

/-- Who hears a name: the numbers under the paths that its levels hit; ahead of all, nothing but the level itself, if the name begins with a dollar. -/
def hears (S : Pth → Int → Bool) (n : Bs) (i : Int) : Bool := if dol n = true then fnd S ((lvs n).drop 1) [(lvs n).headD []] i else fnd S (lvs n) [] i

theorem hears_iff {A : List (Bs × Int)} (hA : Subs A) {n : Bs} (hn : isName n = true) (i : Int) : hears (Sof A) n i = true ↔ ∃ f, (f, i) ∈ A ∧ matchesR f n = true := by
  have hw : wc n = false := by simp only [isName, Bool.and_eq_true, Bool.not_eq_true'] at hn; exact hn.2
  have hlv := wc_lvs hw
  have hna : ∀ y ∈ lvs n, y ≠ ha := fun y hy e => by have := hlv y hy; rw [e] at this; exact absurd this (by decide)
  have hnp : ∀ y ∈ lvs n, y ≠ pl := fun y hy e => by have := hlv y hy; rw [e] at this; exact absurd this (by decide)
  obtain ⟨y, r, hyr⟩ : ∃ y r, lvs n = y :: r := by
    cases h : lvs n with
    | nil => exact absurd h (lvs_ne n)
    | cons y r => exact ⟨y, r, rfl⟩
  have hfl : ∀ f, isFilter f = true → fl (lvs f) = true := fun f hf => by simp only [isFilter, Bool.and_eq_true] at hf; exact hf.2
  have hmr : ∀ f, isFilter f = true → (matchesR f n = true ↔ ((((lvs f).headD [] = pl ∨ (lvs f).headD [] = ha) → dol n = false) ∧ hit (lvs f) (lvs n) = true)) := fun f hf => by
    unfold matchesR
    rw [hf, hn, hit_agr (lvs f) (lvs n) (hfl f hf) hna]
    cases hd : dol n <;> simp
  unfold hears
  by_cases hd : dol n = true
  · rw [if_pos hd, fnd_iff]
    rw [hyr]
    simp only [List.drop_succ_cons, List.drop_zero, List.headD_cons]
    constructor
    · rintro ⟨s, h1, h2⟩
      obtain ⟨f, h3, h4⟩ := Sof_iff.1 h2
      have hf := hA.fil _ h3
      refine ⟨f, h3, (hmr f hf).2 ⟨fun h => ?_, ?_⟩⟩
      · rw [h4] at h
        simp only [List.cons_append, List.nil_append, List.headD_cons] at h
        rcases h with h | h
        · exact absurd h (hnp y (by rw [hyr]; simp))
        · exact absurd h (hna y (by rw [hyr]; simp))
      · rw [h4, hyr]
        simp only [List.cons_append, List.nil_append]
        rw [hit, if_neg (fun e => hna y (by rw [hyr]; simp) e.1)]
        simp [h1]
    · rintro ⟨f, h3, h4⟩
      have hf := hA.fil _ h3
      obtain ⟨h5, h6⟩ := (hmr f hf).1 h4
      rw [hyr] at h6
      cases hfv : lvs f with
      | nil => exact absurd hfv (lvs_ne f)
      | cons x s =>
        rw [hfv] at h5 h6
        simp only [List.headD_cons] at h5
        have hx1 : x ≠ ha := fun e => by have := h5 (.inr e); rw [hd] at this; cases this
        have hx2 : x ≠ pl := fun e => by have := h5 (.inl e); rw [hd] at this; cases this
        rw [hit, if_neg (fun e => hx1 e.1)] at h6
        by_cases hxy : x = y ∨ x = pl
        · simp only [if_pos hxy] at h6
          obtain rfl := hxy.resolve_right hx2
          exact ⟨s, h6, Sof_iff.2 ⟨f, h3, by simpa using hfv⟩⟩
        · simp only [if_neg hxy] at h6; cases h6
  · rw [if_neg hd, fnd_iff]
    simp only [List.nil_append]
    constructor
    · rintro ⟨s, h1, h2⟩
      obtain ⟨f, h3, rfl⟩ := Sof_iff.1 h2
      exact ⟨f, h3, (hmr f (hA.fil _ h3)).2 ⟨fun _ => by simpa using hd, h1⟩⟩
    · rintro ⟨f, h3, h4⟩
      exact ⟨lvs f, ((hmr f (hA.fil _ h3)).1 h4).2, Sof_iff.2 ⟨f, h3, rfl⟩⟩

section
variable {w : World} {t B : Nat} {A : List (Bs × Int)} {nd : Pth → Option Nd} {own : Nat → Option (Pth × Nat)} {n : Nd} {K : Nat}

theorem SetAt.new (w : World) (K : Nat) : SetAt (w.alloc (.map #[] 0)) (some w.heap.size) (fun _ => false) K :=
  ⟨0, .map [], World.ownsMap_made w Tryz.prog 3 unitElem, Nat.zero_le _, fun _ => rfl⟩

/-- A rising row of numbers in memory of its own. -/
def IntsAt (w : World) (base : Nat) (v : Value) (l : List Int) : Prop := w.ownsRow base 3 1 v l.length (l.map (Value.int .i64))

set_option maxRecDepth 100000 in
set_option maxHeartbeats 4000000 in
theorem match_no (nm : ByteArray) (hf : nm.size ≤ 9223372036854775807) (hT : Tabs w) (v0 : Value) (hv0 : ∃ a, v0 = .pointer a) (hN : isName (tl nm) = false) :
    Calls Tryz.prog 12 #[v0, .string nm] w fun e w' => e = .returned (.slice none 0 0) ∧ Below w.heap.size w w' := by
  obtain ⟨a, rfl⟩ := hv0
  have hn := name_any nm w hf hT
  rw [hN] at hn
  go_enter Tryz.func12, Tryz.ntmps12
  go_wp2_with (first
    | (go_at_call 29; refine hn.mono ?_; rintro e w1 ⟨rfl, hb1⟩))
  go_ret
  exact ⟨rfl, hb1⟩

set_option maxRecDepth 100000 in
set_option maxHeartbeats 4000000 in
theorem match_yes (h : TrieAt w t B A nd own n K) (nm : ByteArray) (hf : nm.size ≤ 9223372036854775807) (hT : Tabs w) (hN : isName (tl nm) = true) (hK : A.length + K < maxLen) (hA : A.length * 8 ≤ 140737488355328) :
    Calls Tryz.prog 12 #[.pointer (some ⟨t, 0, none⟩), .string nm] w fun e w' => ∃ v l, e = .returned v ∧ Rise l ∧ (∀ i, i ∈ l ↔ hears (Sof A) (tl nm) i = true) ∧ l.length ≤ A.length ∧ IntsAt w' w.heap.size v l ∧ Below w.heap.size w w' := by
  have hF := name_filter hN
  have hn := name_any nm w hf hT
  rw [hN] at hn
  have KS : Hid (∀ W, Below w.heap.size w W → Calls Tryz.prog 23 #[.pointer (some ⟨t, 0, none⟩), .string nm] W fun e w' => ∃ b o c, e = .returned (.tuple #[.agg #[.pointer (some ⟨n.a, 0, none⟩), .slice (some ⟨b, o, none⟩) (lvs (tl nm)).length c], .bool true]) ∧
      LeftAt w' (.slice (some ⟨b, o, none⟩) (lvs (tl nm)).length c) (lvs (tl nm)) ∧ W.heap.size ≤ b ∧ Below W.heap.size W w') := fun W hW => startOf_yes (h.below hW) nm hf (hT.below hW) hF
  have hmk : ∀ W, (Instr.makeMap 36 none).run Tryz.prog W = .ok (.map (some W.heap.size)) (W.alloc (.map #[] 0)) := fun W => run_makeMap _ W
  have hpre := Tryz.strings_HasPrefix nm ⟨#[36]⟩
  have hU : ∀ q i, Sof A q i = true → i ∈ A.map Prod.snd := fun q i hq => by obtain ⟨f, h1, _⟩ := Sof_iff.1 hq; exact List.mem_map.2 ⟨(f, i), h1, rfl⟩
  have hKs : (A.map Prod.snd).length + K < maxLen := by rw [List.length_map]; exact hK
  obtain ⟨hs1, hs2⟩ := lvs_short hF
  have hlv1 : (1 : Nat) ≤ (lvs (tl nm)).length := by have := lvs_len (tl nm); omega
  have e36 : Lib.hasPrefix nm.data.toList [36] = dol (tl nm) := by rw [dolHead, tl_data]
  have FIN : Hid (∀ (w2 : World) (b o c : Nat) (s : Int → Bool), Below w.heap.size w w2 → b < w2.heap.size → ∀ w6, SetAt w6 (some (w2.heap.size + 1)) s (A.map Prod.snd).length → But (fun k => k = w2.heap.size + 1) (((w2.alloc (.cells #[.pointer (some ⟨n.a, 0, none⟩), .slice (some ⟨b, o, none⟩) (lvs (tl nm)).length c] 51)).alloc (.map #[] 0)).alloc (.cells #[.pointer (some ⟨n.a, 0, none⟩), .slice (some ⟨b, o, none⟩) (lvs (tl nm)).length c, .map (some (w2.heap.size + 1))] 61)) w6 →
      w6.cell? ⟨w2.heap.size + 2, 2, none⟩ = some (.map (some (w2.heap.size + 1))) ∧ Calls Tryz.prog 33 #[.func (.func 60) #[] #[.pointer (some ⟨w6.heap.size, 0, none⟩)]] (w6.alloc (.cells #[.map (some (w2.heap.size + 1))] 36)) fun e w' => ∃ v l, e = .returned v ∧ Rise l ∧ (∀ i, i ∈ l ↔ s i = true) ∧ l.length ≤ A.length ∧ IntsAt w' w.heap.size v l ∧ Below w.heap.size w w') := fun w2 b o c s hb2 hbb w6 hs6 hB6 => by
    have hz := hb2.size
    have hn5 := heap_alloc_new ((w2.alloc (.cells #[.pointer (some ⟨n.a, 0, none⟩), .slice (some ⟨b, o, none⟩) (lvs (tl nm)).length c] 51)).alloc (.map #[] 0)) (.cells #[.pointer (some ⟨n.a, 0, none⟩), .slice (some ⟨b, o, none⟩) (lvs (tl nm)).length c, .map (some (w2.heap.size + 1))] 61)
    simp only [World.size_alloc] at hn5
    have hBw : Below w.heap.size w w6 := by
      have h1 : Below w.heap.size w (((w2.alloc (.cells #[.pointer (some ⟨n.a, 0, none⟩), .slice (some ⟨b, o, none⟩) (lvs (tl nm)).length c] 51)).alloc (.map #[] 0)).alloc (.cells #[.pointer (some ⟨n.a, 0, none⟩), .slice (some ⟨b, o, none⟩) (lvs (tl nm)).length c, .map (some (w2.heap.size + 1))] 61)) := ((hb2.alloc hz _).alloc (by simp; omega) _).alloc (by simp; omega) _
      refine ⟨hB6.os.trans h1.os, hB6.tape.trans h1.tape, hB6.output.trans h1.output, Nat.le_trans h1.size hB6.size, fun k hk => ?_⟩
      have h2 := h1.size
      exact (hB6.block k (by omega) (by omega)).trans (h1.block k hk)
    have hz6 := hBw.size
    refine ⟨by rw [cell_at (hB6.at hn5 (by omega)) 2]; rfl, ?_⟩
    refine (sorted_any w6.heap.size (some (w2.heap.size + 1)) s (A.map Prod.snd).length _ (hs6.but (But.alloc (C := fun _ => False) w6 _) (fun _ _ h => h)) (by rw [List.length_map]; exact hA) (by simp) (by rw [cell_at (heap_alloc_new _ _) 0]; rfl)).mono ?_
    rintro e w' ⟨v, l, he, h1, h2, h3, h4, h5⟩
    refine ⟨v, l, he, h1, h2, by rw [List.length_map] at h3; exact h3, ownsRow_base_a h4 (by simp; omega), (hBw.alloc hz6 _).trans (h5.mono (by simp; omega))⟩
  have PRE : Hid (∀ (w1 w2 : World) (b o c : Nat), Below w.heap.size w w1 → Below w1.heap.size w1 w2 → LeftAt w2 (.slice (some ⟨b, o, none⟩) (lvs (tl nm)).length c) (lvs (tl nm)) → w1.heap.size ≤ b → 
      G (((w2.alloc (.cells #[.pointer (some ⟨n.a, 0, none⟩), .slice (some ⟨b, o, none⟩) (lvs (tl nm)).length c] 51)).alloc (.map #[] 0)).alloc (.cells #[.pointer (some ⟨n.a, 0, none⟩), .slice (some ⟨b, o, none⟩) (lvs (tl nm)).length c, .map (some (w2.heap.size + 1))] 61)) nd own (Sof A) K ∧ LeftAt (((w2.alloc (.cells #[.pointer (some ⟨n.a, 0, none⟩), .slice (some ⟨b, o, none⟩) (lvs (tl nm)).length c] 51)).alloc (.map #[] 0)).alloc (.cells #[.pointer (some ⟨n.a, 0, none⟩), .slice (some ⟨b, o, none⟩) (lvs (tl nm)).length c, .map (some (w2.heap.size + 1))] 61)) (.slice (some ⟨b, o, none⟩) (lvs (tl nm)).length c) (lvs (tl nm)) ∧ b ≠ w2.heap.size + 1 ∧ own (w2.heap.size + 1) = none ∧ SetAt (((w2.alloc (.cells #[.pointer (some ⟨n.a, 0, none⟩), .slice (some ⟨b, o, none⟩) (lvs (tl nm)).length c] 51)).alloc (.map #[] 0)).alloc (.cells #[.pointer (some ⟨n.a, 0, none⟩), .slice (some ⟨b, o, none⟩) (lvs (tl nm)).length c, .map (some (w2.heap.size + 1))] 61)) (some (w2.heap.size + 1)) (fun _ => false) (A.map Prod.snd).length ∧ b < w2.heap.size ∧ Below w.heap.size w w2) := fun w1 w2 b o c hb1 hb2 hla hbw => by
    have hbb := hb1.trans (hb2.mono hb1.size)
    have hz := hbb.size
    have h1 : Below w2.heap.size w2 (((w2.alloc (.cells #[.pointer (some ⟨n.a, 0, none⟩), .slice (some ⟨b, o, none⟩) (lvs (tl nm)).length c] 51)).alloc (.map #[] 0)).alloc (.cells #[.pointer (some ⟨n.a, 0, none⟩), .slice (some ⟨b, o, none⟩) (lvs (tl nm)).length c, .map (some (w2.heap.size + 1))] 61)) := ((below1 w2 _).alloc (by simp) _).alloc (by simp; omega) _
    have hbl : b < w2.heap.size := by obtain ⟨b', o', c', e, _, _, h3⟩ := hla; cases e; exact h3
    refine ⟨(h.g.below hbb).below h1, hla.below h1, by omega, ?_, ?_, hbl, hbb⟩
    · cases ho : own (w2.heap.size + 1) with
      | none => rfl
      | some z => exact absurd (h.g.lt _ (by rw [ho]; simp)) (by omega)
    · have := SetAt.new (w2.alloc (.cells #[.pointer (some ⟨n.a, 0, none⟩), .slice (some ⟨b, o, none⟩) (lvs (tl nm)).length c] 51)) (A.map Prod.snd).length
      rw [World.size_alloc] at this
      exact this.but (But.alloc (C := fun _ => False) _ _) (fun _ _ h => h)
  cases hd : dol (tl nm) with
  | false =>
    rw [hd] at e36
    have KR := Lib.hid (run_any (Sof A) K (A.map Prod.snd) hU hKs (lvs (tl nm)) hs1)
    go_enter Tryz.func12, Tryz.ntmps12
    go_wp2_with (first
      | (go_at_call 29; refine hn.mono ?_; rintro e w1 ⟨rfl, hb1⟩)
      | (go_at_call 23; refine (KS.out _ hb1).mono ?_; rintro e w2 ⟨b, o, c, rfl, hla, hbw, hb2⟩; obtain ⟨p1, p2, p3, p4, p5, p6, p7⟩ := PRE.out w1 w2 b o c hb1 hb2 hla hbw)
      | (go_at_call 30; refine (hpre _).mono ?_; rintro e w3 ⟨rfl, rfl⟩; rw [e36])
      | (go_at_call 32; refine (KR.out [] _ nd own n b o c _ (fun _ => false) p1 h.root p2 p3 p4 p5 (fun i hi => by cases hi)).mono ?_; rintro e w6 ⟨rfl, hs6, hB6⟩; obtain ⟨q1, q2⟩ := FIN.out w2 b o c _ p7 p6 w6 hs6 hB6)
      | (go_at_call 34; refine (keys_any _ _).mono ?_; rintro e w7 ⟨rfl, rfl⟩)
      | (go_at_call 33; refine q2.mono ?_; rintro e w8 ⟨v, l, rfl, r1, r2, r3, r4, r5⟩))
    go_ret
    exact ⟨v, l, rfl, r1, fun i => by rw [r2 i]; simp [hears, hd], r3, r4, r5⟩
  | true =>
    rw [hd] at e36
    obtain ⟨y, r, hyr⟩ : ∃ y r, lvs (tl nm) = y :: r := by
      cases h : lvs (tl nm) with
      | nil => exact absurd h (lvs_ne _)
      | cons y r => exact ⟨y, r, rfl⟩
    have hsy : (bs y).size ≤ 65535 := by rw [← tl_size, tl_bs]; exact hs1 y (by rw [hyr]; simp)
    have KT : Hid (∀ (w2 : World) (b o c : Nat), G (((w2.alloc (.cells #[.pointer (some ⟨n.a, 0, none⟩), .slice (some ⟨b, o, none⟩) (lvs (tl nm)).length c] 51)).alloc (.map #[] 0)).alloc (.cells #[.pointer (some ⟨n.a, 0, none⟩), .slice (some ⟨b, o, none⟩) (lvs (tl nm)).length c, .map (some (w2.heap.size + 1))] 61)) nd own (Sof A) K → LeftAt (((w2.alloc (.cells #[.pointer (some ⟨n.a, 0, none⟩), .slice (some ⟨b, o, none⟩) (lvs (tl nm)).length c] 51)).alloc (.map #[] 0)).alloc (.cells #[.pointer (some ⟨n.a, 0, none⟩), .slice (some ⟨b, o, none⟩) (lvs (tl nm)).length c, .map (some (w2.heap.size + 1))] 61)) (.slice (some ⟨b, o, none⟩) (lvs (tl nm)).length c) (lvs (tl nm)) → b ≠ w2.heap.size + 1 → own (w2.heap.size + 1) = none → SetAt (((w2.alloc (.cells #[.pointer (some ⟨n.a, 0, none⟩), .slice (some ⟨b, o, none⟩) (lvs (tl nm)).length c] 51)).alloc (.map #[] 0)).alloc (.cells #[.pointer (some ⟨n.a, 0, none⟩), .slice (some ⟨b, o, none⟩) (lvs (tl nm)).length c, .map (some (w2.heap.size + 1))] 61)) (some (w2.heap.size + 1)) (fun _ => false) (A.map Prod.snd).length → b < w2.heap.size → Below w.heap.size w w2 →
        Calls Tryz.prog 31 #[.agg #[.pointer (some ⟨n.a, 0, none⟩), .slice (some ⟨b, o, none⟩) (lvs (tl nm)).length c, .map (some (w2.heap.size + 1))], .string (bs y)] (((w2.alloc (.cells #[.pointer (some ⟨n.a, 0, none⟩), .slice (some ⟨b, o, none⟩) (lvs (tl nm)).length c] 51)).alloc (.map #[] 0)).alloc (.cells #[.pointer (some ⟨n.a, 0, none⟩), .slice (some ⟨b, o, none⟩) (lvs (tl nm)).length c, .map (some (w2.heap.size + 1))] 61)).drew fun e w' => e = .returned (.tuple #[]) ∧ SetAt w' (some (w2.heap.size + 1)) (fun i => false || fnd (Sof A) r [y] i) (A.map Prod.snd).length ∧ But (fun k => k = w2.heap.size + 1) (((w2.alloc (.cells #[.pointer (some ⟨n.a, 0, none⟩), .slice (some ⟨b, o, none⟩) (lvs (tl nm)).length c] 51)).alloc (.map #[] 0)).alloc (.cells #[.pointer (some ⟨n.a, 0, none⟩), .slice (some ⟨b, o, none⟩) (lvs (tl nm)).length c, .map (some (w2.heap.size + 1))] 61)) w' ∧ (w'.cell? ⟨w2.heap.size + 2, 0, none⟩ = some (.pointer (some ⟨n.a, 0, none⟩)) ∧ w'.cell? ⟨w2.heap.size + 2, 1, none⟩ = some (.slice (some ⟨b, o, none⟩) (lvs (tl nm)).length c) ∧ w'.cell? ⟨w2.heap.size + 2, 2, none⟩ = some (.map (some (w2.heap.size + 1))) ∧ w'.cell? ⟨b, o, none⟩ = some (.string (bs y)))) := fun w2 b o c p1 p2 p3 p4 p5 p6 p7 => by
      have hR := run_any (Sof A) K (A.map Prod.snd) hU hKs r (fun z hz => hs1 z (by rw [hyr]; simp [hz]))
      have hdr : Below (((w2.alloc (.cells #[.pointer (some ⟨n.a, 0, none⟩), .slice (some ⟨b, o, none⟩) (lvs (tl nm)).length c] 51)).alloc (.map #[] 0)).alloc (.cells #[.pointer (some ⟨n.a, 0, none⟩), .slice (some ⟨b, o, none⟩) (lvs (tl nm)).length c, .map (some (w2.heap.size + 1))] 61)).heap.size (((w2.alloc (.cells #[.pointer (some ⟨n.a, 0, none⟩), .slice (some ⟨b, o, none⟩) (lvs (tl nm)).length c] 51)).alloc (.map #[] 0)).alloc (.cells #[.pointer (some ⟨n.a, 0, none⟩), .slice (some ⟨b, o, none⟩) (lvs (tl nm)).length c, .map (some (w2.heap.size + 1))] 61)) (((w2.alloc (.cells #[.pointer (some ⟨n.a, 0, none⟩), .slice (some ⟨b, o, none⟩) (lvs (tl nm)).length c] 51)).alloc (.map #[] 0)).alloc (.cells #[.pointer (some ⟨n.a, 0, none⟩), .slice (some ⟨b, o, none⟩) (lvs (tl nm)).length c, .map (some (w2.heap.size + 1))] 61)).drew := Below.drew (Below.refl _ _)
      have e : (lvs (tl nm)).length = r.length + 1 := by rw [hyr]; rfl
      have p2' := p2.below hdr
      have hy0 : (((w2.alloc (.cells #[.pointer (some ⟨n.a, 0, none⟩), .slice (some ⟨b, o, none⟩) (lvs (tl nm)).length c] 51)).alloc (.map #[] 0)).alloc (.cells #[.pointer (some ⟨n.a, 0, none⟩), .slice (some ⟨b, o, none⟩) (lvs (tl nm)).length c, .map (some (w2.heap.size + 1))] 61)).cell? ⟨b, o, none⟩ = some (.string (bs y)) := by
        obtain ⟨b1, o1, c1, e1, hr, hcl, hbl⟩ := p2
        simp only [Value.slice.injEq, Option.some.injEq, Addr.mk.injEq, and_true, true_and] at e1
        obtain ⟨⟨rfl, rfl⟩, rfl⟩ := e1
        have := hr 0 (bs y) (by rw [hyr]; simp); simpa using this
      have hn5 := heap_alloc_new ((w2.alloc (.cells #[.pointer (some ⟨n.a, 0, none⟩), .slice (some ⟨b, o, none⟩) (lvs (tl nm)).length c] 51)).alloc (.map #[] 0)) (.cells #[.pointer (some ⟨n.a, 0, none⟩), .slice (some ⟨b, o, none⟩) (lvs (tl nm)).length c, .map (some (w2.heap.size + 1))] 61)
      simp only [World.size_alloc] at hn5
      have := through_any hR y (bs y) hsy [] (((w2.alloc (.cells #[.pointer (some ⟨n.a, 0, none⟩), .slice (some ⟨b, o, none⟩) (lvs (tl nm)).length c] 51)).alloc (.map #[] 0)).alloc (.cells #[.pointer (some ⟨n.a, 0, none⟩), .slice (some ⟨b, o, none⟩) (lvs (tl nm)).length c, .map (some (w2.heap.size + 1))] 61)).drew nd own n b o c _ (fun _ => false) (p1.below hdr) h.root (by rw [← e, ← hyr]; exact p2') p3 p4 (p5.but (But.of_below (C := fun _ => False) hdr) (fun _ _ h => h)) (fun i hi => by cases hi)
      rw [tl_bs, ← e] at this
      refine this.mono fun e w' ⟨h1, h2, h3⟩ => ?_
      have h4 : But (fun k => k = w2.heap.size + 1) (((w2.alloc (.cells #[.pointer (some ⟨n.a, 0, none⟩), .slice (some ⟨b, o, none⟩) (lvs (tl nm)).length c] 51)).alloc (.map #[] 0)).alloc (.cells #[.pointer (some ⟨n.a, 0, none⟩), .slice (some ⟨b, o, none⟩) (lvs (tl nm)).length c, .map (some (w2.heap.size + 1))] 61)) w' := (But.of_below hdr).trans h3 (fun _ _ h => h)
      have h5 := h4.at hn5 (by omega)
      refine ⟨h1, by simpa using h2, h4, by rw [cell_at h5 0]; rfl, by rw [cell_at h5 1]; rfl, by rw [cell_at h5 2]; rfl, ?_⟩
      unfold World.cell? at hy0 ⊢
      rw [h4.block b (by simp; omega) p3]; exact hy0
    have KC : Hid (∀ (w2 : World) (b o c : Nat), LeftAt (((w2.alloc (.cells #[.pointer (some ⟨n.a, 0, none⟩), .slice (some ⟨b, o, none⟩) (lvs (tl nm)).length c] 51)).alloc (.map #[] 0)).alloc (.cells #[.pointer (some ⟨n.a, 0, none⟩), .slice (some ⟨b, o, none⟩) (lvs (tl nm)).length c, .map (some (w2.heap.size + 1))] 61)) (.slice (some ⟨b, o, none⟩) (lvs (tl nm)).length c) (lvs (tl nm)) → (((w2.alloc (.cells #[.pointer (some ⟨n.a, 0, none⟩), .slice (some ⟨b, o, none⟩) (lvs (tl nm)).length c] 51)).alloc (.map #[] 0)).alloc (.cells #[.pointer (some ⟨n.a, 0, none⟩), .slice (some ⟨b, o, none⟩) (lvs (tl nm)).length c, .map (some (w2.heap.size + 1))] 61)).cell? ⟨w2.heap.size + 2, 0, none⟩ = some (.pointer (some ⟨n.a, 0, none⟩)) ∧ (((w2.alloc (.cells #[.pointer (some ⟨n.a, 0, none⟩), .slice (some ⟨b, o, none⟩) (lvs (tl nm)).length c] 51)).alloc (.map #[] 0)).alloc (.cells #[.pointer (some ⟨n.a, 0, none⟩), .slice (some ⟨b, o, none⟩) (lvs (tl nm)).length c, .map (some (w2.heap.size + 1))] 61)).cell? ⟨w2.heap.size + 2, 1, none⟩ = some (.slice (some ⟨b, o, none⟩) (lvs (tl nm)).length c) ∧ (((w2.alloc (.cells #[.pointer (some ⟨n.a, 0, none⟩), .slice (some ⟨b, o, none⟩) (lvs (tl nm)).length c] 51)).alloc (.map #[] 0)).alloc (.cells #[.pointer (some ⟨n.a, 0, none⟩), .slice (some ⟨b, o, none⟩) (lvs (tl nm)).length c, .map (some (w2.heap.size + 1))] 61)).cell? ⟨w2.heap.size + 2, 2, none⟩ = some (.map (some (w2.heap.size + 1))) ∧ (((w2.alloc (.cells #[.pointer (some ⟨n.a, 0, none⟩), .slice (some ⟨b, o, none⟩) (lvs (tl nm)).length c] 51)).alloc (.map #[] 0)).alloc (.cells #[.pointer (some ⟨n.a, 0, none⟩), .slice (some ⟨b, o, none⟩) (lvs (tl nm)).length c, .map (some (w2.heap.size + 1))] 61)).cell? ⟨b, o, none⟩ = some (.string (bs y))) := fun w2 b o c p2 => by
      have hn5 := heap_alloc_new ((w2.alloc (.cells #[.pointer (some ⟨n.a, 0, none⟩), .slice (some ⟨b, o, none⟩) (lvs (tl nm)).length c] 51)).alloc (.map #[] 0)) (.cells #[.pointer (some ⟨n.a, 0, none⟩), .slice (some ⟨b, o, none⟩) (lvs (tl nm)).length c, .map (some (w2.heap.size + 1))] 61)
      simp only [World.size_alloc] at hn5
      refine ⟨by rw [cell_at hn5 0]; rfl, by rw [cell_at hn5 1]; rfl, by rw [cell_at hn5 2]; rfl, ?_⟩
      obtain ⟨b1, o1, c1, e1, hr, hcl, hbl⟩ := p2
      simp only [Value.slice.injEq, Option.some.injEq, Addr.mk.injEq, and_true, true_and] at e1
      obtain ⟨⟨rfl, rfl⟩, rfl⟩ := e1
      have := hr 0 (bs y) (by rw [hyr]; simp); simpa using this
    have h0' : (0 : Int) < ((lvs (tl nm)).length : Int) := by omega
    have h0n : 0 < (lvs (tl nm)).length := by omega
    have HY := Lib.hid hyr
    clear hyr
    go_enter Tryz.func12, Tryz.ntmps12
    go_wp2_with (first
      | (go_at_call 29; refine hn.mono ?_; rintro e w1 ⟨rfl, hb1⟩)
      | (go_at_call 23; refine (KS.out _ hb1).mono ?_; rintro e w2 ⟨b, o, c, rfl, hla, hbw, hb2⟩; obtain ⟨p1, p2, p3, p4, p5, p6, p7⟩ := PRE.out w1 w2 b o c hb1 hb2 hla hbw; have kt := Lib.hid (KT.out w2 b o c p1 p2 p3 p4 p5 p6 p7); obtain ⟨z0, z1, z2, z3⟩ := KC.out w2 b o c p2; clear p1 p2 p5)
      | (go_at_call 30; refine (hpre _).mono ?_; rintro e w3 ⟨rfl, rfl⟩; rw [e36]))
    go_region_held3 (fun W => W.cell? ⟨w2.heap.size + 2, 0, none⟩ = some (.pointer (some ⟨n.a, 0, none⟩)) ∧ W.cell? ⟨w2.heap.size + 2, 1, none⟩ = some (.slice (some ⟨b, o, none⟩) (lvs (tl nm)).length c) ∧ W.cell? ⟨w2.heap.size + 2, 2, none⟩ = some (.map (some (w2.heap.size + 1))) ∧ W.cell? ⟨b, o, none⟩ = some (.string (bs y))) (first | with_reducible assumption | exact ⟨z0, z1, z2, z3⟩) (
      (go_at_call 31; refine kt.out.mono ?_; rintro e w6 ⟨rfl, hs6, hB6, y0⟩; obtain ⟨q1, q2⟩ := FIN.out w2 b o c _ p7 p6 w6 hs6 hB6))
    go_wp2_with (first
      | (go_at_call 34; refine (keys_any _ _).mono ?_; rintro e w7 ⟨rfl, rfl⟩)
      | (go_at_call 33; refine q2.mono ?_; rintro e w8 ⟨v, l, rfl, r1, r2, r3, r4, r5⟩))
    go_ret
    exact ⟨v, l, rfl, r1, fun i => by rw [r2 i]; simp [hears, hd, HY.out], r3, r4, r5⟩
end
end Go.Proofs.YtcnglhlljmfanaaGreatDoor
