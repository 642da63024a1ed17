/- Scan: what it answers for every text; what is asked: the bytes lie in memory, and the package's variables as their text lays them. -/
import Derived.Test.YteohpiamfpnofabDoorSk
import Derived.Deep.AppendLies
namespace Go.Proofs.YteohpiamfpnofabDoor
open Go.RowKit Go.Maps

theorem infoTok : (Tryd.prog.info? 32).map (fun i => (i.zero, i.size, i.bytes)) = some (some (.agg #[.int .i64 0, .int .i64 0, .int .i64 0, .int .u64 0, .string ⟨#[]⟩]), 5, 48) := by kernel_rfl
/-- A token's five cells. -/
def tcells (t : Tok) : List Value := [.int .i64 t.kind, .int .i64 t.pos, .int .i64 t.fin, .int .u64 t.num, .string (bs t.text)]
/-- Tokens in a row of one's own. -/
def Toks (w : World) (base : Nat) (v : Value) (l : List Tok) : Prop := w.ownsRow base 32 5 v l.length (l.flatMap tcells)
/-- What Scan leaves. -/
def SP (w : World) (R : Res) (e : Ending) (w' : World) : Prop := Below w.heap.size w w' ∧ match R with
  | .inl (p, er) => e = .returned (.tuple #[.slice none 0 0, .agg #[.int .i64 p, .int .i64 er]])
  | .inr l => ∃ v, e = .returned (.tuple #[v, .agg #[.int .i64 0, .int .i64 0]]) ∧ Toks w' w.heap.size v l

/-- The world with the room that Scan has for its fault. -/
abbrev fw (w : World) : World := w.alloc (.cells #[.int .i64 0, .int .i64 0] 26)
/-- A fault's room. -/
def F2 (W : World) (B : Nat) : Prop := W.heap[B]? = some (.cells #[.int .i64 0, .int .i64 0] 26 (0, 0))
theorem F2.c {W : World} {B : Nat} (h : F2 W B) : W.cell? ⟨B, 0, none⟩ = some (.int .i64 0) ∧ W.cell? ⟨B, 1, none⟩ = some (.int .i64 0) := by
  unfold F2 at h
  refine ⟨?_, ?_⟩ <;> (simp only [World.cell?, h]; rfl)
theorem F2.f {W : World} {B o : Nat} (h : F2 W B) : W.frozen? ⟨B, o, none⟩ = false := by
  unfold F2 at h
  simp [World.frozen?, h]
theorem F2.below {w W : World} (hB : Below (fw w).heap.size (fw w) W) : F2 W w.heap.size := (hB.block w.heap.size (by simp)).trans (heap_alloc_new w _)
theorem own_mono {w : World} {base base' : Nat} {e : TypeId} {size : Nat} {v : Value} {n : Nat} {xs : List Value} (h : w.ownsRow base e size v n xs) (hb : base' ≤ base) : w.ownsRow base' e size v n xs :=
  ⟨h.1, h.2.elim .inl fun ⟨g, cap, cur, h1, h2, h3⟩ => .inr ⟨g, cap, cur, h1, Nat.le_trans hb h2, h3⟩⟩
theorem cells5 (w : World) (ob : Obj) (t : TypeId) (x0 x1 x2 x3 x4 : Value) : ∀ j u, [x0, x1, x2, x3, x4][j]? = some u → ((w.alloc ob).alloc (.cells #[x0, x1, x2, x3, x4] t)).cell? ((⟨w.heap.size + 1, 0, none⟩ : Addr).add j) = some u := fun j u h => by
  rw [WideShapes.add_plain, Nat.zero_add]
  have := cell_new (w.alloc ob) #[x0, x1, x2, x3, x4] t (0, 0) j
  rw [show (w.alloc ob).heap.size = w.heap.size + 1 by simp] at this
  rw [this]
  simpa using h
theorem cell_kept (w : World) {w' : World} {cs : Array Value} {t : TypeId} {ob : Obj} {v : Value} {base : Nat} {e : TypeId} {size n : Nat} {xs : List Value} (hg : ((w.alloc (.cells cs t)).alloc ob).grownBy w' v.ownBlock) (ho : w.ownsRow base e size v n xs) : w'.cell? ⟨w.heap.size, 2, none⟩ = cs[2]? := by
  have hne : some w.heap.size ≠ v.ownBlock := fun h => by have := (ho.lt _ h.symm).2; omega
  rw [hg.cell_far ⟨w.heap.size, 2, none⟩ (by simp; omega) hne]
  rw [show ((w.alloc (.cells cs t)).alloc ob).cell? ⟨w.heap.size, 2, none⟩ = (w.alloc (.cells cs t)).cell? ⟨w.heap.size, 2, none⟩ from (Below.cell (below1 (w.alloc (.cells cs t)) ob) (p := ⟨w.heap.size, 2, none⟩) (by simp)), cell_new]
theorem one_bad {r : Bs} {e : Nat} (h : one r = .inl e) : e = 61 ∨ e = 63 ∨ e = 64 ∨ e = 65 := by
  cases r with
  | nil => simp [one] at h; omega
  | cons b t =>
    simp only [one] at h
    split at h
    · unfold numT numO at h
      split at h
      · cases h; simp
      · split at h <;> cases h
        simp
    · split at h
      · unfold wrdT at h
        split at h <;> cases h
        simp
      · split at h
        · unfold txtT at h
          split at h <;> cases h
          simp
        · unfold mrkT at h
          split at h <;> cases h
          simp

set_option maxRecDepth 100000 in
set_option maxHeartbeats 8000000 in
theorem scan_any (b o c : Nat) (l : Bs) (w : World) (hl : Byt w b o l) (hb : b < w.heap.size) (hs : l.length ≤ 65536) (hc : l.length ≤ c) (hv : Sv w) :
    Calls Tryd.prog 4 #[.slice (some ⟨b, o, none⟩) l.length c] w (SP w (ans l 0 [])) := by
  obtain ⟨i0, hi0, hz0, hz1, hz2⟩ := info_parts infoTok
  have HB := Lib.hid (below1 w (.cells #[.int .i64 0, .int .i64 0] 26))
  have HL1 := Lib.hid (hl.below HB.out hb)
  have HV1 := Lib.hid (hv.below HB.out (Nat.le_refl _))
  have Hb1 := Lib.hid (Nat.lt_of_lt_of_le hb HB.out.size)
  have HBB : Hid (∀ W, Below (fw w).heap.size (fw w) W → Below w.heap.size w W) := fun W h => HB.out.trans (h.mono (by simp))
  obtain ⟨n, hn⟩ : ∃ n, l.length = n := ⟨_, rfl⟩
  have HN := Lib.hid hn
  have KG : Hid (∀ (j : Nat) (W : World), j ≤ n → Below (fw w).heap.size (fw w) W → Calls Tryd.prog 6 #[.slice (some ⟨b, o, none⟩) n c, .int .i64 j] W fun e w' => ∃ (j' : Nat) (err : Int), e = .returned (.tuple #[.int .i64 j', .int .i64 err]) ∧ Gap l j j' err ∧ Below W.heap.size W w') := fun j W hj hW => by
    have := passGap_any b o c j l W (HL1.out.below hW Hb1.out) (Nat.lt_of_lt_of_le Hb1.out hW.size) (by omega) hs hc
    rwa [hn] at this
  have KN : Hid (∀ (j : Nat) (W : World), j < n → Below (fw w).heap.size (fw w) W → Calls Tryd.prog 7 #[.slice (some ⟨b, o, none⟩) n c, .int .i64 j] W fun e w' => e = .returned (oneV j (one (l.drop j))) ∧ Below W.heap.size W w') := fun j W hj hW => by
    have := next_any b o c j l W (HL1.out.below hW Hb1.out) (Nat.lt_of_lt_of_le Hb1.out hW.size) (by omega) hs hc (HV1.out.below hW (Nat.le_refl _))
    rwa [hn] at this
  rw [hn] at hs hc ⊢
  obtain ⟨R, hR⟩ : ∃ R, ans l 0 [] = R := ⟨_, rfl⟩
  rw [hR]
  have HR := Lib.hid hR
  clear hl hb hv hn hR
  go_enter Tryd.func4, Tryd.ntmps4
  go_wp2
  go_loopg [4, 5] n (fun gk s4 s5 wx => ∃ (j : Nat) (a : Option Addr) (cp : Nat) (acc : List Tok), j ≤ n ∧ gk = n - j ∧ s5 = .int .i64 j ∧ s4 = .slice a acc.length cp ∧ Toks wx (fw w).heap.size s4 acc ∧ acc.length ≤ 16384 ∧ R = ans (l.drop j) j acc ∧ Below (fw w).heap.size (fw w) wx)
  case atStart => exact ⟨0, none, 0, [], Nat.zero_le _, rfl, rfl, rfl, World.ownsRow_nil _ _ _ _, by simp, HR.out.symm, Below.refl _ _⟩
  case round =>
    obtain ⟨j, a, cp, acc, hjn, rfl, rfl, rfl, ho, hal, hq, hbw⟩ := hrel
    have HQ := Lib.hid hq
    have HW := Lib.hid hbw
    have HO := Lib.hid ho
    clear hq hbw ho HR
    have KJ := Lib.hid (KG.out j wr hjn HW.out)
    go_wp2_with fail
    refine KJ.out.mono ?_
    rintro e w2 ⟨j', err, rfl, hg, b2⟩
    have HW2 := Lib.hid (HW.out.trans (b2.mono HW.out.size))
    have HO2 := Lib.hid (owns_held HO.out b2)
    have HG := Lib.hid hg
    have hjj := hg.1
    clear b2 HO HW KJ
    obtain ⟨f0, f1⟩ := (F2.below HW2.out).c
    have fz : ∀ o, w2.frozen? ⟨w.heap.size, o, none⟩ = false := fun o => (F2.below HW2.out).f
    rcases hg.2.1 with ⟨rfl, hj2, hj3⟩ | ⟨rfl, hj2, hj3⟩
    · rw [HN.out] at hj2 hj3
      by_cases hjn2 : j' = n
      · subst hjn2
        have HRR : Hid (R = .inr acc) := by
          show R = .inr acc
          rw [HQ.out, HG.out.2.2 acc, List.drop_eq_nil_of_le (Nat.le_of_eq HN.out)]; rfl
        clear hg hj3
        go_wp2_with fail
        refine bodyPost_ret (v := .tuple #[.slice a acc.length cp, .agg #[.int .i64 0, .int .i64 0]]) (by simp [results, Tryd.results4, go_sem, World.cell?_setCell_same, World.cell?_setCell_other, f0, f1]) rfl ⟨((HBB.out _ HW2.out).setCell (Nat.le_refl _) _).setCell (Nat.le_refl _) _, ?_⟩
        rw [HRR.out]
        exact ⟨_, rfl, own_mono (ownsRow_setCell_below (ownsRow_setCell_below (a := ⟨w.heap.size, 0, none⟩) HO2.out (by simp) _) (a := ⟨w.heap.size, 1, none⟩) (by simp) _) (by simp)⟩
      · have hj4 : j' < n := by omega
        have HSK : Hid (skip (l.drop j') = some 0) := hj3.resolve_left hjn2
        clear hg hj3
        have hne : ((j' : Int) == n) = false := by simp; omega
        have KK := Lib.hid (KN.out j' w2 hj4 HW2.out)
        cases hO : one (l.drop j') with
        | inl er =>
          rw [hO] at KK
          simp only [oneV, tokV] at KK
          have her := one_bad hO
          have hdn : l.drop j' ≠ [] := by intro h; rw [h] at hO; cases hO; simp at her; have := congrArg List.length h; rw [List.length_drop, HN.out] at this; simp at this; omega
          have HA : Hid (R = .inl (j', (if acc.length = 16384 ∧ er ≠ 61 then 66 else er))) := by
            show R = _
            rw [HQ.out, HG.out.2.2 acc, ans_bad hdn HSK.out hO]
          go_wp2_with fail
          refine KK.out.mono ?_
          rintro e w3 ⟨rfl, b3⟩
          have HW3 := Lib.hid (HW2.out.trans (b3.mono HW2.out.size))
          have HO3 := Lib.hid (owns_held HO2.out b3)
          have g0 : ∀ ob, (w3.alloc ob).cell? ⟨w.heap.size, 0, none⟩ = some (.int .i64 0) := fun ob => (F2.below (HW3.out.alloc HW3.out.size ob)).c.1
          have g1 : ∀ ob, (w3.alloc ob).cell? ⟨w.heap.size, 1, none⟩ = some (.int .i64 0) := fun ob => (F2.below (HW3.out.alloc HW3.out.size ob)).c.2
          have gz : ∀ ob o, (w3.alloc ob).frozen? ⟨w.heap.size, o, none⟩ = false := fun ob o => (F2.below (HW3.out.alloc HW3.out.size ob)).f
          clear f0 f1 fz b3 KK
          by_cases hfull : acc.length = 16384
          · have q1 : ((acc.length : Int) == 16384) = true := by simp; omega
            by_cases h61 : er = 61
            · have HRR : Hid (R = .inl (j', 61)) := by show R = _; rw [HA.out, if_neg (by simp [h61]), h61]
              have q2 : ((er : Int) == 61) = true := by simp [h61]
              subst h61
              clear her hO
              go_wp2_with fail
              refine bodyPost_ret (v := .tuple #[.slice none 0 0, .agg #[.int .i64 j', .int .i64 61]]) (by simp [results, Tryd.results4, go_sem, World.cell?_setCell_same, World.cell?_setCell_other, g0, g1]) rfl ⟨((HBB.out _ (HW3.out.alloc HW3.out.size _)).setCell (Nat.le_refl _) _).setCell (Nat.le_refl _) _, ?_⟩
              rw [HRR.out]; try rfl
            · have HRR : Hid (R = .inl (j', 66)) := by show R = _; rw [HA.out, if_pos ⟨hfull, h61⟩]
              have q2 : ((er : Int) == 61) = false := by simp; omega
              have q3 : ((er : Int) != 61) = true := by simp; omega
              clear her hO h61
              go_wp2_with fail
              refine bodyPost_ret (v := .tuple #[.slice none 0 0, .agg #[.int .i64 j', .int .i64 66]]) (by simp [results, Tryd.results4, go_sem, World.cell?_setCell_same, World.cell?_setCell_other, g0, g1]) rfl ⟨((HBB.out _ (HW3.out.alloc HW3.out.size _)).setCell (Nat.le_refl _) _).setCell (Nat.le_refl _) _, ?_⟩
              rw [HRR.out]; try rfl
          · have q1 : ((acc.length : Int) == 16384) = false := by simp; omega
            have HRR : Hid (R = .inl (j', er)) := by show R = _; rw [HA.out, if_neg (fun h => hfull h.1)]
            have q4 : ((er : Int) == 0) = false := by simp; omega
            have q5 : ((er : Int) != 0) = true := by simp; omega
            clear her hO hfull
            go_wp2_with fail
            refine bodyPost_ret (v := .tuple #[.slice none 0 0, .agg #[.int .i64 j', .int .i64 er]]) (by simp [results, Tryd.results4, go_sem, World.cell?_setCell_same, World.cell?_setCell_other, g0, g1]) rfl ⟨((HBB.out _ (HW3.out.alloc HW3.out.size _)).setCell (Nat.le_refl _) _).setCell (Nat.le_refl _) _, ?_⟩
            rw [HRR.out]; try rfl
        | inr qq4 =>
          obtain ⟨k, m, v, s⟩ := qq4
          rw [hO] at KK
          simp only [oneV, tokV] at KK
          have hm := one_len _ _ _ _ _ hO
          have hml : m ≤ n - j' := by have := hm.2; rw [List.length_drop, HN.out] at this; exact this
          have HA : Hid (R = if acc.length = 16384 then .inl (j', 66) else ans (l.drop (j' + m)) (j' + m) (acc ++ [⟨k, j', j' + m, v, s⟩])) := by
            show R = _
            rw [HQ.out, HG.out.2.2 acc, ans_tok HSK.out hO, List.drop_drop]
          go_wp2_with fail
          refine KK.out.mono ?_
          rintro e w3 ⟨rfl, b3⟩
          have HW3 := Lib.hid (HW2.out.trans (b3.mono HW2.out.size))
          have HO3 := Lib.hid (owns_held HO2.out b3)
          have g0 : ∀ ob, (w3.alloc ob).cell? ⟨w.heap.size, 0, none⟩ = some (.int .i64 0) := fun ob => (F2.below (HW3.out.alloc HW3.out.size ob)).c.1
          have g1 : ∀ ob, (w3.alloc ob).cell? ⟨w.heap.size, 1, none⟩ = some (.int .i64 0) := fun ob => (F2.below (HW3.out.alloc HW3.out.size ob)).c.2
          have gz : ∀ ob o, (w3.alloc ob).frozen? ⟨w.heap.size, o, none⟩ = false := fun ob o => (F2.below (HW3.out.alloc HW3.out.size ob)).f
          clear f0 f1 fz b3 KK
          by_cases hfull : acc.length = 16384
          · have q1 : ((acc.length : Int) == 16384) = true := by simp; omega
            have HRR : Hid (R = .inl (j', 66)) := by show R = _; rw [HA.out, if_pos hfull]
            clear hO
            go_wp2_with fail
            refine bodyPost_ret (v := .tuple #[.slice none 0 0, .agg #[.int .i64 j', .int .i64 66]]) (by simp [results, Tryd.results4, go_sem, World.cell?_setCell_same, World.cell?_setCell_other, g0, g1]) rfl ⟨((HBB.out _ (HW3.out.alloc HW3.out.size _)).setCell (Nat.le_refl _) _).setCell (Nat.le_refl _) _, ?_⟩
            rw [HRR.out]; try rfl
          · have q1 : ((acc.length : Int) == 16384) = false := by simp; omega
            have HRR : Hid (R = ans (l.drop (j' + m)) (j' + m) (acc ++ [⟨k, j', j' + m, v, s⟩])) := by show R = _; rw [HA.out, if_neg hfull]
            clear hO
            have hz3 := HW3.out.size
            go_wp2_with (first
              | (at_builtin; refine wpList_append_own_at _ rfl _ _ 23 rfl (fw w).heap.size 32 i0 (.agg #[.int .i64 0, .int .i64 0, .int .i64 0, .int .u64 0, .string ⟨#[]⟩]) 5 48 Tryd.underlying23 hi0 hz0 hz1 hz2 rfl (by decide) (.slice a acc.length cp) _ _ rfl ((HO3.out.alloc _).alloc _) ⟨w3.heap.size + 1, 0, none⟩ 1 1 [.int .i64 k, .int .i64 j', .int .i64 (j' + m), .int .u64 v, .string (bs s)] rfl rfl (cells5 w3 _ _ _ _ _ _ _) (by simp [Value.oneCell']) (by unfold maxLen; omega) (by omega) (by simp at hz3 ⊢; omega) ?_; intro v4 w4 ho4 hg4 hn4 ha4; obtain ⟨a4, d4, rfl⟩ := own_slice ho4; have ct := cell_kept w3 hg4 HO3.out))
            have hm1 := hm.1
            go_roundg (n - (j' + m))
            case measure => omega
            case rel =>
              refine ⟨j' + m, a4, d4, acc ++ [⟨k, j', j' + m, v, s⟩], by omega, rfl, by first | rfl | simp, by simp, ?_, by simp; omega, HRR.out, below_grown ((HW3.out.alloc hz3 _).alloc (Nat.le_trans hz3 (by simp)) _) hg4 ((HO3.out.alloc _).alloc _) (Nat.le_refl _)⟩
              unfold Toks
              rw [List.length_append, List.flatMap_append]
              exact ho4
    · have HRR : Hid (R = .inl (j', 62)) := by
        show R = .inl (j', 62)
        rw [HQ.out, HG.out.2.2 acc, ans_gap hj3]
      clear hg hj3
      go_wp2_with fail
      refine bodyPost_ret (v := .tuple #[.slice none 0 0, .agg #[.int .i64 j', .int .i64 62]]) (by simp [results, Tryd.results4, go_sem, World.cell?_setCell_same, World.cell?_setCell_other, f0, f1]) rfl ⟨((HBB.out _ HW2.out).setCell (Nat.le_refl _) _).setCell (Nat.le_refl _) _, ?_⟩
      rw [HRR.out]; try rfl
end Go.Proofs.YteohpiamfpnofabDoor
