/- The law GuardRuns over acts in memory; the conditions: the acts' values lie in memory, their bits within 64. -/
import Derived.Test.YthamafijjflfbaaGreatNzi
import Derived.Test.YthamafijjflfbaaGreatMcc
namespace Go.Proofs.YthamafijjflfbaaGreat
open Go.RowKit

namespace Dt
set_option maxRecDepth 100000 in
set_option maxHeartbeats 1000000 in
theorem refParts (n : Nat) (t : Tr n) (v0 v1 v2 v3 v4 : Value) (w : World) (h : Rep w n [v0, v1, v2, v3, v4] t) :
    Calls Tryz.prog 14 #[.agg #[v0, v1, v2, v3, v4]] w fun e w' => e = .returned (.tuple #[.int .i64 (cnt 16 n t 1 4096).1, .int .i64 (cnt 16 n t 1 4096).2]) ∧ Below w.heap.size w w' := by
  obtain ⟨u0, u1, u2, u3, a4, n4, c4, rfl, rfl, rfl, rfl, rfl⟩ := rep_shape h
  have b0 : Below w.heap.size w (w.alloc (.cells #[.int .i64 u0, .int .i64 u1, .int .u64 u2, .string u3, .slice a4 n4 c4] 25)) := (Below.refl _ w).alloc (Nat.le_refl _) _
  have HC := Lib.hid (count_any 16 n t _ _ _ _ _ 1 4096 _ (Rep.below b0 n _ _ h) (by decide) (by decide) (by decide) (by decide))
  generalize cnt 16 n t 1 4096 = C at HC ⊢
  clear h
  go_enter Tryz.func14, Tryz.ntmps14
  go_wp2_with fail
  refine HC.out.mono ?_
  rintro e w1 ⟨rfl, b1⟩
  go_wp2_with fail
  go_ret2
  exact ⟨rfl, b0.trans (b1.mono b0.size)⟩
theorem valid_cnt {n : Nat} {t : Tr n} (h : vB n t = true) : 1 ≤ (cnt 16 n t 1 4096).1 ∧ (cnt 16 n t 1 4096).1 ≤ 4096 := by
  have S := say 16 n t 1 4096 (by decide) (by decide) (by decide)
  obtain ⟨-, h2, -⟩ := S.down h
  obtain ⟨-, h5, h4, -, -⟩ := S.fit h2
  exact ⟨h5, h4⟩
end Dt

/-- An act's two values lie in memory. -/
def Aw (w : World) (A : Av) (n : Nat) (tA tB : Dt.Tr n) : Prop := Dt.Rep w n [.int .i64 A.ak, .int .i64 A.ai, .int .u64 A.au, .string A.az, .slice A.aa A.an A.ac] tA ∧ Dt.Rep w n [.int .i64 A.bk, .int .i64 A.bi, .int .u64 A.bu, .string A.bs, .slice A.ba A.bn A.bc] tB ∧ Dt.r64 n tA ∧ Dt.r64 n tB

/-- All that an act comes to. -/
def Aq (w : World) (A : Av) (r : Rv) (pan : Bool) (T : TypeId) (z : Value) : Prop := (r.er = 110 ↔ pan = true) ∧ (pan = true → ∃ pk pn, r = ⟨110, pk, pn, false, 1, lfT 0 0⟩ ∧ ∀ wx, Calls Tryz.prog 37 #[.iface T z] wx fun e w' => e = .returned (.agg #[.int .i64 pk, .int .i64 pn]) ∧ Below wx.heap.size wx w') ∧
  (∀ wx, Below w.heap.size w wx → Calls Tryz.prog 10 #[.agg A.cs] wx (GP r.er r.pk r.pn r.has r.m r.tr wx)) ∧ (∀ wx, Below w.heap.size w wx → Calls Tryz.prog 12 #[.agg A.cs] wx (GP r.er r.pk r.pn r.has r.m r.tr wx)) ∧
  ∀ wx, Below w.heap.size w wx → w.heap.size + 4 ≤ wx.heap.size → Calls Tryz.prog 21 #[.agg A.cs] wx (Dn pan T z r wx)
theorem act_all (w : World) (A : Av) (n : Nat) (tA tB : Dt.Tr n) (h : Aw w A n tA tB) (vA : Dt.vB n tA = true) (vB : Dt.vB n tB = true) : ∃ r pan T z, Aq w A r pan T z := by
  obtain ⟨hA, hB, r6A, r6B⟩ := h
  obtain ⟨rA, pA⟩ := valid_pts' vA
  obtain ⟨rB, pB⟩ := valid_pts' vB
  match n, tA, tB, hA, hB, r6A, r6B, vA, vB, rA, pA, rB, pB with
  | m + 1, tA, tB, hA, hB, r6A, r6B, vA, vB, rA, pA, rB, pB =>
    have VA : Vl w m tA A.ak A.ai A.au A.az A.aa A.an A.ac := ⟨rA, pA, r6A, hA⟩
    have VB : Vl w m tB A.bk A.bi A.bu A.bs A.ba A.bn A.bc := ⟨rB, pB, r6B, hB⟩
    obtain ⟨r, pan, T, z, q1, q2, q3, q4, q5⟩ := two3 A.op A.num m m tA tB vA vB (by rw [VA.eq.1]; exact VA.kind) (one_kid rA)
    refine ⟨r, pan, T, z, q1, q2, fun wx hx => q3 w _ _ _ _ _ _ _ _ _ _ _ _ _ _ VA VB wx hx, fun wx hx => q4 w _ _ _ _ _ _ _ _ _ _ _ _ _ _ VA VB wx hx, fun wx hx hz => ?_⟩
    obtain ⟨wc, c1, c2, c3⟩ := cut4 w wx hx hz
    exact q5 w _ _ _ _ _ _ _ _ _ _ _ _ _ _ VA VB wc c1 wx c2 c3
theorem kp_ex (pan : Nat → Bool) : ∀ ln : Nat, ∃ k, Kp ln pan k ∧ k ≤ ln
  | 0 => ⟨0, .inl ⟨rfl, fun _ h => absurd h (Nat.not_lt_zero _)⟩, Nat.le_refl _⟩
  | ln + 1 => by
    obtain ⟨k, h, hk⟩ := kp_ex pan ln
    rcases h with ⟨rfl, h⟩ | ⟨j, h1, h2, h3, h4⟩
    · cases hp : pan k with
      | true => exact ⟨k + 1, .inr ⟨k, Nat.lt_succ_self _, rfl, hp, h⟩, Nat.le_refl _⟩
      | false =>
        refine ⟨k + 1, .inl ⟨rfl, fun q hq => ?_⟩, Nat.le_refl _⟩
        by_cases e : q = k
        · subst e; exact hp
        · exact h q (by omega)
    · exact ⟨k, .inr ⟨j, by omega, h2, h3, h4⟩, by omega⟩

theorem law_runs (lg lo : Nat) (la : Option Addr) (ln lc : Nat) (w : World) (hlm : ln ≤ maxLen) (hla : ln = 0 ∨ la = some ⟨lg, lo, none⟩) (hlg : 0 < ln → lg < w.heap.size) (hlz : lg ≤ w.heap.size)
    (hR : ∀ j, j < ln → ∃ (A : Av) (n : Nat) (tA tB : Dt.Tr n), Ax w lg (lo + j * 12) A ∧ Aw w A n tA tB) :
    Calls Tryz.prog 4 #[.slice la ln lc] w fun e w' => e = .returned (.bool true) ∧ Below w.heap.size w w' := by
  have h1 : ∀ j, ∃ y : Av × ((n : Nat) × (Dt.Tr n × Dt.Tr n)), j < ln → Ax w lg (lo + j * 12) y.1 ∧ Aw w y.1 y.2.1 y.2.2.1 y.2.2.2 := fun j => by
    by_cases hj : j < ln
    · obtain ⟨A, n, tA, tB, a, b⟩ := hR j hj
      exact ⟨(A, ⟨n, tA, tB⟩), fun _ => ⟨a, b⟩⟩
    · exact ⟨(⟨0, 0, 0, 0, ⟨#[]⟩, none, 0, 0, 0, 0, 0, ⟨#[]⟩, none, 0, 0, 0⟩, ⟨1, lfT 0 0, lfT 0 0⟩), fun h => absurd h hj⟩
  obtain ⟨f, hf⟩ : ∃ f : Nat → Av × ((n : Nat) × (Dt.Tr n × Dt.Tr n)), ∀ j, j < ln → Ax w lg (lo + j * 12) (f j).1 ∧ Aw w (f j).1 (f j).2.1 (f j).2.2.1 (f j).2.2.2 := ⟨fun j => Classical.choose (h1 j), fun j => Classical.choose_spec (h1 j)⟩
  refine gr_law lg lo la ln lc (fun j => (f j).1) (fun j => Dt.vB (f j).2.1 (f j).2.2.1 && Dt.vB (f j).2.1 (f j).2.2.2) w hlm hla hlg (fun j hj => (hf j hj).1) (fun j hj wx hx => ?_) (fun j hj hv wx hx => ?_) fun hv hl => ?_
  · obtain ⟨-, hA, hB, -, -⟩ := hf j hj
    exact act_fit (f j).1.op (f j).1.ak (f j).1.ai (f j).1.au (f j).1.az (f j).1.aa (f j).1.an (f j).1.ac (f j).1.bk (f j).1.bi (f j).1.bu (f j).1.bs (f j).1.ba (f j).1.bn (f j).1.bc (f j).1.num _ _ wx (fun wy hy => Dt.refValid _ _ _ _ _ _ _ wy (Dt.Rep.below (hx.trans (hy.mono hx.size)) _ _ _ hA)) (fun wy hy => Dt.refValid _ _ _ _ _ _ _ wy (Dt.Rep.below (hx.trans (hy.mono hx.size)) _ _ _ hB))
  · obtain ⟨-, hA, -, -, -⟩ := hf j hj
    simp only [Bool.and_eq_true] at hv
    have hc := Dt.valid_cnt hv.1
    exact (Dt.refParts _ _ _ _ _ _ _ wx (Dt.Rep.below hx _ _ _ hA)).mono fun e w' ⟨he, hb⟩ => ⟨_, _, he, hc.1, hc.2, hb⟩
  · have h2 : ∀ j, ∃ y : Rv × (Bool × (TypeId × Value)), j < ln → Aq w (f j).1 y.1 y.2.1 y.2.2.1 y.2.2.2 := fun j => by
      by_cases hj : j < ln
      · have v := hv j hj
        simp only [Bool.and_eq_true] at v
        obtain ⟨r, pan, T, z, q⟩ := act_all w (f j).1 _ _ _ (hf j hj).2 v.1 v.2
        exact ⟨(r, pan, T, z), fun _ => q⟩
      · exact ⟨(⟨0, 0, 0, false, 1, lfT 0 0⟩, false, 0, .nilIface), fun h => absurd h hj⟩
    obtain ⟨g, hg⟩ : ∃ g : Nat → Rv × (Bool × (TypeId × Value)), ∀ j, j < ln → Aq w (f j).1 (g j).1 (g j).2.1 (g j).2.2.1 (g j).2.2.2 := ⟨fun j => Classical.choose (h2 j), fun j => Classical.choose_spec (h2 j)⟩
    obtain ⟨k, hk, hkl⟩ := kp_ex (fun j => (g j).2.1) ln
    refine ⟨fun j => (g j).1, k, hkl, fun wx hx => ?_, fun wx hx => ?_, fun j hj wx hx => (hg j hj).2.2.1 wx hx⟩
    · have ax : ∀ j, j < ln → Ax wx lg (lo + j * 12) (f j).1 := fun j hj => (hf j hj).1.below hx (hlg (by omega))
      have dn : ∀ j, j < ln → ∀ wy, Below wx.heap.size wx wy → wx.heap.size + 4 ≤ wy.heap.size → Calls Tryz.prog 21 #[.agg (f j).1.cs] wy (Dn (g j).2.1 (g j).2.2.1 (g j).2.2.2 (g j).1 wy) := fun j hj wy hy hz => (hg j hj).2.2.2.2 wy (hx.trans (hy.mono hx.size)) (by have := hx.size; omega)
      rcases hk with ⟨rfl, np⟩ | ⟨j, hj, rfl, hp, np⟩
      · exact Run_all lg lo la k lc (fun j => (f j).1) (fun j => (g j).1) (fun j => (g j).2.1) (fun j => (g j).2.2.1) (fun j => (g j).2.2.2) wx hl hla (fun h => Nat.lt_of_lt_of_le (hlg h) hx.size) (Nat.le_trans hlz hx.size) ax dn np
      · obtain ⟨pk, pn, hr, ht⟩ := (hg j hj).2.1 hp
        exact Run_pan lg lo la ln lc (fun j => (f j).1) (fun j => (g j).1) (fun j => (g j).2.1) (fun j => (g j).2.2.1) (fun j => (g j).2.2.2) wx hl hla (Nat.lt_of_lt_of_le (hlg (by omega)) hx.size) ax dn j hj hp np pk pn hr ht
    · exact rRun_any lg lo la ln lc (fun j => (f j).1) (fun j => (g j).1) (fun j => (g j).2.1) k hk wx hl hla (fun h => Nat.lt_of_lt_of_le (hlg h) hx.size) (fun j hj => (hf j hj).1.below hx (hlg (by omega))) (fun j hj wy hy => (hg j hj).2.2.2.1 wy (hx.trans (hy.mono hx.size))) fun j hj => (hg j hj).1
end Go.Proofs.YthamafijjflfbaaGreat
