/- The law WantAsserts over a value's tree and any number, valid or not: true, in new memory alone; the conditions: the tree in memory, its bits within 64. -/
import Derived.Test.YtokiaolgdkikiaaGreatLawAss
import Derived.Test.YtokiaolgdkikiaaGreatLawHold
namespace Go.Proofs.YtokiaolgdkikiaaGreat
open Go.RowKit
theorem valid_pts {n : Nat} {t : Dt.Tr n} (h : Dt.vB n t = true) : Dt.rgt n t = true ∧ (Dt.pts n t).1 ≤ 4096 := by
  have S := Dt.say 16 n t 1 4096 (by decide) (by decide) (by decide)
  obtain ⟨h1, h2, -⟩ := S.down h
  obtain ⟨h3, -, h4, -, -⟩ := S.fit h2
  refine ⟨h1, ?_⟩
  rw [h3]; exact h4
theorem zero_same (w : World) : Calls Tryz.prog 33 #[.agg #[.int .i64 0, .int .i64 0, .int .u64 0, .string ⟨#[]⟩, .slice none 0 0], .agg #[.int .i64 0, .int .i64 0, .int .u64 0, .string ⟨#[]⟩, .slice none 0 0]] w fun e w' => e = .returned (.bool true) ∧ Below w.heap.size w w' := by
  have h : Dt.Rep w 1 [.int .i64 0, .int .i64 0, .int .u64 0, .string ⟨#[]⟩, .slice none 0 0] ((0, 0, 0, ⟨#[]⟩, []) : Int × Int × Int × ByteArray × List (Dt.Tr 0)) := ⟨none, 0, rfl, Nat.zero_le _, Nat.zero_le _, Nat.zero_le _, .inl rfl⟩
  exact Dt.sameD 1 _ _ _ _ _ _ _ _ _ _ _ w h h

theorem law_asserts (m : Nat) (t : Dt.Tr m) (v0 v1 v2 v3 v4 : Value) (kind : Int) (w : World) (h : Dt.Rep w m [v0, v1, v2, v3, v4] t) (h6 : Dt.r64 m t) :
    Calls Tryz.prog 8 #[.agg #[v0, v1, v2, v3, v4], .int .i64 kind] w fun e w' => e = .returned (.bool true) ∧ Below w.heap.size w w' := by
  obtain ⟨k, i, b, s, ad, len, cap, rfl, rfl, rfl, rfl, rfl⟩ := Dt.rep_shape h
  have HV : ∀ wx, Od w k i b s ad len cap wx → Calls Tryz.prog 12 #[.agg #[.int .i64 k, .int .i64 i, .int .u64 b, .string s, .slice ad len cap]] wx fun e w' => e = .returned (.bool (Dt.vB m t)) ∧ Od w k i b s ad len cap w' := fun wx hx => (Dt.refValid m t _ _ _ _ _ wx (Dt.Rep.below hx.below m _ _ h)).mono fun e w' ⟨a, c⟩ => ⟨a, hx.step c⟩
  cases hv : Dt.vB m t with
  | false =>
    rw [hv] at HV
    exact law_ass_bad k i b s ad len cap kind w HV
  | true =>
    rw [hv] at HV
    obtain ⟨hr, hp⟩ := valid_pts hv
    have hk := valid_kind h hv
    match m, t, h, h6, hr, hp with
    | m + 1, t, h, h6, hr, hp =>
      have hO : ∀ wx, Below w.heap.size w wx → Calls Tryz.prog 48 #[.agg #[.int .i64 k, .int .i64 i, .int .u64 b, .string s, .slice ad len cap]] wx fun e w' => ∃ u, e = .returned u ∧ Kd k u ∧ Hid (Dt.VR (fun g => wx.heap.size ≤ g ∧ g < w'.heap.size) w' (m + 1) u t) ∧ Below wx.heap.size wx w' := fun wx hb => of_val w m t k i b s ad len cap wx hr hp h hb
      have hO' : ∀ wx, Below w.heap.size w wx → Calls Tryz.prog 48 #[.agg #[.int .i64 k, .int .i64 i, .int .u64 b, .string s, .slice ad len cap]] wx fun e w' => ∃ u, e = .returned u ∧ Kd k u ∧ Below wx.heap.size wx w' := fun wx hb => (hO wx hb).mono fun e w' ⟨u, a, c, _, d⟩ => ⟨u, a, c, d⟩
      cases hq : tkd kind k with
      | false =>
        refine law_ass_no k i b s ad len cap kind w HV (fun wx hx => to_no k i b s ad len cap kind wx hq fun wy hy => hO' wy (hx.below.trans (hy.mono hx.below.size))) (fun wx hx => ?_) (fun wx => ?_) zero_same
        · obtain ⟨F, hm, hM⟩ := type_musts kind
          exact must_fail k i b s ad len cap kind (qty kind) F wx rfl hm (fun u w hu => (hM k u w hu).2 hq) fun wy hy => hO' wy (hx.below.trans (hy.mono hx.below.size))
        · have := refTo_any k i b s ad len cap kind wx hk
          rw [hq] at this
          exact this
      | true =>
        refine law_ass_yes (m + 1) t k i b s ad len cap kind w HV (fun wx hx => ?_) (fun wx hx => ?_) (fun wx => ?_) (fun x0 x1 x2 x3 x4 x5 x6 wx hr hx => ?_)
        · refine (to_yes (m + 1) t hr h6 hp k i b s ad len cap kind wx hq fun wy hy => hO wy (hx.below.trans (hy.mono hx.below.size))).mono fun e w' ⟨v0, v1, v2, v3, v4, he, rf, hb⟩ => ?_
          obtain ⟨u0, u1, u2, u3, a4, n4, c4', rfl, rfl, rfl, rfl, rfl⟩ := Dt.rep_shape (Dt.Rf.rep _ _ _ rf)
          exact ⟨u0, u1, u2, u3, a4, n4, c4', he, Dt.Rf.rep _ _ _ rf, hb⟩
        · refine (must_yes (m + 1) t hr h6 hp k i b s ad len cap kind wx hq fun wy hy => hO wy (hx.below.trans (hy.mono hx.below.size))).mono fun e w' ⟨v0, v1, v2, v3, v4, he, rf, hb⟩ => ?_
          obtain ⟨u0, u1, u2, u3, a4, n4, c4', rfl, rfl, rfl, rfl, rfl⟩ := Dt.rep_shape (Dt.Rf.rep _ _ _ rf)
          exact ⟨u0, u1, u2, u3, a4, n4, c4', he, Dt.Rf.rep _ _ _ rf, hb⟩
        · have := refTo_any k i b s ad len cap kind wx hk
          rw [hq] at this
          exact this
        · exact Dt.sameD (m + 1) t _ _ _ _ _ _ _ _ _ _ wx hr.out (Dt.Rep.below hx.below (m + 1) _ _ h)
end Go.Proofs.YtokiaolgdkikiaaGreat
