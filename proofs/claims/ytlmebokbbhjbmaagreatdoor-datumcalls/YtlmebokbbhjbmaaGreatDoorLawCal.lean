/- The law DatumCalls of two trees; the conditions: the trees lie in memory, their bits and numbers are within 64 bits, the tables lie as the program's text lays them. -/
import Derived.Test.YtlmebokbbhjbmaaGreatDoorCAdC
import Derived.Test.YtlmebokbbhjbmaaGreatDoorCLbA
import Derived.Test.YtlmebokbbhjbmaaGreatDoorCNil
import Derived.Test.YtlmebokbbhjbmaaGreatDoorAwAwake
namespace Go.Proofs.YtlmebokbbhjbmaaGreatDoor.Dt
open Go.RowKit
theorem add_ks (k i u k' j v : Int) : (addT k i u k' j v).ks = [] := by
  unfold addT
  split
  · rfl
  · split <;> rfl
theorem valid_facts {n : Nat} {t : Tr n} (h : vB n t = true) : rgt n t = true ∧ (pts n t).1 ≤ 4096 := by
  have S := say 16 n t 1 4096 (by decide) (by decide) (by decide)
  obtain ⟨h1, h2, -⟩ := S.down h
  obtain ⟨h3, -, h4, -, -⟩ := S.fit h2
  refine ⟨h1, ?_⟩
  rw [h3]; exact h4
set_option maxRecDepth 100000 in
set_option maxHeartbeats 4000000 in
theorem law_calls (na nb : Nat) (ta : Tr na) (tb : Tr nb) (ka ia ua kb ib ub : Int) (sa sb : ByteArray) (pa pb : Option Addr) (la ca lb cb : Nat) (w : World)
    (ha : Rep w na [.int .i64 ka, .int .i64 ia, .int .u64 ua, .string sa, .slice pa la ca] ta) (hb : Rep w nb [.int .i64 kb, .int .i64 ib, .int .u64 ub, .string sb, .slice pb lb cb] tb) (h6 : r64 na ta) (hi : I64 ia) (hT : Aw.Tab w) (hP : Aw.Pow0 w) :
    Calls Tryz.prog 3 #[.agg #[.int .i64 ka, .int .i64 ia, .int .u64 ua, .string sa, .slice pa la ca], .agg #[.int .i64 kb, .int .i64 ib, .int .u64 ub, .string sb, .slice pb lb cb]] w fun e w' => e = .returned (.bool true) ∧ Below w.heap.size w w' := by
  have TS : Hid (T2 w (.int .i64 ka) (.int .i64 ia) (.int .u64 ua) (.string sa) (.slice pa la ca) (.int .i64 kb) (.int .i64 ib) (.int .u64 ub) (.string sb) (.slice pb lb cb) ((w.alloc (.cells #[.int .i64 ka, .int .i64 ia, .int .u64 ua, .string sa, .slice pa la ca] 25)).alloc (.cells #[.int .i64 kb, .int .i64 ib, .int .u64 ub, .string sb, .slice pb lb cb] 25))) := T2.start w _ _ _ _ _ _ _ _ _ _
  have HVa : Hid (∀ w', T2 w (.int .i64 ka) (.int .i64 ia) (.int .u64 ua) (.string sa) (.slice pa la ca) (.int .i64 kb) (.int .i64 ib) (.int .u64 ub) (.string sb) (.slice pb lb cb) w' → Calls Tryz.prog 4 #[.agg #[.int .i64 ka, .int .i64 ia, .int .u64 ua, .string sa, .slice pa la ca]] w' fun e w'' => e = .returned (.bool (vB na ta)) ∧ T2 w (.int .i64 ka) (.int .i64 ia) (.int .u64 ua) (.string sa) (.slice pa la ca) (.int .i64 kb) (.int .i64 ib) (.int .u64 ub) (.string sb) (.slice pb lb cb) w'') := fun w' h =>
    (refValid na ta _ _ _ _ _ w' (Rep.below h.below na _ _ ha)).mono fun e w'' ⟨he, h'⟩ => ⟨he, h.step h'⟩
  have HVb : Hid (∀ w', T2 w (.int .i64 ka) (.int .i64 ia) (.int .u64 ua) (.string sa) (.slice pa la ca) (.int .i64 kb) (.int .i64 ib) (.int .u64 ub) (.string sb) (.slice pb lb cb) w' → Calls Tryz.prog 4 #[.agg #[.int .i64 kb, .int .i64 ib, .int .u64 ub, .string sb, .slice pb lb cb]] w' fun e w'' => e = .returned (.bool (vB nb tb)) ∧ T2 w (.int .i64 ka) (.int .i64 ia) (.int .u64 ua) (.string sa) (.slice pa la ca) (.int .i64 kb) (.int .i64 ib) (.int .u64 ub) (.string sb) (.slice pb lb cb) w'') := fun w' h =>
    (refValid nb tb _ _ _ _ _ w' (Rep.below h.below nb _ _ hb)).mono fun e w'' ⟨he, h'⟩ => ⟨he, h.step h'⟩
  have HW : Hid (∀ w', T2 w (.int .i64 ka) (.int .i64 ia) (.int .u64 ua) (.string sa) (.slice pa la ca) (.int .i64 kb) (.int .i64 ib) (.int .u64 ub) (.string sb) (.slice pb lb cb) w' → Calls Tryz.prog 5 #[] w' fun e w'' => e = .returned (.bool true) ∧ Below w.heap.size w w'') := fun w' h =>
    (Aw.awake_any w' (hT.below h.below) ((Lib.tabBelow_of_tabIs hP).on h.below).here).mono fun e w'' ⟨he, h'⟩ => ⟨he, h.below.trans (h'.mono h.below.size)⟩
  have HC : Hid (∀ w', T2 w (.int .i64 ka) (.int .i64 ia) (.int .u64 ua) (.string sa) (.slice pa la ca) (.int .i64 kb) (.int .i64 ib) (.int .u64 ub) (.string sb) (.slice pb lb cb) w' → _) := fun w' h => T2.c h
  by_cases va : vB na ta = false
  · rw [va] at HVa
    clear ha hb HVb h6 hi hT hP va
    go_enter Tryz.func3, Tryz.ntmps3
    go_wp2_with fail
    refine (HVa.out _ TS.out).mono ?_
    rintro e w1 ⟨rfl, b1⟩
    go_wp2_with fail
    refine (HW.out _ b1).mono ?_
    rintro e w2 ⟨rfl, b2⟩
    go_wp2_with fail
    go_ret
    exact ⟨rfl, b2⟩
  have va' : vB na ta = true := by simpa using va
  rw [va'] at HVa
  by_cases vb : vB nb tb = false
  · rw [vb] at HVb
    clear ha hb h6 hi hT hP va va' vb
    go_enter Tryz.func3, Tryz.ntmps3
    go_wp2_with fail
    refine (HVa.out _ TS.out).mono ?_
    rintro e w1 ⟨rfl, b1⟩
    have k1 := HC.out _ b1
    go_wp2_with fail
    refine (HVb.out _ b1).mono ?_
    rintro e w2 ⟨rfl, b2⟩
    clear k1 b1
    go_wp2_with fail
    refine (HW.out _ b2).mono ?_
    rintro e w3 ⟨rfl, b3⟩
    go_wp2_with fail
    go_ret
    exact ⟨rfl, b3⟩
  have vb' : vB nb tb = true := by simpa using vb
  rw [vb'] at HVb
  obtain ⟨ra, qa⟩ := valid_facts va'
  obtain ⟨rb, qb⟩ := valid_facts vb'
  clear va va' vb vb' hT
  obtain _ | m := na
  · exact ta.elim
  obtain _ | n := nb
  · exact tb.elim
  obtain ⟨e0, e1, e2, e3, e4⟩ := rep_eq ha
  have HL : Hid (∀ w', T2 w (.int .i64 ka) (.int .i64 ia) (.int .u64 ua) (.string sa) (.slice pa la ca) (.int .i64 kb) (.int .i64 ib) (.int .u64 ub) (.string sb) (.slice pb lb cb) w' → Calls Tryz.prog 6 #[.agg #[.int .i64 ka, .int .i64 ia, .int .u64 ua, .string sa, .slice pa la ca]] w' fun e w'' => e = .returned (.tuple #[.int .i64 (lenP ka sa.size la).1, .int .i64 (lenP ka sa.size la).2]) ∧ T2 w (.int .i64 ka) (.int .i64 ia) (.int .u64 ua) (.string sa) (.slice pa la ca) (.int .i64 kb) (.int .i64 ib) (.int .u64 ub) (.string sb) (.slice pb lb cb) w'') := fun w' h =>
    (len_any w m ta ka ia ua sa pa la ca w' ra qa ha h.below).mono fun e w'' ⟨he, h'⟩ => ⟨by rw [he, e0, e3, e4], h.step h'⟩
  have HLR : Hid (∀ w', T2 w (.int .i64 ka) (.int .i64 ia) (.int .u64 ua) (.string sa) (.slice pa la ca) (.int .i64 kb) (.int .i64 ib) (.int .u64 ub) (.string sb) (.slice pb lb cb) w' → Calls Tryz.prog 7 #[.agg #[.int .i64 ka, .int .i64 ia, .int .u64 ua, .string sa, .slice pa la ca]] w' fun e w'' => e = .returned (.tuple #[.int .i64 (lenP ka sa.size la).1, .int .i64 (lenP ka sa.size la).2]) ∧ T2 w (.int .i64 ka) (.int .i64 ia) (.int .u64 ua) (.string sa) (.slice pa la ca) (.int .i64 kb) (.int .i64 ib) (.int .u64 ub) (.string sb) (.slice pb lb cb) w'') := fun w' h =>
    (refLen ka ia ua sa pa la ca w').mono fun e w'' ⟨he, h'⟩ => ⟨he, h.step h'⟩
  have HB : Hid (∀ w', T2 w (.int .i64 ka) (.int .i64 ia) (.int .u64 ua) (.string sa) (.slice pa la ca) (.int .i64 kb) (.int .i64 ib) (.int .u64 ub) (.string sb) (.slice pb lb cb) w' → Calls Tryz.prog 8 #[.agg #[.int .i64 ka, .int .i64 ia, .int .u64 ua, .string sa, .slice pa la ca]] w' fun e w'' => e = .returned (.tuple #[.string (labP ka ia sa).1, .int .i64 (labP ka ia sa).2]) ∧ T2 w (.int .i64 ka) (.int .i64 ia) (.int .u64 ua) (.string sa) (.slice pa la ca) (.int .i64 kb) (.int .i64 ib) (.int .u64 ub) (.string sb) (.slice pb lb cb) w'') := fun w' h =>
    (lab_any w m ta ka ia ua sa pa la ca w' ra qa ha h.below (by rw [← e1]; exact hi) hP).mono fun e w'' ⟨he, h'⟩ => ⟨by rw [he, e0, e1, e3], h.step h'⟩
  have HBR : Hid (∀ w', T2 w (.int .i64 ka) (.int .i64 ia) (.int .u64 ua) (.string sa) (.slice pa la ca) (.int .i64 kb) (.int .i64 ib) (.int .u64 ub) (.string sb) (.slice pb lb cb) w' → Calls Tryz.prog 9 #[.agg #[.int .i64 ka, .int .i64 ia, .int .u64 ua, .string sa, .slice pa la ca]] w' fun e w'' => e = .returned (.tuple #[.string (labP ka ia sa).1, .int .i64 (labP ka ia sa).2]) ∧ T2 w (.int .i64 ka) (.int .i64 ia) (.int .u64 ua) (.string sa) (.slice pa la ca) (.int .i64 kb) (.int .i64 ib) (.int .u64 ub) (.string sb) (.slice pb lb cb) w'') := fun w' h =>
    (refLab ka ia ua sa pa la ca w' hi (P10.below hP h.below)).mono fun e w'' ⟨he, h'⟩ => ⟨he, h.step h'⟩
  have HX : Hid (∀ w', T2 w (.int .i64 ka) (.int .i64 ia) (.int .u64 ua) (.string sa) (.slice pa la ca) (.int .i64 kb) (.int .i64 ib) (.int .u64 ub) (.string sb) (.slice pb lb cb) w' → Calls Tryz.prog 10 #[.agg #[.int .i64 ka, .int .i64 ia, .int .u64 ua, .string sa, .slice pa la ca]] w' fun e w'' => e = .returned (.tuple #[.string (worP ka ia sa).1, .int .i64 (worP ka ia sa).2]) ∧ T2 w (.int .i64 ka) (.int .i64 ia) (.int .u64 ua) (.string sa) (.slice pa la ca) (.int .i64 kb) (.int .i64 ib) (.int .u64 ub) (.string sb) (.slice pb lb cb) w'') := fun w' h =>
    (wor_any w m ta ka ia ua sa pa la ca w' ra qa ha h.below (by rw [← e1]; exact hi) hP).mono fun e w'' ⟨he, h'⟩ => ⟨by rw [he, e0, e1, e3], h.step h'⟩
  have HXR : Hid (∀ w', T2 w (.int .i64 ka) (.int .i64 ia) (.int .u64 ua) (.string sa) (.slice pa la ca) (.int .i64 kb) (.int .i64 ib) (.int .u64 ub) (.string sb) (.slice pb lb cb) w' → Calls Tryz.prog 11 #[.agg #[.int .i64 ka, .int .i64 ia, .int .u64 ua, .string sa, .slice pa la ca]] w' fun e w'' => e = .returned (.tuple #[.string (worP ka ia sa).1, .int .i64 (worP ka ia sa).2]) ∧ T2 w (.int .i64 ka) (.int .i64 ia) (.int .u64 ua) (.string sa) (.slice pa la ca) (.int .i64 kb) (.int .i64 ib) (.int .u64 ub) (.string sb) (.slice pb lb cb) w'') := fun w' h =>
    (refWor ka ia ua sa pa la ca w' hi (P10.below hP h.below)).mono fun e w'' ⟨he, h'⟩ => ⟨he, h.step h'⟩
  have HO : Hid (∀ w', T2 w (.int .i64 ka) (.int .i64 ia) (.int .u64 ua) (.string sa) (.slice pa la ca) (.int .i64 kb) (.int .i64 ib) (.int .u64 ub) (.string sb) (.slice pb lb cb) w' → Calls Tryz.prog 12 #[.agg #[.int .i64 ka, .int .i64 ia, .int .u64 ua, .string sa, .slice pa la ca]] w' fun e w'' => ∃ (y0 y1 y2 : Int) (y3 : ByteArray) (y4 : Option Addr) (y5 y6 : Nat), e = .returned (.tuple #[.agg #[.int .i64 y0, .int .i64 y1, .int .u64 y2, .string y3, .slice y4 y5 y6], .int .i64 (opnE ta.kd)]) ∧ Hid (IsO w'' m ta [.int .i64 y0, .int .i64 y1, .int .u64 y2, .string y3, .slice y4 y5 y6]) ∧ T2 w (.int .i64 ka) (.int .i64 ia) (.int .u64 ua) (.string sa) (.slice pa la ca) (.int .i64 kb) (.int .i64 ib) (.int .u64 ub) (.string sb) (.slice pb lb cb) w'') := fun w' h =>
    (opn_any w m ta ka ia ua sa pa la ca w' ra h6 qa ha h.below).mono fun e w'' ⟨y0, y1, y2, y3, y4, y5, y6, he, hi, h'⟩ => ⟨y0, y1, y2, y3, y4, y5, y6, he, hi, h.step h'⟩
  have HOR : Hid (∀ w', T2 w (.int .i64 ka) (.int .i64 ia) (.int .u64 ua) (.string sa) (.slice pa la ca) (.int .i64 kb) (.int .i64 ib) (.int .u64 ub) (.string sb) (.slice pb lb cb) w' → Calls Tryz.prog 13 #[.agg #[.int .i64 ka, .int .i64 ia, .int .u64 ua, .string sa, .slice pa la ca]] w' fun e w'' => ∃ (y0 y1 y2 : Int) (y3 : ByteArray) (y4 : Option Addr) (y5 y6 : Nat), e = .returned (.tuple #[.agg #[.int .i64 y0, .int .i64 y1, .int .u64 y2, .string y3, .slice y4 y5 y6], .int .i64 (opnE ta.kd)]) ∧ Hid (IsO w'' m ta [.int .i64 y0, .int .i64 y1, .int .u64 y2, .string y3, .slice y4 y5 y6]) ∧ Below w'.heap.size w' w'' ∧ T2 w (.int .i64 ka) (.int .i64 ia) (.int .u64 ua) (.string sa) (.slice pa la ca) (.int .i64 kb) (.int .i64 ib) (.int .u64 ub) (.string sb) (.slice pb lb cb) w'') := fun w' h =>
    (refOpn w m ta ka ia ua sa pa la ca w' ra qa ha h.below).mono fun e w'' ⟨y0, y1, y2, y3, y4, y5, y6, he, hi, h'⟩ => ⟨y0, y1, y2, y3, y4, y5, y6, he, hi, h', h.step h'⟩
  have HS : Hid (∀ w', T2 w (.int .i64 ka) (.int .i64 ia) (.int .u64 ua) (.string sa) (.slice pa la ca) (.int .i64 kb) (.int .i64 ib) (.int .u64 ub) (.string sb) (.slice pb lb cb) w' → Calls Tryz.prog 15 #[.agg #[.int .i64 ka, .int .i64 ia, .int .u64 ua, .string sa, .slice pa la ca], .agg #[.int .i64 kb, .int .i64 ib, .int .u64 ub, .string sb, .slice pb lb cb]] w' fun e w'' => e = .returned (.tuple #[.bool (lesP ka ia ua sa kb ib ub sb).1, .int .i64 (lesP ka ia ua sa kb ib ub sb).2]) ∧ Below w'.heap.size w' w'' ∧ T2 w (.int .i64 ka) (.int .i64 ia) (.int .u64 ua) (.string sa) (.slice pa la ca) (.int .i64 kb) (.int .i64 ib) (.int .u64 ub) (.string sb) (.slice pb lb cb) w'') := fun w' h =>
    (ls_any w m n ta tb ka ia ua kb ib ub sa sb pa pb la ca lb cb w' ra qa ha rb qb hb h.below).mono fun e w'' ⟨he, h'⟩ => ⟨he, h', h.step h'⟩
  have HSR : Hid (∀ w', T2 w (.int .i64 ka) (.int .i64 ia) (.int .u64 ua) (.string sa) (.slice pa la ca) (.int .i64 kb) (.int .i64 ib) (.int .u64 ub) (.string sb) (.slice pb lb cb) w' → Calls Tryz.prog 16 #[.agg #[.int .i64 ka, .int .i64 ia, .int .u64 ua, .string sa, .slice pa la ca], .agg #[.int .i64 kb, .int .i64 ib, .int .u64 ub, .string sb, .slice pb lb cb]] w' fun e w'' => e = .returned (.tuple #[.bool (lesP ka ia ua sa kb ib ub sb).1, .int .i64 (lesP ka ia ua sa kb ib ub sb).2]) ∧ Below w'.heap.size w' w'' ∧ T2 w (.int .i64 ka) (.int .i64 ia) (.int .u64 ua) (.string sa) (.slice pa la ca) (.int .i64 kb) (.int .i64 ib) (.int .u64 ub) (.string sb) (.slice pb lb cb) w'') := fun w' h =>
    (refLes_any ka ia ua kb ib ub sa sb pa pb la ca lb cb w').mono fun e w'' ⟨he, h'⟩ => ⟨he, h', h.step h'⟩
  have HD : Hid (∀ w', T2 w (.int .i64 ka) (.int .i64 ia) (.int .u64 ua) (.string sa) (.slice pa la ca) (.int .i64 kb) (.int .i64 ib) (.int .u64 ub) (.string sb) (.slice pb lb cb) w' → Calls Tryz.prog 17 #[.agg #[.int .i64 ka, .int .i64 ia, .int .u64 ua, .string sa, .slice pa la ca], .agg #[.int .i64 kb, .int .i64 ib, .int .u64 ub, .string sb, .slice pb lb cb]] w' fun e w'' => ∃ (y0 y1 y2 : Int) (y3 : ByteArray) (y4 : Option Addr) (y5 y6 : Nat), e = .returned (.tuple #[.agg #[.int .i64 y0, .int .i64 y1, .int .u64 y2, .string y3, .slice y4 y5 y6], .int .i64 (addE ka kb)]) ∧ Hid (Rep w'' 1 [.int .i64 y0, .int .i64 y1, .int .u64 y2, .string y3, .slice y4 y5 y6] (addT ka ia ua kb ib ub)) ∧ Below w'.heap.size w' w'' ∧ T2 w (.int .i64 ka) (.int .i64 ia) (.int .u64 ua) (.string sa) (.slice pa la ca) (.int .i64 kb) (.int .i64 ib) (.int .u64 ub) (.string sb) (.slice pb lb cb) w'') := fun w' h =>
    (ad_any w m n ta tb ka ia ua kb ib ub sa sb pa pb la ca lb cb w' ra qa ha rb qb hb h.below).mono fun e w'' ⟨y0, y1, y2, y3, y4, y5, y6, he, hi, h'⟩ => ⟨y0, y1, y2, y3, y4, y5, y6, he, hi, h', h.step h'⟩
  have HDR : Hid (∀ w', T2 w (.int .i64 ka) (.int .i64 ia) (.int .u64 ua) (.string sa) (.slice pa la ca) (.int .i64 kb) (.int .i64 ib) (.int .u64 ub) (.string sb) (.slice pb lb cb) w' → Calls Tryz.prog 18 #[.agg #[.int .i64 ka, .int .i64 ia, .int .u64 ua, .string sa, .slice pa la ca], .agg #[.int .i64 kb, .int .i64 ib, .int .u64 ub, .string sb, .slice pb lb cb]] w' fun e w'' => ∃ (y0 y1 y2 : Int) (y3 : ByteArray) (y4 : Option Addr) (y5 y6 : Nat), e = .returned (.tuple #[.agg #[.int .i64 y0, .int .i64 y1, .int .u64 y2, .string y3, .slice y4 y5 y6], .int .i64 (addE ka kb)]) ∧ Hid (Rep w'' 1 [.int .i64 y0, .int .i64 y1, .int .u64 y2, .string y3, .slice y4 y5 y6] (addT ka ia ua kb ib ub)) ∧ Below w'.heap.size w' w'' ∧ T2 w (.int .i64 ka) (.int .i64 ia) (.int .u64 ua) (.string sa) (.slice pa la ca) (.int .i64 kb) (.int .i64 ib) (.int .u64 ub) (.string sb) (.slice pb lb cb) w'') := fun w' h =>
    (refAd_any ka ia ua kb ib ub sa sb pa pb la ca lb cb w').mono fun e w'' ⟨y0, y1, y2, y3, y4, y5, y6, he, hi, h'⟩ => ⟨y0, y1, y2, y3, y4, y5, y6, he, hi, h', h.step h'⟩
  clear ha hb h6 hi hP e0 e1 e2 e3 e4 ra qa rb qb
  have HKs : Hid ((addT ka ia ua kb ib ub).ks = []) := add_ks _ _ _ _ _ _
  generalize addT ka ia ua kb ib ub = tt at *
  generalize (lenP ka sa.size la).1 = ln at *
  generalize hle : (lenP ka sa.size la).2 = le at *
  generalize (labP ka ia sa).1 = bn at *
  generalize hbe : (labP ka ia sa).2 = be at *
  generalize (worP ka ia sa).1 = xn at *
  generalize hxe : (worP ka ia sa).2 = xe at *
  generalize (lesP ka ia ua sa kb ib ub sb).1 = sn at *
  generalize hse : (lesP ka ia ua sa kb ib ub sb).2 = se at *
  generalize hoe : opnE ta.kd = oe at *
  generalize hde : addE ka kb = de at *
  clear hle hbe hxe hse hoe hde
  go_enter Tryz.func3, Tryz.ntmps3
  go_wp2_with fail
  refine (HVa.out _ TS.out).mono ?_
  rintro e w1 ⟨rfl, b1⟩
  have k1 := HC.out _ b1
  go_wp2_with fail
  refine (HVb.out _ b1).mono ?_
  rintro e w2 ⟨rfl, b2⟩
  clear k1 b1
  have k2 := HC.out _ b2
  go_wp2_with fail
  refine (HL.out _ b2).mono ?_
  rintro e w3 ⟨rfl, b3⟩
  clear k2 b2
  have k3 := HC.out _ b3
  go_wp2_with fail
  refine (HLR.out _ b3).mono ?_
  rintro e w4 ⟨rfl, b4⟩
  clear k3 b3
  have k4 := HC.out _ b4
  go_wp2_with fail
  refine (HB.out _ b4).mono ?_
  rintro e w5 ⟨rfl, b5⟩
  clear k4 b4
  have k5 := HC.out _ b5
  go_wp2_with fail
  refine (HBR.out _ b5).mono ?_
  rintro e w6 ⟨rfl, b6⟩
  clear k5 b5
  have k6 := HC.out _ b6
  go_wp2_with fail
  refine (HX.out _ b6).mono ?_
  rintro e w7 ⟨rfl, b7⟩
  clear k6 b6
  have k7 := HC.out _ b7
  go_wp2_with fail
  refine (HXR.out _ b7).mono ?_
  rintro e w8 ⟨rfl, b8⟩
  clear k7 b7
  have k8 := HC.out _ b8
  go_wp2_with fail
  refine (HO.out _ b8).mono ?_
  rintro e w9 ⟨y0, y1, y2, y3, y4, y5, y6, rfl, io, b9⟩
  clear k8 b8
  have hg : w.heap.size + 2 ≤ w9.heap.size := by have := Below.size b9; simpa using this
  have b10 := b9.step (below1 w9 (.cells #[.int .i64 y0, .int .i64 y1, .int .u64 y2, .string y3, .slice y4 y5 y6] 25))
  have k10 := HC.out _ b10
  have dx := D5.new w9 (.int .i64 y0) (.int .i64 y1) (.int .u64 y2) (.string y3) (.slice y4 y5 y6)
  have io1 := Lib.hid (io.out.below (below1 w9 (.cells #[.int .i64 y0, .int .i64 y1, .int .u64 y2, .string y3, .slice y4 y5 y6] 25)))
  clear io
  go_wp2_with fail
  generalize w9.alloc (.cells #[.int .i64 y0, .int .i64 y1, .int .u64 y2, .string y3, .slice y4 y5 y6] 25) = wa at *
  generalize w9.heap.size = gx at *
  refine (HOR.out _ b10).mono ?_
  rintro e w11 ⟨z0, z1, z2, z3, z4, z5, z6, rfl, jo, c11, b11⟩
  clear k10 b9
  have dx1 := (dx.below c11).below (below1 w11 (.cells #[.int .i64 z0, .int .i64 z1, .int .u64 z2, .string z3, .slice z4 z5 z6] 25))
  have io2 := Lib.hid ((io1.out.below c11).below (below1 w11 (.cells #[.int .i64 z0, .int .i64 z1, .int .u64 z2, .string z3, .slice z4 z5 z6] 25)))
  have jo1 := Lib.hid (jo.out.below (below1 w11 (.cells #[.int .i64 z0, .int .i64 z1, .int .u64 z2, .string z3, .slice z4 z5 z6] 25)))
  have b12 := b11.step (below1 w11 (.cells #[.int .i64 z0, .int .i64 z1, .int .u64 z2, .string z3, .slice z4 z5 z6] 25))
  have dy := D5.new w11 (.int .i64 z0) (.int .i64 z1) (.int .u64 z2) (.string z3) (.slice z4 z5 z6)
  have hgy : w.heap.size + 2 ≤ w11.heap.size := by have := Below.size b11; simpa using this
  have hxy : gx < w11.heap.size := Nat.lt_of_lt_of_le dx.lt c11.size
  have kx := dx1.c
  have ky := dy.c
  clear dx io1 jo
  go_wp2_with fail
  generalize w11.alloc (.cells #[.int .i64 z0, .int .i64 z1, .int .u64 z2, .string z3, .slice z4 z5 z6] 25) = wc at *
  generalize w11.heap.size = gy at *
  refine (sameO io2.out jo1.out).mono ?_
  rintro e w13 ⟨rfl, c13⟩
  have b13 := b12.step c13
  have k13 := HC.out _ b13
  clear kx ky io2 jo1
  go_wp2_with fail
  refine (HS.out _ b13).mono ?_
  rintro e w14 ⟨rfl, c14, b14⟩
  clear k13
  have k14 := HC.out _ b14
  go_wp2_with fail
  refine (HSR.out _ b14).mono ?_
  rintro e w15 ⟨rfl, c15, b15⟩
  clear k14
  have k15 := HC.out _ b15
  go_wp2_with fail
  refine (HD.out _ b15).mono ?_
  rintro e w16 ⟨u0, u1, u2, u3, u4, u5, u6, rfl, rd, c16, b16⟩
  clear k15
  have dx2 := (((dx1.below c13).below c14).below c15).below c16
  have dy2 := (((dy.below c13).below c14).below c15).below c16
  have kx := dx2.c
  have fx : ∀ o, w16.frozen? ⟨gx, o, none⟩ = false := fun o => dx2.f (o := o)
  have bX : T2 w (.int .i64 ka) (.int .i64 ia) (.int .u64 ua) (.string sa) (.slice pa la ca) (.int .i64 kb) (.int .i64 ib) (.int .u64 ub) (.string sb) (.slice pb lb cb) (((((w16.setCell ⟨gx, 0, none⟩ (.int .i64 u0)).setCell ⟨gx, 1, none⟩ (.int .i64 u1)).setCell ⟨gx, 2, none⟩ (.int .u64 u2)).setCell ⟨gx, 3, none⟩ (.string u3)).setCell ⟨gx, 4, none⟩ (.slice u4 u5 u6)) := ((((Below.setCell (show Below (w.heap.size + 2) _ _ from b16) hg _).setCell hg _).setCell hg _).setCell hg _).setCell hg _
  have kX := HC.out _ bX
  have dX : D5 (((((w16.setCell ⟨gx, 0, none⟩ (.int .i64 u0)).setCell ⟨gx, 1, none⟩ (.int .i64 u1)).setCell ⟨gx, 2, none⟩ (.int .u64 u2)).setCell ⟨gx, 3, none⟩ (.string u3)).setCell ⟨gx, 4, none⟩ (.slice u4 u5 u6)) gx (.int .i64 u0) (.int .i64 u1) (.int .u64 u2) (.string u3) (.slice u4 u5 u6) := dx2.set _ _ _ _ _
  have hne : gy ≠ gx := by omega
  have dY : D5 (((((w16.setCell ⟨gx, 0, none⟩ (.int .i64 u0)).setCell ⟨gx, 1, none⟩ (.int .i64 u1)).setCell ⟨gx, 2, none⟩ (.int .u64 u2)).setCell ⟨gx, 3, none⟩ (.string u3)).setCell ⟨gx, 4, none⟩ (.slice u4 u5 u6)) gy (.int .i64 z0) (.int .i64 z1) (.int .u64 z2) (.string z3) (.slice z4 z5 z6) := ((((dy2.set_other ⟨gx, 0, none⟩ _ hne).set_other ⟨gx, 1, none⟩ _ hne).set_other ⟨gx, 2, none⟩ _ hne).set_other ⟨gx, 3, none⟩ _ hne).set_other ⟨gx, 4, none⟩ _ hne
  clear dx1 dy dx2 dy2 b10 b11 b12 b13 b14 b15 c11 c13 c14 c15 c16
  go_wp2_with fail
  generalize (((((w16.setCell ⟨gx, 0, none⟩ (.int .i64 u0)).setCell ⟨gx, 1, none⟩ (.int .i64 u1)).setCell ⟨gx, 2, none⟩ (.int .u64 u2)).setCell ⟨gx, 3, none⟩ (.string u3)).setCell ⟨gx, 4, none⟩ (.slice u4 u5 u6)) = wd at *
  refine (HDR.out _ bX).mono ?_
  rintro e w17 ⟨v0, v1, v2, v3, v4, v5, v6, rfl, rd', c17, b17⟩
  clear kX kx fx
  have dx3 := dX.below c17
  have dy3 := dY.below c17
  have ky := dy3.c
  have fy : ∀ o, w17.frozen? ⟨gy, o, none⟩ = false := fun o => dy3.f (o := o)
  have bY : T2 w (.int .i64 ka) (.int .i64 ia) (.int .u64 ua) (.string sa) (.slice pa la ca) (.int .i64 kb) (.int .i64 ib) (.int .u64 ub) (.string sb) (.slice pb lb cb) (((((w17.setCell ⟨gy, 0, none⟩ (.int .i64 v0)).setCell ⟨gy, 1, none⟩ (.int .i64 v1)).setCell ⟨gy, 2, none⟩ (.int .u64 v2)).setCell ⟨gy, 3, none⟩ (.string v3)).setCell ⟨gy, 4, none⟩ (.slice v4 v5 v6)) := ((((Below.setCell (show Below (w.heap.size + 2) _ _ from b17) hgy _).setCell hgy _).setCell hgy _).setCell hgy _).setCell hgy _
  have hne' : gx ≠ gy := fun h => hne h.symm
  have dq : D5 (((((w17.setCell ⟨gy, 0, none⟩ (.int .i64 v0)).setCell ⟨gy, 1, none⟩ (.int .i64 v1)).setCell ⟨gy, 2, none⟩ (.int .u64 v2)).setCell ⟨gy, 3, none⟩ (.string v3)).setCell ⟨gy, 4, none⟩ (.slice v4 v5 v6)) gy (.int .i64 v0) (.int .i64 v1) (.int .u64 v2) (.string v3) (.slice v4 v5 v6) := dy3.set _ _ _ _ _
  have dp : D5 (((((w17.setCell ⟨gy, 0, none⟩ (.int .i64 v0)).setCell ⟨gy, 1, none⟩ (.int .i64 v1)).setCell ⟨gy, 2, none⟩ (.int .u64 v2)).setCell ⟨gy, 3, none⟩ (.string v3)).setCell ⟨gy, 4, none⟩ (.slice v4 v5 v6)) gx (.int .i64 u0) (.int .i64 u1) (.int .u64 u2) (.string u3) (.slice u4 u5 u6) := ((((dx3.set_other ⟨gy, 0, none⟩ _ hne').set_other ⟨gy, 1, none⟩ _ hne').set_other ⟨gy, 2, none⟩ _ hne').set_other ⟨gy, 3, none⟩ _ hne').set_other ⟨gy, 4, none⟩ _ hne'
  have kxx := dp.c
  have kyy := dq.c
  clear dX dY dx3 dy3 dq dp c17 bX
  go_wp2_with fail
  generalize (((((w17.setCell ⟨gy, 0, none⟩ (.int .i64 v0)).setCell ⟨gy, 1, none⟩ (.int .i64 v1)).setCell ⟨gy, 2, none⟩ (.int .u64 v2)).setCell ⟨gy, 3, none⟩ (.string v3)).setCell ⟨gy, 4, none⟩ (.slice v4 v5 v6)) = we at *
  refine (sameD 1 tt _ _ _ _ _ _ _ _ _ _ we (rep_leaf HKs.out rd.out) (rep_leaf HKs.out rd'.out)).mono ?_
  rintro e w18 ⟨rfl, c18⟩
  clear kxx kyy ky fy
  go_wp2_with fail
  refine (HW.out _ (bY.step c18)).mono ?_
  rintro e w19 ⟨rfl, b19⟩
  go_wp2_with fail
  go_ret
  exact ⟨rfl, b19⟩
end Go.Proofs.YtlmebokbbhjbmaaGreatDoor.Dt
