/- Both Loads at a right value that is not of the form; both at every right value; the conditions: the value in memory, the table of fields as the text lays it. -/
import Derived.Test.YtgijdiplhcoojaaGreatDoorJda
import Derived.Test.YtgijdiplhcoojaaGreatDoorJbc
import Derived.Test.YtgijdiplhcoojaaGreatDoorJbi
import Derived.Deep.RegionHeld3
namespace Go.Proofs.YtgijdiplhcoojaaGreatDoor.Dt
open Go.RowKit

/-- What both Loads give where the value is not of the form. -/
theorem load_bad (n : Nat) (d : Tr (n + 3)) (a : Option Addr) (c : Nat) (w : World) (h : Rep w (n + 3) [.int .i64 d.kd, .int .i64 d.it, .int .u64 d.ut, .string d.tx, .slice a d.ks.length c] d) (hv : vB (n + 3) d = true) (hr : rgt (n + 3) d = true) (hx4 : ∀ x ∈ d.ks, x.ks.length ≤ 4096) (hT : Tab14 w) (hs : savB d = false) :
    (∀ wx, Below w.heap.size w wx → Calls Tryz.prog 10 #[.agg #[.int .i64 d.kd, .int .i64 d.it, .int .u64 d.ut, .string d.tx, .slice a d.ks.length c]] wx fun e w' => e = .returned (.tuple #[.agg zsv, .bool false]) ∧ Below wx.heap.size wx w') ∧
    (∀ wx, Below w.heap.size w wx → Calls Tryz.prog 14 #[.agg #[.int .i64 d.kd, .int .i64 d.it, .int .u64 d.ut, .string d.tx, .slice a d.ks.length c]] wx fun e w' => e = .returned (.tuple #[.agg zsv, .bool false]) ∧ Below wx.heap.size wx w') := by
  refine ⟨fun wx hb => ?_, fun wx hb => ?_⟩
  · refine load_no _ _ _ _ _ _ _ wx true (savB d) (by rw [hs]; rfl) (fun wy hy => (ownValid (n + 3) d _ _ _ _ _ wy (Rep.below hy _ _ _ (Rep.below hb _ _ _ h)) ((hT.below hb).below hy)).mono fun e w' ⟨h1, h2⟩ => ⟨by rw [h1, hv], h2⟩) (fun _ wy hy => isSaved_any n d a c wy (Rep.below hy _ _ _ (Rep.below hb _ _ _ h)) hr hx4)
  · have h' := Rep.below hb _ _ _ h
    by_cases hd : d.kd = 9
    · have hlen := rgt_pair hr hd
      obtain ⟨x, y, hks⟩ := two_of hlen
      have RD := rep_rl h'
      rw [hks] at RD
      obtain ⟨g, o, ax, cx, ay, cy, rfl, hg, ⟨x0, x1, x2, x3, x4⟩, ⟨y0, y1, y2, y3, y4⟩, rx, ry⟩ := rl_pair RD
      rw [hlen, hd]
      by_cases hxk : x.kd = 8
      · rw [hxk] at x0
        by_cases hxl : x.ks.length = 4
        · rw [hxl] at x4
          by_cases hyk : y.kd = 9
          · rw [hyk] at y0
            have hry := rgt_kid hr y (by rw [hks]; simp)
            have hyl := rgt_pair hry hyk
            obtain ⟨p, q, hys⟩ := two_of hyl
            have RY := rep_rl ry
            rw [hys] at RY
            obtain ⟨gt, ot, ap, cp, aq, cq, rfl, hgt, ⟨p0, p1, p2, p3, p4⟩, ⟨q0, q1, q2, q3, q4⟩, rp, rq⟩ := rl_pair RY
            rw [hyl] at y4
            by_cases hq : q.kd = 8
            · rw [hq] at q0
              obtain ⟨e0, e1, e2, e3, hxs⟩ := four_of hxl
              have RX := rep_rl rx
              rw [hxs] at RX
              obtain ⟨gh, oh, rfl, hgh, ⟨m0, m0'⟩, ⟨m1, m1'⟩, ⟨m2, m2'⟩, ⟨m3, m3'⟩⟩ := rl_four RX
              by_cases k0 : e0.kd = 1
              · rw [k0] at m0
                by_cases k1 : e1.kd = 1
                · rw [k1] at m1
                  by_cases k2 : e2.kd = 1
                  · rw [k2] at m2
                    by_cases k3 : e3.kd = 6
                    · exfalso
                      have hsv : savB d = true := by
                        unfold savB
                        rw [hks, hd]
                        simp only [hxk, hyk, hxs, hys, List.map, k0, k1, k2, k3, hq]
                        decide
                      rw [hsv] at hs; cases hs
                    · exact rload_9 d.it d.ut d.tx c g o gh oh cx cy gt ot e3.kd wx x0 x4 y0 y4 q0 m0 m1 m2 m3 hg hgh hgt (by simpa using k3)
                  · exact rload_8 d.it d.ut d.tx c g o gh oh cx cy gt ot e2.kd wx x0 x4 y0 y4 q0 m0 m1 m2 hg hgh hgt (by simpa using k2)
                · exact rload_7 d.it d.ut d.tx c g o gh oh cx cy gt ot e1.kd wx x0 x4 y0 y4 q0 m0 m1 hg hgh hgt (by simpa using k1)
              · exact rload_6 d.it d.ut d.tx c g o gh oh cx cy gt ot e0.kd wx x0 x4 y0 y4 q0 m0 hg hgh hgt (by simpa using k0)
            · exact rload_5 d.it d.ut d.tx c g o ax cx cy gt ot q.kd wx x0 x4 y0 y4 q0 hg hgt (by simpa using hq)
          · exact rload_4 d.it d.ut d.tx c g o ax cx y.kd wx x0 x4 y0 hg (by simpa using hyk)
        · exact rload_3 d.it d.ut d.tx c g o ax x.ks.length cx wx x0 x4 hg (by simp; omega)
      · exact rload_2 d.it d.ut d.tx c g o x.kd wx x0 hg (by simpa using hxk)
    · exact rload_1 d.kd d.it d.ut d.tx a d.ks.length c wx (by simpa using hd)

/-- Every right value of depth 16: both Loads give the same. -/
theorem load_two (d : Tr 16) (a : Option Addr) (c : Nat) (w : World) (h : Rep w 16 [.int .i64 d.kd, .int .i64 d.it, .int .u64 d.ut, .string d.tx, .slice a d.ks.length c] d) (hv : vB 16 d = true) (hT : Tab14 w) :
    ∃ R cn ac un cl l us, us.length ≤ 2199023255551 ∧
    (∀ wx, Below w.heap.size w wx → Calls Tryz.prog 10 #[.agg #[.int .i64 d.kd, .int .i64 d.it, .int .u64 d.ut, .string d.tx, .slice a d.ks.length c]] wx fun e w' => LdP R cn ac un cl (StQ l us) wx e w') ∧
    (∀ wx, Below w.heap.size w wx → Calls Tryz.prog 14 #[.agg #[.int .i64 d.kd, .int .i64 d.it, .int .u64 d.ut, .string d.tx, .slice a d.ks.length c]] wx fun e w' => LdP R cn ac un cl (StQ l us) wx e w') := by
  have S := say 16 16 d 1 4096 (by decide) (by decide) (by decide)
  obtain ⟨hr, hC, -⟩ := S.down hv
  obtain ⟨f1, f2, f3, f4, f5⟩ := S.fit hC
  have hp1 : (pts 16 d).1 ≤ 4096 := by rw [f1]; exact f3
  have hp2 : (pts 16 d).2 ≤ 16 := by rw [f1]; show (cnt 16 16 d 1 4096).2 - 1 + 1 ≤ 16; omega
  have hk1 := pts_kids hp1
  have hx4 : ∀ x ∈ d.ks, x.ks.length ≤ 4096 := fun x hx => (pts_kids (hk1.2 x hx)).1
  cases hs : savB (n := 13) d with
  | false =>
    obtain ⟨g1, g2⟩ := load_bad 13 d a c w h hv hr hx4 hT hs
    refine ⟨false, 0, 0, 0, false, leafT 15 0 0, [], Nat.zero_le _, fun wx hb => (g1 wx hb).mono fun e w' ⟨h1, h2⟩ => ⟨h2, (fun h => by cases h), fun _ => h1⟩, fun wx hb => (g2 wx hb).mono fun e w' ⟨h1, h2⟩ => ⟨h2, (fun h => by cases h), fun _ => h1⟩⟩
  | true =>
    have hd : d.kd = 9 := by
      unfold savB at hs
      simp only [Bool.and_eq_true, decide_eq_true_eq] at hs
      exact hs.1
    have hlen := rgt_pair hr hd
    obtain ⟨x, y, hks⟩ := two_of hlen
    unfold savB at hs
    rw [hks] at hs
    simp only [Bool.and_eq_true, decide_eq_true_eq] at hs
    obtain ⟨-, hxy, hx, hy⟩ := hs
    simp only [List.cons.injEq, and_true] at hxy
    obtain ⟨hxk, hyk⟩ := hxy
    have hyl := rgt_pair (rgt_kid hr y (by rw [hks]; simp)) hyk
    obtain ⟨p, q, hys⟩ := two_of hyl
    rw [hys] at hy
    have hq : q.kd = 8 := by simpa using hy
    have hxl : x.ks.length = 4 := by have := congrArg List.length hx; simpa using this
    obtain ⟨e0, e1, e2, e3, hxs⟩ := four_of hxl
    rw [hxs] at hx
    simp only [List.map, List.cons.injEq, and_true] at hx
    obtain ⟨k0, k1, k2, k3⟩ := hx
    have my : y ∈ d.ks := by rw [hks]; simp
    have mp : p ∈ y.ks := by rw [hys]; simp
    have mq : q ∈ y.ks := by rw [hys]; simp
    have py := hk1.2 y my
    have hky := pts_kids (n := 14) (t := y) py
    have pp := hky.2 p mp
    have pq := hky.2 q mq
    have hkq := pts_kids (n := 13) (t := q) pq
    have dy : (pts 15 y).2 + 1 ≤ (pts 16 d).2 := (ptsL_snd (pts 15) d.ks 1 0).2 y my
    have dp : (pts 14 p).2 + 1 ≤ (pts 15 y).2 := (ptsL_snd (pts 14) y.ks 1 0).2 p mp
    have dq : (pts 14 q).2 + 1 ≤ (pts 15 y).2 := (ptsL_snd (pts 14) y.ks 1 0).2 q mq
    obtain ⟨l, -, l2, l3⟩ := shrink 16 14 p (by omega)
    obtain ⟨us, ul, up⟩ := list_at (fun i (t' : Tr 16) => ∀ z, q.ks[i]? = some z → pts 16 t' = pts 13 z ∧ ∀ w cs, Rep w 13 cs z → Rep w 16 cs t') q.ks.length (fun i hi => by
      have dz : (pts 13 q.ks[i]).2 + 1 ≤ (pts 14 q).2 := (ptsL_snd (pts 13) q.ks 1 0).2 _ (List.getElem_mem hi)
      obtain ⟨t', -, t2, t3⟩ := shrink 16 13 q.ks[i] (by omega)
      refine ⟨t', fun z hz => ?_⟩
      rw [List.getElem?_eq_getElem hi] at hz
      rw [← Option.some.inj hz]; exact ⟨t2, t3⟩)
    have hu : ∀ w a, Rl w 13 a q.ks → Rl w 16 a us := fun w a hk => by
      rcases hk with hk | ⟨g, o, ha, hk⟩
      · rw [hk] at ul
        exact .inl (List.length_eq_zero_iff.1 ul)
      · refine .inr ⟨g, o, ha, fun j t' hj => ?_⟩
        have hlt : j < q.ks.length := by have := (List.getElem?_eq_some_iff.1 hj).1; omega
        obtain ⟨v0, v1, v2, v3, v4, c0, c1, c2, c3, c4, r⟩ := hk j _ (List.getElem?_eq_getElem hlt)
        exact ⟨v0, v1, v2, v3, v4, c0, c1, c2, c3, c4, (up j t' hj _ (List.getElem?_eq_getElem hlt)).2 w _ r⟩
    have pu : ∀ t ∈ us, (pts 16 t).1 ≤ 4096 := fun t ht => by
      obtain ⟨j, hj, rfl⟩ := List.getElem_of_mem ht
      have hlt : j < q.ks.length := by omega
      rw [(up j _ (List.getElem?_eq_getElem hj) _ (List.getElem?_eq_getElem hlt)).1]
      exact hkq.2 _ (List.getElem_mem hlt)
    have hul2 : us.length ≤ 2199023255551 := by have := hkq.1; omega
    obtain ⟨g1, g2⟩ := load_good 13 d a c w h hv hr hx4 hT x y e0 e1 e2 e3 p q hd hks hxk hyk hxs k0 k1 k2 k3 hys hq l us l3 ul hu hul2 (by rw [l2]; exact pp) pu
    exact ⟨_, _, _, _, _, l, us, hul2, g1, g2⟩
end Go.Proofs.YtgijdiplhcoojaaGreatDoor.Dt
/- Load of a value that was saved, and of the empty value; the conditions: the value in memory, the table of fields as the text lays it. -/
namespace Go.Proofs.YtgijdiplhcoojaaGreatDoor.Dt
open Go.RowKit

theorem load_sav (cn ac un x : Int) (l17 : Tr 17) (l : Tr 16) (us : List (Tr 16)) (h16 : ∀ w cs, Rep w 17 cs l17 → Rep w 16 cs l) (pl : (pts 16 l).1 ≤ 4096) (pu : ∀ t ∈ us, (pts 16 t).1 ≤ 4096) (hul : us.length ≤ 2199023255551) (k i u : Int) (s : ByteArray) (a : Option Addr) (len c : Nat) (w : World)
    (h : Rep w 19 [.int .i64 k, .int .i64 i, .int .u64 u, .string s, .slice a len c] (savT cn ac un x l17 us)) (hv : vB 19 (savT cn ac un x l17 us) = true) (hT : Tab14 w) :
    ∀ wx, Below w.heap.size w wx → Calls Tryz.prog 10 #[.agg #[.int .i64 k, .int .i64 i, .int .u64 u, .string s, .slice a len c]] wx fun e w' => LdP (fitR cn ac un l us) cn ac un (x == 1) (StQ l us) wx e w' := by
  have S := say 16 19 (savT cn ac un x l17 us) 1 4096 (by decide) (by decide) (by decide)
  obtain ⟨hr, hC, -⟩ := S.down hv
  obtain ⟨f1, f2, f3, f4, f5⟩ := S.fit hC
  have hp1 : (pts 19 (savT cn ac un x l17 us)).1 ≤ 4096 := by rw [f1]; exact f3
  have hk1 := pts_kids hp1
  obtain ⟨a', c', e, -⟩ := id h
  simp only [List.cons.injEq, Value.slice.injEq, Value.int.injEq, Value.string.injEq, true_and, and_true] at e
  obtain ⟨rfl, rfl, rfl, rfl, rfl, rfl, rfl⟩ := e
  exact (load_good 16 (savT cn ac un x l17 us) a c w h hv hr (fun x hx => (pts_kids (hk1.2 x hx)).1) hT (nodeT 17 8 [leafT 16 1 cn, leafT 16 1 ac, leafT 16 1 un, leafT 16 6 x]) (nodeT 17 9 [l17, nodeT 16 8 us]) (leafT 16 1 cn) (leafT 16 1 ac) (leafT 16 1 un) (leafT 16 6 x) l17 (nodeT 16 8 us) rfl rfl rfl rfl rfl rfl rfl rfl rfl rfl rfl l us h16 rfl (fun _ _ h => h) hul pl pu).1
theorem load_zero (w : World) (hT : Tab14 w) : ∀ wx, Below w.heap.size w wx → Calls Tryz.prog 10 #[.agg #[.int .i64 0, .int .i64 0, .int .u64 0, .string ⟨#[]⟩, .slice none 0 0]] wx fun e w' => e = .returned (.tuple #[.agg zsv, .bool false]) ∧ Below wx.heap.size wx w' := by
  have hv : vB 19 (leafT 18 0 0) = true := by rfl
  have hr : rgt 19 (leafT 18 0 0) = true := by rfl
  exact (load_bad 16 (leafT 18 0 0) none 0 w (leaf_rep w 18 0 0) hv hr (fun x hx => by cases hx) hT rfl).1
end Go.Proofs.YtgijdiplhcoojaaGreatDoor.Dt
/- The document's Same of two states that stand for the same trees; the conditions: the states in memory. -/
namespace Go.Proofs.YtgijdiplhcoojaaGreatDoor.Dt
open Go.RowKit

set_option maxRecDepth 100000 in
set_option maxHeartbeats 1000000 in
theorem rsame_true (n m : Nat) (cn ac un : Int) (cl : Bool) (k i u : Int) (s : ByteArray) (a : Option Addr) (len cap : Nat) (la : Option Addr) (lc : Nat) (k' i' u' : Int) (s' : ByteArray) (a' : Option Addr) (len' cap' : Nat) (la' : Option Addr) (lc' : Nat) (l : Tr n) (l' : Tr m) (ts : List (Tr n)) (ts' : List (Tr m)) (w : World)
    (hS : StR w n l ts k i u s a len cap la lc) (hS' : StR w m l' ts' k' i' u' s' a' len' cap' la' lc') (hl : sm n m l l' = true) (hn : ts.length = ts'.length) (hs : ∀ (j : Nat) (x : Tr n) (y : Tr m), ts[j]? = some x → ts'[j]? = some y → sm n m x y = true) :
    Calls Tryz.prog 11 #[.agg #[.int .i64 cn, .int .i64 ac, .int .i64 k, .int .i64 i, .int .u64 u, .string s, .slice a len cap, .slice la ts.length lc, .bool cl, .int .i64 un], .agg #[.int .i64 cn, .int .i64 ac, .int .i64 k', .int .i64 i', .int .u64 u', .string s', .slice a' len' cap', .slice la' ts'.length lc', .bool cl, .int .i64 un]] w fun e w' => e = .returned (.bool true) ∧ Below w.heap.size w w' := by
  have HS := Lib.hid hS
  have HS' := Lib.hid hS'
  have HE := Lib.hid hs
  have hn1 : ts'.length = ts.length := hn.symm
  have HL : Hid (∀ wx, Below w.heap.size w wx → Calls Tryz.prog 9 #[.agg #[.int .i64 k, .int .i64 i, .int .u64 u, .string s, .slice a len cap], .agg #[.int .i64 k', .int .i64 i', .int .u64 u', .string s', .slice a' len' cap']] wx fun e w' => e = .returned (.bool true) ∧ Below wx.heap.size wx w') := fun wx hb => (same_any n m l l' _ _ _ _ _ _ _ _ _ _ wx (Rep.below hb n _ _ hS.last) (Rep.below hb m _ _ hS'.last)).mono fun e w' ⟨h1, h2⟩ => ⟨by rw [h1, hl], h2⟩
  have hlt := hS.lt
  rw [hn1]
  clear hS hS' hs hl hn
  have HN := Lib.hid hn1
  clear hn1
  have B0 := below2 w (.cells #[.int .i64 cn, .int .i64 ac, .int .i64 k, .int .i64 i, .int .u64 u, .string s, .slice a len cap, .slice la ts.length lc, .bool cl, .int .i64 un] 27) (.cells #[.int .i64 cn, .int .i64 ac, .int .i64 k', .int .i64 i', .int .u64 u', .string s', .slice a' len' cap', .slice la' ts.length lc', .bool cl, .int .i64 un] 27)
  have D0 : Bk ((w.alloc (.cells #[.int .i64 cn, .int .i64 ac, .int .i64 k, .int .i64 i, .int .u64 u, .string s, .slice a len cap, .slice la ts.length lc, .bool cl, .int .i64 un] 27)).alloc (.cells #[.int .i64 cn, .int .i64 ac, .int .i64 k', .int .i64 i', .int .u64 u', .string s', .slice a' len' cap', .slice la' ts.length lc', .bool cl, .int .i64 un] 27)) w.heap.size #[.int .i64 cn, .int .i64 ac, .int .i64 k, .int .i64 i, .int .u64 u, .string s, .slice a len cap, .slice la ts.length lc, .bool cl, .int .i64 un] 27 := (Bk.new w _ _).alloc _
  have E0 := Bk.new2 w (.cells #[.int .i64 cn, .int .i64 ac, .int .i64 k, .int .i64 i, .int .u64 u, .string s, .slice a len cap, .slice la ts.length lc, .bool cl, .int .i64 un] 27) #[.int .i64 cn, .int .i64 ac, .int .i64 k', .int .i64 i', .int .u64 u', .string s', .slice a' len' cap', .slice la' ts.length lc', .bool cl, .int .i64 un] 27
  go_enter Tryz.func11, Tryz.ntmps11
  go_wp2_with fail
  refine (HL.out _ B0).mono ?_
  rintro e w1 ⟨rfl, b1⟩
  have D1 := D0.step b1
  have E1 := E0.step b1
  have B1 := B0.trans (b1.mono B0.size)
  clear D0 E0 B0 b1 HL
  obtain ⟨c0, c1, c2, c3, c4, c5, c6, c7, c8, c9⟩ := D1.c10
  go_wp2_with fail
  go_loopw [5] (fun si wr => ∃ (j : Nat), si = .int .i64 j ∧ j ≤ ts.length ∧ Below w1.heap.size w1 wr) (fun si _ => ts.length - (intOf si).toNat)
  case atStart => exact ⟨0, rfl, Nat.zero_le _, Below.refl _ _⟩
  case round =>
    obtain ⟨j, rfl, hj, g1⟩ := hrel
    have B2 := B1.trans (g1.mono B1.size)
    have c7' := (D1.step g1).c10.2.2.2.2.2.2.2.1
    have z7' := (E1.step g1).c10.2.2.2.2.2.2.2.1
    clear c0 c1 c2 c3 c4 c5 c6 c7 c8 c9
    by_cases hlt' : j < ts.length
    · have hlt2 : j < ts'.length := HN.out.symm ▸ hlt'
      obtain ⟨g, o, u0, u1, u2, u3, a4, n4, c4, rfl, hg, e0, e1, e2, e3, e4, rk⟩ := HS.out.list.at hlt'
      obtain ⟨g', o', u0', u1', u2', u3', a4', n4', c4', rfl, hg', e0', e1', e2', e3', e4', rk'⟩ := HS'.out.list.at hlt2
      have y0 := (B2.cell (p := ⟨g, o + j * 5, none⟩) hg).trans e0
      have y1 := (B2.cell (p := ⟨g, o + j * 5 + 1, none⟩) hg).trans e1
      have y2 := (B2.cell (p := ⟨g, o + j * 5 + 2, none⟩) hg).trans e2
      have y3 := (B2.cell (p := ⟨g, o + j * 5 + 3, none⟩) hg).trans e3
      have y4 := (B2.cell (p := ⟨g, o + j * 5 + 4, none⟩) hg).trans e4
      have x0 := (B2.cell (p := ⟨g', o' + j * 5, none⟩) hg').trans e0'
      have x1 := (B2.cell (p := ⟨g', o' + j * 5 + 1, none⟩) hg').trans e1'
      have x2 := (B2.cell (p := ⟨g', o' + j * 5 + 2, none⟩) hg').trans e2'
      have x3 := (B2.cell (p := ⟨g', o' + j * 5 + 3, none⟩) hg').trans e3'
      have x4 := (B2.cell (p := ⟨g', o' + j * 5 + 4, none⟩) hg').trans e4'
      have hst : sm n m ts[j] ts'[j] = true := HE.out j _ _ (List.getElem?_eq_getElem hlt') (List.getElem?_eq_getElem hlt2)
      have HC : Hid (Calls Tryz.prog 9 #[.agg #[.int .i64 u0, .int .i64 u1, .int .u64 u2, .string u3, .slice a4 n4 c4], .agg #[.int .i64 u0', .int .i64 u1', .int .u64 u2', .string u3', .slice a4' n4' c4']] wr.drew fun e w' => e = .returned (.bool true) ∧ Below wr.heap.size wr w') := (same_any n m ts[j] ts'[j] _ _ _ _ _ _ _ _ _ _ wr.drew (Rep.below B2.drew n _ _ rk) (Rep.below B2.drew m _ _ rk')).mono fun e w' ⟨h1, h2⟩ => ⟨by rw [h1, hst], (Below.drew (Below.refl _ wr)).trans h2⟩
      have hjl : (0 : Int) ≤ j ∧ (j : Int) < ts.length := by omega
      have hz0 : w.heap.size < wr.heap.size := (D1.step g1).lt
      have hz1 : w.heap.size + 1 < wr.heap.size := (E1.step g1).lt
      have hgz : g < wr.heap.size := by omega
      have hgz' : g' < wr.heap.size := by omega
      have KS : Hid (∀ w' : World, Below wr.heap.size wr w' → w'.cell? ⟨w.heap.size, 7, none⟩ = some (.slice (some ⟨g, o, none⟩) ts.length lc) ∧ w'.cell? ⟨w.heap.size + 1, 7, none⟩ = some (.slice (some ⟨g', o', none⟩) ts.length lc') ∧ w'.cell? ⟨g, o + j * 5, none⟩ = some (.int .i64 u0) ∧ w'.cell? ⟨g, o + j * 5 + 1, none⟩ = some (.int .i64 u1) ∧ w'.cell? ⟨g, o + j * 5 + 2, none⟩ = some (.int .u64 u2) ∧ w'.cell? ⟨g, o + j * 5 + 3, none⟩ = some (.string u3) ∧ w'.cell? ⟨g, o + j * 5 + 4, none⟩ = some (.slice a4 n4 c4) ∧ w'.cell? ⟨g', o' + j * 5, none⟩ = some (.int .i64 u0') ∧ w'.cell? ⟨g', o' + j * 5 + 1, none⟩ = some (.int .i64 u1') ∧ w'.cell? ⟨g', o' + j * 5 + 2, none⟩ = some (.int .u64 u2') ∧ w'.cell? ⟨g', o' + j * 5 + 3, none⟩ = some (.string u3') ∧ w'.cell? ⟨g', o' + j * 5 + 4, none⟩ = some (.slice a4' n4' c4')) := fun w' h' => ⟨(h'.cell (p := ⟨w.heap.size, 7, none⟩) hz0).trans c7', (h'.cell (p := ⟨w.heap.size + 1, 7, none⟩) hz1).trans z7', (h'.cell (p := ⟨g, o + j * 5, none⟩) hgz).trans y0, (h'.cell (p := ⟨g, o + j * 5 + 1, none⟩) hgz).trans y1, (h'.cell (p := ⟨g, o + j * 5 + 2, none⟩) hgz).trans y2, (h'.cell (p := ⟨g, o + j * 5 + 3, none⟩) hgz).trans y3, (h'.cell (p := ⟨g, o + j * 5 + 4, none⟩) hgz).trans y4, (h'.cell (p := ⟨g', o' + j * 5, none⟩) hgz').trans x0, (h'.cell (p := ⟨g', o' + j * 5 + 1, none⟩) hgz').trans x1, (h'.cell (p := ⟨g', o' + j * 5 + 2, none⟩) hgz').trans x2, (h'.cell (p := ⟨g', o' + j * 5 + 3, none⟩) hgz').trans x3, (h'.cell (p := ⟨g', o' + j * 5 + 4, none⟩) hgz').trans x4⟩
      clear e0 e1 e2 e3 e4 rk e0' e1' e2' e3' e4' rk' HS HS' HE HN hst hlt2 D1 E1 B1
      go_wp2_with fail
      go_region_held3 (fun w' => w'.cell? ⟨w.heap.size, 7, none⟩ = some (.slice (some ⟨g, o, none⟩) ts.length lc) ∧ w'.cell? ⟨w.heap.size + 1, 7, none⟩ = some (.slice (some ⟨g', o', none⟩) ts.length lc') ∧ w'.cell? ⟨g, o + j * 5, none⟩ = some (.int .i64 u0) ∧ w'.cell? ⟨g, o + j * 5 + 1, none⟩ = some (.int .i64 u1) ∧ w'.cell? ⟨g, o + j * 5 + 2, none⟩ = some (.int .u64 u2) ∧ w'.cell? ⟨g, o + j * 5 + 3, none⟩ = some (.string u3) ∧ w'.cell? ⟨g, o + j * 5 + 4, none⟩ = some (.slice a4 n4 c4) ∧ w'.cell? ⟨g', o' + j * 5, none⟩ = some (.int .i64 u0') ∧ w'.cell? ⟨g', o' + j * 5 + 1, none⟩ = some (.int .i64 u1') ∧ w'.cell? ⟨g', o' + j * 5 + 2, none⟩ = some (.int .u64 u2') ∧ w'.cell? ⟨g', o' + j * 5 + 3, none⟩ = some (.string u3') ∧ w'.cell? ⟨g', o' + j * 5 + 4, none⟩ = some (.slice a4' n4' c4')) (first | go_keep | exact KS.out _ (by assumption)) ((go_at_call 9; refine HC.out.mono ?_; rintro e w2 ⟨rfl, b2⟩))
      clear HC KS y0 y1 y2 y3 y4 x0 x1 x2 x3 x4 c7' z7' B2
      go_wp2_with fail
      exact ⟨⟨j + 1, by go_num, by omega, g1.trans (b2.mono g1.size)⟩, by simp [intOf]; omega⟩
    · have hje : j = ts.length := by omega
      subst hje
      go_wp2_with fail
      go_ret
      exact ⟨rfl, B2⟩
end Go.Proofs.YtgijdiplhcoojaaGreatDoor.Dt
