/- In pieces as at once; the conditions: script and steps in memory, of a size that can be. -/
import Derived.Test.YtignphkfknjllaaDoorWy
import Derived.Test.YtignphkfknjllaaDoorXRd
namespace Go.Proofs.YtignphkfknjllaaDoor
open Go.RowKit

/-- A row of what has fired laid behind another. -/
theorem wpList_fr {ops : Array Oper} {rest : List Oper} {o : Oper} {a : Act} {Q : Exit → Act → World → Prop} {w : World} (hgd : o.guard = none) (s x : Operand)
    (ho : o.op = .call { callee := .builtin .append, args := #[s, x], argTypes := #[35, 35] })
    (L : Nat) (F : List Tm) (sl : Value) (hs : a.eval s = sl) (hp : FR w L F sl) (L2 : Nat) (G : List Tm) (sl2 : Value) (hx : a.eval x = sl2) (hq : FR w L2 G sl2) (hlen : F.length + G.length ≤ 8796093022208) (hL : L ≤ w.heap.size)
    (h : ∀ sl' w', FR w' L (F ++ G) sl' → w.grownBy w' sl.ownBlock → wpList Tryd.prog ops Q rest (a.put o.dst sl') w') : wpList Tryd.prog ops Q (o :: rest) a w := by
  obtain ⟨i0, hi0, hz0, hz1, hz2⟩ := info_parts infoF
  by_cases hG : G = []
  · subst hG
    have e2 := hq.2 rfl
    rw [e2] at hx
    refine wpList_plain hgd fun K hK' => ?_
    have hrun := run_append_owned_none (P := Tryd.prog) w L 35 o.type 45 i0 2 Tryd.underlying35 hi0 _ _ _ hp.1
    unfold Oper.wp
    simp [execOp, ho, resolve, invoke, builtin, hs, hx, hrun, Result.andThen]
    exact hK' _ _ (by simpa using h sl w (by simpa using hp) ⟨rfl, rfl, rfl, Nat.le_refl _, fun _ _ _ => rfl⟩)
  · rcases hq.1.2 with ⟨_, h0⟩ | ⟨g, cap, cur, hv, hb, hg, hnc, hm, hcs, htk⟩
    · exact absurd (List.eq_nil_of_length_eq_zero h0) hG
    · rw [hv] at hx
      have hpos : 0 < G.length := List.length_pos_iff.2 hG
      refine wpList_append_lies _ hgd s x 35 ho L 45 i0 _ 2 16 Tryd.underlying35 hi0 hz0 hz1 hz2 rfl (by decide) sl F.length (fc F) hs hp.1 ⟨g, 0, none⟩ G.length cap (fc G) hx (fc_len G) (fun j u hu => ?_) (fc_cells G) hpos (by unfold maxLen; omega) (by omega) hL _ rfl ?_
      · have hj := (List.getElem?_eq_some_iff.1 hu).1
        rw [fc_len] at hj
        have hadd : (⟨g, 0, none⟩ : Addr).add j = ⟨g, 0 + j, none⟩ := by unfold Addr.add; split <;> simp_all
        rw [hadd, Nat.zero_add]
        rw [← htk, List.getElem?_take, if_pos hj] at hu
        simp only [Array.getElem?_toList] at hu
        simp [World.cell?, hg, hu]
      · intro g' cap' w' own gr at' lt'
        refine h _ w' ?_ gr
        unfold FR
        rw [fc_app, List.length_append]
        exact ⟨own, fun e => by simp at e; exact absurd e.2 hG⟩

/-- The two wheels, one in pieces. -/
structure Pc (w0 : World) (n1 n2 : Nat) (ba ma bb mb T : Nat) (LA LB : List Tm) (U : Nat) (O : List Tm) (sl : Value) (en : Int) (wr : World) : Prop where
  wa : Wh wr ba ma U (lat U LA)
  wb : Wh wr bb mb T LB
  fr : FR wr n2 O sl
  fd : Fd LA U O
  tu : T ≤ U
  en : gt T en = U
  be : Below n1 w0 wr
  oa : ∀ B, OwL ba ma LA B → n1 ≤ B ∧ B < n2
  ob : ∀ B, OwL bb mb LB B → n1 ≤ B ∧ B < n2
  ab : ∀ B, OwL ba ma LA B → ¬ OwL bb mb LB B
theorem gt_id {T : Nat} (h : T ≤ 1099511627776) : gt T (T : Int) = T := by unfold gt; omega
theorem gt_far {T U : Nat} (n : Int) (h : T ≤ U) (hU : U ≤ 1099511627776) : gt T (fa U n) = gt U (fa U n) ∧ U ≤ gt U (fa U n) := by
  have := fa_ge U n
  unfold gt; omega

section
variable {w0 : World} {n1 n2 ba ma bb mb T : Nat} {LA LB : List Tm} {U : Nat} {O : List Tm} {sl : Value} {en : Int} {wr : World}
theorem Pc.like {w' : World} (p : Pc w0 n1 n2 ba ma bb mb T LA LB U O sl en wr) (l : Like wr w') : Pc w0 n1 n2 ba ma bb mb T LA LB U O sl en w' :=
  ⟨p.wa.like l, p.wb.like l, p.fr.blk (fun g _ => by rw [l.1]), p.fd, p.tu, p.en, ⟨l.2.1.trans p.be.os, l.2.2.1.trans p.be.tape, l.2.2.2.trans p.be.output, by rw [l.1]; exact p.be.size, fun k hk => by rw [l.1]; exact p.be.block k hk⟩, p.oa, p.ob, p.ab⟩
theorem Pc.out (p : Pc w0 n1 n2 ba ma bb mb T LA LB U O sl en wr) {C : Nat → Prop} {w2 : World} (hb : But C wr w2) (hC : ∀ B, C B → OwL ba ma LA B ∨ OwL bb mb LB B) : FR w2 n2 O sl := by
  refine p.fr.blk (fun g hg => hb.block g (p.fr.own hg).2.1 (fun c => ?_))
  have h1 := (p.fr.own hg).1
  rcases hC g c with c | c
  · have := (p.oa g c).2; omega
  · have := (p.ob g c).2; omega
theorem Pc.step (p : Pc w0 n1 n2 ba ma bb mb T LA LB U O sl en wr) (hn : n1 ≤ n2) (hnr : n2 ≤ wr.heap.size) (s : Int) {F : List Tm} {sl2 : Value} {w2 w3 : World} (f2 : Fd (lat U LA) (gt U (fa U s)) F) (h2 : Wh w2 ba ma (gt U (fa U s)) (lat (gt U (fa U s)) (lat U LA))) (b2 : But (OwL ba ma (lat U LA)) wr w2)
    (f3 : FR w3 n2 (O ++ F) sl2) (g3 : w2.grownBy w3 sl.ownBlock) : Pc w0 n1 n2 ba ma bb mb T LA LB (gt U (fa U s)) (O ++ F) sl2 (fa U s) w3 := by
  obtain ⟨e1, e2⟩ := gt_far (T := T) s p.tu p.wa.t
  have b3 : But (fun B => n2 ≤ B) w2 w3 := But.grown g3 (fun k e _ => (p.fr.own e).1)
  rw [lat_lat e2] at h2
  refine ⟨h2.but b3 (fun B c o => by have := (p.oa B (lat_own o)).2; omega), (p.wb.but b2 (fun B c o => p.ab B (lat_own c) o)).but b3 (fun B c o => by have := (p.ob B o).2; omega), f3, p.fd.app f2 e2, Nat.le_trans p.tu e2, e1, ?_, p.oa, p.ob, p.ab⟩
  have hsz := b2.size
  have k2 : Below n1 w0 w2 := but_below p.be b2 (fun B c => (p.oa B (lat_own c)).1) (by omega)
  exact but_below k2 b3 (fun B c => by omega) (by omega)
end
theorem Sc.below {w w' : World} {ad : Option Addr} {S : List (Int × Int × Int)} (h : Sc w ad S) (hb : Below w.heap.size w w') : Sc w' ad S := by
  rcases h with h | ⟨g, o, e, h1, h2⟩
  · exact .inl h
  · refine .inr ⟨g, o, e, Nat.lt_of_lt_of_le h1 hb.size, fun j x hj => ?_⟩
    obtain ⟨a, b, c⟩ := h2 j x hj
    exact ⟨(mem_blk (hb.block g h1) _).trans a, (mem_blk (hb.block g h1) _).trans b, (mem_blk (hb.block g h1) _).trans c⟩
theorem Pc.start {w wA wB : World} {ba ma bb mb T : Nat} {P : List (Nat × Int)} {LA LB : List Tm} (ha : Wn w.heap.size w wA ba ma T P LA) (hb : Wn wA.heap.size wA wB bb mb T P LB) : Pc w w.heap.size wB.heap.size ba ma bb mb T LA LB T [] (.slice none 0 0) (T : Int) wB := by
  have hlo : ∀ t ∈ LA, T < t.a := fun t ht => (ha.1.lo t ht).1
  have hs := ha.2.2.1.size
  have hs2 := hb.2.2.1.size
  refine ⟨by rw [lat_all hlo]; exact ha.1.below hb.2.2.1, hb.1, FR.nil _ _, Fd.zero hlo, Nat.le_refl _, gt_id ha.1.t, ha.2.2.1.trans (hb.2.2.1.mono hs), fun B hB => ⟨ha.2.2.2 B hB, by have := ha.1.lt hB; omega⟩, fun B hB => ⟨by have := hb.2.2.2 B hB; omega, hb.1.lt hB⟩, fun B h1 h2 => ?_⟩
  have := ha.1.lt h1
  have := hb.2.2.2 B h2
  omega

set_option maxRecDepth 100000 in
set_option maxHeartbeats 2000000 in
theorem law_pieces (x0 : Int) (S : List (Int × Int × Int)) (ad : Option Addr) (cap : Nat) (l : List Int) (ad2 : Option Addr) (cap2 : Nat) (w : World) (hS : Sc w ad S) (hl : S.length ≤ 5864062014805) (hI : Si w ad2 l) (hl2 : l.length ≤ 9223372036854775807) (hT : Tb w) (h0 : 0 < w.heap.size) :
    Calls Tryd.prog 4 #[.int .i64 x0, .slice ad S.length cap, .slice ad2 l.length cap2] w fun e w' => e = .returned (.bool true) ∧ Below w.heap.size w w' := by
  have HSA := Lib.hid (set_any x0 S ad cap w hS (by omega))
  have HSC := Lib.hid hS
  have HI := Lib.hid hI
  have HT := Lib.hid hT
  have ht0 := (t0_is x0).2
  clear hS hI hT
  go_enter Tryd.func4, Tryd.ntmps4
  go_wp2_with fail
  refine HSA.out.mono ?_
  rintro e wA ⟨ba, ma, LA, rfl, nA⟩
  have HSB := Lib.hid (set_any x0 S ad cap wA (HSC.out.below nA.2.2.1) (by omega))
  have NA := Lib.hid nA
  have zA := nA.2.2.1.size
  clear HSA HSC nA
  go_wp2_with fail
  refine HSB.out.mono ?_
  rintro e wB ⟨bb, mb, LB, rfl, nB⟩
  have zB := nB.2.2.1.size
  have PC := Lib.hid (Pc.start NA.out nB)
  have KV := Lib.hid (NA.out.2.1.trans nB.2.1.symm)
  have LEN : Hid (LA.length ≤ S.length) := Lib.hid (by have := congrArg List.length NA.out.2.1; rw [List.length_map] at this; rw [this]; exact setP_len _ _)
  have LENB : Hid (LB.length ≤ S.length) := Lib.hid (by have := congrArg List.length nB.2.1; rw [List.length_map] at this; rw [this]; exact setP_len _ _)
  have HN := Lib.hid (now_any PC.out.wa)
  clear HSB nB NA
  generalize t0 x0 = T at *
  have hn2 : w.heap.size ≤ wB.heap.size := by omega
  have hz0 : (0 : Nat) < wB.heap.size := by omega
  go_wp2_with (go_at_call 13; refine HN.out.mono ?_; rintro e w9 ⟨rfl, hw9⟩; rw [hw9]; clear hw9 w9)
  clear HN
  obtain ⟨n2, hN2⟩ : ∃ n2, n2 = wB.heap.size := ⟨_, rfl⟩
  rw [← hN2] at PC hn2 hz0
  have hle2 : n2 ≤ wB.heap.size := Nat.le_of_eq hN2
  clear hN2
  go_loopw [9, 10, 11] (fun s9 s10 s11 wr => ∃ (j : Nat) (O : List Tm) (U : Nat) (en : Int), j ≤ l.length ∧ s11 = .int .i64 j ∧ s10 = .int .i64 en ∧ Pc w w.heap.size n2 ba ma bb mb T LA LB U O s9 en wr ∧ n2 ≤ wr.heap.size) (fun _ _ s11 _ => l.length - (intOf s11).toNat)
  case atStart => exact ⟨0, [], T, T, Nat.zero_le _, rfl, rfl, PC.out, hle2⟩
  case round =>
    obtain ⟨j, O, U, en, hj, rfl, rfl, pc, hnr⟩ := hrel
    have TBr := Lib.hid (HT.out.but (C := fun k => w.heap.size ≤ k) ⟨pc.be.os, pc.be.tape, pc.be.output, pc.be.size, fun k hk hc => pc.be.block k (by omega)⟩ (by omega))
    have hUt := pc.wa.t
    by_cases hlt : j < l.length
    · obtain ⟨s, hs⟩ : ∃ s, l[j]? = some s := ⟨_, List.getElem?_eq_getElem hlt⟩
      rcases HI.out with h | ⟨g, o, rfl, hg, h1⟩
      · rw [h] at hlt; simp at hlt
      have c0 := (pc.be.cell (p := ⟨g, o + j, none⟩) hg).trans (h1 j s hs)
      have j1 : ((j : Nat) : Int) < (l.length : Int) := by omega
      have HNw := Lib.hid (now_any (pc.wa.like (like_drew wr)))
      have HFa := Lib.hid (fun w => far_any U s w hUt)
      have GO := Lib.hid (go_any (pc.wa.like (like_drew wr)) (fa U s) (by have h1 : (lat U LA).length ≤ LA.length := List.length_filter_le _ _; have := LEN.out; omega) (TBr.out.below (Below.drew (Below.refl _ wr))) (fun c => by have := (pc.oa 0 (lat_own c)).1; omega))
      have PC2 := Lib.hid (pc.like (like_drew wr))
      have hnd : n2 ≤ wr.drew.heap.size := hnr
      clear h1 hs PC pc HI hnr
      go_wp2_with fail
      change wr.drew.cell? _ = _ at c0
      refine wp_region_held_drew (S := fun wx => wx.cell? ⟨g, o + j, none⟩ = some (.int .i64 s)) (by kernel_rfl) c0 (fun hHeld => ?_)
      generalize wr.drew = v1 at *
      refine wpAnyH_take (i := 0) (oi := { dst := some 26, op := Op.move (Operand.tmp 7), type := 23, pos := _, after := #[], guard := none }) (v := ?tr1) rfl (by kernel_rfl) (by kernel_rfl) (by kernel_rfl) (fun _ _ _ h => h) (Or.inl ⟨by rfl, ?ur1⟩) (by assumption) ?rr1
      case ur1 => (intro w hSw; (try dsimp only at hSw); go_simp; (try with_reducible rfl))
      simp only [Act.put, List.setIfInBounds_toArray, List.set_cons_zero, List.set_cons_succ]
      refine wpAnyH_take (i := 2) (oi := { dst := some 28, op := Op.move (Operand.tmp 2), type := 33, pos := _, after := #[], guard := none }) (v := ?tr2) rfl (by kernel_rfl) (by kernel_rfl) (by kernel_rfl) (fun _ _ _ h => h) (Or.inl ⟨by rfl, ?ur2⟩) (by assumption) ?rr2
      case ur2 => (intro w hSw; (try dsimp only at hSw); go_simp; (try with_reducible rfl))
      simp only [Act.put, List.setIfInBounds_toArray, List.set_cons_zero, List.set_cons_succ]
      refine wpAnyH_take (i := 3) (oi := { dst := some 29, op := Op.move (Operand.tmp 11), type := 3, pos := _, after := #[], guard := none }) (v := ?tr3) rfl (by kernel_rfl) (by kernel_rfl) (by kernel_rfl) (fun _ _ _ h => h) (Or.inl ⟨by rfl, ?ur3⟩) (by assumption) ?rr3
      case ur3 => (intro w hSw; (try dsimp only at hSw); go_simp; (try with_reducible rfl))
      simp only [Act.put, List.setIfInBounds_toArray, List.set_cons_zero, List.set_cons_succ]
      refine wpAnyH_take (i := 4) (oi := { dst := some 30, op := Op.indexAddr 33 (Operand.tmp 28) (Operand.tmp 29), type := 0, pos := _, after := #[{ on := 2, ground := Ground.data }, { on := 3, ground := Ground.data }], guard := none }) (v := ?tr4) rfl (by kernel_rfl) (by kernel_rfl) (by kernel_rfl) (fun _ _ _ h => h) (Or.inl ⟨by rfl, ?ur4⟩) (by assumption) ?rr4
      case ur4 => (intro w hSw; (try dsimp only at hSw); go_simp; (try with_reducible rfl))
      simp only [Act.put, List.setIfInBounds_toArray, List.set_cons_zero, List.set_cons_succ]
      refine wpAnyH_take (i := 5) (oi := { dst := some 31, op := Op.load 2 (Operand.tmp 30), type := 2, pos := _, after := #[{ on := 4, ground := Ground.data }], guard := none }) (v := ?tr5) rfl (by kernel_rfl) (by kernel_rfl) (by kernel_rfl) (fun _ _ _ h => h) (Or.inl ⟨by rfl, ?ur5⟩) (by assumption) ?rr5
      case ur5 => (intro w hSw; (try dsimp only at hSw); go_simp; (try with_reducible rfl))
      simp only [Act.put, List.setIfInBounds_toArray, List.set_cons_zero, List.set_cons_succ]
      refine wpAnyH_ready (rs := [1]) (by kernel_rfl) (by simp) ?_
      refine AllReadyH.cons (o := { dst := some 27, op := Op.call { callee := Callee.value (Operand.func 13), args := #[Operand.tmp 26], argTypes := #[23] }, type := 2, pos := _, after := #[{ on := 0, ground := Ground.data }], guard := none }) rfl (fun K hK => ?_) AllReadyH.nil
      go_simp
      refine HNw.out.mono ?_
      rintro e w9 ⟨rfl, hw9⟩
      rw [hw9]
      clear hw9 w9
      go_wp2_with fail
      refine hK.out _ _ c0 (fun hH1 => ?_)
      clear hK K
      (try simp only [Act.put, List.setIfInBounds_toArray, List.set_cons_zero, List.set_cons_succ])
      refine wpAnyH_ready (rs := [6]) (by kernel_rfl) (by simp) ?_
      refine AllReadyH.cons (o := { dst := some 32, op := Op.call { callee := Callee.value (Operand.func 14), args := #[Operand.tmp 27, Operand.tmp 31], argTypes := #[2, 2] }, type := 2, pos := _, after := #[{ on := 1, ground := Ground.data }, { on := 5, ground := Ground.data }, { on := 1, ground := Ground.chain }], guard := none }) rfl (fun K hK => ?_) AllReadyH.nil
      go_simp
      refine (HFa.out _).mono ?_
      rintro e w9 ⟨rfl, hw9⟩
      rw [hw9]
      clear hw9 w9
      go_wp2_with fail
      refine hK.out _ _ c0 (fun hH2 => ?_)
      clear hK K
      (try simp only [Act.put, List.setIfInBounds_toArray, List.set_cons_zero, List.set_cons_succ])
      refine wpAnyH_take (i := 7) (oi := { dst := some 10, op := Op.assign (Operand.tmp 32), type := 2, pos := _, after := #[{ on := 6, ground := Ground.data }, { on := 6, ground := Ground.chain }, { on := 0, ground := Ground.phase }, { on := 1, ground := Ground.phase }, { on := 2, ground := Ground.phase }, { on := 3, ground := Ground.phase }, { on := 4, ground := Ground.phase }, { on := 5, ground := Ground.phase }, { on := 6, ground := Ground.phase }], guard := none }) (v := ?tr6) rfl (by kernel_rfl) (by kernel_rfl) (by kernel_rfl) (fun _ _ _ h => h) (Or.inl ⟨by rfl, ?ur6⟩) (by assumption) ?rr6
      case ur6 => (intro w hSw; (try dsimp only at hSw); go_simp; (try with_reducible rfl))
      simp only [Act.put, List.setIfInBounds_toArray, List.set_cons_zero, List.set_cons_succ]
      refine wpAnyH_done (by kernel_rfl) ?_ _
      go_wp2_with fail
      refine GO.out.mono ?_
      rintro e w2 ⟨sl2, F, rfl, r1, r2, r3, r4⟩
      have hct : O.length + F.length ≤ 8796093022208 := by
        have h1 := (PC2.out.fd.app r2 (gt_far (T := T) s PC2.out.tu PC2.out.wa.t).2).count'
        rw [List.length_append] at h1
        have := LEN.out
        omega
      have FO := PC2.out.out r4 (fun B c => .inl (lat_own c))
      have z2 := r4.size
      have R1 := Lib.hid r1
      have R2 := Lib.hid r2
      have R3 := Lib.hid r3
      have R4 := Lib.hid r4
      have FOh := Lib.hid FO
      clear r1 r2 r3 r4 FO GO HNw HFa c0 hHeld
      go_wp2_with (at_builtin; refine wpList_fr rfl _ _ rfl n2 O u9 rfl FOh.out _ F sl2 rfl R1.out hct (by omega) ?_; intro sl3 w3 f3 g3)
      have P3 := PC2.out.step hn2 hnd s R2.out R3.out R4.out f3 g3
      refine ⟨⟨j + 1, O ++ F, _, _, by omega, by go_num, rfl, P3, by have := g3.size; omega⟩, by simp [intOf]; omega⟩
    · obtain rfl : j = l.length := by omega
      have PC2 := Lib.hid pc
      clear pc PC HI
      have GO := Lib.hid (go_any PC2.out.wb en (by have := LENB.out; omega) TBr.out (fun c => by have := (PC2.out.ob 0 c).1; omega))
      go_wp2_with fail
      refine GO.out.mono ?_
      rintro e w2 ⟨sl2, G, rfl, r1, r2, r3, r4⟩
      have hen := PC2.out.en
      rw [hen] at r2 r3
      have FO := PC2.out.out r4 (fun B c => .inr c)
      have ek := PC2.out.fd.unique r2 KV.out
      obtain ⟨a1, c1, q1, sp1⟩ := FO.sp
      obtain ⟨a2, c2, q2, sp2⟩ := r1.sp
      rw [← ek] at q2 sp2
      have hOl : (O.map kv).length ≤ 9223372036854775807 := by
        have h1 := PC2.out.fd.count
        have := LEN.out
        rw [List.length_map]
        omega
      have hsm := same_any (O.map kv) a1 a2 c1 c2 w2 sp1 sp2 hOl
      rw [List.length_map] at q1 q2 hsm
      have HSM := Lib.hid hsm
      clear hsm
      have WA := Lib.hid (PC2.out.wa.but r4 (fun B c o => PC2.out.ab B (lat_own o) c))
      have WB := Lib.hid r3
      have hlk : Hid ((lat U LA).length = (lat U LB).length) := Lib.hid (by have := congrArg List.length (lat_kv (U := U) KV.out); simpa using this)
      have BE := Lib.hid (but_below PC2.out.be r4 (fun B c => (PC2.out.ob B c).1) (by omega))
      have TB2 := Lib.hid (TBr.out.but r4 (fun c => by have := (PC2.out.ob 0 c).1; omega))
      have z2 := r4.size
      clear FO ek sp1 sp2 r1 r2 r3 r4 GO hen PC2 TBr hOl
      subst q1 q2
      go_wp2_with fail
      refine HSM.out.mono ?_
      rintro e w3 ⟨rfl, k3, hw3⟩
      have L3 := Like.of hw3
      clear hw3 HSM
      have NA := Lib.hid (now_any (WA.out.like L3))
      have NB := Lib.hid (now_any (WB.out.like L3))
      have EA := Lib.hid (len_any (WA.out.like L3))
      have EB := Lib.hid (len_any (WB.out.like L3))
      have h3z : w2.heap.size = w3.heap.size := by rw [L3.1]
      have AW := Lib.hid (awake_any w3 (TB2.out.but (C := fun _ => False) ⟨L3.2.1, L3.2.2.1, L3.2.2.2, by rw [L3.1]; exact Nat.le_refl _, fun k _ _ => by rw [L3.1]⟩ (fun c => c)) (by omega))
      have FIN : Hid (∀ w4, Below w3.heap.size w3 w4 → Below w.heap.size w w4) := Lib.hid (fun w4 b4 => by
        have b3 : Below w.heap.size w w3 := ⟨L3.2.1.trans BE.out.os, L3.2.2.1.trans BE.out.tape, L3.2.2.2.trans BE.out.output, by rw [L3.1]; exact BE.out.size, fun k hk => by rw [L3.1]; exact BE.out.block k hk⟩
        exact b3.trans (b4.mono b3.size))
      clear h3z L3 WA WB BE TB2
      rw [hlk.out] at EA
      go_wp2_with fail
      refine NA.out.mono ?_
      rintro e w9 ⟨rfl, hw9⟩
      rw [hw9]
      clear hw9 w9 NA
      go_wp2_with fail
      refine NB.out.mono ?_
      rintro e w9 ⟨rfl, hw9⟩
      rw [hw9]
      clear hw9 w9 NB
      go_wp2_with fail
      refine EA.out.mono ?_
      rintro e w9 ⟨rfl, hw9⟩
      rw [hw9]
      clear hw9 w9 EA
      go_wp2_with fail
      refine EB.out.mono ?_
      rintro e w9 ⟨rfl, hw9⟩
      rw [hw9]
      clear hw9 w9 EB
      go_wp2_with fail
      refine AW.out.mono ?_
      rintro e w4 ⟨rfl, b4⟩
      go_wp2_with fail
      go_ret
      exact ⟨rfl, FIN.out w4 b4⟩
end Go.Proofs.YtignphkfknjllaaDoor
