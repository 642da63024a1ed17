/- The package's look at a row of keys: whether all are valid, may be keys, and are apart; the conditions: the row in memory, the table of fields as the text lays it, and the contracts of Valid and Group. -/
import Derived.Test.YtgijdiplhcoojaaGreatDoorJbb
import Derived.Test.YtgijdiplhcoojaaGreatDoorJba
import Derived.Test.YtgijdiplhcoojaaGreatDoorXVc
import Derived.Test.YtgijdiplhcoojaaGreatDoorXSw
namespace Go.Proofs.YtgijdiplhcoojaaGreatDoor.Dt
open Go.RowKit

theorem Tab14.below {w w' : World} (h : Tab14 w) (hb : Below w.heap.size w w') : Tab14 w' := ⟨Nat.lt_of_lt_of_le h.1 hb.size, fun j hj => (hb.cell (p := ⟨2, j, none⟩) h.1).trans (h.2 j hj)⟩
/-- The contract of Valid. -/
def VaOf (n : Nat) : Prop := ∀ (t : Tr n) (v0 v1 v2 v3 v4 : Value) (w : World), Rep w n [v0, v1, v2, v3, v4] t → Tab14 w → Calls Tryz.prog 19 #[.agg #[v0, v1, v2, v3, v4]] w fun e w' => e = .returned (.bool (vB n t)) ∧ Below w.heap.size w w'
theorem Rl.below {w w' : World} {n : Nat} {ad : Option Addr} {ts : List (Tr n)} (h : Rl w n ad ts) (hb : Below w.heap.size w w') : Rl w' n ad ts := by
  rcases h with h | ⟨g, o, h6, h7⟩
  · exact .inl h
  · refine .inr ⟨g, o, h6, fun j t' hj => ?_⟩
    obtain ⟨x0, x1, x2, x3, x4, c0, c1, c2, c3, c4, r⟩ := h7 j t' hj
    have hgl : g < w.heap.size := World.block_lt_of_cell? w _ c0
    exact ⟨x0, x1, x2, x3, x4, (hb.cell (p := ⟨g, _, none⟩) hgl).trans c0, (hb.cell (p := ⟨g, _, none⟩) hgl).trans c1, (hb.cell (p := ⟨g, _, none⟩) hgl).trans c2, (hb.cell (p := ⟨g, _, none⟩) hgl).trans c3, (hb.cell (p := ⟨g, _, none⟩) hgl).trans c4, Rep.below hb n _ _ r⟩
/-- A place of a row. -/
theorem Rl.at {w : World} {n : Nat} {ad : Option Addr} {ts : List (Tr n)} (h : Rl w n ad ts) {j : Nat} (hj : j < ts.length) : ∃ g o u0 u1 u2 u3 a4 n4 c4, ad = some ⟨g, o, none⟩ ∧ g < w.heap.size ∧ w.cell? ⟨g, o + j * 5, none⟩ = some (.int .i64 u0) ∧ w.cell? ⟨g, o + j * 5 + 1, none⟩ = some (.int .i64 u1) ∧ w.cell? ⟨g, o + j * 5 + 2, none⟩ = some (.int .u64 u2) ∧ w.cell? ⟨g, o + j * 5 + 3, none⟩ = some (.string u3) ∧ w.cell? ⟨g, o + j * 5 + 4, none⟩ = some (.slice a4 n4 c4) ∧ Rep w n [.int .i64 u0, .int .i64 u1, .int .u64 u2, .string u3, .slice a4 n4 c4] ts[j] := by
  rcases h with h | ⟨g, o, h6, h7⟩
  · subst h; exact absurd hj (Nat.not_lt_zero _)
  · obtain ⟨x0, x1, x2, x3, x4, c0, c1, c2, c3, c4, r⟩ := h7 j _ (List.getElem?_eq_getElem hj)
    obtain ⟨u0, u1, u2, u3, a4, n4, c4', rfl, rfl, rfl, rfl, rfl⟩ := rep_shape' r
    exact ⟨g, o, u0, u1, u2, u3, a4, n4, c4', h6, World.block_lt_of_cell? w _ c0, c0, c1, c2, c3, c4, r⟩

set_option maxRecDepth 100000 in
set_option maxHeartbeats 2000000 in
theorem areKeys_no (n : Nat) (hV : VaOf n) (ts : List (Tr n)) (ad : Option Addr) (cap : Nat) (w : World) (hn : ts.length ≤ 2199023255551) (hk : Rl w n ad ts) (hT : Tab14 w) (hbad : ∃ t ∈ ts, vB n t = false) :
    Calls Tryz.prog 20 #[.slice ad ts.length cap] w fun e w' => e = .returned (.bool false) ∧ Below w.heap.size w w' := by
  have HK := Lib.hid hk
  have HB := Lib.hid hbad
  have HT := Lib.hid hT
  have HV := Lib.hid hV
  clear hk hbad hT hV
  go_enter Tryz.func20, Tryz.ntmps20
  go_wp2_with fail
  go_loopw [11] (fun si wr => ∃ (j : Nat), si = .int .i64 j ∧ j ≤ ts.length ∧ (∀ k (hk : k < ts.length), k < j → vB n ts[k] = true) ∧ Below w.heap.size w wr) (fun si _ => ts.length - (intOf si).toNat)
  case atStart => exact ⟨0, rfl, Nat.zero_le _, fun k _ hk => absurd hk (Nat.not_lt_zero _), Below.refl _ _⟩
  case round =>
    obtain ⟨j, rfl, hj, hall, g1⟩ := hrel
    have hall' := Lib.hid hall
    clear hall
    by_cases hlt : j < ts.length
    · obtain ⟨g, o, u0, u1, u2, u3, a4, n4, c4, rfl, hg, e0, e1, e2, e3, e4, rk⟩ := HK.out.at hlt
      have y0 := (g1.cell (p := ⟨g, o + j * 5, none⟩) hg).trans e0
      have y1 := (g1.cell (p := ⟨g, o + j * 5 + 1, none⟩) hg).trans e1
      have y2 := (g1.cell (p := ⟨g, o + j * 5 + 2, none⟩) hg).trans e2
      have y3 := (g1.cell (p := ⟨g, o + j * 5 + 3, none⟩) hg).trans e3
      have y4 := (g1.cell (p := ⟨g, o + j * 5 + 4, none⟩) hg).trans e4
      have bA := below1 wr (.cells #[.int .i64 u0, .int .i64 u1, .int .u64 u2, .string u3, .slice a4 n4 c4] 25)
      have BA := g1.trans (bA.mono g1.size)
      have HC := Lib.hid (HV.out ts[j] _ _ _ _ _ _ (Rep.below BA n _ _ rk) (HT.out.below BA))
      have hjl : (0 : Int) ≤ j ∧ (j : Int) < ts.length := by omega
      clear e0 e1 e2 e3 e4 rk HK
      cases hv : vB n ts[j] with
      | true =>
        rw [hv] at HC
        go_wp2_with fail
        refine HC.out.mono ?_
        rintro e w2 ⟨rfl, b2⟩
        have B2 := BA.trans (b2.mono BA.size)
        go_wp2_with fail
        refine ⟨⟨j + 1, by go_num, by omega, fun k hk hkj => ?_, B2⟩, by simp [intOf]; omega⟩
        by_cases e : k = j
        · subst e; exact hv
        · exact hall'.out k hk (by omega)
      | false =>
        rw [hv] at HC
        clear hv
        go_wp2_with fail
        refine HC.out.mono ?_
        rintro e w2 ⟨rfl, b2⟩
        have B2 := BA.trans (b2.mono BA.size)
        go_wp2_with fail
        go_ret
        exact ⟨rfl, B2⟩
    · exfalso
      obtain ⟨t, ht, hvt⟩ := HB.out
      obtain ⟨k, hk, rfl⟩ := List.getElem_of_mem ht
      rw [hall'.out k hk (by omega)] at hvt
      cases hvt

/-- A row of cells. -/
def Cl (w : World) (a : Option Addr) (xs : List Value) : Prop := ∀ (i : Nat) (u : Value), xs[i]? = some u → ∃ g, a = some ⟨g, 0, none⟩ ∧ w.cell? ⟨g, i, none⟩ = some u
theorem Cl.below {w w' : World} {a : Option Addr} {xs : List Value} (h : Cl w a xs) (hb : Below w.heap.size w w') : Cl w' a xs := fun i u hu => by
  obtain ⟨g, h1, h2⟩ := h i u hu
  exact ⟨g, h1, (hb.cell (p := ⟨g, i, none⟩) (World.block_lt_of_cell? w _ h2)).trans h2⟩
theorem cl_of_own {w : World} {base : Nat} {e : TypeId} {size : Nat} {v : Value} {n : Nat} {xs : List Value} (h : w.ownsRow base e size v n xs) : ∃ a c, v = .slice a n c ∧ Cl w a xs := by
  rcases h.2 with ⟨e, e0⟩ | ⟨g, cap, cur, e1, -⟩
  · refine ⟨none, 0, by rw [e, e0], fun i u hu => ?_⟩
    have hl := h.1
    rw [e0, Nat.zero_mul] at hl
    rw [List.length_eq_zero_iff.1 hl] at hu
    simp at hu
  · refine ⟨_, cap, e1, fun i u hu => ⟨g, rfl, ?_⟩⟩
    have := h.cells (g := g) (by rw [e1]; rfl) i u hu
    have hadd : (⟨g, 0, none⟩ : Addr).add i = ⟨g, i, none⟩ := by unfold Addr.add; split <;> simp_all
    rwa [hadd] at this

/-- The contract of Group, at trees of depth 16. -/
def GrOf (F : Nat) (K : List (Tr 16) → Bool) (P : List (Tr 16) → List Value) : Prop := ∀ (us : List (Tr 16)) (ad : Option Addr) (cap : Nat) (w : World), us.length ≤ 2199023255551 → (∀ u ∈ us, rgt 16 u = true) → (∀ u ∈ us, (pts 16 u).1 ≤ 4096) → Rl w 16 ad us →
  Calls Tryz.prog F #[.slice ad us.length cap] w fun e w' => (K us = true → ∃ sl, e = .returned (.tuple #[sl, .int .i64 0]) ∧ w'.ownsRow w.heap.size 3 1 sl us.length (P us)) ∧ (K us = false → e = .returned (.tuple #[.slice none 0 0, .int .i64 11])) ∧ Below w.heap.size w w'

set_option maxRecDepth 100000 in
set_option maxHeartbeats 2000000 in
theorem areKeys_yes (n : Nat) (hV : VaOf n) (K : List (Tr 16) → Bool) (P : List (Tr 16) → List Value) (A : List (Tr 16) → Nat → Nat) (hA : ∀ us, P us = (List.range us.length).map fun k => .int .i64 (A us k)) (hG : GrOf 34 K P) (ts : List (Tr n)) (us : List (Tr 16)) (hl : us.length = ts.length) (ad : Option Addr) (cap : Nat) (w : World) (hn : ts.length ≤ 2199023255551) (hk : Rl w n ad ts) (hk' : Rl w 16 ad us) (hr : ∀ u ∈ us, rgt 16 u = true) (hp : ∀ u ∈ us, (pts 16 u).1 ≤ 4096) (hT : Tab14 w) (hgood : ∀ t ∈ ts, vB n t = true) :
    Calls Tryz.prog 20 #[.slice ad ts.length cap] w fun e w' => e = .returned (.bool (K us && decide (∀ k, k < us.length → A us k = k))) ∧ Below w.heap.size w w' := by
  have HK := Lib.hid hk
  have HT := Lib.hid hT
  have HV := Lib.hid hV
  have HG : Hid (∀ wx, Below w.heap.size w wx → Calls Tryz.prog 34 #[.slice ad ts.length cap] wx fun e w' => (K us = true → ∃ sl, e = .returned (.tuple #[sl, .int .i64 0]) ∧ w'.ownsRow wx.heap.size 3 1 sl us.length (P us)) ∧ (K us = false → e = .returned (.tuple #[.slice none 0 0, .int .i64 11])) ∧ Below wx.heap.size wx w') := fun wx hb => by
    have := hG us ad cap wx (by omega) hr hp (hk'.below hb)
    rw [hl] at this
    rw [hl]
    exact this
  have HD := Lib.hid hgood
  clear hk hgood hT hV hG hk' hr hp
  go_enter Tryz.func20, Tryz.ntmps20
  go_wp2_with fail
  go_loopw [11] (fun si wr => ∃ (j : Nat), si = .int .i64 j ∧ j ≤ ts.length ∧ Below w.heap.size w wr) (fun si _ => ts.length - (intOf si).toNat)
  case atStart => exact ⟨0, rfl, Nat.zero_le _, Below.refl _ _⟩
  case round =>
    obtain ⟨j, rfl, hj, g1⟩ := hrel
    by_cases hlt : j < ts.length
    · obtain ⟨g, o, u0, u1, u2, u3, a4, n4, c4, rfl, hg, e0, e1, e2, e3, e4, rk⟩ := HK.out.at hlt
      have y0 := (g1.cell (p := ⟨g, o + j * 5, none⟩) hg).trans e0
      have y1 := (g1.cell (p := ⟨g, o + j * 5 + 1, none⟩) hg).trans e1
      have y2 := (g1.cell (p := ⟨g, o + j * 5 + 2, none⟩) hg).trans e2
      have y3 := (g1.cell (p := ⟨g, o + j * 5 + 3, none⟩) hg).trans e3
      have y4 := (g1.cell (p := ⟨g, o + j * 5 + 4, none⟩) hg).trans e4
      have bA := below1 wr (.cells #[.int .i64 u0, .int .i64 u1, .int .u64 u2, .string u3, .slice a4 n4 c4] 25)
      have BA := g1.trans (bA.mono g1.size)
      have HC := Lib.hid (HV.out ts[j] _ _ _ _ _ _ (Rep.below BA n _ _ rk) (HT.out.below BA))
      rw [HD.out _ (List.getElem_mem hlt)] at HC
      have hjl : (0 : Int) ≤ j ∧ (j : Int) < ts.length := by omega
      clear e0 e1 e2 e3 e4 rk HK HG
      go_wp2_with fail
      refine HC.out.mono ?_
      rintro e w2 ⟨rfl, b2⟩
      have B2 := BA.trans (b2.mono BA.size)
      go_wp2_with fail
      exact ⟨⟨j + 1, by go_num, by omega, B2⟩, by simp [intOf]; omega⟩
    · have hje : j = ts.length := by omega
      subst hje
      clear HK HV HD hlt
      go_wp2_with fail
      refine (HG.out _ g1).mono ?_
      rintro e w2 ⟨h1, h2, b2⟩
      have B2 := g1.trans (b2.mono g1.size)
      cases hK : K us with
      | false =>
        obtain rfl := h2 hK
        clear h1 h2 HG
        go_wp2_with fail
        go_loopw [26] (fun si wr => si = .int .i64 0 ∧ wr = w2) (fun _ _ => 0)
        case atStart => exact ⟨rfl, rfl⟩
        case round =>
          obtain ⟨rfl, rfl⟩ := hrel
          go_wp2_with fail
          go_ret
          exact ⟨ret_b (by rw [hK]; rfl), B2⟩
      | true =>
        obtain ⟨sl, rfl, own⟩ := h1 hK
        obtain ⟨a, c, rfl, hcl⟩ := cl_of_own own
        clear h1 h2 HG own
        have HL : Hid (∀ k, k < us.length → ∃ g, a = some ⟨g, 0, none⟩ ∧ w2.cell? ⟨g, k, none⟩ = some (.int .i64 (A us k))) := fun k hk => hcl k _ (by rw [hA]; simp [hk])
        clear hcl
        go_wp2_with fail
        go_loopw [26] (fun si wr => ∃ j : Nat, si = .int .i64 j ∧ j ≤ us.length ∧ (∀ k, k < j → A us k = k) ∧ wr = w2) (fun si _ => us.length - (intOf si).toNat)
        case atStart => exact ⟨0, rfl, Nat.zero_le _, fun k hk => absurd hk (Nat.not_lt_zero _), rfl⟩
        case round =>
          obtain ⟨j, rfl, hj, hall, rfl⟩ := hrel
          have hall' := Lib.hid hall
          clear hall
          by_cases hlt : j < us.length
          · obtain ⟨g, rfl, cg⟩ := HL.out j hlt
            have hjl : (0 : Int) ≤ j ∧ (j : Int) < us.length := by omega
            by_cases hE : A us j = j
            · rw [hE] at cg
              have hE' := Lib.hid hE
              clear hE
              go_wp2_with fail
              refine ⟨⟨j + 1, by go_num, by omega, fun k hk => ?_, by trivial⟩, by simp [intOf]; omega⟩
              by_cases e : k = j
              · subst e; exact hE'.out
              · exact hall'.out k (by omega)
            · have hE2 : ((A us j : Int) != (j : Int)) = true := by simp; omega
              have hE3 : ¬ ((A us j : Int) = (j : Int)) := by omega
              have hR : decide (∀ k, k < us.length → A us k = k) = false := by simp; exact ⟨j, hlt, hE⟩
              have hR' := Lib.hid hR
              have hE' := Lib.hid hE
              clear hR hE
              go_wp2_with fail
              go_ret
              exact ⟨ret_b (by rw [hK, hR'.out]; rfl), B2⟩
          · have hR : decide (∀ k, k < us.length → A us k = k) = true := by simp; exact fun k hk => hall'.out k (by omega)
            have hR' := Lib.hid hR
            clear hR
            have hje : j = us.length := by omega
            subst hje
            go_wp2_with fail
            go_ret
            exact ⟨ret_b (by rw [hK, hR'.out]; rfl), B2⟩
end Go.Proofs.YtgijdiplhcoojaaGreatDoor.Dt
/- The tree of a saved state, and how it lies in memory; a tree is the same as itself; no condition but those that each theorem names. -/
namespace Go.Proofs.YtgijdiplhcoojaaGreatDoor.Dt
open Go.RowKit

theorem smL_refl {T : Type} (c : T → T → Bool) : ∀ (ks : List T), (∀ t ∈ ks, c t t = true) → smL c ks ks = true
  | [], _ => rfl
  | t :: ts, h => by
    simp only [smL]
    rw [h t (by simp), smL_refl c ts fun x hx => h x (by simp [hx])]
    rfl
theorem sm_refl : ∀ (n : Nat) (t : Tr n), sm n n t t = true
  | 0, t => t.elim
  | n + 1, t => by
    simp only [sm]
    rw [smL_refl _ t.ks fun x _ => sm_refl n x]
    simp

/-- A tree without parts. -/
def leafT (n : Nat) (k i : Int) : Tr (n + 1) := ((k, i, 0, ⟨#[]⟩, []) : Int × Int × Int × ByteArray × List (Tr n))
def nodeT (n : Nat) (k : Int) (ks : List (Tr n)) : Tr (n + 1) := ((k, 0, 0, ⟨#[]⟩, ks) : Int × Int × Int × ByteArray × List (Tr n))
/-- The tree of a saved state. -/
def savT (cn ac un x : Int) (l : Tr 17) (us : List (Tr 16)) : Tr 19 :=
  nodeT 18 9 [nodeT 17 8 [leafT 16 1 cn, leafT 16 1 ac, leafT 16 1 un, leafT 16 6 x], nodeT 17 9 [l, nodeT 16 8 us]]

theorem leaf_rep (w : World) (n : Nat) (k i : Int) : Rep w (n + 1) [.int .i64 k, .int .i64 i, .int .u64 0, .string ⟨#[]⟩, .slice none 0 0] (leafT n k i) :=
  ⟨none, 0, rfl, Nat.zero_le _, Nat.le_refl _, Nat.zero_le _, .inl rfl⟩
theorem node_rep {w : World} {n : Nat} {k : Int} {ks : List (Tr n)} {a : Option Addr} {c : Nat} (h1 : ks.length ≤ c) (h2 : c ≤ maxLen) (h : Rl w n a ks) : Rep w (n + 1) [.int .i64 k, .int .i64 0, .int .u64 0, .string ⟨#[]⟩, .slice a ks.length c] (nodeT n k ks) :=
  ⟨a, c, rfl, Nat.zero_le _, h1, h2, h⟩
theorem rl_two {w : World} {n g : Nat} {v0 v1 v2 v3 v4 x0 x1 x2 x3 x4 : Value} {s t : Tr n} (h : Bk w g #[v0, v1, v2, v3, v4, x0, x1, x2, x3, x4] 25) (hs : Rep w n [v0, v1, v2, v3, v4] s) (ht : Rep w n [x0, x1, x2, x3, x4] t) : Rl w n (some ⟨g, 0, none⟩) [s, t] := by
  refine .inr ⟨g, 0, rfl, fun j t' hj => ?_⟩
  match j, hj with
  | 0, hj =>
    obtain rfl : s = t' := by simpa using hj
    exact ⟨v0, v1, v2, v3, v4, h.c 0, h.c 1, h.c 2, h.c 3, h.c 4, hs⟩
  | 1, hj =>
    obtain rfl : t = t' := by simpa using hj
    exact ⟨x0, x1, x2, x3, x4, h.c 5, h.c 6, h.c 7, h.c 8, h.c 9, ht⟩
  | j + 2, hj => simp at hj
theorem rl_nums {w : World} {g : Nat} {cn ac un x : Int} (h : Bk w g (nums cn ac un x) 25) : Rl w 17 (some ⟨g, 0, none⟩) [leafT 16 1 cn, leafT 16 1 ac, leafT 16 1 un, leafT 16 6 x] := by
  refine .inr ⟨g, 0, rfl, fun j t' hj => ?_⟩
  match j, hj with
  | 0, hj =>
    obtain rfl : leafT 16 1 cn = t' := by simpa using hj
    exact ⟨_, _, _, _, _, h.c 0, h.c 1, h.c 2, h.c 3, h.c 4, leaf_rep w 16 1 cn⟩
  | 1, hj =>
    obtain rfl : leafT 16 1 ac = t' := by simpa using hj
    exact ⟨_, _, _, _, _, h.c 5, h.c 6, h.c 7, h.c 8, h.c 9, leaf_rep w 16 1 ac⟩
  | 2, hj =>
    obtain rfl : leafT 16 1 un = t' := by simpa using hj
    exact ⟨_, _, _, _, _, h.c 10, h.c 11, h.c 12, h.c 13, h.c 14, leaf_rep w 16 1 un⟩
  | 3, hj =>
    obtain rfl : leafT 16 6 x = t' := by simpa using hj
    exact ⟨_, _, _, _, _, h.c 15, h.c 16, h.c 17, h.c 18, h.c 19, leaf_rep w 16 6 x⟩
  | j + 4, hj => simp at hj
theorem savT_rep {w : World} {gP g4 g2 : Nat} {cn ac un x k i u : Int} {s : ByteArray} {a : Option Addr} {n c : Nat} {a' : Option Addr} {c' : Nat} {l : Tr 17} {us : List (Tr 16)}
    (hP : Bk w gP #[.int .i64 8, .int .i64 0, .int .u64 0, .string ⟨#[]⟩, .slice (some ⟨g4, 0, none⟩) 4 4, .int .i64 9, .int .i64 0, .int .u64 0, .string ⟨#[]⟩, .slice (some ⟨g2, 0, none⟩) 2 2] 25) (h4 : Bk w g4 (nums cn ac un x) 25)
    (h2 : Bk w g2 #[.int .i64 k, .int .i64 i, .int .u64 u, .string s, .slice a n c, .int .i64 8, .int .i64 0, .int .u64 0, .string ⟨#[]⟩, .slice a' us.length c'] 25) (hl : Rep w 17 [.int .i64 k, .int .i64 i, .int .u64 u, .string s, .slice a n c] l) (hu : Rl w 16 a' us) (hc : us.length ≤ c' ∧ c' ≤ maxLen) :
    Rep w 19 [.int .i64 9, .int .i64 0, .int .u64 0, .string ⟨#[]⟩, .slice (some ⟨gP, 0, none⟩) 2 2] (savT cn ac un x l us) := by
  have d4 : (4 : Nat) ≤ maxLen := by decide
  have d2 : (2 : Nat) ≤ maxLen := by decide
  have r4 : Rep w 18 [.int .i64 8, .int .i64 0, .int .u64 0, .string ⟨#[]⟩, .slice (some ⟨g4, 0, none⟩) 4 4] (nodeT 17 8 [leafT 16 1 cn, leafT 16 1 ac, leafT 16 1 un, leafT 16 6 x]) := node_rep (ks := [leafT 16 1 cn, leafT 16 1 ac, leafT 16 1 un, leafT 16 6 x]) (Nat.le_refl _) d4 (rl_nums h4)
  have rl : Rep w 17 [.int .i64 8, .int .i64 0, .int .u64 0, .string ⟨#[]⟩, .slice a' us.length c'] (nodeT 16 8 us) := node_rep hc.1 hc.2 hu
  have r2 : Rep w 18 [.int .i64 9, .int .i64 0, .int .u64 0, .string ⟨#[]⟩, .slice (some ⟨g2, 0, none⟩) 2 2] (nodeT 17 9 [l, nodeT 16 8 us]) := node_rep (ks := [l, nodeT 16 8 us]) (Nat.le_refl _) d2 (rl_two h2 hl rl)
  exact node_rep (ks := [_, _]) (Nat.le_refl _) d2 (rl_two hP r4 r2)
end Go.Proofs.YtgijdiplhcoojaaGreatDoor.Dt
