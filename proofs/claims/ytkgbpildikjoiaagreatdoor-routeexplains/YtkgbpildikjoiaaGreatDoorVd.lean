/- The document's Handlers, walked; the conditions that each theorem names. -/
import Derived.Test.YtkgbpildikjoiaaGreatDoorVc
namespace Go.Proofs.YtkgbpildikjoiaaGreatDoor
open Go.RowKit Tp

/-- A row that a call owns, read at a place, in any world that has its block as it was. -/
theorem own_at {w : World} {base : Nat} {e : TypeId} {v : Value} {n : Nat} {xs : List Value} (h : w.ownsRow base e 1 v n xs) (hn : 0 < n) : ∃ g c, v = .slice (some ⟨g, 0, none⟩) n c ∧ base ≤ g ∧ g < w.heap.size ∧ ∀ w' : World, w'.heap[g]? = w.heap[g]? → ∀ (j : Nat) u, xs[j]? = some u → w'.cell? ⟨g, j, none⟩ = some u := by
  obtain ⟨hl, ⟨rfl, rfl⟩ | ⟨g, cap, cur, rfl, hb, hh, hc, hm, hs, ht⟩⟩ := h
  · omega
  · refine ⟨g, cap, rfl, hb, (Array.getElem?_eq_some_iff.1 hh).1, fun w' hw j u hu => ?_⟩
    rw [← ht, List.getElem?_take] at hu
    split at hu
    · rw [hh] at hw
      simp only [World.cell?, hw]
      rw [Array.getElem?_toList] at hu
      exact hu
    · cases hu

/-- Each number once, where it comes first. -/
def ded : List Int → List Int → List Int
  | out, [] => out
  | out, h :: r => if h ∈ out then ded out r else ded (out ++ [h]) r
theorem ded_app : ∀ (l m out : List Int), ded out (l ++ m) = ded (ded out l) m
  | [], m, out => rfl
  | h :: r, m, out => by
    simp only [List.cons_append, ded]
    split <;> exact ded_app r m _
theorem ded_len : ∀ (l out : List Int), (ded out l).length ≤ out.length + l.length
  | [], out => Nat.le_refl _
  | h :: r, out => by
    simp only [ded]
    split
    · have := ded_len r out; simp; omega
    · have := ded_len r (out ++ [h]); simp at this ⊢; omega
/-- The handler of the route at a place. -/
def hof (L : List Ro) (i : Nat) : Int := (L[i]?.map Ro.h).getD 0
def hdl (tp : Bs) (k : Int) (L : List Ro) : List Int := ded [] ((tkR tp k L).map (hof L))
abbrev iv (l : List Int) : List Value := l.map (Value.int .i64)
theorem tk_len (tp : Bs) (k : Int) (L : List Ro) : (tkR tp k L).length ≤ L.length := by
  unfold tkR; split <;> exact fn_len _ _ _ _
theorem tk_lt (tp : Bs) (k : Int) (L : List Ro) (i : Nat) (h : i ∈ tkR tp k L) : ∃ x, L[i]? = some x := by
  unfold tkR fn at h
  split at h <;> (obtain ⟨-, x, hx, -⟩ := (fnd_in _ _ _ _).1 h; exact ⟨x, by simpa using hx⟩)
theorem ded_take (L : List Ro) (T : List Nat) (q i : Nat) (x : Ro) (hq : T[q]? = some i) (hx : L[i]? = some x) : ded [] ((T.take (q + 1)).map (hof L)) = if x.h ∈ ded [] ((T.take q).map (hof L)) then ded [] ((T.take q).map (hof L)) else ded [] ((T.take q).map (hof L)) ++ [x.h] := by
  rw [List.take_add_one, hq, List.map_append, ded_app]
  simp [ded, hof, hx]

set_option maxRecDepth 100000 in
set_option maxHeartbeats 4000000 in
theorem rhandlers_any (L : List Ro) (ad : Option Addr) (cap : Nat) (m : Mg) (w : World) (h : Rs w ad L) (hl : L.length ≤ 400) (hk : ∀ x ∈ L, x.ok = true) (hkk : 0 ≤ m.k ∧ m.k ≤ 13) (hmt : m.tp.size ≤ 9223372036854775807) (hT : Tabs w) :
    Calls Tryz.prog 13 #[.slice ad L.length cap, .agg m.cs] w fun e w' => ∃ sv, e = .returned sv ∧ w'.ownsRow w.heap.size 3 1 sv (hdl (tl m.tp) m.k L).length (iv (hdl (tl m.tp) m.k L)) ∧ Below w.heap.size w w' := by
  obtain ⟨i0, hi0, hz0, hz1, hz2⟩ := info_parts infoInt
  have b0 := below1 w (.cells m.cs 28)
  have n0 := Bk.new w m.cs 28
  obtain ⟨w0, hw0⟩ : ∃ w0, w0 = w.alloc (.cells m.cs 28) := ⟨_, rfl⟩
  rw [← hw0] at b0 n0
  have HW := Lib.hid hw0.symm
  have z0 : w0.heap.size = w.heap.size + 1 := by rw [hw0]; simp
  have KF := Lib.hid (rfind_any L ad cap m w0 (h.below b0) hl hk hkk hmt (hT.below b0))
  have HS := Lib.hid h
  obtain ⟨m0, m1, m2, m3, m4, m5, m6, m7, m8, m9, m10, m11, m12⟩ := n0.c13
  have hTl := tk_len (tl m.tp) m.k L
  have HTL := Lib.hid (tk_lt (tl m.tp) m.k L)
  obtain ⟨T, hTT⟩ : ∃ T, T = tkR (tl m.tp) m.k L := ⟨_, rfl⟩
  have hhd : hdl (tl m.tp) m.k L = ded [] (T.map (hof L)) := by rw [hTT]; rfl
  rw [hhd]
  rw [← hTT] at KF hTl HTL
  clear h hk hkk hmt hT hw0 n0 hTT hhd
  go_enter Tryz.func13, Tryz.ntmps13
  go_wp2_with (rw [HW.out])
  refine KF.out.mono ?_
  rintro e w1 ⟨sv, rfl, hown, b1⟩
  have B1 : Below w.heap.size w w1 := b0.trans (b1.mono (by omega))
  clear m0 m1 m2 m3 m4 m5 m6 m7 m8 m9 m10 m11 m12
  obtain ⟨ta, tc, rfl⟩ := row_form hown
  have hfd : ∀ (v0 v1 : Value) (w : World), (Instr.field 33 (.agg #[v0, v1]) 0).run Tryz.prog w = .ok v0 w := fun _ _ _ => by kernel_rfl
  have HO := Lib.hid hown
  clear hown KF
  go_wp2_with (rw [hfd])
  clear hfd
  go_loopg [5, 16] T.length (fun g s5 s16 wx => ∃ (q : Nat) (O : List Int), q + g = T.length ∧ s16 = .int .i64 q ∧ O = ded [] ((T.take q).map (hof L)) ∧ wx.ownsRow w1.heap.size 3 1 s5 O.length (iv O) ∧ Below w1.heap.size w1 wx)
  case atStart => exact ⟨0, [], by omega, rfl, rfl, World.ownsRow_nil _ _ _ _, Below.refl _ _⟩
  case round =>
    obtain ⟨q, O, hqg, rfl, hOe, hO, hB⟩ := hrel
    have HE := Lib.hid hOe
    clear hOe
    have HO2 := Lib.hid hO
    obtain ⟨oa, oc, rfl⟩ := row_form hO
    clear hO
    cases gk with
    | zero =>
      obtain rfl : q = T.length := by omega
      go_wp2
      go_ret
      refine ⟨_, rfl, ?_, B1.trans (hB.mono B1.size)⟩
      have hOT : O = ded [] (T.map (hof L)) := by have := HE.out; rwa [List.take_length] at this
      rw [← hOT]
      exact World.ownsRow.mono HO2.out B1.size
    | succ gq =>
      have hq : q < T.length := by omega
      obtain ⟨i, hi⟩ : ∃ i, T[q]? = some i := ⟨_, List.getElem?_eq_getElem hq⟩
      obtain ⟨x, hx⟩ := HTL.out i (List.mem_of_getElem? hi)
      have hdt := ded_take L T q i x hi hx
      have HDT := Lib.hid hdt
      clear hdt
      have hil : i < L.length := (List.getElem?_eq_some_iff.1 hx).1
      obtain ⟨gT, cT, eT, hgT, hgl, hcT⟩ := own_at HO.out (by omega)
      simp only [Value.slice.injEq] at eT
      obtain ⟨rfl, -, rfl⟩ := eT
      have tq := hcT wr (hB.block gT hgl) q (.int .i64 i) (by simp [hi])
      obtain ⟨b, of, rfl, cc, -, -⟩ := ((HS.out.below B1).below hB).at i x hx
      obtain ⟨f, n, t, o, a, wd, wl, wc, hh, xe⟩ := x
      obtain ⟨-, -, -, -, c4, -⟩ := cc
      simp only at c4 HDT
      rw [← HE.out] at HDT
      have hOl : O.length ≤ 400 := by
        rw [HE.out]
        have := ded_len ((T.take q).map (hof L)) []
        simp only [List.length_nil, List.length_map, List.length_take] at this
        omega
      clear hi hx hcT HE
      have hq' : ((q : Nat) : Int) < (T.length : Int) := by omega
      have hil' : ((i : Nat) : Int) < (L.length : Int) := by omega
      have hi0' : (0 : Int) ≤ (i : Int) := by omega
      have hql := hB.size
      go_wp2
      go_loopg [8, 22] O.length (fun g s8 s22 wy => ∃ c : Nat, c + g = O.length ∧ s22 = .int .i64 c ∧ s8 = .bool (decide (hh ∈ O.take c)) ∧ wy = wr)
      case atStart => exact ⟨0, by omega, rfl, by simp, rfl⟩
      case round =>
        obtain ⟨c, hcg, rfl, rfl, rfl⟩ := hrel
        cases gk with
        | zero =>
          obtain rfl : c = O.length := by omega
          rw [List.take_length]
          by_cases hm : hh ∈ O
          · have hdm : decide (hh ∈ O) = true := decide_eq_true hm
            have HM := Lib.hid hm
            clear hm
            rw [hdm]
            clear hdm
            go_wp2
            go_roundg gq
            case measure => omega
            case rel => exact ⟨q + 1, O, by omega, by simp, by rw [HDT.out, if_pos HM.out], HO2.out, hB⟩
          · have hdm : decide (hh ∈ O) = false := decide_eq_false hm
            have HM := Lib.hid hm
            clear hm
            rw [hdm]
            clear hdm
            have hown := HO2.out
            go_wp2_with (at_builtin; refine wpList_append_own _ rfl _ _ 31 rfl w1.heap.size 3 i0 (.int .i64 0) 1 8 Tryz.underlying31 hi0 hz0 hz1 hz2 rfl (by decide) _ _ _ rfl (hown.alloc _) ⟨wr.heap.size, 0, none⟩ 1 1 [.int .i64 hh] rfl rfl (cell_one_new _ _ _) (by intro u hu; simp at hu; subst hu; rfl) (by unfold maxLen; omega) (by omega) (by simp; omega) ?_; intro v1 w5 hown5 hgrow5 hnil5)
            go_roundg gq
            case measure => omega
            case rel =>
              refine ⟨q + 1, O ++ [hh], by omega, by simp, by rw [HDT.out, if_neg HM.out], ?_, ?_⟩
              · simpa using hown5
              · exact below_grown (hB.alloc hB.size _) hgrow5 (hown.alloc _) (Nat.le_refl _)
        | succ gc =>
          have hc : c < O.length := by omega
          obtain ⟨y, hy⟩ : ∃ y, O[c]? = some y := ⟨_, List.getElem?_eq_getElem hc⟩
          obtain ⟨gO, cO, eO, hgO, hgOl, hcO⟩ := own_at HO2.out (by omega)
          simp only [Value.slice.injEq] at eO
          obtain ⟨rfl, -, rfl⟩ := eO
          have oq := hcO wr rfl c (.int .i64 y) (by simp [hy])
          have hc' : ((c : Nat) : Int) < (O.length : Int) := by omega
          have htk : (decide (hh ∈ O.take (c + 1))) = (decide (hh ∈ O.take c) || (y == hh)) := by
            rw [List.take_add_one, hy]
            simp only [Option.toList, List.mem_append, List.mem_singleton]
            by_cases h1 : hh ∈ O.take c
            · simp [h1]
            · by_cases h2 : y = hh
              · subst h2; simp
              · have h3 : ¬ hh = y := fun e => h2 e.symm
                simp [h1, h2, h3]
          have HK := Lib.hid htk
          clear htk hy hcO
          cases hd : decide (hh ∈ O.take c) with
          | true =>
            rw [hd] at HK
            clear hd
            go_wp2
            go_roundg gc
            case measure => omega
            case rel => exact ⟨c + 1, by omega, by simp, by rw [HK.out]; rfl, rfl⟩
          | false =>
            rw [hd] at HK
            clear hd
            cases he : (y == hh) with
            | true =>
              rw [he] at HK
              go_wp2
              go_roundg gc
              case measure => omega
              case rel => exact ⟨c + 1, by omega, by simp, by rw [HK.out]; rfl, rfl⟩
            | false =>
              rw [he] at HK
              go_wp2
              go_roundg gc
              case measure => omega
              case rel => exact ⟨c + 1, by omega, by simp, by rw [HK.out]; rfl, rfl⟩
end Go.Proofs.YtkgbpildikjoiaaGreatDoor
