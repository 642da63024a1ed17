/- levels of the package: a row of the levels' values, in new memory; what is asked of the world: the wrappers where they are told to lie. -/
import Derived.Test.YtcbplamomhimiaaDoorUt
import Derived.Deep.RegionLaw
namespace Go.Proofs.YtcbplamomhimiaaDoor
open Go.RowKit

/-- A wrapper with all that lies beside what counts here. -/
structure Wq where
  x : Wr
  A : Int
  B : Int
  w0 : Int
  w1 : Int
  wa : Option Addr
  wl : Nat
  wc : Nat
def Wq.cs (q : Wq) : Array Value := wcs q.x q.A q.B q.w0 q.w1 q.wa q.wl q.wc
/-- The wrappers of a chain in memory. -/
def WRow (W : World) (ad : Option Addr) (qs : List Wq) : Prop := qs = [] ∨ ∃ g o, ad = some ⟨g, o, none⟩ ∧ g < W.heap.size ∧ ∀ (j : Nat) q, qs[j]? = some q → ∀ i, i < 8 → W.cell? ⟨g, o + j * 8 + i, none⟩ = q.cs[i]?
theorem WRow.below {W W' : World} {ad : Option Addr} {qs : List Wq} (h : WRow W ad qs) (hB : Below W.heap.size W W') : WRow W' ad qs := by
  rcases h with h | ⟨g, o, h1, h2, h3⟩
  · exact .inl h
  · exact .inr ⟨g, o, h1, Nat.lt_of_lt_of_le h2 hB.size, fun j q hq i hi => (hB.cell (p := ⟨g, _, none⟩) h2).trans (h3 j q hq i hi)⟩
/-- The first j wrappers, the outermost one first. -/
def rv (qs : List Wq) (j : Nat) : List Wr := ((qs.take j).map (·.x)).reverse
theorem rv_zero (qs : List Wq) : rv qs 0 = [] := rfl
theorem rv_succ (qs : List Wq) (j : Nat) (h : j < qs.length) : rv qs (j + 1) = qs[j].x :: rv qs j := by
  unfold rv; rw [List.take_succ_eq_append_getElem h, List.map_append, List.reverse_append]; rfl
theorem rv_len (qs : List Wq) (j : Nat) (h : j ≤ qs.length) : (rv qs j).length = j := by unfold rv; simp; omega
theorem rv_mem (qs : List Wq) (j : Nat) (x : Wr) (h : x ∈ rv qs j) : ∃ q ∈ qs, q.x = x := by
  unfold rv at h
  rw [List.mem_reverse, List.mem_map] at h
  obtain ⟨q, hq, rfl⟩ := h
  exact ⟨q, List.mem_of_mem_take hq, rfl⟩
def lrow (c : Nat) (qs : List Wq) (j : Nat) : List Value := (List.range j).map fun i => lev c (rv qs i)
theorem lrow_succ (c : Nat) (qs : List Wq) (j : Nat) : lrow c qs (j + 1) = lrow c qs j ++ [lev c (rv qs j)] := by unfold lrow; rw [List.range_succ, List.map_append]; rfl
theorem lrow_len (c : Nat) (qs : List Wq) (j : Nat) : (lrow c qs j).length = j := by unfold lrow; simp
theorem lrow_at (c : Nat) (qs : List Wq) (n j : Nat) (h : j < n) : (lrow c qs n)[j]? = some (lev c (rv qs j)) := by unfold lrow; simp [h]
theorem infoLev : (Tryd.prog.info? 54).map (fun i => (i.zero, i.size, i.bytes)) = some (some .nilIface, 1, 16) := by kernel_rfl
theorem own_cell {w : World} {base : Nat} {e : TypeId} {g n cap : Nat} {xs : List Value} (h : w.ownsRow base e 1 (.slice (some ⟨g, 0, none⟩) n cap) n xs) (j : Nat) (u : Value) (hj : xs[j]? = some u) : w.cell? ⟨g, j, none⟩ = some u := by
  obtain ⟨h0, (⟨h1, _⟩ | ⟨g', c, cur, h1, h2, h3, h4, h5, h6, h7⟩)⟩ := h
  · cases h1
  · injection h1 with e1 e2 e3
    injection e1 with e1
    injection e1 with e1
    subst e1
    rw [cell_at h3 j, ← Array.getElem?_toList]
    have hjl : j < xs.length := (List.getElem?_eq_some_iff.1 hj).1
    have := congrArg (·[j]?) h7
    simp only [hj, Nat.mul_one] at this
    rw [List.getElem?_take_of_lt (by omega)] at this
    exact this
theorem own_new {w : World} (base : Nat) (e : TypeId) (u : Value) (H : Nat) (hH : w.heap.size = H) (hb : base ≤ H) : (w.alloc (.cells #[u] e)).ownsRow base e 1 (.slice (some ⟨H, 0, none⟩) 1 1) 1 [u] := by
  subst hH
  exact ⟨rfl, .inr ⟨w.heap.size, 1, #[u], rfl, hb, heap_alloc_new w _, Nat.le_refl _, by unfold maxLen; omega, rfl, rfl⟩⟩

theorem own_base {w : World} {base : Nat} {e : TypeId} {size : Nat} {v : Value} {n : Nat} {xs : List Value} (h : w.ownsRow base e size v n xs) : ∀ k, v.ownBlock = some k → base ≤ k := by
  intro k hk
  rcases h.2 with ⟨h, _⟩ | ⟨g, c, cur, h1, h2, h3⟩
  · subst h; cases hk
  · subst h1; simp [Value.ownBlock] at hk; omega
theorem own_kept {w w' : World} {base : Nat} {e : TypeId} {size : Nat} {v : Value} {n : Nat} {xs : List Value} (h : w.ownsRow base e size v n xs) (hb : Below w.heap.size w w') : w'.ownsRow base e size v n xs := by
  refine ⟨h.1, ?_⟩
  rcases h.2 with h | ⟨g, c, cur, h1, h2, h3, h4⟩
  · exact .inl h
  · exact .inr ⟨g, c, cur, h1, h2, (hb.block g (Array.getElem?_eq_some_iff.1 h3).1).trans h3, h4⟩
set_option maxRecDepth 100000 in
set_option maxHeartbeats 4000000 in
theorem levels_any (op num : Int) (c : Nat) (qs : List Wq) (ad : Option Addr) (cap : Nat) (w : World) (hq : ∀ q ∈ qs, okr q.x) (hl : qs.length ≤ 60) (hR : WRow w ad qs) :
    Calls Tryd.prog 33 #[.agg #[.int .i64 op, .int .i64 num, .int .u32 (c : Nat), .slice ad qs.length cap]] w fun e w' => ∃ g cp, e = .returned (.slice (some ⟨g, 0, none⟩) (qs.length + 1) cp) ∧ qs.length + 1 ≤ cp ∧ cp ≤ maxLen ∧
      w'.ownsRow w.heap.size 54 1 (.slice (some ⟨g, 0, none⟩) (qs.length + 1) cp) (qs.length + 1) (lrow c qs (qs.length + 1)) ∧ Below w.heap.size w w' := by
  have hRow := Lib.hid hR
  obtain ⟨i0, hi0, hz0, hz1, hz2⟩ : ∃ i0, Tryd.prog.info? 54 = some i0 ∧ i0.zero = some .nilIface ∧ i0.size = 1 ∧ i0.bytes = 16 := by
    have := infoLev
    cases h : Tryd.prog.info? 54 with
    | none => rw [h] at this; cases this
    | some i0 => rw [h] at this; simp at this; exact ⟨i0, rfl, this.1, this.2.1, this.2.2⟩
  have HI := Lib.hid hi0
  have HZ : Hid (i0.zero = some .nilIface ∧ i0.size = 1 ∧ i0.bytes = 16) := ⟨hz0, hz1, hz2⟩
  clear hi0 hz0 hz1 hz2 hR
  have HQ := Lib.hid hq
  clear hq
  go_enter Tryd.func33, Tryd.ntmps33
  go_wp2
  go_loopw [3, 15] (fun s3 s15 wr => ∃ (j g cp : Nat), s15 = .int .i64 j ∧ j ≤ qs.length ∧ s3 = .slice (some ⟨g, 0, none⟩) (j + 1) cp ∧ wr.ownsRow w.heap.size 54 1 (.slice (some ⟨g, 0, none⟩) (j + 1) cp) (j + 1) (lrow c qs (j + 1)) ∧ Below w.heap.size w wr) (fun _ s15 _ => qs.length - (intOf s15).toNat)
  case atStart => exact ⟨0, _, 1, rfl, Nat.zero_le _, rfl, own_new (w := w.alloc _) w.heap.size _ _ (w.heap.size + 1) (by simp) (by omega), (below1 w _).trans ((below1 _ _).mono (by simp))⟩
  case round =>
    obtain ⟨j, g, cp, rfl, hj, rfl, ho, hb⟩ := hrel
    by_cases hlt : j < qs.length
    · have hne : qs ≠ [] := by intro e; rw [e] at hlt; exact absurd hlt (Nat.not_lt_zero _)
      have hk := hRow.out
      rcases hk with hk | ⟨gw, ow, hk1, hk2, hk3⟩
      · exact absurd hk hne
      subst hk1
      have hk4 := hk3 j _ (List.getElem?_eq_getElem hlt)
      have hok := HQ.out qs[j] (List.getElem_mem hlt)
      have HA : Hid (lev c (rv qs (j + 1)) = aro (lev c (rv qs j)) qs[j].x) := Lib.hid (by rw [rv_succ qs j hlt]; rfl)
      generalize qs[j] = q at hk4 hok HA
      obtain ⟨⟨qo, qc, qn⟩, qA, qB, q0, q1, qa, ql, qcc⟩ := q
      have X : ∀ i, i < 8 → wr.cell? ⟨gw, ow + j * 8 + i, none⟩ = _ := fun i hi => (hb.cell (p := ⟨gw, _, none⟩) hk2).trans (hk4 i hi)
      have x0 : wr.cell? ⟨gw, ow + j * 8, none⟩ = some (.int .i64 qo) := X 0 (by decide)
      have x1 : wr.cell? ⟨gw, ow + j * 8 + 1, none⟩ = some (.int .i64 qA) := X 1 (by decide)
      have x2 : wr.cell? ⟨gw, ow + j * 8 + 2, none⟩ = some (.int .i64 qB) := X 2 (by decide)
      have x3 : wr.cell? ⟨gw, ow + j * 8 + 3, none⟩ = some (.int .u32 (qc : Nat)) := X 3 (by decide)
      have x4 : wr.cell? ⟨gw, ow + j * 8 + 4, none⟩ = some (.int .i64 q0) := X 4 (by decide)
      have x5 : wr.cell? ⟨gw, ow + j * 8 + 5, none⟩ = some (.int .i64 q1) := X 5 (by decide)
      have x6 : wr.cell? ⟨gw, ow + j * 8 + 6, none⟩ = some (.slice qa ql qcc) := X 6 (by decide)
      have x7 : wr.cell? ⟨gw, ow + j * 8 + 7, none⟩ = some (.bool qn) := X 7 (by decide)
      obtain ⟨t, z, ez⟩ := lev_ifc c (rv qs j)
      have lj : wr.cell? ⟨g, j, none⟩ = some (.iface t z) := by rw [← ez]; exact own_cell ho j _ (lrow_at c qs (j + 1) j (by omega))
      rw [ez] at HA
      have hgl : g < wr.heap.size := World.block_lt_of_cell? wr _ lj
      have hcp : j + 1 ≤ cp ∧ cp ≤ 9223372036854775807 := by
        obtain ⟨_, (⟨h1, _⟩ | ⟨g', c', cur, h1, h2, h3, h4, h5, h6, h7⟩)⟩ := ho
        · cases h1
        · injection h1 with e1 e2 e3
          unfold maxLen at h5; omega
      obtain ⟨hcp1, hcp2⟩ := hcp
      have ljA : ∀ o, (wr.alloc o).cell? ⟨g, j, none⟩ = some (.iface t z) := fun o => ((below1 wr o).cell (p := ⟨g, j, none⟩) hgl).trans lj
      have b0 := On.start wr (.cells (wcs ⟨qo, qc, qn⟩ qA qB q0 q1 qa ql qcc) 35)
      have KA : Hid (∀ wx, On wr (.cells (wcs ⟨qo, qc, qn⟩ qA qB q0 q1 qa ql qcc) 35) wx → Calls Tryd.prog 31 #[.iface t z, .agg (wcs ⟨qo, qc, qn⟩ qA qB q0 q1 qa ql qcc)] wx fun e w' => e = .returned (aro (.iface t z) ⟨qo, qc, qn⟩) ∧ On wr (.cells (wcs ⟨qo, qc, qn⟩ qA qB q0 q1 qa ql qcc) 35) w') := fun wx hx' => (around_any t z _ hok qA qB q0 q1 qa ql qcc wx).mono fun e w' ⟨a, b⟩ => ⟨a, hx'.step b⟩
      have HO := Lib.hid ho
      clear hk3 hk4 hok X ho ez
      simp only at HA
      have HA' : Hid (lrow c qs (j + 1 + 1) = lrow c qs (j + 1) ++ [aro (.iface t z) ⟨qo, qc, qn⟩]) := Lib.hid (by rw [lrow_succ, HA.out])
      clear HA
      obtain ⟨ta, za, ea⟩ := aro_ifc (.iface t z) ⟨qo, qc, qn⟩
      rw [ea] at KA HA'
      clear ea
      rw [wcs8] at b0 KA
      have hij : ((j : Nat) : Int) < (j : Int) + 1 := by omega
      go_wp2_with fail
      go_region_law (first
        | (refine step_append_lies _ rfl _ _ 59 rfl w.heap.size 54 i0 .nilIface 1 16 Tryd.underlying59 HI.out HZ.out.1 HZ.out.2.1 HZ.out.2.2 rfl (by decide) (.slice (some ⟨g, 0, none⟩) (j + 1) cp) _ _ rfl (HO3.out.alloc _) ⟨w3.heap.size, 0, none⟩ 1 1 [.iface ta za] rfl rfl (cell_one_new _ _ _) (by simp [Value.oneCell']) (by omega) (by unfold maxLen; omega) (by omega) (by have := hb3.size; simp; omega) _ rfl ?_; intro g4 d4 w4 ho4 hg4 ha4 hl4)
        | (go_simp; go_at_call 31; refine (KA.out _ (by first | exact b0 | exact b0.drew)).mono ?_; rintro e w3 ⟨rfl, b3⟩; have hb3 := hb.trans (b3.below.mono hb.size); have HO3 := Lib.hid (own_kept HO.out b3.below)))
      all_goals go_wp2
      all_goals
        refine ⟨⟨j + 1, g4, d4, by go_num, by omega, rfl, ?_, ?_⟩, by simp [intOf]; omega⟩
        · rw [HA'.out]; exact ho4
        · exact ((hb3.alloc hb3.size _).grown hg4 (by have := hb3.size; simp; omega) (own_base HO.out))
    · have hje : j = qs.length := by omega
      subst hje
      have hcp : qs.length + 1 ≤ cp ∧ cp ≤ maxLen := by
        obtain ⟨_, (⟨h1, _⟩ | ⟨g', c', cur, h1, h2, h3, h4, h5, h6, h7⟩)⟩ := ho
        · cases h1
        · injection h1 with e1 e2 e3
          exact ⟨by omega, by omega⟩
      go_wp2
      go_ret
      exact ⟨g, cp, rfl, hcp.1, hcp.2, ho, hb⟩
end Go.Proofs.YtcbplamomhimiaaDoor
