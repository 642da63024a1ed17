/- The package's variables, read off what the rows lay; an argument of bytes, opened; no condition but those that each theorem names. -/
import Derived.Test.YteohpiamfpnofabDoorRows
import Derived.Test.YteohpiamfpnofabDoorSm
import Derived.Lib.LaidU8T
import Derived.Lib.LaidTab
import Derived.OpenShut
import Derived.ProofKit
namespace Go.Proofs.YteohpiamfpnofabDoor
open Go.ChangeShapes Go.WideShapes Go.ChangeAt Go.WideMaps Go.WideElems Go.RowKit

theorem gW : Tryd.prog.globalNamed "conduit/scan.spelt" = some 0 := by kernel_rfl
theorem tW : (Tryd.prog.globals[0]?).map (·.type) = some 45 := by kernel_rfl
theorem cS : Tryd.prog.cellsOf 9 = 1 := by kernel_rfl
theorem cU : Tryd.prog.cellsOf 5 = 1 := by kernel_rfl
theorem spelt_eq : (Rows.laid_conduit_scan_spelt : DataW Unit) = .agg (spl.map fun x => .lit (.string x)) := rfl
theorem spl_of_reads {W : World} (h : Lib.VarReads Tryd.prog W "conduit/scan.spelt" Rows.laid_conduit_scan_spelt) : Spl W := by
  obtain ⟨g, t, cs, fuel, p, h1, h2, h3, h4⟩ := h
  rw [gW] at h1
  obtain rfl := Option.some.inj h1
  rw [tW] at h2
  obtain rfl := Option.some.inj h2
  rw [spelt_eq] at h4
  have key : ∀ (j : Nat) x, spl[j]? = some x → W.cell? ⟨0, j, none⟩ = some (.string (bs x)) := fun j x hj => by
    have hjl : j < 26 := (List.getElem?_eq_some_iff.1 hj).1
    obtain ⟨fuel', d, q, hd, hf⟩ := Lib.array_elem Tryd.underlying45 h4 j hjl
    rw [cS, Nat.mul_one] at hf
    obtain ⟨s, e1, e2, -⟩ := DataW.trod_string Tryd.underlying9 hf
    rw [List.getElem?_map, hj] at hd
    have hd' : (DataW.lit (.string x) : DataW Unit) = d := by simpa using hd
    have e3 : x = s.data.toList := by
      have e4 := congrArg Prod.fst e2
      rw [← hd'] at e4
      simpa using e4
    have hc := World.var?_cell gW h3 j
    rw [hc]
    have e5 : cs.toList[j]? = some (.string s) := by
      have := congrArg (·[0]?) e1
      simpa [List.getElem?_take, List.getElem?_drop] using this
    rw [Array.getElem?_toList] at e5
    rw [e5, e3]
    congr 2
  exact ⟨World.block_lt_of_cell? W _ (key 0 _ rfl), key⟩

theorem gE : Tryd.prog.globalNamed "strconv.ErrRange" = some 3 := by kernel_rfl
theorem tE : (Tryd.prog.globals[3]?).map (·.type) = some 50 := by kernel_rfl
theorem trod_if {H : Type} {enc : TypeId × Value → H} {P : Program} {w : World} {base : Nat} {spare : Nat → Bool} {held : Bool} {fuel : Nat} {t : TypeId} {ms : Array (String × TypeId)} {cs : List Value} {n : String} {d : DataW H} {p : List MemPlace} (ht : P.underlying t = some (.interface ms))
    (h : DataW.trod enc P w base spare held fuel t cs = some (.iface n d, p)) : ∃ u y, cs = [.iface u y] := by
  cases fuel with
  | zero => simp [DataW.trod] at h
  | succ m =>
    unfold DataW.trod at h
    rw [ht] at h
    split at h <;> simp_all
theorem err_of_reads {W : World} (h : Lib.VarReads Tryd.prog W "strconv.ErrRange" Rows.laid_strconv_ErrRange) : 3 < W.heap.size ∧ ∃ te pe, W.cell? ⟨3, 0, none⟩ = some (.iface te pe) := by
  obtain ⟨g, t, cs, fuel, p, h1, h2, h3, h4⟩ := h
  rw [gE] at h1
  obtain rfl := Option.some.inj h1
  rw [tE] at h2
  obtain rfl := Option.some.inj h2
  obtain ⟨u, y, e⟩ := trod_if Tryd.underlying50 h4
  have hc := World.var?_cell gE h3 0
  have e5 : cs[0]? = some (.iface u y) := by
    have := congrArg (·[0]?) e
    rw [← Array.getElem?_toList]
    simpa using this
  rw [e5] at hc
  exact ⟨World.block_lt_of_cell? W _ hc, u, y, hc⟩

theorem byte_wf {x : Int} (h : (Lit.int .u8 x).wf = true) : 0 ≤ x ∧ x < 256 := by
  have h1 : IntKind.u8.min = 0 := rfl
  have h2 : IntKind.u8.max = 255 := rfl
  simp only [Lit.wf, Bool.and_eq_true, decide_eq_true_eq] at h
  omega
set_option maxRecDepth 100000 in
/-- An argument of bytes. -/
theorem open_bytes {H : Type} {enc : TypeId × Value → H} {W : World} {base : Nat} {v : Value} {d : DataW H} {p : List MemPlace}
    (hv : Value.okWide Tryd.prog W .any base 22 v) (h0 : DataW.Trod enc Tryd.prog W 0 (fun _ => true) true 22 v d p) :
    ∃ (a : Option Addr) (l : Bs) (c : Nat), v = .slice a l.length c ∧ Src W a l c ∧ (a = none → c = 0) ∧ (l = [] ∨ ∃ elems spare, d = .slice elems spare ∧ elems.length = l.length) := by
  obtain ⟨a, len, cap, rfl⟩ := okWide_slice Tryd.underlying22 hv
  obtain ⟨fuel, hf⟩ := h0
  rcases open_ints Tryd.underlying22 Tryd.underlying5 cU hf with ⟨hcs, hx⟩ | ⟨a', len', cap', zs, hcs, _, hl, hm, hz, hx, hcell, hwz⟩
  · simp [Value.cells] at hcs
    obtain ⟨rfl, rfl, rfl⟩ := hcs
    exact ⟨none, [], 0, rfl, ⟨Nat.le_refl _, .inl rfl⟩, fun _ => rfl, .inl rfl⟩
  · simp [Value.cells] at hcs
    obtain ⟨rfl, rfl, rfl⟩ := hcs
    simp only [if_true] at hz
    have hll : ((zs.take len).map fun n => UInt8.ofNat n.toNat).length = len := by simp; omega
    refine ⟨some a', (zs.take len).map fun n => UInt8.ofNat n.toNat, cap, by rw [hll], ⟨by rw [hll]; omega, ?_⟩, fun h => (by cases h), ?_⟩
    rotate_left
    · right
      have hx1 := congrArg Prod.fst hx
      exact ⟨_, _, hx1, by rw [hll]; simp [lits]; omega⟩
    by_cases h0 : len = 0
    · left; subst h0; rfl
    · right
      obtain ⟨b, off, s⟩ := a'
      obtain rfl : s = none := by simpa [Addr.add] using World.cell?_spot (hcell 0 (by omega))
      refine ⟨b, off, rfl, fun i hi => ?_⟩
      rw [hll] at hi
      have := hcell i (by omega)
      rw [WideShapes.add_plain] at this
      rw [this]
      have hi2 : i < zs.length := by omega
      have hm2 : zs[i] ∈ zs := List.getElem_mem hi2
      have hb := byte_wf (hwz _ hm2)
      simp only [List.getD, List.getElem?_eq_getElem hi2, Option.getD_some, List.getElem_map, List.getElem_take]
      congr 2
      rw [UInt8.toNat_ofNat_of_lt' (by simp [UInt8.size]; omega)]
      omega
end Go.Proofs.YteohpiamfpnofabDoor
