/- grow: the nodes on the way to a path are made where they are not there; no condition but those that each theorem names. -/
import Derived.Test.YtcnglhlljmfanaaGreatDoorKg
namespace Go.Proofs.YtcnglhlljmfanaaGreatDoor
open Go.RowKit Tp Go.Maps Go.Shelf

section
variable {w : World} {nd : Pth → Option Nd} {own : Nat → Option (Pth × Nat)} {S : Pth → Int → Bool} {K : Nat} {p : Pth} {n : Nd}

theorem wrap64_nat {j : Nat} (h : j + 1 ≤ 9223372036854775807) : (Value.int .i64 (wrap64 ((j : Int) + 1))) = .int .i64 ((j + 1 : Nat) : Int) := by
  congr 1; unfold wrap64; omega
/-- What lies below a path, at most so many levels along another one, is there besides. -/
def Grown (nd nd' : Pth → Option Nd) (p L : Pth) (j : Nat) : Prop :=
  (∀ q, nd q ≠ none → (nd' q).map Nd.a = (nd q).map Nd.a) ∧ (∀ q, nd q = none → nd' q ≠ none → ∃ k, k ≤ j ∧ 0 < k ∧ k ≤ L.length ∧ q = p ++ L.take k)

set_option maxRecDepth 100000 in
set_option maxHeartbeats 4000000 in
theorem grow_any (g : G w nd own S K) (hp : nd p = some n) (L : Pth) (hK : K + L.length < maxLen) (hL : ∀ x ∈ L, x.length ≤ 65535) (v : Value) (hv : LeftAt w v L) (hvo : ∀ b o c, v = .slice (some ⟨b, o, none⟩) L.length c → ¬ Bl own b) :
    Calls Tryz.prog 24 #[.agg #[.pointer (some ⟨n.a, 0, none⟩), v]] w fun e w' => ∃ nd' own' m, e = .returned (.pointer (some ⟨m.a, 0, none⟩)) ∧ nd' (p ++ L) = some m ∧ G w' nd' own' S (K + L.length) ∧
      Grown nd nd' p L L.length ∧ Gro w own own' ∧ But (Bl own) w w' := by
  obtain ⟨b, o, c, rfl, hr, hcl, hbl⟩ := hv
  have hnb := hvo b o c rfl
  go_enter Tryz.func24, Tryz.ntmps24
  go_wp2
  go_loopg [3, 11] L.length (fun gk s3 s11 wx => ∃ (j : Nat) (nd' : Pth → Option Nd) (own' : Nat → Option (Pth × Nat)) (m : Nd), j + gk = L.length ∧ s11 = .int .i64 j ∧ s3 = .pointer (some ⟨m.a, 0, none⟩) ∧ nd' (p ++ L.take j) = some m ∧
    G wx nd' own' S (K + j) ∧ Grown nd nd' p L j ∧ Gro w own own' ∧ But (Bl own) w wx)
  case atStart =>
    exact ⟨0, nd, own, n, by omega, rfl, rfl, by simpa using hp, g.below (below1 w _), ⟨fun _ _ => rfl, fun q h h' => absurd h h'⟩, Gro.refl _ _, But.alloc _ _⟩
  case round =>
    obtain ⟨j, nd', own', m, hjg, rfl, rfl, hm, gx, hgr, hgo, hB⟩ := hrel
    cases gk with
    | zero =>
      obtain rfl : j = L.length := by omega
      go_wp2
      go_ret
      exact ⟨nd', own', m, rfl, by simpa using hm, gx, hgr, hgo, hB⟩
    | succ gq =>
      have hj : j < L.length := by omega
      have hcj : wr.cell? ⟨b, o + j, none⟩ = some (.string (bs L[j])) := by
        have h0 := hr j (bs L[j]) (by simp [hj])
        unfold World.cell? at h0 ⊢
        rw [hB.block b hbl hnb]; exact h0
      have hsz : (bs L[j]).size ≤ 65535 := by rw [← tl_size, tl_bs]; exact hL _ (List.getElem_mem hj)
      have hlt : ((j : Nat) : Int) < (L.length : Int) := by omega
      go_wp2_with (first
        | (go_at_call 49; refine (extend_any gx hm (by omega) (bs L[j]) hsz).mono ?_; rintro e w2 ⟨nd2, own2, m2, rfl, hm2, g2, hs2, hgo2, hB2⟩))
      go_roundg gq
      case measure => omega
      case rel =>
        rw [tl_bs] at hm2 hs2
        have htk : p ++ L.take (j + 1) = p ++ L.take j ++ [L[j]] := by rw [List.append_assoc, ← List.take_append_getElem hj]
        refine ⟨j + 1, nd2, own2, m2, by omega, by rw [wrap64_nat (by unfold maxLen at hK; omega)], rfl, by rw [htk]; exact hm2, by rw [← Nat.add_assoc]; exact g2, ⟨fun q hq => ?_, fun q hq h2 => ?_⟩, hgo.trans hgo2 hB.size, hB.trans hB2 (fun k hk h => (hgo k h).resolve_right (by omega))⟩
        · by_cases e : q = p ++ L.take j ++ [L[j]]
          · have h1 := hgr.1 q hq
            have h2 : nd' q ≠ none := fun h => hq (by rw [← map_none (f := Nd.a), ← h1, h]; rfl)
            rw [hs2 q (.inr h2)]; exact h1
          · rw [hs2 q (.inl e)]; exact hgr.1 q hq
        · by_cases e : q = p ++ L.take j ++ [L[j]]
          · exact ⟨j + 1, Nat.le_refl _, by omega, by omega, by rw [e, htk]⟩
          · have h3 : nd' q ≠ none := fun h => h2 (by rw [← map_none (f := Nd.a), hs2 q (.inl e), h]; rfl)
            obtain ⟨k, h4, h5, h6, h7⟩ := hgr.2 q hq h3
            exact ⟨k, by omega, h5, h6, h7⟩
end
end Go.Proofs.YtcnglhlljmfanaaGreatDoor
