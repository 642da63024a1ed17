/- What ReplyOnce counts: how often a number stands in a row, what has ended; no condition but those that each theorem names. -/
import Derived.Test.YtgghppojjhnbeaaXh
namespace Go.Proofs.Ytgghppojjhnbeaa
open Go.RowKit

/-- How often a number stands in a row. -/
def cnt (n : Int) (L : List Ak) : Int := ((L.filter fun a => decide (a.co = n)).length : Int)
theorem cnt_app (n : Int) (A B : List Ak) : cnt n (A ++ B) = cnt n A + cnt n B := by simp [cnt]
theorem cnt_one (n : Int) (a : Ak) : cnt n [a] = if a.co = n then 1 else 0 := by
  by_cases h : a.co = n <;> simp [cnt, h]
theorem cnt_nil (n : Int) : cnt n [] = 0 := rfl
theorem cnt_pos (n : Int) (L : List Ak) : 0 ≤ cnt n L := by unfold cnt; omega
theorem cnt_split (f : Ak → Bool) (n : Int) (L : List Ak) : cnt n L = cnt n (L.filter f) + cnt n (L.filter fun a => !f a) := by
  induction L with
  | nil => rfl
  | cons a r ih =>
    have e : ∀ (x : Ak) (l : List Ak), cnt n (x :: l) = cnt n [x] + cnt n l := fun x l => cnt_app n [x] l
    cases hf : f a with
    | true => rw [List.filter_cons_of_pos hf, List.filter_cons_of_neg (by simp [hf]), e a r, e a (r.filter f), ih]; omega
    | false => rw [List.filter_cons_of_neg (by simp [hf]), List.filter_cons_of_pos (by simp [hf]), e a r, e a (r.filter _), ih]; omega
/-- The numbers of a fit row lie above its start, and none stands twice. -/
theorem fitL_low {nx : Int} : ∀ (l : Int) (L : List Ak), fitL nx l L = true → ∀ a ∈ L, l < a.co ∧ a.co ≤ nx
  | _, [], _, a, h => by simp at h
  | l, b :: r, h, a, ha => by
    simp only [fitL, Bool.and_eq_true] at h
    have h1 := h.1
    simp only [fit1, Bool.and_eq_true, decide_eq_true_eq] at h1
    rcases List.mem_cons.1 ha with rfl | ha
    · omega
    · have := fitL_low b.co r h.2 a ha
      omega
theorem cnt_none {n : Int} {L : List Ak} (h : ∀ a ∈ L, a.co ≠ n) : cnt n L = 0 := by
  unfold cnt
  rw [List.filter_eq_nil_iff.2 (fun a ha => by simpa using h a ha)]
  rfl
theorem cnt_le {nx : Int} (n : Int) : ∀ (l : Int) (L : List Ak), fitL nx l L = true → cnt n L ≤ 1
  | _, [], _ => by rw [cnt_nil]; omega
  | l, b :: r, h => by
    simp only [fitL, Bool.and_eq_true] at h
    have e : cnt n (b :: r) = cnt n [b] + cnt n r := cnt_app n [b] r
    have ih := cnt_le n b.co r h.2
    rw [e, cnt_one]
    by_cases hb : b.co = n
    · have := cnt_none (n := n) (L := r) (fun a ha e2 => by have := fitL_low b.co r h.2 a ha; omega)
      rw [if_pos hb, this]
      omega
    · rw [if_neg hb]
      omega
theorem cnt_mem {n : Int} {L : List Ak} {a : Ak} (ha : a ∈ L) (h : a.co = n) : 1 ≤ cnt n L := by
  unfold cnt
  have : a ∈ L.filter fun a => decide (a.co = n) := List.mem_filter.2 ⟨ha, by simpa using h⟩
  have := List.length_pos_of_mem this
  omega
/-- Two of one number are one. -/
theorem fit_inj {nx : Int} : ∀ (l : Int) (L : List Ak), fitL nx l L = true → ∀ a ∈ L, ∀ b ∈ L, a.co = b.co → a = b
  | _, [], _, a, h, _, _, _ => by simp at h
  | l, c :: r, h, a, ha, b, hb, e => by
    simp only [fitL, Bool.and_eq_true] at h
    rcases List.mem_cons.1 ha with h1 | h1 <;> rcases List.mem_cons.1 hb with h2 | h2
    · rw [h1, h2]
    · have := fitL_low c.co r h.2 b h2; rw [h1] at e; omega
    · have := fitL_low c.co r h.2 a h1; rw [h2] at e; omega
    · exact fit_inj c.co r h.2 a h1 b h2 e
/-- What Answer says. -/
theorem fold_an (now co : Int) (tp : ByteArray) : ∀ (e : Int) (L : List Ak), (∀ x ∈ L, mtc co tp x = false) → L.foldl (an1 now co tp) e = e
  | e, [], _ => rfl
  | e, a :: r, h => by
    rw [List.foldl_cons]
    have : an1 now co tp e a = e := by unfold an1; rw [h a (by simp)]; rfl
    rw [this]
    exact fold_an now co tp e r (fun x hx => h x (List.mem_cons_of_mem _ hx))
theorem fold_hit (now co : Int) (tp : ByteArray) : ∀ (e : Int) (L : List Ak), (e = 0 ∨ e = 170) → (L.foldl (an1 now co tp) e = 0 ∨ L.foldl (an1 now co tp) e = 170)
  | e, [], h => h
  | e, a :: r, h => by
    rw [List.foldl_cons]
    refine fold_hit now co tp _ r ?_
    unfold an1
    split
    · split
      · exact .inr rfl
      · exact .inl rfl
    · exact h
theorem fold_zero (now co : Int) (tp : ByteArray) : ∀ (e : Int) (L : List Ak), (∀ x ∈ L, mtc co tp x = true → lat now x = false) → (e = 0 ∨ ∃ x ∈ L, mtc co tp x = true) → L.foldl (an1 now co tp) e = 0
  | e, [], _, h => by
    rcases h with h | ⟨x, hx, -⟩
    · exact h
    · simp at hx
  | e, a :: r, h, h2 => by
    rw [List.foldl_cons]
    refine fold_zero now co tp _ r (fun x hx => h x (List.mem_cons_of_mem _ hx)) ?_
    cases hm : mtc co tp a with
    | true => left; unfold an1; rw [hm, if_pos rfl, h a (by simp) hm]; rfl
    | false =>
      rcases h2 with h2 | ⟨x, hx, hxm⟩
      · left; unfold an1; rw [hm]; exact h2
      · rcases List.mem_cons.1 hx with rfl | hx
        · rw [hm] at hxm; cases hxm
        · exact .inr ⟨x, hx, hxm⟩
theorem anE_no {now co : Int} {tp : ByteArray} {L : List Ak} (h : ∀ x ∈ L, mtc co tp x = false) : anE now co tp L = 230 ∧ anL co tp L = L :=
  ⟨fold_an now co tp 230 L h, List.filter_eq_self.2 fun x hx => by simp [h x hx]⟩
theorem fold_some (now co : Int) (tp : ByteArray) : ∀ (e : Int) (L : List Ak), (∃ x ∈ L, mtc co tp x = true) → (L.foldl (an1 now co tp) e = 0 ∨ L.foldl (an1 now co tp) e = 170)
  | e, [], h => by obtain ⟨x, hx, -⟩ := h; simp at hx
  | e, a :: r, h => by
    rw [List.foldl_cons]
    cases hm : mtc co tp a with
    | true =>
      refine fold_hit now co tp _ r ?_
      unfold an1
      rw [hm, if_pos rfl]
      split
      · exact .inr rfl
      · exact .inl rfl
    | false =>
      obtain ⟨x, hx, hxm⟩ := h
      rcases List.mem_cons.1 hx with rfl | hx
      · rw [hm] at hxm; cases hxm
      · exact fold_some now co tp _ r ⟨x, hx, hxm⟩
theorem anE_yes {now co : Int} {tp : ByteArray} {L : List Ak} (h : ∃ x ∈ L, mtc co tp x = true) : anE now co tp L ≠ 230 := fun e => by
  rcases fold_some now co tp 230 L h with h | h <;> (unfold anE at e; omega)

/-- What the row of turns keeps: i turns are behind, em is how often each number has ended. -/
structure Iv (i : Nat) (nx : Int) (L : List Ak) (em : Int → Int) : Prop where
  nx0 : 0 ≤ nx
  nxi : nx ≤ i
  len : L.length ≤ i
  fit : fitL nx 0 L = true
  one : ∀ n, 1 ≤ n → n ≤ nx → em n + cnt n L = 1
  new : ∀ n, nx < n → em n = 0
theorem Iv.start : Iv 0 0 [] fun _ => 0 := ⟨by omega, by omega, by simp, rfl, fun n h1 h2 => by omega, fun _ _ => rfl⟩
theorem Iv.fitS {i : Nat} {nx : Int} {L : List Ak} {em : Int → Int} (h : Iv i nx L em) (hi : i ≤ 200) : fitS nx L = true := by
  have := h.nx0; have := h.nxi; have := h.len
  exact fitS_mk ⟨by omega, by omega, by omega, h.fit⟩
theorem Iv.more {i : Nat} {nx : Int} {L : List Ak} {em : Int → Int} (h : Iv i nx L em) : Iv (i + 1) nx L em := ⟨h.nx0, by have := h.nxi; omega, by have := h.len; omega, h.fit, h.one, h.new⟩
theorem Iv.open {i : Nat} {nx : Int} {L : List Ak} {em : Int → Int} (h : Iv i nx L em) (hi : i ≤ 200) (tp : ByteArray) (un : Int) (hu : 0 ≤ un ∧ un ≤ 1099511627776) :
    opF nx L = false ∧ Iv (i + 1) (nx + 1) (L ++ [⟨nx + 1, un, tp⟩]) em := by
  have h1 := h.nx0; have h2 := h.nxi; have h3 := h.len
  have hF : opF nx L = false := by
    unfold opF
    rw [decide_eq_false (by omega : ¬ 1024 ≤ L.length), decide_eq_false (by omega : ¬ 4611686018427387904 ≤ nx)]
    rfl
  refine ⟨hF, by omega, by omega, by rw [List.length_append]; simp; omega, ?_, fun n n1 n2 => ?_, fun n hn => h.new n (by omega)⟩
  · have := fitS_open (h.fitS hi) tp un hu
    unfold opN opL at this
    rw [hF] at this
    exact (fitS_iff this).2.2.2
  · rw [cnt_app, cnt_one]
    by_cases e : nx + 1 = n
    · rw [if_pos e, h.new n (by omega), cnt_none (fun a ha e2 => by have := fitL_low 0 L h.fit a ha; omega)]
      omega
    · rw [if_neg e]
      have := h.one n n1 (by omega)
      omega
theorem Iv.answer {i : Nat} {nx : Int} {L : List Ak} {em em' : Int → Int} (h : Iv i nx L em) (co : Int) (tp : ByteArray) (hm : ∃ x ∈ L, mtc co tp x = true) (he : ∀ n, em' n = if n = co then em co + 1 else em n) : Iv (i + 1) nx (anL co tp L) em' := by
  obtain ⟨x, hx, hxm⟩ := hm
  have hxc : x.co = co ∧ x.tp = tp := by simpa [mtc] using hxm
  have hr := fitL_low 0 L h.fit x hx
  have hl := h.len
  have hsp := fun n => cnt_split (fun a => !mtc co tp a) n L
  refine ⟨h.nx0, by have := h.nxi; omega, ?_, fitL_filter _ 0 L h.fit, fun n n1 n2 => ?_, fun n hn => ?_⟩
  · exact Nat.le_trans (List.length_filter_le _ _) (by omega)
  · rw [he]
    have h1 := h.one n n1 n2
    have h2 := hsp n
    have e3 : ∀ a, (!(!mtc co tp a)) = mtc co tp a := fun a => by simp
    simp only [e3] at h2
    change cnt n L = cnt n (anL co tp L) + cnt n (L.filter fun a => mtc co tp a) at h2
    by_cases e : n = co
    · subst e
      rw [if_pos rfl]
      have h3 := cnt_le n 0 L h.fit
      have h4 := cnt_mem hx hxc.1
      have h5 : 1 ≤ cnt n (L.filter fun a => mtc n tp a) := cnt_mem (List.mem_filter.2 ⟨hx, hxm⟩) hxc.1
      have h6 := cnt_pos n (anL n tp L)
      omega
    · rw [if_neg e]
      have h5 : cnt n (L.filter fun a => mtc co tp a) = 0 := cnt_none fun a ha e2 => by
        have := (List.mem_filter.1 ha).2
        simp [mtc] at this
        omega
      omega
  · rw [he, if_neg (by omega)]
    exact h.new n hn
theorem Iv.expire {i : Nat} {nx : Int} {L : List Ak} {em em' : Int → Int} (h : Iv i nx L em) (now : Int) (he : ∀ n, em' n = em n + cnt n (exG now L)) : Iv (i + 1) nx (exL now L) em' := by
  have hl := h.len
  have hsp := fun n => cnt_split (lat now) n L
  refine ⟨h.nx0, by have := h.nxi; omega, ?_, fitL_filter _ 0 L h.fit, fun n n1 n2 => ?_, fun n hn => ?_⟩
  · exact Nat.le_trans (List.length_filter_le _ _) (by omega)
  · rw [he]
    have h1 := h.one n n1 n2
    have h2 := hsp n
    change cnt n L = cnt n (exG now L) + cnt n (exL now L) at h2
    omega
  · rw [he, h.new n hn, cnt_none fun a ha e => by have := fitL_low 0 L h.fit a (List.mem_filter.1 ha).1; omega]
    rfl
/-- Behind Expire an answer is in time. -/
theorem exp_ok {now : Int} {L : List Ak} {a : Ak} (ha : a ∈ exL now L) : anE now a.co a.tp (exL now L) = 0 := by
  refine fold_zero now a.co a.tp 230 _ (fun x hx hm => ?_) (.inr ⟨a, ha, by simp [mtc]⟩)
  have hm' : x.co = a.co ∧ x.tp = a.tp := by simpa [mtc] using hm
  have := (List.mem_filter.1 hx).2
  simpa using this
end Go.Proofs.Ytgghppojjhnbeaa
