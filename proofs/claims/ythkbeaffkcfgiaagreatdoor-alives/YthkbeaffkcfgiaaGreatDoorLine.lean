import Derived.Test.YthkbeaffkcfgiaaGreatDoorAny
namespace Go.Proofs.YthkbeaffkcfgiaaGreatDoor
open Go.RowKit

/-- Who lives, by places rising. -/
def livePl (tk : Nat → Bool) : List Nat := (List.range 20).filter tk
/-- How many live below place i. -/
def cnt (tk : Nat → Bool) (i : Nat) : Nat := ((List.range i).filter tk).length

theorem range_cut (i : Nat) (h : i < 20) : List.range 20 = List.range i ++ i :: (List.range (19 - i)).map (· + (i + 1)) := by
  apply List.ext_getElem
  · simp; omega
  · intro j h1 h2
    rw [List.getElem_append]
    split
    · simp
    · rename_i hj
      simp at hj
      by_cases e : j = i
      · subst e; simp
      · obtain ⟨m, rfl⟩ : ∃ m, j = i + (m + 1) := ⟨j - i - 1, by omega⟩
        simp
        omega

theorem live_split (tk : Nat → Bool) (i : Nat) (h : i < 20) : ∃ A C, A.length = cnt tk i ∧ (∀ a ∈ A, a < i) ∧ (∀ c ∈ C, i < c) ∧ livePl tk = A ++ ((if tk i then [i] else []) ++ C) ∧ ∀ v, livePl (upd tk i v) = A ++ ((if v then [i] else []) ++ C) := by
  refine ⟨(List.range i).filter tk, ((List.range (19 - i)).map (· + (i + 1))).filter tk, rfl, ?_, ?_, ?_, ?_⟩
  · intro a ha; exact List.mem_range.1 (List.mem_filter.1 ha).1
  · intro c hc
    obtain ⟨m, _, rfl⟩ := List.mem_map.1 (List.mem_filter.1 hc).1
    omega
  · unfold livePl
    rw [range_cut i h, List.filter_append, List.filter_cons]
    cases tk i <;> simp
  · intro v
    unfold livePl
    rw [range_cut i h, List.filter_append, List.filter_cons]
    have e1 : (List.range i).filter (upd tk i v) = (List.range i).filter tk := by
      apply List.filter_congr
      intro a ha
      have := List.mem_range.1 ha
      simp [upd, show a ≠ i by omega]
    have e2 : ((List.range (19 - i)).map (· + (i + 1))).filter (upd tk i v) = ((List.range (19 - i)).map (· + (i + 1))).filter tk := by
      apply List.filter_congr
      intro a ha
      obtain ⟨m, _, rfl⟩ := List.mem_map.1 ha
      simp [upd, show m + (i + 1) ≠ i by omega]
    rw [e1, e2]
    have e3 : upd tk i v i = v := by simp [upd]
    rw [e3]
    cases v <;> simp

theorem live_lt (tk : Nat → Bool) (i : Nat) (h : i < 20) (j : Nat) (hj : j < (livePl tk).length) : (livePl tk)[j] < i ↔ j < cnt tk i := by
  obtain ⟨A, C, h1, h2, h3, h4, _⟩ := live_split tk i h
  have h6 : ∀ x ∈ (if tk i then [i] else []) ++ C, i ≤ x := by
    intro x hx
    rcases List.mem_append.1 hx with hx | hx
    · cases ht : tk i <;> simp [ht] at hx; omega
    · exact Nat.le_of_lt (h3 _ hx)
  have h5 : ∀ (l : List Nat) (hl : j < l.length), l = A ++ ((if tk i then [i] else []) ++ C) → (l[j] < i ↔ j < cnt tk i) := by
    rintro l hl rfl
    rw [← h1, List.getElem_append]
    split
    · rename_i hA
      simp only [hA, iff_true]
      exact h2 _ (List.getElem_mem hA)
    · rename_i hA
      simp only [hA, iff_false, Nat.not_lt]
      exact h6 _ (List.getElem_mem _)
  exact h5 _ hj h4

theorem live_at (tk : Nat → Bool) (i : Nat) (h : i < 20) (ht : tk i = true) : ∃ hj : cnt tk i < (livePl tk).length, (livePl tk)[cnt tk i] = i := by
  obtain ⟨A, C, h1, h2, h3, h4, _⟩ := live_split tk i h
  rw [ht] at h4
  simp at h4
  rw [h4, ← h1]
  exact ⟨by simp, by simp⟩

theorem live_not (tk : Nat → Bool) (i j : Nat) (hj : j < (livePl tk).length) (ht : tk i = false) : (livePl tk)[j] ≠ i := by
  intro e
  have := List.getElem_mem hj
  rw [e] at this
  have := (List.mem_filter.1 this).2
  rw [ht] at this
  cases this

theorem live_mem (tk : Nat → Bool) (i : Nat) : i ∈ livePl tk ↔ i < 20 ∧ tk i = true := by
  simp [livePl, List.mem_filter]

theorem live_le (tk : Nat → Bool) : (livePl tk).length ≤ 20 := by
  have := List.length_filter_le tk (List.range 20)
  simpa [livePl] using this

theorem cnt_le (tk : Nat → Bool) (i : Nat) (h : i < 20) : cnt tk i ≤ (livePl tk).length := by
  obtain ⟨A, C, h1, _, _, h4, _⟩ := live_split tk i h
  rw [h4, ← h1]; simp

theorem cnt_mono (tk : Nat → Bool) (i : Nat) : cnt tk i ≤ cnt tk (i + 1) := by
  unfold cnt
  rw [List.range_succ, List.filter_append]; simp

theorem live_set (tk : Nat → Bool) (i : Nat) (h : i < 20) (ht : tk i = false) : livePl (upd tk i true) = (livePl tk).take (cnt tk i) ++ i :: (livePl tk).drop (cnt tk i) := by
  obtain ⟨A, C, h1, _, _, h4, h5⟩ := live_split tk i h
  rw [ht] at h4
  simp at h4
  rw [h5 true, h4, ← h1]
  simp

theorem live_del (tk : Nat → Bool) (i : Nat) : livePl (upd tk i false) = (livePl tk).filter (fun j => j != i) := by
  unfold livePl
  rw [List.filter_filter]
  apply List.filter_congr
  intro a _
  by_cases e : a = i
  · subst e; simp [upd]
  · simp [upd, e]

end Go.Proofs.YthkbeaffkcfgiaaGreatDoor
