import Derived.Test.YthkbeaffkcfgiaaGreatDoorPairs
namespace Go.Proofs.YthkbeaffkcfgiaaGreatDoor
open Go.RowKit

theorem hand_at (hs : List (Int × Int)) (j : Nat) (h : j < hs.length) : (handCells hs)[j * 2]? = some (.int .i64 hs[j].1) ∧ (handCells hs)[j * 2 + 1]? = some (.int .i64 hs[j].2) := by
  induction hs generalizing j with
  | nil => simp at h
  | cons a l ih =>
    cases j with
    | zero => simp [handCells]
    | succ j =>
      have := ih j (by simpa using h)
      simp only [handCells, List.flatMap_cons] at this ⊢
      rw [show (j + 1) * 2 = j * 2 + 1 + 1 from by omega]
      simpa using this

theorem pair_at (ps : List PW) (j : Nat) (h : j < ps.length) : (pairCells ps)[j * 2]? = some (.pointer (some ⟨ps[j].x, 0, none⟩)) ∧ (pairCells ps)[j * 2 + 1]? = some (.pointer (some ⟨ps[j].m, 0, none⟩)) := by
  induction ps generalizing j with
  | nil => simp at h
  | cons a l ih =>
    cases j with
    | zero => simp [pairCells]
    | succ j =>
      have := ih j (by simpa using h)
      simp only [pairCells, List.map_cons, List.flatMap_cons] at this ⊢
      rw [show (j + 1) * 2 = j * 2 + 1 + 1 from by omega]
      simpa using this

/-- How handle ends. -/
def HandEnds (e : Ending) : Prop := ∃ p l : Int, e = .returned (.agg #[.int .i64 p, .int .i64 l])

/-- What is known of a step's numbers. -/
structure InRange (o : OpV) : Prop where
  a0 : -9223372036854775808 ≤ o.a
  a1 : o.a ≤ 9223372036854775807
  b0 : -9223372036854775808 ≤ o.b
  b1 : o.b ≤ 9223372036854775807

set_option maxHeartbeats 1600000 in
theorem handle_any {W : World} {N b0 : Nat} {ka : Nat → Nat} {ps : List PW} {hs : List (Int × Int)} {wv hv : Value} (o : OpV) (ho : InRange o) (h : Inv W N b0 ka ps hs wv hv) (hn : hs.length ≤ 1048576) :
    Calls Tryz.prog 23 #[.pointer (some ⟨b0, 0, none⟩), .agg (opVals o)] W fun e W' => HandEnds e ∧ Below W.heap.size W W' := by
  have HI : Hid (Inv W N b0 ka ps hs wv hv) := h
  have hc1 := h.c1
  have hlt := h.lt
  obtain ⟨n, hnn⟩ : ∃ n, n = hs.length := ⟨_, rfl⟩
  have HNn : Hid (n = hs.length) := hnn
  have HRow : Hid (W.ownsRow N 48 2 hv n (handCells hs)) := by rw [hnn]; exact h.rowH
  rw [← hnn] at hn
  obtain ⟨sa, sc, rfl⟩ : ∃ a c, hv = .slice a n c := own_form HRow.out
  have b1 := ho.b0
  have b2 := ho.b1
  unfold opVals
  clear h hnn ho
  by_cases hb : o.b = -1
  · go_enter Tryz.func23, Tryz.ntmps23
    go_wp2_with fail
    refine bodyPost_ret (v := .agg #[.int .i64 o.c, .int .i64 o.n]) (by simp [results, Tryz.results23, go_sem]) rfl ⟨⟨_, _, rfl⟩, ?_⟩
    exact ((Below.refl _ _).alloc (Nat.le_refl _) _).alloc (by simp) _
  · have hb' : (o.b == -1) = false := by rw [beq_eq_false_iff_ne]; exact hb
    by_cases hn0 : n = 0
    · subst hn0
      go_enter Tryz.func23, Tryz.ntmps23
      go_wp2_with fail
      refine bodyPost_ret (v := .agg #[.int .i64 o.c, .int .i64 o.n]) (by simp [results, Tryz.results23, go_sem]) rfl ⟨⟨_, _, rfl⟩, ?_⟩
      exact ((Below.refl _ _).alloc (Nat.le_refl _) _).alloc (by simp) _
    · have hn0' : ((n : Int) == 0) = false := by rw [beq_eq_false_iff_ne]; omega
      obtain ⟨g, rfl⟩ : ∃ g, sa = some ⟨g, 0, none⟩ := by
        rcases HRow.out.2 with ⟨_, h2⟩ | ⟨g, cap, cur, h, _⟩
        · omega
        · simp at h; exact ⟨g, h.1⟩
      have hg : g < W.heap.size := (HRow.out.lt g rfl).2
      have hcap : n ≤ sc := by
        rcases HRow.out.2 with ⟨h, _⟩ | ⟨g', cap, cur, h, _, _, h4, _⟩
        · simp at h
        · simp at h; omega
      have HC : Hid (∀ j : Nat, j < n → ∃ p l : Int, W.cell? ⟨g, j * 2, none⟩ = some (.int .i64 p) ∧ W.cell? ⟨g, j * 2 + 1, none⟩ = some (.int .i64 l)) := fun j hj => by
        obtain ⟨e1, e2⟩ := hand_at hs j (by rw [← HNn.out]; exact hj)
        exact ⟨_, _, (HRow.out.cellAt (j * 2) (by omega)).trans e1, (HRow.out.cellAt (j * 2 + 1) (by omega)).trans e2⟩
      go_enter Tryz.func23, Tryz.ntmps23
      go_wp2_with fail
      go_region_with (go_at_call 22; refine (pick_any o.b n _ (by omega) (by omega) b1 b2).mono ?_; rintro e w' ⟨⟨j, hj, rfl⟩, rfl⟩; obtain ⟨p, l, q0, q1⟩ := HC.out j hj)
      all_goals (try go_wp2_with fail)
      all_goals
        refine bodyPost_ret (v := .agg #[.int .i64 p, .int .i64 l]) (by simp [results, Tryz.results23, go_sem]) rfl ⟨⟨_, _, rfl⟩, ?_⟩
        first
          | exact (((Below.refl _ _).alloc (Nat.le_refl _) _).alloc (by simp) _).drew
          | (refine Below.drew ?_; refine Below.setCell (Below.setCell ?_ (by simp) _) (by simp) _; exact ((Below.refl _ _).alloc (Nat.le_refl _) _).alloc (by simp) _)
          | (refine Below.setCell (Below.setCell ?_ (by simp) _) (by simp) _; exact (((Below.refl _ _).alloc (Nat.le_refl _) _).alloc (by simp) _).drew)

end Go.Proofs.YthkbeaffkcfgiaaGreatDoor
