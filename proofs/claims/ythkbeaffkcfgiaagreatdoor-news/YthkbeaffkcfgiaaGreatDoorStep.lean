import Derived.Test.YthkbeaffkcfgiaaGreatDoorBegun
namespace Go.Proofs.YthkbeaffkcfgiaaGreatDoor
open Go.RowKit

set_option maxHeartbeats 1600000 in
theorem begun_turn {W : World} {N b0 : Nat} {ka : Nat → Nat} {ps : List PW} {hs : List (Int × Int)} {wv hv : Value} (o : OpV) (h : Inv W N b0 ka ps hs wv hv) (hk : o.kind = 15) :
    Calls Tryz.prog 21 #[.pointer (some ⟨b0, 0, none⟩), .agg (opVals o)] W fun e W' => e = .returned (.tuple #[.bool true, .bool true]) ∧ Below W.heap.size W W' := by
  have c2 := h.c2
  have hlt := h.lt
  clear h
  unfold opVals
  rw [hk]
  clear hk
  go_enter Tryz.func21, Tryz.ntmps21
  go_wp2_with fail
  go_ret2
  exact ⟨rfl, (Below.refl _ _).alloc (Nat.le_refl _) _⟩

set_option maxHeartbeats 1600000 in
theorem begun_else (b0 : Nat) (W : World) (o : OpV) (h1 : o.kind ≠ 1) (h15 : o.kind ≠ 15) :
    Calls Tryz.prog 21 #[.pointer (some ⟨b0, 0, none⟩), .agg (opVals o)] W fun e W' => e = .returned (.tuple #[.bool false, .bool true]) ∧ Below W.heap.size W W' := by
  have k1 : (o.kind == 1) = false := by rw [beq_eq_false_iff_ne]; exact h1
  have k2 : (o.kind == 15) = false := by rw [beq_eq_false_iff_ne]; exact h15
  clear h1 h15
  unfold opVals
  go_enter Tryz.func21, Tryz.ntmps21
  go_wp2_with fail
  go_ret2
  exact ⟨rfl, (Below.refl _ _).alloc (Nat.le_refl _) _⟩

theorem first_open (p : Nat → Prop) : ∀ n, ∃ I, I ≤ n ∧ (∀ j, j < I → p j) ∧ (I < n → ¬ p I)
  | 0 => ⟨0, Nat.le_refl _, fun j h => by omega, fun h => by omega⟩
  | n + 1 => by
    obtain ⟨I, h1, h2, h3⟩ := first_open p n
    by_cases e : I < n
    · exact ⟨I, by omega, h2, fun _ => h3 e⟩
    · obtain rfl : I = n := by omega
      by_cases hp : p I
      · exact ⟨I + 1, Nat.le_refl _, fun j hj => by
          by_cases e : j = I
          · subst e; exact hp
          · exact h2 j (by omega), fun h => by omega⟩
      · exact ⟨I, by omega, h2, fun _ => hp⟩

/-- Both sides are one. -/
def Good (ps : List PW) : Prop := ∀ P ∈ ps, P.bm = P.bx ∧ P.tm = P.tx ∧ ∀ i, P.bx i ≤ 3

/-- How a step ends. -/
def StepEnds (W : World) (N b0 : Nat) (ps : List PW) (hs : List (Int × Int)) (e : Ending) (W' : World) : Prop :=
  e = .returned (.bool true) ∧ ∃ ka' ps' hs' wv' hv', Inv W' N b0 ka' ps' hs' wv' hv' ∧ Good ps' ∧ ps'.length ≤ ps.length + 1 ∧ hs'.length ≤ hs.length + 1 ∧ Below N W W'

theorem StepEnds.same {W W' : World} {N b0 : Nat} {ka : Nat → Nat} {ps : List PW} {hs : List (Int × Int)} {wv hv : Value} (h : Inv W N b0 ka ps hs wv hv) (hg : Good ps) (hb : Below W.heap.size W W') : StepEnds W N b0 ps hs (.returned (.bool true)) W' :=
  ⟨rfl, ka, ps, hs, wv, hv, h.below hb, hg, by omega, by omega, hb.mono (Nat.le_trans h.nb (Nat.le_of_lt h.lt))⟩

set_option maxHeartbeats 1600000 in
set_option maxRecDepth 20000 in
theorem step_turn {W : World} {N b0 : Nat} {ka : Nat → Nat} {ps : List PW} {hs : List (Int × Int)} {wv hv : Value} (o : OpV) (h : Inv W N b0 ka ps hs wv hv) (hg : Good ps) (hk : o.kind = 15) :
    Calls Tryz.prog 18 #[.pointer (some ⟨b0, 0, none⟩), .agg (opVals o)] W fun e W' => StepEnds W N b0 ps hs e W' := by
  have HI : Hid (Inv W N b0 ka ps hs wv hv) := h
  have HG : Hid (Good ps) := hg
  have HBg : Hid _ := begun_turn o (h.below ((Below.refl _ _).alloc (Nat.le_refl _) (.cells (opVals o) 27))) hk
  unfold opVals at HBg ⊢
  clear h hg hk
  go_enter Tryz.func18, Tryz.ntmps18
  go_wp2_with fail
  refine Calls.mono HBg.out ?_
  rintro e W1 ⟨rfl, hb1⟩
  have HB1 : Hid (Below W.heap.size W W1) := ((Below.refl _ _).alloc (Nat.le_refl _) _).trans (hb1.mono (by simp))
  clear hb1
  go_wp2_with fail
  go_ret
  exact StepEnds.same HI.out HG.out HB1.out

set_option maxHeartbeats 1600000 in
set_option maxRecDepth 20000 in
theorem step_new {W : World} {N b0 : Nat} {ka : Nat → Nat} {ps : List PW} {hs : List (Int × Int)} {wv hv : Value} (o : OpV) (M : Int) (h : Inv W N b0 ka ps hs wv hv) (hg : Good ps) (hM : W.cell? ⟨0, 0, none⟩ = some (.int .i64 M)) (hn : ps.length ≤ 1048576) (hs1 : o.s.length ≤ 1048576) (hk : o.kind = 1) :
    Calls Tryz.prog 18 #[.pointer (some ⟨b0, 0, none⟩), .agg (opVals o)] W fun e W' => StepEnds W N b0 ps hs e W' := by
  have HI : Hid (Inv W N b0 ka ps hs wv hv) := h
  have HG : Hid (Good ps) := hg
  have h00 : 0 < W.heap.size := World.block_lt_of_cell? _ _ hM
  have HBg : Hid _ := begun_new o M (h.below ((Below.refl _ _).alloc (Nat.le_refl _) (.cells (opVals o) 27))) (by rw [World.cell?_alloc_old _ _ _ (Nat.ne_of_lt h00)]; exact hM) hn hk hs1
  unfold opVals at HBg ⊢
  clear h hg hk hM
  go_enter Tryz.func18, Tryz.ntmps18
  go_wp2_with fail
  refine Calls.mono HBg.out ?_
  rintro e W1 ⟨rfl, hE⟩
  have HE : Hid _ := hE
  clear hE
  go_wp2_with fail
  go_ret
  rcases HE.out with hb1 | ⟨ka', wv', x, m, n, hI, hb⟩
  · exact StepEnds.same HI.out HG.out (((Below.refl _ _).alloc (Nat.le_refl _) _).trans (hb1.mono (by simp)))
  · refine ⟨rfl, ka', _, hs, wv', hv, hI, ?_, by simp, by omega, ((Below.refl _ _).alloc (Nat.le_trans HI.out.nb (Nat.le_of_lt HI.out.lt)) _).trans hb⟩
    intro P hP
    rcases List.mem_append.1 hP with h | h
    · exact HG.out P h
    · obtain rfl := List.mem_singleton.1 h
      exact ⟨rfl, rfl, fun _ => Nat.zero_le _⟩

set_option maxHeartbeats 1600000 in
set_option maxRecDepth 20000 in
theorem step_none {W : World} {N b0 : Nat} {ka : Nat → Nat} {hs : List (Int × Int)} {wv hv : Value} (o : OpV) (h : Inv W N b0 ka [] hs wv hv) (h1 : o.kind ≠ 1) (h15 : o.kind ≠ 15) :
    Calls Tryz.prog 18 #[.pointer (some ⟨b0, 0, none⟩), .agg (opVals o)] W fun e W' => StepEnds W N b0 [] hs e W' := by
  have HI : Hid (Inv W N b0 ka [] hs wv hv) := h
  have HBg : Hid _ := begun_else b0 (W.alloc (.cells (opVals o) 27)) o h1 h15
  obtain ⟨sa, sc, rfl⟩ : ∃ a c, wv = .slice a 0 c := own_form h.rowW
  have hlt := h.lt
  unfold opVals at HBg ⊢
  clear h h1 h15
  go_enter Tryz.func18, Tryz.ntmps18
  go_wp2_with fail
  refine Calls.mono HBg.out ?_
  rintro e W1 ⟨rfl, hb1⟩
  have hB1 : Below W.heap.size W W1 := ((Below.refl _ _).alloc (Nat.le_refl _) _).trans (hb1.mono (by simp))
  have c0 := (HI.out.below hB1).c0
  have HB1 : Hid (Below W.heap.size W W1) := hB1
  clear hb1 hB1
  go_wp2_with fail
  go_ret
  exact StepEnds.same HI.out (fun P h => by cases h) HB1.out

end Go.Proofs.YthkbeaffkcfgiaaGreatDoor
