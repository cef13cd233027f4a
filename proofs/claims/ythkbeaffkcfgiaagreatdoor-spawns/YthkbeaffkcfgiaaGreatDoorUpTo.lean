import Derived.Test.YthkbeaffkcfgiaaGreatDoorStepB
import Derived.Test.YthkbeaffkcfgiaaGreatDoorStepC
import Derived.Test.YthkbeaffkcfgiaaGreatDoorStepD
namespace Go.Proofs.YthkbeaffkcfgiaaGreatDoor
open Go.RowKit

/-- Every step of the first stage. -/
theorem step_any {W : World} {N b0 : Nat} {ka : Nat → Nat} {ps : List PW} {hs : List (Int × Int)} {wv hv : Value} (o : OpV) (M : Int) (ho : InRange o) (hk : o.kind ≤ 4 ∨ o.kind = 15) (h : Inv W N b0 ka ps hs wv hv) (hg : Good ps) (hM : W.cell? ⟨0, 0, none⟩ = some (.int .i64 M)) (hps : ps.length ≤ 1048576) (hhs : hs.length ≤ 1048576) (hs1 : o.s.length ≤ 1048576) :
    Calls Tryz.prog 18 #[.pointer (some ⟨b0, 0, none⟩), .agg (opVals o)] W fun e W' => StepEnds W N b0 ps hs e W' := by
  by_cases h15 : o.kind = 15
  · exact step_turn o h hg h15
  by_cases h1 : o.kind = 1
  · exact step_new o M h hg hM hps hs1 h1
  by_cases hp : ps = []
  · subst hp
    exact step_none o h h1 h15
  have hp0 : 0 < ps.length := List.length_pos_iff.2 hp
  obtain ⟨kd, a, b, c, nn, s, t, la, ln, lc⟩ := o
  have hk4 : kd ≤ 4 := by
    rcases hk with hk | hk
    · exact hk
    · exact absurd hk h15
  have h1' : kd ≠ 1 := h1
  by_cases h0 : kd ≤ 0
  · exact step_zero kd a b c nn s t la ln lc ho h hg hhs hps hp0 h0
  by_cases h2 : kd = 2
  · subst h2
    exact step_spawn a b c nn s t la ln lc ho h hg hhs hps hp0
  by_cases h3 : kd = 3
  · subst h3
    exact step_despawn a b c nn s t la ln lc ho h hg hhs hps hp0
  obtain rfl : kd = 4 := by omega
  exact step_alive a b c nn s t la ln lc ho h hg hhs hps hp0

/-- The law's own world as it begins. -/
def z35 : Array Value := #[.slice none 0 0, .slice none 0 0, .slice none 0 0, .slice none 0 0, .slice none 0 0, .bool false]

theorem Inv.start (w : World) : Inv (w.alloc (.cells z35 35)) w.heap.size w.heap.size (fun _ => 1) [] [] (.slice none 0 0) (.slice none 0 0) :=
  { nb := Nat.le_refl _, lt := by simp, kb := rfl, c0 := (cell_at w z35 35 _ 0 rfl).trans rfl, c1 := (cell_at w z35 35 _ 1 rfl).trans rfl, c2 := (cell_at w z35 35 _ 2 rfl).trans rfl, c5 := (cell_at w z35 35 _ 5 rfl).trans rfl,
    f0 := by simp, f1 := by simp, rowW := World.ownsRow_nil _ _ _ _, kW := fun k hk => by simp [Value.ownBlock] at hk, rowH := World.ownsRow_nil _ _ _ _, kH := fun k hk => by simp [Value.ownBlock] at hk, each := fun j hj => absurd hj (Nat.not_lt_zero _) }

/-- What stands behind j steps. -/
def Stands (w : World) (j : Nat) (wr : World) : Prop :=
  Below w.heap.size w wr ∧ ∃ ka ps hs wv hv, Inv wr w.heap.size w.heap.size ka ps hs wv hv ∧ Good ps ∧ ps.length ≤ j ∧ hs.length ≤ j

theorem Stands.start (w : World) : Stands w 0 (w.alloc (.cells z35 35)) :=
  ⟨(Below.refl _ _).alloc (Nat.le_refl _) _, _, _, _, _, _, Inv.start w, (fun _ h => absurd h (List.not_mem_nil)), Nat.le_refl _, Nat.le_refl _⟩

theorem Stands.size {w wr : World} {j : Nat} (h : Stands w j wr) : w.heap.size < wr.heap.size := by
  obtain ⟨_, _, _, _, _, _, hI, _⟩ := h
  exact hI.lt

theorem Stands.later {w wr : World} {j : Nat} (h : Stands w j wr) (o : Obj) : Stands w (j + 1) (wr.alloc o) := by
  have hs := h.size
  obtain ⟨hb, ka, ps, hs', wv, hv, hI, hg, h1, h2⟩ := h
  exact ⟨hb.alloc hb.size _, ka, ps, hs', wv, hv, hI.below ((Below.refl _ _).alloc (Nat.le_refl _) _), hg, by omega, by omega⟩

/-- A step, made. -/
theorem Stands.step {w wr : World} {j : Nat} (h : Stands w j wr) (hj : j < 1048576) (o : OpV) (M : Int) (x : Obj) (ho : InRange o) (hk : o.kind ≤ 4 ∨ o.kind = 15) (hM : w.cell? ⟨0, 0, none⟩ = some (.int .i64 M)) (hs1 : o.s.length ≤ 1048576) :
    Calls Tryz.prog 18 #[.pointer (some ⟨w.heap.size, 0, none⟩), .agg (opVals o)] (wr.alloc x) fun e W' => e = .returned (.bool true) ∧ Stands w (j + 1) W' := by
  have h00 : 0 < w.heap.size := World.block_lt_of_cell? _ _ hM
  have hs := h.size
  obtain ⟨hb, ka, ps, hs', wv, hv, hI, hg, h1, h2⟩ := h
  have hB : Below w.heap.size w (wr.alloc x) := hb.alloc hb.size _
  refine (step_any o M ho hk (hI.below ((Below.refl _ _).alloc (Nat.le_refl _) x)) hg ((hB.cell (p := ⟨0, 0, none⟩) h00).trans hM) (by omega) (by omega) hs1).mono ?_
  rintro e W' ⟨rfl, ka', ps', hs'', wv', hv', hI', hg', h1', h2', hb'⟩
  exact ⟨rfl, hB.trans hb', ka', ps', hs'', wv', hv', hI', hg', by omega, by omega⟩

set_option maxHeartbeats 3200000 in
set_option maxRecDepth 20000 in
theorem upTo_any (only : Int) (h1 : 1 ≤ only) (h4 : only ≤ 4) (ad : Addr) (ops : List OpV) (cap : Nat) (w : World) (M : Int) (hM : w.cell? ⟨0, 0, none⟩ = some (.int .i64 M)) (hS : Script w ad ops) (hn : ops.length ≤ cap) (hl : ops.length ≤ 1048576) (hs : ∀ o ∈ ops, o.s.length ≤ 1048576) (hr : ∀ o ∈ ops, InRange o) :
    Calls Tryz.prog 16 #[.slice (some ad) ops.length cap, .int .i64 only] w fun e w' => e = .returned (.int .i64 (-1)) ∧ Below w.heap.size w w' := by
  have HS : Hid (Script w ad ops) := hS
  have HSl : Hid (∀ o ∈ ops, o.s.length ≤ 1048576) := hs
  have HR : Hid (∀ o ∈ ops, InRange o) := hr
  have HM : Hid (w.cell? ⟨0, 0, none⟩ = some (.int .i64 M)) := hM
  have HSt : Hid (Stands w 0 (w.alloc (.cells z35 35))) := Stands.start w
  unfold z35 at HSt
  obtain ⟨k, hk⟩ : ∃ k, k = ops.length := ⟨_, rfl⟩
  have HK : Hid (k = ops.length) := hk
  have hcap : ops.length ≤ cap := hn
  rw [← hk] at hcap hl
  rw [← hk]
  clear hn
  have e0 : (only == 0) = false := by rw [beq_eq_false_iff_ne]; omega
  have e1 : (only == -1) = false := by rw [beq_eq_false_iff_ne]; omega
  have hpos : 0 < only := by omega
  have hon : only ≤ 4 ∨ only = 15 := Or.inl h4
  have HOn : Hid (only ≤ 4 ∨ only = 15) := hon
  clear hS hs hr hM hk hon
  go_enter Tryz.func16, Tryz.ntmps16
  go_wp2_with fail
  go_loopw [12] (fun t wr => ∃ j : Nat, j ≤ k ∧ t = .int .i64 j ∧ Hid (Stands w j wr)) (fun t _ => k - (intOf t).toNat)
  case atStart => exact ⟨0, by omega, rfl, HSt⟩
  case round =>
    obtain ⟨j, hj, rfl, HSd⟩ := hrel
    have hsz : w.heap.size < wr.heap.size := HSd.out.size
    by_cases hlt : j < k
    · have hjl : j < ops.length := by rw [← HK.out]; exact hlt
      obtain ⟨d0, d1, d2, d3, d4, d5, d6, d7⟩ := HS.out.keep HSd.out.1 j hjl
      have HSl2 : Hid (ops[j].s.length ≤ 1048576) := HSl.out ops[j] (List.getElem_mem hjl)
      have HR2 : Hid (InRange ops[j]) := HR.out ops[j] (List.getElem_mem hjl)
      generalize ops[j] = o at d0 d1 d2 d3 d4 d5 d6 d7 HSl2 HR2
      by_cases hst : o.kind ≤ 4 ∨ o.kind = 15
      · have HSt' : Hid _ := HSd.out.step (by omega) o M (.cells (opVals o) 27) HR2.out hst HM.out HSl2.out
        have HK1 : Hid (o.kind ≤ 4 ∨ o.kind = 15) := hst
        unfold opVals at HSt'
        clear hst
        go_wp2_with fail
        refine (stage_one _ _ HK1.out).mono ?_
        rintro e w1 ⟨rfl, rfl⟩
        go_wp2_with fail
        refine (stage_one _ _ HOn.out).mono ?_
        rintro e w1 ⟨rfl, rfl⟩
        go_wp2_with fail
        refine Calls.mono HSt'.out ?_
        rintro e W1 ⟨rfl, hS1⟩
        have HS1 : Hid (Stands w (j + 1) W1) := hS1
        clear hS1 HSt'
        go_wp2_with fail
        go_roundw
        case rel => exact ⟨j + 1, by omega, by go_num, HS1⟩
        case measure => simp [intOf]; omega
      · have HK1 : Hid (¬ (o.kind ≤ 4 ∨ o.kind = 15)) := hst
        have HLa : Hid (Stands w (j + 1) (wr.alloc (.cells (opVals o) 27))) := HSd.out.later _
        unfold opVals at HLa
        clear hst
        go_wp2_with fail
        refine (stage_more _ _ HK1.out).mono ?_
        rintro e w1 ⟨⟨q, hq, rfl⟩, rfl⟩
        go_wp2_with fail
        refine (stage_one _ _ HOn.out).mono ?_
        rintro e w1 ⟨rfl, rfl⟩
        go_wp2_with fail
        go_roundw
        case rel => exact ⟨j + 1, by omega, by go_num, HLa⟩
        case measure => simp [intOf]; omega
    · have HB : Hid (Below w.heap.size w wr) := HSd.out.1
      go_wp2_with fail
      go_ret
      exact ⟨rfl, HB.out⟩

end Go.Proofs.YthkbeaffkcfgiaaGreatDoor
