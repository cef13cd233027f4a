import Derived.Test.YtknfcmfnnjgkdaaGreatDoorPlaces
import Derived.Deep.RegionWith
namespace Go.Proofs.YtknfcmfnnjgkdaaGreatDoor
open Go.RowKit

/-- The twenty places of the world at block b: lives begun, whether the last goes on. -/
def PlacesAt (w : World) (b : Nat) (bg : Nat → Nat) (tk : Nat → Bool) : Prop :=
  b < w.heap.size ∧ ∀ i, i < 20 → w.cell? ⟨b, 1 + i * 2, none⟩ = some (.int .i64 (bg i)) ∧ w.cell? ⟨b, 1 + i * 2 + 1, none⟩ = some (.bool (tk i)) ∧
    w.frozen? ⟨b, 1 + i * 2, none⟩ = false ∧ w.frozen? ⟨b, 1 + i * 2 + 1, none⟩ = false

theorem PlacesAt.kept {w w' : World} {b : Nat} {bg : Nat → Nat} {tk : Nat → Bool} (h : PlacesAt w b bg tk) (hs : w.heap.size ≤ w'.heap.size) (hb : w'.heap[b]? = w.heap[b]?) : PlacesAt w' b bg tk := by
  refine ⟨Nat.lt_of_lt_of_le h.1 hs, fun i hi => ?_⟩
  obtain ⟨a1, a2, a3, a4⟩ := h.2 i hi
  exact ⟨(World.cell?_of_block (a := ⟨b, _, none⟩) hb).trans a1, (World.cell?_of_block (a := ⟨b, _, none⟩) hb).trans a2,
    (World.frozen?_of_block (a := ⟨b, _, none⟩) hb).trans a3, (World.frozen?_of_block (a := ⟨b, _, none⟩) hb).trans a4⟩

theorem PlacesAt.below {w w' : World} {b : Nat} {bg : Nat → Nat} {tk : Nat → Bool} (h : PlacesAt w b bg tk) (hw : Below w.heap.size w w') : PlacesAt w' b bg tk :=
  h.kept hw.size (hw.block b h.1)

theorem PlacesAt.grown {w w' : World} {b : Nat} {bg : Nat → Nat} {tk : Nat → Bool} {row : Option Nat} (h : PlacesAt w b bg tk) (hw : w.grownBy w' row) (hr : some b ≠ row) : PlacesAt w' b bg tk :=
  h.kept hw.size (hw.block b h.1 hr)

/-- A function turned at one place. -/
def upd {α : Type} (f : Nat → α) (i : Nat) (v : α) : Nat → α := fun j => if j = i then v else f j

theorem grownBy_set (w : World) (b o : Nat) (u : Value) : w.grownBy (w.setCell ⟨b, o, none⟩ u) (some b) :=
  ⟨rfl, rfl, rfl, by simp [World.setCell], fun k _ hne => Below.heap_setCell _ _ _ _ (fun e => hne (by rw [e]))⟩

theorem grownBy_drew {w w' : World} {row : Option Nat} (h : w.grownBy w' row) : w.grownBy w'.drew row := ⟨h.os, h.tape, h.output, h.size, h.block⟩

theorem grownBy_below {w w' : World} (h : Below w.heap.size w w') (row : Option Nat) : w.grownBy w' row :=
  ⟨h.os, h.tape, h.output, h.size, fun k hk _ => h.block k hk⟩

theorem grownBy_tr {w w1 w2 : World} {row : Option Nat} (h : w.grownBy w1 row) (k : w1.grownBy w2 row) : w.grownBy w2 row :=
  ⟨k.os.trans h.os, k.tape.trans h.tape, k.output.trans h.output, Nat.le_trans h.size k.size, fun i hi hne => (k.block i (Nat.lt_of_lt_of_le hi h.size) hne).trans (h.block i hi hne)⟩

theorem set_same {w : World} {a : Addr} {u : Value} (v : Value) (h : w.cell? a = some u) : (w.setCell a v).cell? a = some v := World.cell?_setCell_same' w a v (by simp [h])
theorem set_other {w : World} {b o c p : Nat} (v : Value) (h : c ≠ b ∨ p ≠ o) : (w.setCell ⟨b, o, none⟩ v).cell? ⟨c, p, none⟩ = w.cell? ⟨c, p, none⟩ := by
  have hne : (⟨b, o, none⟩ : Addr) ≠ ⟨c, p, none⟩ := by
    intro e; simp at e; omega
  simp [World.cell?_setCell_other, hne]

theorem PlacesAt.leave {w : World} {b : Nat} {bg : Nat → Nat} {tk : Nat → Bool} (h : PlacesAt w b bg tk) (i : Nat) (hi : i < 20) : PlacesAt (w.setCell ⟨b, 1 + i * 2 + 1, none⟩ (.bool false)) b bg (upd tk i false) := by
  refine ⟨by simpa [World.setCell] using h.1, fun j hj => ?_⟩
  obtain ⟨a1, a2, a3, a4⟩ := h.2 j hj
  refine ⟨?_, ?_, by simpa using a3, by simpa using a4⟩
  · rw [set_other _ (by omega)]; exact a1
  · by_cases e : j = i
    · subst e; rw [set_same _ a2]; simp [upd]
    · rw [set_other _ (by omega)]; simpa [upd, e] using a2

theorem PlacesAt.begun {w : World} {b : Nat} {bg : Nat → Nat} {tk : Nat → Bool} (h : PlacesAt w b bg tk) (i : Nat) (hi : i < 20) :
    PlacesAt ((w.setCell ⟨b, 1 + i * 2, none⟩ (.int .i64 ((bg i : Int) + 1))).setCell ⟨b, 1 + i * 2 + 1, none⟩ (.bool true)) b (upd bg i (bg i + 1)) (upd tk i true) := by
  refine ⟨by simpa [World.setCell] using h.1, fun j hj => ?_⟩
  obtain ⟨a1, a2, a3, a4⟩ := h.2 j hj
  refine ⟨?_, ?_, by simpa using a3, by simpa using a4⟩
  · rw [set_other _ (by omega)]
    by_cases e : j = i
    · subst e; rw [set_same _ a1]; simp [upd]
    · rw [set_other _ (by omega)]; simpa [upd, e] using a1
  · by_cases e : j = i
    · subst e; rw [set_same (u := .bool (tk j)) _ (by rw [set_other _ (by omega)]; exact a2)]; simp [upd]
    · rw [set_other _ (by omega), set_other _ (by omega)]; simpa [upd, e] using a2

set_option maxHeartbeats 800000 in
theorem alive_yes (b : Nat) (i : Nat) (n : Int) (w : World) (hi : i < 20) (hb : b < w.heap.size)
    (h0 : w.cell? ⟨b, 1 + i * 2, none⟩ = some (.int .i64 n)) (h1 : w.cell? ⟨b, 1 + i * 2 + 1, none⟩ = some (.bool true)) :
    Calls Tryz.prog 28 #[.pointer (some ⟨b, 0, none⟩), .agg #[.int .i64 ((i : Int) + 1), .int .i64 n]] w fun e w' => e = .returned (.bool true) ∧ Below w.heap.size w w' := by
  have c0 : ∀ (o : Obj) (x : Nat), ((w.alloc o).drewN x).cell? ⟨b, 1 + i * 2, none⟩ = some (.int .i64 n) := fun o x => by
    rw [World.cell?_drewN, World.cell?_of_block (a := ⟨b, _, none⟩) (Below.heap_alloc w o b hb)]; exact h0
  have c1 : ∀ (o : Obj) (x : Nat), ((w.alloc o).drewN x).cell? ⟨b, 1 + i * 2 + 1, none⟩ = some (.bool true) := fun o x => by
    rw [World.cell?_drewN, World.cell?_of_block (a := ⟨b, _, none⟩) (Below.heap_alloc w o b hb)]; exact h1
  have C0 : Hid _ := c0
  have C1 : Hid _ := c1
  clear c0 c1
  go_enter Tryz.func28, Tryz.ntmps28
  go_wp2
  go_quiet ((go_at_call 47; exact Calls.quiet_of_same (hosts_yes _ _ _ _ (C0.out _ _) (C1.out _ _))))
  go_wp2
  go_ret
  exact ⟨rfl, below_drewN ((Below.refl _ _).alloc (Nat.le_refl _) _) _⟩

set_option maxHeartbeats 800000 in
theorem despawn_yes (b : Nat) (i : Nat) (bg : Nat → Nat) (tk : Nat → Bool) (w : World) (hi : i < 20) (hp : PlacesAt w b bg tk) (ht : tk i = true) :
    Calls Tryz.prog 26 #[.pointer (some ⟨b, 0, none⟩), .agg #[.int .i64 ((i : Int) + 1), .int .i64 (bg i)]] w fun e w' => e = .returned (.int .i64 0) ∧ w.grownBy w' (some b) ∧ PlacesAt w' b bg (upd tk i false) := by
  have HP : Hid (PlacesAt w b bg tk) := hp
  have HT : Hid (tk i = true) := ht
  have hb := hp.1
  clear hp ht
  go_enter Tryz.func26, Tryz.ntmps26
  go_wp2_with fail
  refine (alive_yes b i (bg i) _ hi (by simp; omega) ?_ ?_).mono ?_
  · exact ((HP.out.below ((Below.refl _ _).alloc (Nat.le_refl _) _)).2 i hi).1
  · have := ((HP.out.below ((Below.refl _ _).alloc (Nat.le_refl _) (.cells #[.int .i64 ((i : Int) + 1), .int .i64 (bg i)] 48))).2 i hi).2.1
    rw [HT.out] at this; exact this
  rintro e w1 ⟨rfl, hb1⟩
  have hB : Below w.heap.size w w1 := ((Below.refl _ _).alloc (Nat.le_refl _) _).trans (hb1.mono (by simp))
  have hcell : w1.cell? ⟨w.heap.size, 0, none⟩ = some (.int .i64 ((i : Int) + 1)) := by
    rw [hb1.cell (p := ⟨w.heap.size, 0, none⟩) (by simp)]; simp
  have HP1 : Hid (PlacesAt w1 b bg tk) := HP.out.below hB
  have HB : Hid (Below w.heap.size w w1) := hB
  clear hb1 hB
  have hI1 : (0 : Int) ≤ (i : Int) := by omega
  have hI2 : (i : Int) < 20 := by omega
  have hwr : IntKind.i64.wrap (i : Int) = (i : Int) := by rw [IntKind.wrap_i64]; omega
  go_wp2
  go_region_with (go_at_call 46; refine (end_any b (1 + i * 2) true _ ?_ ?_).mono ?_; (have hh := (HP1.out.2 i hi).2.1; rw [HT.out] at hh; exact hh); exact (HP1.out.2 i hi).2.2.2; rintro e w2 ⟨rfl, rfl⟩)
  go_wp2
  go_ret
  refine ⟨rfl, ?_, ?_⟩
  · exact grownBy_tr (grownBy_below HB.out _) (grownBy_drew (grownBy_set _ _ _ _))
  · exact HP1.out.leave i hi

end Go.Proofs.YtknfcmfnnjgkdaaGreatDoor
