import Derived.Test.YthkbeaffkcfgiabGreatDoorLeave
namespace Go.Proofs.YthkbeaffkcfgiabGreatDoor
open Go.RowKit

/-- A layout of n components, in its cells, at block g. -/
def LayAt (W : World) (g n : Nat) : Prop := g < W.heap.size ∧ n ≤ 6 ∧ ∀ j, j < n → ∃ nm sa sn sc, W.cell? ⟨g, j * 2, none⟩ = some (.string nm) ∧ W.cell? ⟨g, j * 2 + 1, none⟩ = some (.slice sa sn sc)

theorem LayAt.turn {W W' : World} {g n : Nat} (h : LayAt W g n) (hs : W.heap.size ≤ W'.heap.size) (hb : W'.heap[g]? = W.heap[g]?) : LayAt W' g n :=
  ⟨Nat.lt_of_lt_of_le h.1 hs, h.2.1, fun j hj => by
    obtain ⟨nm, sa, sn, sc, h1, h2⟩ := h.2.2 j hj
    exact ⟨nm, sa, sn, sc, (World.cell?_of_block (a := ⟨g, _, none⟩) hb).trans h1, (World.cell?_of_block (a := ⟨g, _, none⟩) hb).trans h2⟩⟩

set_option maxHeartbeats 1600000 in
theorem new_tab (g n c : Nat) (w : World) (hL : LayAt w g n) (_hc : n ≤ c) :
    Calls Tryz.prog 189 #[.slice (some ⟨g, 0, none⟩) n c, .int .u64 0] w fun e w' => e = .returned (.pointer (some ⟨w.heap.size, 0, none⟩)) ∧ Below w.heap.size w w' ∧
      w'.heap[w.heap.size]? = some (.cells #[.slice none 0 0, .slice none 0 0, .slice none 0 0, .slice none 0 0, .slice none 0 0, .slice none 0 0, .slice none 0 0] 204 (0, 0)) := by
  have HL : Hid (∀ j, j < n → ∃ nm sa sn sc, w.cell? ⟨g, j * 2, none⟩ = some (.string nm) ∧ w.cell? ⟨g, j * 2 + 1, none⟩ = some (.slice sa sn sc)) := hL.2.2
  have hn := hL.2.1
  have hg := hL.1
  clear hL
  go_enter Tryz.func189, Tryz.ntmps189
  go_wp2
  go_loopw [12] (fun t wr => ∃ k : Nat, k ≤ n ∧ t = .int .i64 k ∧ Below (w.heap.size + 1) (w.alloc (.cells #[.slice none 0 0, .slice none 0 0, .slice none 0 0, .slice none 0 0, .slice none 0 0, .slice none 0 0, .slice none 0 0] 204)) wr) (fun t _ => n - (intOf t).toNat)
  case atStart => exact ⟨0, by omega, rfl, Below.refl _ _⟩
  case round =>
    obtain ⟨k, hk, rfl, hb⟩ := hrel
    have HB : Hid (Below (w.heap.size + 1) (w.alloc (.cells #[.slice none 0 0, .slice none 0 0, .slice none 0 0, .slice none 0 0, .slice none 0 0, .slice none 0 0, .slice none 0 0] 204)) wr) := hb
    clear hb
    by_cases hlt : k < n
    · obtain ⟨nm, sa, sn, sc, d0, d1⟩ := HL.out k hlt
      have hA : Below w.heap.size w (w.alloc (.cells #[.slice none 0 0, .slice none 0 0, .slice none 0 0, .slice none 0 0, .slice none 0 0, .slice none 0 0, .slice none 0 0] 204)) := (Below.refl _ _).alloc (Nat.le_refl _) _
      have c0 : wr.cell? ⟨g, k * 2, none⟩ = some (.string nm) := (HB.out.cell (p := ⟨g, _, none⟩) (by simp; omega)).trans ((hA.cell (p := ⟨g, _, none⟩) hg).trans d0)
      have c1 : wr.cell? ⟨g, k * 2 + 1, none⟩ = some (.slice sa sn sc) := (HB.out.cell (p := ⟨g, _, none⟩) (by simp; omega)).trans ((hA.cell (p := ⟨g, _, none⟩) hg).trans d1)
      clear d0 d1 hA
      go_wp2_with (go_at_call 66; refine (has_zero k _ (by omega)).mono ?_; rintro e w' ⟨rfl, rfl⟩)
      go_roundw
      case rel => exact ⟨k + 1, by omega, by go_num, by first | exact HB.out.alloc (by have := HB.out.size; simpa using this) _ | exact (HB.out.alloc (by have := HB.out.size; simpa using this) _).setCell (by have := HB.out.size; simpa using this) _ | exact ((HB.out.alloc (by have := HB.out.size; simpa using this) _).setCell (by have := HB.out.size; simpa using this) _).setCell (by have := HB.out.size; simpa using this) _⟩
      case measure => simp [intOf]; omega
    · go_wp2
      go_ret
      exact ⟨rfl, ((Below.refl _ _).alloc (Nat.le_refl _) _).trans (HB.out.mono (by omega)), (HB.out.block _ (by omega)).trans (_root_.Go.heap_alloc_new w _)⟩

end Go.Proofs.YthkbeaffkcfgiabGreatDoor
