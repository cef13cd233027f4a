import Derived.Test.YthkbeaffkcfgiabGreatDoorK11
set_option linter.unusedSimpArgs false
set_option linter.unusedVariables false
namespace Go.Proofs.YthkbeaffkcfgiabGreatDoor
open Go.RowKit

set_option maxHeartbeats 800000 in
theorem cloneT_any (s : ByteArray) (w : World) (hl : s.size ≤ 1000) : Calls Tryz.prog 277 #[.string s] w fun e w' => e = .returned (.string s) ∧ Below w.heap.size w w' := by
  have HC : Hid (Calls Tryz.prog 294 #[.string s] w fun e w' => e = .returned (.string s) ∧ Below w.heap.size w w') := Tryz.stringslite_Clone s w (by omega)
  go_enter Tryz.func277, Tryz.ntmps277
  go_wp2_with (go_at_call 294; refine HC.out.mono ?_; rintro e w2 ⟨rfl, hb2⟩)
  go_ret
  exact ⟨rfl, hb2⟩

set_option maxHeartbeats 1600000 in
theorem set_text (cb g r n cap : Nat) (k x : Int) (s : ByteArray) (p l : Int) (vl u : Value) (w : World) (c0 : w.cell? ⟨cb, 0, none⟩ = some (.slice (some ⟨g, 0, none⟩) n cap)) (hr : r < n) (hn : n ≤ 100) (hs : s.size ≤ 1000) (c1 : w.cell? ⟨g, r, none⟩ = some u) (f1 : w.frozen? ⟨g, r, none⟩ = false) :
    Calls Tryz.prog 385 #[.pointer (some ⟨cb, 0, none⟩), .int .i64 r, .agg #[.int .i64 k, .int .i64 x, .string s, .int .i64 p, .int .i64 l, vl]] w fun e w' => e = .returned (.tuple #[]) ∧ ∃ W, Below w.heap.size w W ∧ w' = W.setCell ⟨g, r, none⟩ (.string s) := by
  have hb : cb < w.heap.size := World.block_lt_of_cell? _ _ c0
  have hg : g < w.heap.size := World.block_lt_of_cell? _ _ c1
  have hb1 : cb ≠ w.heap.size := by omega
  have hg1 : g ≠ w.heap.size := by omega
  have mixed : Tryz.prog.follows Departure.mixedOrders = true := by kernel_rfl
  obtain ⟨W1, hW1⟩ : ∃ W1, W1 = (w.alloc (.cells #[.int .i64 k, .int .i64 x, .string s, .int .i64 p, .int .i64 l, vl] 56)).drew := ⟨_, rfl⟩
  have HI : Hid (Calls Tryz.prog 277 #[.string s] W1 fun e w' => e = .returned (.string s) ∧ w'.cell? ⟨cb, 0, none⟩ = some (.slice (some ⟨g, 0, none⟩) n cap) ∧ w'.cell? ⟨g, r, none⟩ = some u ∧ w'.frozen? ⟨g, r, none⟩ = false ∧ w'.cell? ⟨w.heap.size, 2, none⟩ = some (.string s) ∧ Hid (Below w.heap.size w w')) := by
    have hB : Below w.heap.size w W1 := by rw [hW1]; exact ((Below.refl _ _).alloc (Nat.le_refl _) _).drew
    have hs1 : W1.heap.size = w.heap.size + 1 := by rw [hW1]; simp
    refine (cloneT_any s W1 hs).mono ?_
    rintro e w' ⟨rfl, h⟩
    have hB2 : Below w.heap.size w w' := hB.trans (h.mono (by omega))
    exact ⟨rfl, (hB2.cell (p := ⟨cb, 0, none⟩) hb).trans c0, (hB2.cell (p := ⟨g, r, none⟩) hg).trans c1, (hB2.frozen (p := ⟨g, r, none⟩) hg).trans f1, (h.cell (p := ⟨w.heap.size, 2, none⟩) (by simp; omega)).trans (by rw [hW1]; simp), hB2⟩
  rw [hW1] at HI
  go_enter Tryz.func385, Tryz.ntmps385
  go_wp2_with fail
  go_region_with (go_at_call 277; refine HI.out.mono ?_; rintro e w2 ⟨rfl, d0, d1, d2, d3, HB⟩)
  all_goals go_wp2_with fail
  all_goals go_end0
  all_goals exact ⟨rfl, _, HB.out, rfl⟩

set_option maxHeartbeats 1600000 in
theorem set_list (cb g r n cap : Nat) (k x : Int) (s : ByteArray) (p l : Int) (vl u : Value) (ls : List Int) (w : World) (c0 : w.cell? ⟨cb, 0, none⟩ = some (.slice (some ⟨g, 0, none⟩) n cap)) (hr : r < n) (hn : n ≤ 100) (hs : IntsAt w vl ls) (hl : ls.length ≤ 100) (c1 : w.cell? ⟨g, r, none⟩ = some u) (f1 : w.frozen? ⟨g, r, none⟩ = false) :
    Calls Tryz.prog 401 #[.pointer (some ⟨cb, 0, none⟩), .int .i64 r, .agg #[.int .i64 k, .int .i64 x, .string s, .int .i64 p, .int .i64 l, vl]] w fun e w' => e = .returned (.tuple #[]) ∧ ∃ W sa sc, Below w.heap.size w W ∧ W.ownsRow (w.heap.size + 1) 3 1 (.slice sa ls.length sc) ls.length (ls.map (.int .i64)) ∧ w' = W.setCell ⟨g, r, none⟩ (.slice sa ls.length sc) := by
  have hb : cb < w.heap.size := World.block_lt_of_cell? _ _ c0
  have hg : g < w.heap.size := World.block_lt_of_cell? _ _ c1
  have hb1 : cb ≠ w.heap.size := by omega
  have hg1 : g ≠ w.heap.size := by omega
  have mixed : Tryz.prog.follows Departure.mixedOrders = true := by kernel_rfl
  obtain ⟨W1, hW1⟩ : ∃ W1, W1 = (w.alloc (.cells #[.int .i64 k, .int .i64 x, .string s, .int .i64 p, .int .i64 l, vl] 56)).drew := ⟨_, rfl⟩
  have HI : Hid (Calls Tryz.prog 403 #[vl] W1 fun e w' => ∃ sa sc, e = .returned (.slice sa ls.length sc) ∧ w'.cell? ⟨cb, 0, none⟩ = some (.slice (some ⟨g, 0, none⟩) n cap) ∧ w'.cell? ⟨g, r, none⟩ = some u ∧ w'.frozen? ⟨g, r, none⟩ = false ∧ w'.cell? ⟨w.heap.size, 5, none⟩ = some vl ∧ Hid (Below w.heap.size w w' ∧ w'.ownsRow (w.heap.size + 1) 3 1 (.slice sa ls.length sc) ls.length (ls.map (.int .i64)))) := by
    have hB : Below w.heap.size w W1 := by rw [hW1]; exact ((Below.refl _ _).alloc (Nat.le_refl _) _).drew
    have hs1 : W1.heap.size = w.heap.size + 1 := by rw [hW1]; simp
    refine (fresh_any vl ls W1 (hs.below hB) (by omega)).mono ?_
    rintro e w' ⟨sa, sc, rfl, ho, h⟩
    rw [hs1] at ho
    have hB2 : Below w.heap.size w w' := hB.trans (h.mono (by omega))
    exact ⟨sa, sc, rfl, (hB2.cell (p := ⟨cb, 0, none⟩) hb).trans c0, (hB2.cell (p := ⟨g, r, none⟩) hg).trans c1, (hB2.frozen (p := ⟨g, r, none⟩) hg).trans f1, (h.cell (p := ⟨w.heap.size, 5, none⟩) (by simp; omega)).trans (by rw [hW1]; simp), hB2, ho⟩
  rw [hW1] at HI
  clear hs hl
  have HQ : Hid (∀ W sa sc, Below w.heap.size w W → W.ownsRow (w.heap.size + 1) 3 1 (.slice sa ls.length sc) ls.length (ls.map (.int .i64)) → ∃ W2 sa2 sc2, Below w.heap.size w W2 ∧ W2.ownsRow (w.heap.size + 1) 3 1 (.slice sa2 ls.length sc2) ls.length (ls.map (.int .i64)) ∧ W.setCell ⟨g, r, none⟩ (.slice sa ls.length sc) = W2.setCell ⟨g, r, none⟩ (.slice sa2 ls.length sc2)) := fun W sa sc h1 h2 => ⟨W, sa, sc, h1, h2, rfl⟩
  generalize ls.length = m at HI HQ ⊢
  go_enter Tryz.func401, Tryz.ntmps401
  go_wp2_with fail
  go_region_with (go_at_call 403; refine HI.out.mono ?_; rintro e w2 ⟨sa, sc, rfl, d0, d1, d2, d3, HB⟩)
  all_goals go_wp2_with fail
  all_goals go_end0
  all_goals exact ⟨rfl, HQ.out _ _ _ HB.out.1 HB.out.2⟩

end Go.Proofs.YthkbeaffkcfgiabGreatDoor
