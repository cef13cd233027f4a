import Derived.Laws.Rows
import Derived.Laws.AppendOwnNone
import Derived.Laws.Tables
import Derived.Test.YthkbeaffkcfgiabGreatDoorK07
import Derived.Test.YthkbeaffkcfgiabGreatDoorK09
import Derived.Test.YthkbeaffkcfgiabGreatDoorK05
set_option linter.unusedSimpArgs false
set_option linter.unusedVariables false
namespace Go.Proofs.YthkbeaffkcfgiabGreatDoor
open Go.RowKit

/-- A value's six cells. -/
def valCells (k n : Int) (s : ByteArray) (p l : Int) (v : Value) : Array Value := #[.int .i64 k, .int .i64 n, .string s, .int .i64 p, .int .i64 l, v]

set_option maxHeartbeats 1600000 in
theorem get_int (cb g r n cap : Nat) (x : Int) (w : World) (c0 : w.cell? ⟨cb, 0, none⟩ = some (.slice (some ⟨g, 0, none⟩) n cap)) (hr : r < n) (hn : n ≤ 100) (c1 : w.cell? ⟨g, r, none⟩ = some (.int .i64 x)) :
    Calls Tryz.prog 361 #[.pointer (some ⟨cb, 0, none⟩), .int .i64 r] w fun e w' => e = .returned (.agg (valCells 1 x ⟨#[]⟩ 0 0 (.slice none 0 0))) ∧ Below w.heap.size w w' := by
  have hb : cb < w.heap.size := World.block_lt_of_cell? _ _ c0
  have hg : g < w.heap.size := World.block_lt_of_cell? _ _ c1
  have hb1 : cb ≠ w.heap.size := by omega
  have hg1 : g ≠ w.heap.size := by omega
  go_enter Tryz.func361, Tryz.ntmps361
  go_wp2
  refine bodyPost_ret_by (v := .agg (valCells 1 x ⟨#[]⟩ 0 0 (.slice none 0 0))) ?_ rfl ⟨rfl, ?_⟩
  · exact results_cell_row (p := 4) (ty := 56) rfl _ _ w.heap.size 56 _ (0, 0) _ rfl (heap_alloc_at rfl _) Tryz.underlying56 rfl (by kernel_rfl)
  · exact (Below.refl _ _).alloc (Nat.le_refl _) _

set_option maxHeartbeats 1600000 in
theorem get_text (cb g r n cap : Nat) (x : ByteArray) (w : World) (c0 : w.cell? ⟨cb, 0, none⟩ = some (.slice (some ⟨g, 0, none⟩) n cap)) (hr : r < n) (hn : n ≤ 100) (c1 : w.cell? ⟨g, r, none⟩ = some (.string x)) :
    Calls Tryz.prog 383 #[.pointer (some ⟨cb, 0, none⟩), .int .i64 r] w fun e w' => e = .returned (.agg (valCells 3 0 x 0 0 (.slice none 0 0))) ∧ Below w.heap.size w w' := by
  have hb : cb < w.heap.size := World.block_lt_of_cell? _ _ c0
  have hg : g < w.heap.size := World.block_lt_of_cell? _ _ c1
  have hb1 : cb ≠ w.heap.size := by omega
  have hg1 : g ≠ w.heap.size := by omega
  go_enter Tryz.func383, Tryz.ntmps383
  go_wp2
  refine bodyPost_ret_by (v := .agg (valCells 3 0 x 0 0 (.slice none 0 0))) ?_ rfl ⟨rfl, ?_⟩
  · exact results_cell_row (p := 4) (ty := 56) rfl _ _ w.heap.size 56 _ (0, 0) _ rfl (heap_alloc_at rfl _) Tryz.underlying56 rfl (by kernel_rfl)
  · exact (Below.refl _ _).alloc (Nat.le_refl _) _

set_option maxHeartbeats 1600000 in
theorem get_ref (cb g r n cap : Nat) (p l : Int) (w : World) (c0 : w.cell? ⟨cb, 0, none⟩ = some (.slice (some ⟨g, 0, none⟩) n cap)) (hr : r < n) (hn : n ≤ 100) (c1 : w.cell? ⟨g, r * 2, none⟩ = some (.int .i64 p)) (c2 : w.cell? ⟨g, r * 2 + 1, none⟩ = some (.int .i64 l)) :
    Calls Tryz.prog 394 #[.pointer (some ⟨cb, 0, none⟩), .int .i64 r] w fun e w' => e = .returned (.agg (valCells 4 0 ⟨#[]⟩ p l (.slice none 0 0))) ∧ Below w.heap.size w w' := by
  have hb : cb < w.heap.size := World.block_lt_of_cell? _ _ c0
  have hg : g < w.heap.size := World.block_lt_of_cell? _ _ c1
  have hb1 : cb ≠ w.heap.size := by omega
  have hg1 : g ≠ w.heap.size := by omega
  go_enter Tryz.func394, Tryz.ntmps394
  go_wp2
  refine bodyPost_ret_by (v := .agg (valCells 4 0 ⟨#[]⟩ p l (.slice none 0 0))) ?_ rfl ⟨rfl, ?_⟩
  · exact results_cell_row (p := 4) (ty := 56) rfl _ _ w.heap.size 56 _ (0, 0) _ rfl (heap_alloc_at rfl _) Tryz.underlying56 rfl (by kernel_rfl)
  · exact (Below.refl _ _).alloc (Nat.le_refl _) _

set_option maxHeartbeats 1600000 in
theorem get_bool (cb g r n cap : Nat) (x : Bool) (w : World) (c0 : w.cell? ⟨cb, 0, none⟩ = some (.slice (some ⟨g, 0, none⟩) n cap)) (hr : r < n) (hn : n ≤ 100) (c1 : w.cell? ⟨g, r, none⟩ = some (.bool x)) :
    Calls Tryz.prog 372 #[.pointer (some ⟨cb, 0, none⟩), .int .i64 r] w fun e w' => e = .returned (.agg (valCells 2 (if x then 1 else 0) ⟨#[]⟩ 0 0 (.slice none 0 0))) ∧ Below w.heap.size w w' := by
  have hb : cb < w.heap.size := World.block_lt_of_cell? _ _ c0
  have hg : g < w.heap.size := World.block_lt_of_cell? _ _ c1
  have hb1 : cb ≠ w.heap.size := by omega
  have hg1 : g ≠ w.heap.size := by omega
  have hb2 : cb ≠ w.heap.size + 1 := by omega
  have hg2 : g ≠ w.heap.size + 1 := by omega
  cases x with
  | false =>
    go_enter Tryz.func372, Tryz.ntmps372
    go_wp2
    refine bodyPost_ret_by (v := .agg (valCells 2 0 ⟨#[]⟩ 0 0 (.slice none 0 0))) ?_ rfl ⟨rfl, ?_⟩
    · exact results_cell_row (p := 4) (ty := 56) rfl _ _ w.heap.size 56 _ (0, 0) _ rfl (by rw [Below.heap_alloc _ _ _ (by simp)]; exact heap_alloc_at rfl _) Tryz.underlying56 rfl (by kernel_rfl)
    · exact ((Below.refl _ _).alloc (Nat.le_refl _) _).alloc (by simp) _
  | true =>
    go_enter Tryz.func372, Tryz.ntmps372
    go_wp2
    refine bodyPost_ret_by (v := .agg (valCells 2 1 ⟨#[]⟩ 0 0 (.slice none 0 0))) ?_ rfl ⟨rfl, ?_⟩
    · exact results_cell_row (p := 4) (ty := 56) rfl _ _ w.heap.size 56 _ (0, 0) _ rfl (by rw [Below.heap_alloc _ _ _ (by simp)]; exact heap_alloc_at rfl _) Tryz.underlying56 rfl (by kernel_rfl)
    · exact ((Below.refl _ _).alloc (Nat.le_refl _) _).alloc (by simp) _

end Go.Proofs.YthkbeaffkcfgiabGreatDoor

namespace Go.Proofs.YthkbeaffkcfgiabGreatDoor
open Go.RowKit

/-- A slice that holds these numbers. -/
def IntsAt (w : World) (s : Value) (l : List Int) : Prop :=
  (s = .slice none 0 0 ∧ l = []) ∨ ∃ g c, s = .slice (some ⟨g, 0, none⟩) l.length c ∧ g < w.heap.size ∧ ∀ j (h : j < l.length), w.cell? ⟨g, j, none⟩ = some (.int .i64 l[j])

theorem IntsAt.below {w w' : World} {s : Value} {l : List Int} (h : IntsAt w s l) (hb : Below w.heap.size w w') : IntsAt w' s l := by
  rcases h with h | ⟨g, c, h1, h2, h3⟩
  · exact Or.inl h
  · exact Or.inr ⟨g, c, h1, Nat.lt_of_lt_of_le h2 hb.size, fun j hj => (hb.cell (p := ⟨g, j, none⟩) h2).trans (h3 j hj)⟩

set_option maxHeartbeats 1600000 in
/-- column.fresh: a copy in memory of its own. -/
theorem fresh_any (s : Value) (l : List Int) (w : World) (hs : IntsAt w s l) (hl : l.length ≤ 1000) :
    Calls Tryz.prog 403 #[s] w fun e w' => ∃ sa sc, e = .returned (.slice sa l.length sc) ∧ w'.ownsRow w.heap.size 3 1 (.slice sa l.length sc) l.length (l.map (.int .i64)) ∧ Below w.heap.size w w' := by
  obtain ⟨i0, hi0, hz0, hz1, hz2⟩ := info_parts Tryz.cellInfoI
  have HNil : Hid (w.ownsRow w.heap.size 3 1 (.slice none 0 0) 0 []) := World.ownsRow_nil _ _ _ _
  rcases hs with ⟨rfl, rfl⟩ | ⟨g, c, rfl, h2, h3⟩
  · go_enter Tryz.func403, Tryz.ntmps403
    go_wp2_with (at_builtin; refine wpList_append_own_none rfl _ _ 54 rfl w.heap.size 3 i0 1 Tryz.underlying54 hi0 _ 0 [] rfl HNil.out rfl ?_)
    go_ret
    exact ⟨none, 0, rfl, HNil.out, Below.refl _ _⟩
  · have HC : Hid (∀ j u, (l.map (Value.int .i64))[j]? = some u → w.cell? ((⟨g, 0, none⟩ : Addr).add j) = some u) := fun j u hj => by
      rw [Addr.add_lit, Nat.zero_add]
      rw [List.getElem?_map] at hj
      cases hq : l[j]? with
      | none => rw [hq] at hj; simp at hj
      | some x =>
        rw [hq] at hj; simp at hj
        obtain ⟨hlt, rfl⟩ := List.getElem?_eq_some_iff.1 hq
        rw [← hj]; exact h3 j hlt
    obtain ⟨n, hn⟩ : ∃ n, n = l.length := ⟨_, rfl⟩
    have HN : Hid (n = l.length) := hn
    rw [← hn] at hl ⊢
    clear h3 hn
    go_enter Tryz.func403, Tryz.ntmps403
    go_wp2_with (at_builtin; refine wpList_append_own_at _ rfl _ _ 54 rfl w.heap.size 3 i0 _ 1 8 Tryz.underlying54 hi0 hz0 hz1 hz2 rfl (by decide) _ _ _ rfl HNil.out ⟨g, 0, none⟩ n c (l.map (Value.int .i64)) rfl (by rw [List.length_map, HN.out, Nat.mul_one]) HC.out (fun u hu => by simp at hu; obtain ⟨x, _, rfl⟩ := hu; rfl) (by unfold maxLen; omega) (by omega) (Nat.le_refl _) ?_; intro v' w6 hown6 hgrow6 _ _; rw [Nat.zero_add, List.nil_append] at hown6; obtain ⟨sa', sc', rfl⟩ := own_form hown6; have HO6 : Hid (w6.ownsRow w.heap.size 3 1 (.slice sa' n sc') n (l.map (.int .i64))) := hown6; have HB6 : Hid (Below w.heap.size w w6) := Below.grown (Below.refl _ _) hgrow6 (Nat.le_refl _) (fun j hj => by cases hj); clear hown6 hgrow6)
    go_ret
    exact ⟨sa', sc', rfl, HO6.out, HB6.out⟩

theorem Tryz.size56 : (Tryz.prog.info? 56).map (·.size) = some 6 := by kernel_rfl

set_option maxHeartbeats 1600000 in
theorem get_list (cb g r n cap : Nat) (s : Value) (l : List Int) (w : World) (c0 : w.cell? ⟨cb, 0, none⟩ = some (.slice (some ⟨g, 0, none⟩) n cap)) (hr : r < n) (hn : n ≤ 100) (c1 : w.cell? ⟨g, r, none⟩ = some s) (hs : IntsAt w s l) (hl : l.length ≤ 100) :
    Calls Tryz.prog 399 #[.pointer (some ⟨cb, 0, none⟩), .int .i64 r] w fun e w' => ∃ sa sc, e = .returned (.agg (valCells 5 0 ⟨#[]⟩ 0 0 (.slice sa l.length sc))) ∧ w'.ownsRow (w.heap.size + 1) 3 1 (.slice sa l.length sc) l.length (l.map (.int .i64)) ∧ Below w.heap.size w w' := by
  have hb : cb < w.heap.size := World.block_lt_of_cell? _ _ c0
  have hg : g < w.heap.size := World.block_lt_of_cell? _ _ c1
  have hb1 : cb ≠ w.heap.size := by omega
  have hg1 : g ≠ w.heap.size := by omega
  obtain ⟨W1, hW1⟩ : ∃ W1, W1 = w.alloc (.cells #[.int .i64 0, .int .i64 0, .string ⟨#[]⟩, .int .i64 0, .int .i64 0, .slice none 0 0] 56) := ⟨_, rfl⟩
  have hB : Below w.heap.size w W1 := by rw [hW1]; exact (Below.refl _ _).alloc (Nat.le_refl _) _
  have hsz : W1.heap.size = w.heap.size + 1 := by rw [hW1]; simp
  have h60 : W1.heap[w.heap.size]? = some (.cells #[.int .i64 0, .int .i64 0, .string ⟨#[]⟩, .int .i64 0, .int .i64 0, .slice none 0 0] 56 (0, 0)) := by rw [hW1]; exact heap_alloc_at rfl _
  have HF : Hid (Calls Tryz.prog 403 #[s] W1 fun e w' => ∃ sa sc, e = .returned (.slice sa l.length sc) ∧ Hid (w'.ownsRow (w.heap.size + 1) 3 1 (.slice sa l.length sc) l.length (l.map (.int .i64)) ∧ Below w.heap.size w w' ∧ w'.heap[w.heap.size]? = some (.cells #[.int .i64 0, .int .i64 0, .string ⟨#[]⟩, .int .i64 0, .int .i64 0, .slice none 0 0] 56 (0, 0)))) := by
    refine (fresh_any s l W1 (hs.below hB) (by omega)).mono ?_
    rintro e w' ⟨sa, sc, rfl, g1, g2⟩
    rw [hsz] at g1
    exact ⟨sa, sc, rfl, g1, hB.trans (g2.mono (by omega)), (g2.block _ (by omega)).trans h60⟩
  rw [hW1] at HF
  clear hB hsz h60 hs hl
  generalize l.length = m at HF ⊢
  go_enter Tryz.func399, Tryz.ntmps399
  go_wp2_with (first
    | (go_at_call 403; refine HF.out.mono ?_; rintro e w2 ⟨sa, sc, rfl, HE⟩)
    | refine wpList_store_row rfl 56 _ _ rfl _ _ rfl rfl 56 _ HE.out.2.2 (by rw [Tryz.size56]; rfl) rfl (by simp [Value.oneCell']) ?_)
  refine bodyPost_ret_by (v := .agg (valCells 5 0 ⟨#[]⟩ 0 0 (.slice sa m sc))) ?_ rfl ⟨sa, sc, rfl, ?_, ?_⟩
  · exact results_cell_row (p := 4) (ty := 56) rfl _ _ w.heap.size 56 _ (0, 0) _ rfl (setRow_heap _ _ _ _ _ _ HE.out.2.2) Tryz.underlying56 rfl (by rw [Tryz.size56]; rfl)
  · exact own_turn HE.out.1 fun k hk _ => setRow_other _ _ _ _ (by have := (HE.out.1.lt k hk).1; omega)
  · obtain ⟨b1, b2, b3, b4, b5⟩ := HE.out.2.1
    exact ⟨b1, b2, b3, by simpa [World.setRow] using b4, fun k hk => (setRow_other _ _ _ _ (by omega)).trans (b5 k hk)⟩

end Go.Proofs.YthkbeaffkcfgiabGreatDoor

namespace Go.Proofs.YthkbeaffkcfgiabGreatDoor
open Go.RowKit

set_option maxHeartbeats 1600000 in
theorem set_int (cb g r n cap : Nat) (k x : Int) (s : ByteArray) (p l : Int) (vl u : Value) (w : World) (c0 : w.cell? ⟨cb, 0, none⟩ = some (.slice (some ⟨g, 0, none⟩) n cap)) (hr : r < n) (hn : n ≤ 100) (c1 : w.cell? ⟨g, r, none⟩ = some u) (f1 : w.frozen? ⟨g, r, none⟩ = false) :
    Calls Tryz.prog 363 #[.pointer (some ⟨cb, 0, none⟩), .int .i64 r, .agg #[.int .i64 k, .int .i64 x, .string s, .int .i64 p, .int .i64 l, vl]] w fun e w' => e = .returned (.tuple #[]) ∧ w' = ((w.setCell ⟨g, r, none⟩ (.int .i64 x)).alloc (.cells #[.int .i64 k, .int .i64 x, .string s, .int .i64 p, .int .i64 l, vl] 56)).drew := by
  have hb : cb < w.heap.size := World.block_lt_of_cell? _ _ c0
  have hg : g < w.heap.size := World.block_lt_of_cell? _ _ c1
  have hb1 : cb ≠ w.heap.size := by omega
  have hg1 : g ≠ w.heap.size := by omega
  have mixed : Tryz.prog.follows Departure.mixedOrders = true := by kernel_rfl
  go_enter Tryz.func363, Tryz.ntmps363
  go_wp2_with fail
  go_region
  go_wp2_with fail
  go_end0
  exact ⟨rfl, rfl⟩

set_option maxHeartbeats 1600000 in
theorem set_bool (cb g r n cap : Nat) (k x : Int) (s : ByteArray) (p l : Int) (vl u : Value) (w : World) (c0 : w.cell? ⟨cb, 0, none⟩ = some (.slice (some ⟨g, 0, none⟩) n cap)) (hr : r < n) (hn : n ≤ 100) (c1 : w.cell? ⟨g, r, none⟩ = some u) (f1 : w.frozen? ⟨g, r, none⟩ = false) :
    Calls Tryz.prog 374 #[.pointer (some ⟨cb, 0, none⟩), .int .i64 r, .agg #[.int .i64 k, .int .i64 x, .string s, .int .i64 p, .int .i64 l, vl]] w fun e w' => e = .returned (.tuple #[]) ∧ w' = ((w.setCell ⟨g, r, none⟩ (.bool (x == 1))).alloc (.cells #[.int .i64 k, .int .i64 x, .string s, .int .i64 p, .int .i64 l, vl] 56)).drew := by
  have hb : cb < w.heap.size := World.block_lt_of_cell? _ _ c0
  have hg : g < w.heap.size := World.block_lt_of_cell? _ _ c1
  have hb1 : cb ≠ w.heap.size := by omega
  have hg1 : g ≠ w.heap.size := by omega
  have mixed : Tryz.prog.follows Departure.mixedOrders = true := by kernel_rfl
  go_enter Tryz.func374, Tryz.ntmps374
  go_wp2_with fail
  go_region
  go_wp2_with fail
  go_end0
  exact ⟨rfl, rfl⟩

set_option maxHeartbeats 1600000 in
theorem set_ref (cb g r n cap : Nat) (k x : Int) (s : ByteArray) (p l : Int) (vl u u' : Value) (w : World) (c0 : w.cell? ⟨cb, 0, none⟩ = some (.slice (some ⟨g, 0, none⟩) n cap)) (hr : r < n) (hn : n ≤ 100) (c1 : w.cell? ⟨g, r * 2, none⟩ = some u) (c2 : w.cell? ⟨g, r * 2 + 1, none⟩ = some u') (f1 : w.frozen? ⟨g, r * 2, none⟩ = false) (f2 : w.frozen? ⟨g, r * 2 + 1, none⟩ = false) :
    Calls Tryz.prog 396 #[.pointer (some ⟨cb, 0, none⟩), .int .i64 r, .agg #[.int .i64 k, .int .i64 x, .string s, .int .i64 p, .int .i64 l, vl]] w fun e w' => e = .returned (.tuple #[]) ∧ w' = (((w.setCell ⟨g, r * 2, none⟩ (.int .i64 p)).setCell ⟨g, r * 2 + 1, none⟩ (.int .i64 l)).alloc (.cells #[.int .i64 k, .int .i64 x, .string s, .int .i64 p, .int .i64 l, vl] 56)).drew := by
  have hb : cb < w.heap.size := World.block_lt_of_cell? _ _ c0
  have hg : g < w.heap.size := World.block_lt_of_cell? _ _ c1
  have hb1 : cb ≠ w.heap.size := by omega
  have hg1 : g ≠ w.heap.size := by omega
  have mixed : Tryz.prog.follows Departure.mixedOrders = true := by kernel_rfl
  go_enter Tryz.func396, Tryz.ntmps396
  go_wp2_with fail
  go_region
  go_wp2_with fail
  go_end0
  exact ⟨rfl, rfl⟩

end Go.Proofs.YthkbeaffkcfgiabGreatDoor
