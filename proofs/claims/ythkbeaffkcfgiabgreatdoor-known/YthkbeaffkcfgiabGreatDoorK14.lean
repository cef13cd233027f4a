import Derived.Maps.OwnSet
import Derived.Maps.RangeWalk
import Derived.Maps.Views
import Derived.Test.YthkbeaffkcfgiabGreatDoorK07
import Derived.Test.YthkbeaffkcfgiabGreatDoorK04
import Derived.Test.YthkbeaffkcfgiabGreatDoorK03
set_option linter.unusedSimpArgs false
set_option linter.unusedVariables false
namespace Go.Proofs.YthkbeaffkcfgiabGreatDoor
open Go.RowKit

theorem Tryz.info135 : (Tryz.prog.info? 135).map (fun i => (i.zero, i.size, i.bytes)) = some (some (.agg #[.string ⟨#[]⟩, .int .i64 0]), 2, 24) := by kernel_rfl

theorem own_succ {W : World} {base : Nat} {e : TypeId} {size : Nat} {v : Value} {k : Nat} {xs : List Value} (h : W.ownsRow base e size v (k + 1) xs) : ∃ g cap, v = .slice (some ⟨g, 0, none⟩) (k + 1) cap := by
  rcases h.2 with ⟨_, h⟩ | ⟨g, cap, cur, h, _⟩
  · omega
  · exact ⟨g, cap, h⟩

/-- Behind an append to the row in the variable at block C: what the round goes on with. -/
theorem row_step {C : Nat} {e : TypeId} {wa w5 w6 : World} {sa : Option Addr} {sn sc k : Nat} {v' c0 : Value} {xs ys : List Value} {o : Obj} (hown5 : w5.ownsRow (C + 1) e 2 (.slice sa sn sc) k xs) (hown6 : w6.ownsRow (C + 1) e 2 v' (k + 1) ys)
    (hg : (w5.alloc o).grownBy w6 (Value.slice sa sn sc).ownBlock) (g0 : w5.cell? ⟨C, 0, none⟩ = some c0) (g1 : w5.cell? ⟨C, 1, none⟩ = some (.slice sa sn sc)) (k0 : w5.frozen? ⟨C, 0, none⟩ = false) (k1 : w5.frozen? ⟨C, 1, none⟩ = false)
    (hs : C < w5.heap.size) (hB : Below C wa w5) :
    ∃ g c, v' = .slice (some ⟨g, 0, none⟩) (k + 1) c ∧ w6.cell? ⟨C, 0, none⟩ = some c0 ∧ w6.cell? ⟨C, 1, none⟩ = some (.slice sa sn sc) ∧ w6.frozen? ⟨C, 0, none⟩ = false ∧ w6.frozen? ⟨C, 1, none⟩ = false ∧ Below C wa w6 ∧ C < w6.heap.size := by
  have hrow : ∀ j, (Value.slice sa sn sc).ownBlock = some j → C + 1 ≤ j := fun j hj => (hown5.lt j hj).1
  have hblk : w6.heap[C]? = w5.heap[C]? := by
    rw [hg.block C (by simp; omega) (fun h => by have := hrow C h.symm; omega), Below.heap_alloc _ _ _ hs]
  obtain ⟨g, c, hv⟩ := own_succ hown6
  refine ⟨g, c, hv, ?_, ?_, ?_, ?_, ?_, ?_⟩
  · rw [World.cell?_of_block (a := ⟨C, 0, none⟩) hblk]; exact g0
  · rw [World.cell?_of_block (a := ⟨C, 1, none⟩) hblk]; exact g1
  · rw [World.frozen?_of_block (a := ⟨C, 0, none⟩) hblk]; exact k0
  · rw [World.frozen?_of_block (a := ⟨C, 1, none⟩) hblk]; exact k1
  · exact Below.grown (hB.alloc (by omega) o) hg (by simp; omega) (fun j hj => by have := hrow j hj; omega)
  · have := hg.size; simp at this; omega

/-- A field as it lies in memory. -/
def bz (f : List UInt8 × Nat) : ByteArray × Int := (mk f.1, (f.2 : Int))
theorem mem_bz (nm : List UInt8) (zl : List (List UInt8 × Nat)) : mk nm ∈ (zl.map bz).map Prod.fst ↔ nm ∈ zl.map Prod.fst := by
  simp only [List.map_map, List.mem_map, Function.comp_def, bz]
  constructor
  · rintro ⟨f, hf, e⟩; exact ⟨f, hf, mk_inj e⟩
  · rintro ⟨f, hf, e⟩; exact ⟨f, hf, by rw [e]⟩

theorem cut_small (b : UInt8) : ∀ (s : List UInt8) (p : List UInt8), p ∈ cutL b s → p.length ≤ s.length
  | [], p, h => by simp [cutL] at h; simp [h]
  | c :: s, p, h => by
    unfold cutL at h
    split at h
    · rcases List.mem_cons.1 h with rfl | h
      · simp
      · have := cut_small b s p h; simp; omega
    · cases hc : cutL b s with
      | nil => exact absurd hc (cutL_ne b s)
      | cons q qs =>
        rw [hc] at h
        rcases List.mem_cons.1 h with rfl | h
        · have := cut_small b s q (by rw [hc]; simp); simp; omega
        · have := cut_small b s p (by rw [hc]; simp [h]); simp; omega

end Go.Proofs.YthkbeaffkcfgiabGreatDoor

namespace Go.Proofs.YthkbeaffkcfgiabGreatDoor
open Go.RowKit

theorem own_base {w : World} {b0 b1 e sz n : Nat} {v : Value} {xs : List Value} (h : w.ownsRow b1 e sz v n xs) (hb : b0 ≤ b1) : w.ownsRow b0 e sz v n xs := by
  refine ⟨h.1, ?_⟩
  rcases h.2 with h | ⟨g, cap, cur, h1, h2, h3⟩
  · exact Or.inl h
  · exact Or.inr ⟨g, cap, cur, h1, Nat.le_trans hb h2, h3⟩

/-- Labels of blocks, behind a table's own: the row of component k's columns; the column of its field f. -/
def lCols (k : Nat) : Nat := 2 + k
def lCol (k f : Nat) : Nat := 8 + 4 * k + f

/-- The columns of component k, of the kinds ks, at the blocks cbs; n f rows in that of field f, whose cells are xs f. -/
structure ColsAt (W : World) (own : Nat → Nat) (base k : Nat) (v : Value) (ks cbs : List Nat) (n : Nat → Nat) (xs : Nat → List Value) : Prop where
  len : cbs.length = ks.length
  row : W.ownsRow 0 195 1 v ks.length (List.zipWith colVal ks cbs)
  rowB : ∀ b, v.ownBlock = some b → own b = base + lCols k
  col : ∀ f (h : f < ks.length) (h' : f < cbs.length), ColAt W (fun b => own b = base + lCol k f) cbs[f] (kStr ks[f]) (kElt ks[f]) (kSz ks[f]) (n f) (xs f)

theorem ColsAt.turn {W W' : World} {own own' : Nat → Nat} {base k : Nat} {v : Value} {ks cbs : List Nat} {n : Nat → Nat} {xs : Nat → List Value} (h : ColsAt W own base k v ks cbs n xs)
    (hb : ∀ b, b < W.heap.size → (own b = base + lCols k ∨ ∃ f, f < ks.length ∧ own b = base + lCol k f) → W'.heap[b]? = W.heap[b]? ∧ own' b = own b) : ColsAt W' own' base k v ks cbs n xs := by
  refine ⟨h.len, own_turn h.row fun b hb1 hb2 => (hb b hb2 (Or.inl (h.rowB b hb1))).1, fun b hb1 => ?_, fun f hf hf' => ?_⟩
  · rw [(hb b (h.row.lt b hb1).2 (Or.inl (h.rowB b hb1))).2]; exact h.rowB b hb1
  · exact (h.col f hf hf').turn fun b hb1 hb2 => ⟨(hb b hb2 (Or.inr ⟨f, hf, hb1⟩)).1, (hb b hb2 (Or.inr ⟨f, hf, hb1⟩)).2.trans hb1⟩

/-- Which of a table's components has columns. -/
def hasC (s : Nat) (cks : List (List Nat)) (k : Nat) : Bool := decide (k < cks.length) && s.testBit k

/-- A table at block tb: of the set s of the components of kinds cks; its entities in order, and of each field the cells of its column. -/
structure TabC (W : World) (own : Nat → Nat) (base tb s : Nat) (cks : List (List Nat)) (ents : List (Int × Int)) (xs : Nat → Nat → List Value) : Prop where
  me : own tb = base
  tab : ∃ (ev : Value) (sl : Nat → Value), W.heap[tb]? = some (.cells #[ev, sl 0, sl 1, sl 2, sl 3, sl 4, sl 5] 204 (0, 0)) ∧ W.ownsRow 0 46 2 ev ents.length (eCells ents) ∧ (∀ b, ev.ownBlock = some b → own b = base + 1) ∧
    ∀ k, k < 6 → if hasC s cks k then ∃ cbs, ColsAt W own base k (sl k) (cks.getD k []) cbs (fun _ => ents.length) (xs k) else sl k = .slice none 0 0

/-- A layout of components of these kinds, in its cells, at block g. -/
def LayK (W : World) (g : Nat) (cks : List (List Nat)) : Prop :=
  g < W.heap.size ∧ cks.length ≤ 6 ∧ (∀ ks ∈ cks, ks.length ≤ 4 ∧ ∀ k ∈ ks, 1 ≤ k ∧ k ≤ 5) ∧ ∀ j, j < cks.length → ∃ nm fs, W.cell? ⟨g, j * 2, none⟩ = some (.string nm) ∧ W.cell? ⟨g, j * 2 + 1, none⟩ = some fs ∧ FieldsAt W fs (cks.getD j [])

theorem FieldsAt.below {w w' : World} {s : Value} {ks : List Nat} (h : FieldsAt w s ks) (hb : Below w.heap.size w w') : FieldsAt w' s ks := by
  rcases h with h | ⟨g, c, h1, h2, h3⟩
  · exact Or.inl h
  · exact Or.inr ⟨g, c, h1, Nat.lt_of_lt_of_le h2 hb.size, fun j hj => by
      obtain ⟨nm, a, b⟩ := h3 j hj
      exact ⟨nm, (hb.cell (p := ⟨g, j * 2, none⟩) h2).trans a, (hb.cell (p := ⟨g, j * 2 + 1, none⟩) h2).trans b⟩⟩

/-- New columns are the component's, under labels for their blocks. -/
theorem ColsAt.fresh {W : World} {own : Nat → Nat} {base k B : Nat} {v : Value} {ks cbs : List Nat} (hv : ∃ a n c, v = .slice a n c) (h : W.ownsRow B 195 1 v ks.length (List.zipWith colVal ks cbs)) (hn : NewCols W B v.ownBlock ks cbs) :
    ColsAt W (fun b => if b < B then own b else if v.ownBlock = some b then base + lCols k else base + lCol k (cbs.idxOf b)) base k v ks cbs (fun _ => 0) (fun _ => []) := by
  obtain ⟨h1, h2, h3⟩ := hn
  refine ⟨h1, own_base h (Nat.zero_le _), fun b hb => ?_, fun f hf hf' => ?_⟩
  · have := (h.lt b hb).1
    simp only [if_neg (show ¬ b < B by omega), hb, if_true]
  · obtain ⟨a1, a2, a3, a4⟩ := h3 f hf' hf
    refine ⟨?_, .slice none 0 0, a4, World.ownsRow_nil _ _ _ _, fun b hb => by simp [Value.ownBlock] at hb⟩
    have hnd : cbs.Nodup := h2.imp (fun h => Nat.ne_of_lt h)
    rw [if_neg (by omega), if_neg (fun e => a3 e.symm), hnd.idxOf_getElem f hf']

end Go.Proofs.YthkbeaffkcfgiabGreatDoor

namespace Go.Proofs.YthkbeaffkcfgiabGreatDoor
open Go.RowKit

end Go.Proofs.YthkbeaffkcfgiabGreatDoor

namespace Go.Proofs.YthkbeaffkcfgiabGreatDoor
open Go.RowKit

/-- A layout of n components, in its cells, at block g. -/
def LayAt (W : World) (g n : Nat) : Prop := g < W.heap.size ∧ n ≤ 6 ∧ ∀ j, j < n → ∃ nm sa sn sc, W.cell? ⟨g, j * 2, none⟩ = some (.string nm) ∧ W.cell? ⟨g, j * 2 + 1, none⟩ = some (.slice sa sn sc)

theorem LayAt.turn {W W' : World} {g n : Nat} (h : LayAt W g n) (hs : W.heap.size ≤ W'.heap.size) (hb : W'.heap[g]? = W.heap[g]?) : LayAt W' g n :=
  ⟨Nat.lt_of_lt_of_le h.1 hs, h.2.1, fun j hj => by
    obtain ⟨nm, sa, sn, sc, h1, h2⟩ := h.2.2 j hj
    exact ⟨nm, sa, sn, sc, (World.cell?_of_block (a := ⟨g, _, none⟩) hb).trans h1, (World.cell?_of_block (a := ⟨g, _, none⟩) hb).trans h2⟩⟩

end Go.Proofs.YthkbeaffkcfgiabGreatDoor

namespace Go.Proofs.YthkbeaffkcfgiabGreatDoor
open Go.RowKit Go.Maps

/-- How a pointer to a table reads, as an element of the map. -/
def ptrElem : Value → Option (DataW Unit × List MemPlace)
  | .pointer none => some (.nil, [])
  | .pointer (some ⟨n, 0, none⟩) => some (.lit (.int .u64 n), [])
  | _ => none

theorem ptrElem_inv {v : Value} {n : Nat} {ps : List MemPlace} (h : ptrElem v = some (.lit (.int .u64 n), ps)) : v = .pointer (some ⟨n, 0, none⟩) := by
  unfold ptrElem at h
  split at h
  · simp at h
  · simp at h
    have e := Int.ofNat.inj h.1
    rw [e]
  · cases h
theorem ptrElem_nil {v : Value} {ps : List MemPlace} (h : ptrElem v = some (.nil, ps)) : v = .pointer none := by
  unfold ptrElem at h
  split at h
  · rfl
  · simp at h
  · cases h

/-- What the map of tables holds where no entity has a component: the table of none, or nothing. -/
def mapD : Option Nat → DataW Unit
  | none => .map []
  | some tb => .map [(.int .u64 0, .lit (.int .u64 tb))]

/-- The map of tables at block bm. -/
def MapAt (W : World) (bm : Nat) (t : Option Nat) : Prop := W.ownsMap Tryz.prog 105 ptrElem bm 1 (mapD t)

theorem key79 : Keyed Tryz.prog 105 := int_keyed Tryz.underlying105
theorem zero96 (w : World) : (zeroValue 125).run Tryz.prog w = .ok (.pointer none) w := by kernel_rfl
theorem key0 : keyOf Tryz.prog 105 (.int .u64 0) = some (.int .u64 0) := keyOf_int_mk Tryz.underlying105 (by decide)

theorem fewer {W : World} {b n : Nat} {D : DataW Unit} (h : W.ownsMap Tryz.prog 105 ptrElem b n D) : W.ownsMap Tryz.prog 105 ptrElem b (Maps.size D) D := by
  obtain ⟨es, clock, hb, F, hs, rfl⟩ := h
  exact ⟨es, clock, hb, F, by simp [Maps.size, length_sorted], rfl⟩

theorem MapAt.look {W : World} {bm : Nat} {t : Option Nat} (h : MapAt W bm t) : (Instr.lookup 109 (.map (some bm)) (.int .u64 0) false).run Tryz.prog W = .ok (.pointer (t.map fun tb => ⟨tb, 0, none⟩)) W := by
  obtain ⟨v, ps, h1, h2⟩ := h.lookup key79 Tryz.underlying109 (zero96 W) (zd := .nil) (zp := []) rfl key0
  rw [h1]
  cases t with
  | none => rw [ptrElem_nil (ps := ps) h2]; rfl
  | some tb => rw [ptrElem_inv (n := tb) (ps := ps) h2]; rfl

theorem MapAt.put {W : World} {bm : Nat} {t : Option Nat} (h : MapAt W bm t) (tb : Nat) : ∃ W', (Instr.mapUpdate 109 (.map (some bm)) (.int .u64 0) (.pointer (some ⟨tb, 0, none⟩))).run Tryz.prog W = .ok () W' ∧ MapAt W' bm (some tb) ∧ W.mapTurned W' bm := by
  obtain ⟨W', h1, h2, h3⟩ := h.store key79 Tryz.underlying109 (by unfold maxLen; omega) (val := .pointer (some ⟨tb, 0, none⟩)) (d := .lit (.int .u64 tb)) (ps := []) key0 rfl
  have hD : (mapD t).put (.int .u64 0) (.lit (.int .u64 tb)) = mapD (some tb) := by cases t <;> rfl
  rw [hD] at h2
  exact ⟨W', h1, fewer h2, h3⟩

theorem MapAt.drop {W : World} {bm : Nat} {t : Option Nat} (h : MapAt W bm t) (ty : TypeId) : ∃ W', (Builtin.delete_ #[109, 105] ty #[.map (some bm), .int .u64 0]).run Tryz.prog W = .ok (.tuple #[]) W' ∧ MapAt W' bm none ∧ W.mapTurned W' bm := by
  obtain ⟨W', h1, h2, h3⟩ := World.ownsMap.drop h key79 Tryz.underlying109 key0 ty
  have hD : (mapD t).del (.int .u64 0) = mapD none := by cases t <;> rfl
  rw [hD] at h2
  exact ⟨W', h1, (fewer h2).mono (by simp [Maps.size, mapD]), h3⟩

theorem MapAt.lt {W : World} {bm : Nat} {t : Option Nat} (h : MapAt W bm t) : bm < W.heap.size := World.ownsMap.lt h
theorem MapAt.turn {W W' : World} {bm : Nat} {t : Option Nat} (h : MapAt W bm t) (hb : W'.heap[bm]? = W.heap[bm]?) : MapAt W' bm t := by
  obtain ⟨es, clock, h1, r⟩ := h
  exact ⟨es, clock, hb.trans h1, r⟩

end Go.Proofs.YthkbeaffkcfgiabGreatDoor

namespace Go.Proofs.YthkbeaffkcfgiabGreatDoor

/-- Who lives, by places, rising. -/
def entsOf (bg : Nat → Nat) (tk : Nat → Bool) : List (Int × Int) := ((List.range 20).filter tk).map fun i : Nat => ((i : Int) + 1, (bg i : Int))

theorem range_split : ∀ i : Fin 20, List.range 20 = List.range i.val ++ i.val :: List.range' (i.val + 1) (19 - i.val) := by decide

theorem upd_same {α : Type} (f : Nat → α) (i : Nat) (v : α) : upd f i v i = v := by simp [upd]
theorem upd_ne {α : Type} (f : Nat → α) (i : Nat) (v : α) {j : Nat} (h : j ≠ i) : upd f i v j = f j := by simp [upd, h]

/-- Those ahead of place i, and those behind it. -/
def entsA (bg : Nat → Nat) (tk : Nat → Bool) (i : Nat) : List (Int × Int) := ((List.range i).filter tk).map fun i : Nat => ((i : Int) + 1, (bg i : Int))
def entsB (bg : Nat → Nat) (tk : Nat → Bool) (i : Nat) : List (Int × Int) := ((List.range' (i + 1) (19 - i)).filter tk).map fun i : Nat => ((i : Int) + 1, (bg i : Int))

theorem ents_split (bg : Nat → Nat) (tk : Nat → Bool) (i : Nat) (hi : i < 20) : entsOf bg tk = entsA bg tk i ++ (if tk i then [((i : Int) + 1, (bg i : Int))] else []) ++ entsB bg tk i := by
  unfold entsOf entsA entsB
  rw [range_split ⟨i, hi⟩, List.filter_append, List.filter_cons]
  cases h : tk i <;> simp

theorem entsA_upd (bg bg' : Nat → Nat) (tk tk' : Nat → Bool) (i : Nat) (h1 : ∀ j, j ≠ i → bg' j = bg j) (h2 : ∀ j, j ≠ i → tk' j = tk j) : entsA bg' tk' i = entsA bg tk i := by
  unfold entsA
  have e : (List.range i).filter tk' = (List.range i).filter tk := List.filter_congr fun x hx => h2 x (by have := List.mem_range.1 hx; omega)
  rw [e]
  refine List.map_congr_left fun x hx => ?_
  rw [h1 x (by have := List.mem_range.1 (List.mem_filter.1 hx).1; omega)]
theorem entsB_upd (bg bg' : Nat → Nat) (tk tk' : Nat → Bool) (i : Nat) (h1 : ∀ j, j ≠ i → bg' j = bg j) (h2 : ∀ j, j ≠ i → tk' j = tk j) : entsB bg' tk' i = entsB bg tk i := by
  unfold entsB
  have e : (List.range' (i + 1) (19 - i)).filter tk' = (List.range' (i + 1) (19 - i)).filter tk := List.filter_congr fun x hx => h2 x (by have := List.mem_range'_1.1 hx; omega)
  rw [e]
  refine List.map_congr_left fun x hx => ?_
  rw [h1 x (by have := List.mem_range'_1.1 (List.mem_filter.1 hx).1; omega)]

theorem entsA_lt (bg : Nat → Nat) (tk : Nat → Bool) (i : Nat) : ∀ z ∈ entsA bg tk i, z.1 < (i : Int) + 1 := by
  intro z hz
  obtain ⟨x, hx, rfl⟩ := List.mem_map.1 hz
  have := List.mem_range.1 (List.mem_filter.1 hx).1
  show (x : Int) + 1 < _; omega
theorem entsB_gt (bg : Nat → Nat) (tk : Nat → Bool) (i : Nat) : ∀ z ∈ entsB bg tk i, (i : Int) + 1 < z.1 := by
  intro z hz
  obtain ⟨x, hx, rfl⟩ := List.mem_map.1 hz
  have := List.mem_range'_1.1 (List.mem_filter.1 hx).1
  show _ < (x : Int) + 1; omega

theorem takeWhile_split {α : Type} (P : α → Bool) (a b : List α) (ha : ∀ z ∈ a, P z = true) (hb : ∀ z, b.head? = some z → P z = false) : (a ++ b).takeWhile P = a := by
  rw [List.takeWhile_append_of_pos ha]
  cases b with
  | nil => simp
  | cons x r => rw [List.takeWhile_cons_of_neg (by simp [hb x rfl])]; simp

theorem ahead_ents (bg : Nat → Nat) (tk : Nat → Bool) (i : Nat) (hi : i < 20) : ahead (entsOf bg tk) ((i : Int) + 1) = (entsA bg tk i).length := by
  unfold ahead
  rw [ents_split bg tk i hi, List.append_assoc, takeWhile_split]
  · intro z hz; simpa using entsA_lt bg tk i z hz
  · intro z hz
    have hm : z ∈ (if tk i then [((i : Int) + 1, (bg i : Int))] else []) ++ entsB bg tk i := List.mem_of_mem_head? hz
    rcases List.mem_append.1 hm with h | h
    · split at h
      · simp at h; rw [h]; simp
      · cases h
    · have := entsB_gt bg tk i z h
      simp; omega

theorem ents_len (bg : Nat → Nat) (tk : Nat → Bool) : (entsOf bg tk).length ≤ 20 := by
  unfold entsOf
  rw [List.length_map]
  exact Nat.le_trans (List.length_filter_le _ _) (by rw [List.length_range]; exact Nat.le_refl _)

theorem ents_sort (bg : Nat → Nat) (tk : Nat → Bool) : (entsOf bg tk).Pairwise fun a b => a.1 < b.1 := by
  unfold entsOf
  rw [List.pairwise_map]
  refine List.Pairwise.filter _ ?_
  refine List.pairwise_lt_range.imp fun {a b} h => ?_
  show (a : Int) + 1 < (b : Int) + 1; omega

theorem ents_spawn (bg : Nat → Nat) (tk : Nat → Bool) (i : Nat) (hi : i < 20) (ht : tk i = false) :
    entsOf (upd bg i (bg i + 1)) (upd tk i true) = setIn (entsOf bg tk) (ahead (entsOf bg tk) ((i : Int) + 1)) [((i : Int) + 1, (bg i : Int) + 1)] := by
  rw [ahead_ents bg tk i hi, ents_split (upd bg i (bg i + 1)) (upd tk i true) i hi, ents_split bg tk i hi, entsA_upd bg _ tk _ i (fun j h => upd_ne _ _ _ h) (fun j h => upd_ne _ _ _ h), entsB_upd bg _ tk _ i (fun j h => upd_ne _ _ _ h) (fun j h => upd_ne _ _ _ h), upd_same, upd_same, ht]
  simp [setIn]

theorem ents_despawn (bg : Nat → Nat) (tk : Nat → Bool) (i : Nat) (hi : i < 20) (ht : tk i = true) :
    ahead (entsOf bg tk) ((i : Int) + 1) < (entsOf bg tk).length ∧ entsOf bg (upd tk i false) = cutOut (entsOf bg tk) (ahead (entsOf bg tk) ((i : Int) + 1)) 1 := by
  rw [ahead_ents bg tk i hi, ents_split bg (upd tk i false) i hi, ents_split bg tk i hi, entsA_upd bg bg tk _ i (fun _ _ => rfl) (fun j h => upd_ne _ _ _ h), entsB_upd bg bg tk _ i (fun _ _ => rfl) (fun j h => upd_ne _ _ _ h), upd_same, ht]
  constructor
  · simp
  · simp [cutOut]

end Go.Proofs.YthkbeaffkcfgiabGreatDoor

namespace Go.Proofs.YthkbeaffkcfgiabGreatDoor
open Go.RowKit

theorem Tryz.info138 : (Tryz.prog.info? 138).map (fun i => (i.zero, i.size, i.bytes)) = some (some (.agg #[.string ⟨#[]⟩, .slice none 0 0]), 2, 40) := by kernel_rfl

theorem suffix_cases (text : List UInt8) : (Lib.hasSuffix text [10] = false ∧ schemaL text = none) ∨ (Lib.hasSuffix text [10] = true ∧ ∃ body, text = body ++ [10] ∧ Lib.trimSuffix text [10] = body) := by
  by_cases h : ∃ body, text = body ++ [10]
  · obtain ⟨body, rfl⟩ := h
    right
    have hs : Lib.hasSuffix (body ++ [10]) [10] = true := by
      unfold Lib.hasSuffix; rw [List.isSuffixOf_iff_suffix]; exact ⟨body, rfl⟩
    refine ⟨hs, body, rfl, ?_⟩
    unfold Lib.trimSuffix
    rw [if_pos hs]
    simp
  · left
    refine ⟨?_, schemaL_noEnd text fun body e => h ⟨body, e⟩⟩
    cases hs : Lib.hasSuffix text [10] with
    | false => rfl
    | true =>
      unfold Lib.hasSuffix at hs
      rw [List.isSuffixOf_iff_suffix] at hs
      obtain ⟨body, hb⟩ := hs
      exact absurd ⟨body, hb.symm⟩ h

theorem mem_names {cs : List (ByteArray × (Option Addr × Nat × Nat))} {cl : List (List UInt8 × List (List UInt8 × Nat))} (h : cs.map Prod.fst = cl.map fun c => mk c.1) (nm : List UInt8) : mk nm ∈ cs.map Prod.fst ↔ nm ∈ cl.map Prod.fst := by
  rw [h]
  simp only [List.mem_map]
  constructor
  · rintro ⟨c, hc, e⟩; exact ⟨c, hc, mk_inj e⟩
  · rintro ⟨c, hc, e⟩; exact ⟨c, hc, by rw [e]⟩

end Go.Proofs.YthkbeaffkcfgiabGreatDoor

namespace Go.Proofs.YthkbeaffkcfgiabGreatDoor
open Go.RowKit

/-- The tables of the program's world at block b: a map, or none yet; in it the table of those without components, while there are some. F: blocks that are this world's. -/
def TablesAt (W : World) (F : Nat → Prop) (b : Nat) (ents : List (Int × Int)) : Prop :=
  (W.cell? ⟨b, 61, none⟩ = some (.map none) ∧ ents = []) ∨
  ∃ bm, W.cell? ⟨b, 61, none⟩ = some (.map (some bm)) ∧ F bm ∧ ((MapAt W bm none ∧ ents = []) ∨ ∃ tb, MapAt W bm (some tb) ∧ TabAt W F tb ents)

/-- The program's world at block b, without components: its layout of n components at a block of G, which stays as it is. -/
structure ProgAt (W : World) (F G : Nat → Prop) (b n : Nat) (bg : Nat → Nat) (tk : Nat → Bool) : Prop where
  imm : F b
  blk : ∃ arr, W.heap[b]? = some (.cells arr 111 (0, 0)) ∧ arr.size = 62
  places : ∃ cp, PlacesAt W b bg tk cp ∧ ∀ i, i < 20 → tk i = true → cp i = 0
  lay : ∃ g c, W.cell? ⟨b, 0, none⟩ = some (.slice (some ⟨g, 0, none⟩) n c) ∧ n ≤ c ∧ LayAt W g n ∧ G g
  tabs : TablesAt W F b (entsOf bg tk)

theorem TablesAt.turn {W W' : World} {F F' : Nat → Prop} {b : Nat} {ents : List (Int × Int)} (h : TablesAt W F b ents) (hc : W'.cell? ⟨b, 61, none⟩ = W.cell? ⟨b, 61, none⟩) (hb : ∀ k, F k → k < W.heap.size → k ≠ b → W'.heap[k]? = W.heap[k]? ∧ F' k)
    (hbb : ∃ arr, W.heap[b]? = some (.cells arr 111 (0, 0))) : TablesAt W' F' b ents := by
  obtain ⟨arr, hbb⟩ := hbb
  rcases h with ⟨h1, h2⟩ | ⟨bm, h1, h2, h3⟩
  · exact Or.inl ⟨hc.trans h1, h2⟩
  · have hm : bm < W.heap.size ∧ bm ≠ b := by
      rcases h3 with ⟨h3, _⟩ | ⟨tb, h3, _⟩ <;>
      · refine ⟨h3.lt, fun e => ?_⟩
        subst e
        obtain ⟨es, clock, hh, _⟩ := h3
        rw [hbb] at hh; cases hh
    refine Or.inr ⟨bm, hc.trans h1, (hb bm h2 hm.1 hm.2).2, ?_⟩
    rcases h3 with ⟨h3, h4⟩ | ⟨tb, h3, h4⟩
    · exact Or.inl ⟨h3.turn (hb bm h2 hm.1 hm.2).1, h4⟩
    · refine Or.inr ⟨tb, h3.turn (hb bm h2 hm.1 hm.2).1, ?_⟩
      have hne : ∀ k t (cs : Array Value) fz, W.heap[k]? = some (.cells cs t fz) → t ≠ 111 → k ≠ b := fun k t cs fz hk ht e => by subst e; rw [hbb] at hk; simp at hk; exact ht hk.2.1.symm
      have htl := h4.lt
      obtain ⟨i1, v, i2, i3, i4⟩ := h4
      have e1 := hb tb i1 htl (hne tb 204 _ _ i2 (by decide))
      have e2 : ∀ k, v.ownBlock = some k → W'.heap[k]? = W.heap[k]? ∧ F' k := fun k hk => by
        refine hb k (i4 k hk).1 (i3.lt k hk).2 ?_
        rcases i3.2 with ⟨j1, _⟩ | ⟨g, cap, cur, j1, _, j2, _⟩
        · rw [j1] at hk; cases hk
        · rw [j1] at hk; simp [Value.ownBlock] at hk; subst hk; exact hne g 46 _ _ j2 (by decide)
      exact ⟨e1.2, v, e1.1.trans i2, own_turn i3 fun k hk _ => (e2 k hk).1, fun k hk => ⟨(e2 k hk).2, (i4 k hk).2⟩⟩

theorem ProgAt.lt {W : World} {F G : Nat → Prop} {b n : Nat} {bg : Nat → Nat} {tk : Nat → Bool} (h : ProgAt W F G b n bg tk) : b < W.heap.size := by
  obtain ⟨arr, hb, _⟩ := h.blk
  exact (Array.getElem?_eq_some_iff.1 hb).1

theorem ProgAt.turn {W W' : World} {F F' G G' : Nat → Prop} {b n : Nat} {bg : Nat → Nat} {tk : Nat → Bool} (h : ProgAt W F G b n bg tk) (hs : W.heap.size ≤ W'.heap.size) (hb : ∀ k, F k → k < W.heap.size → W'.heap[k]? = W.heap[k]? ∧ F' k)
    (hg : ∀ k, G k → k < W.heap.size → W'.heap[k]? = W.heap[k]? ∧ G' k) : ProgAt W' F' G' b n bg tk := by
  have e := hb b h.imm h.lt
  obtain ⟨arr, h1, h2⟩ := h.blk
  obtain ⟨cp, h3, h4⟩ := h.places
  obtain ⟨g, c, h5, h6, h7, h8⟩ := h.lay
  have e2 := hg g h8 h7.1
  exact ⟨e.2, ⟨arr, e.1.trans h1, h2⟩, ⟨cp, h3.kept hs e.1, h4⟩, ⟨g, c, (World.cell?_of_block (a := ⟨b, _, none⟩) e.1).trans h5, h6, h7.turn hs e2.1, e2.2⟩,
    h.tabs.turn (World.cell?_of_block (a := ⟨b, 61, none⟩) e.1) (fun k hk hl _ => hb k hk hl) ⟨arr, h1⟩⟩

theorem ProgAt.below {W W' : World} {F G : Nat → Prop} {b n : Nat} {bg : Nat → Nat} {tk : Nat → Bool} (h : ProgAt W F G b n bg tk) (hb : Below W.heap.size W W') : ProgAt W' F G b n bg tk :=
  h.turn hb.size (fun k hk hl => ⟨hb.block k hl, hk⟩) (fun k hk hl => ⟨hb.block k hl, hk⟩)

theorem eql86_some (bm : Nat) (w : World) : (binOp .eql 109 (.map (some bm)) (.map none)).run Tryz.prog w = .ok (.bool false) w := by kernel_rfl
theorem eql86_none (w : World) : (binOp .eql 109 (.map none) (.map none)).run Tryz.prog w = .ok (.bool true) w := by kernel_rfl

end Go.Proofs.YthkbeaffkcfgiabGreatDoor

namespace Go.Proofs.YthkbeaffkcfgiabGreatDoor
open Go.RowKit

/-- What holds of the world where enter has its map, and the map is empty. -/
structure Ready (w V : World) (F : Nat → Prop) (b bm g n c : Nat) (p l : Int) : Prop where
  c61 : V.cell? ⟨b, 61, none⟩ = some (.map (some bm))
  c0 : V.cell? ⟨b, 0, none⟩ = some (.slice (some ⟨g, 0, none⟩) n c)
  h0 : V.cell? ⟨w.heap.size, 0, none⟩ = some (.int .i64 p)
  h1 : V.cell? ⟨w.heap.size, 1, none⟩ = some (.int .i64 l)
  map : MapAt V bm none
  lay : LayAt V g n
  turns : Turns w V F
  cells : ∀ o, o ≠ 61 → V.cell? ⟨b, o, none⟩ = w.cell? ⟨b, o, none⟩
  blk : ∃ arr, V.heap[b]? = some (.cells arr 111 (0, 0)) ∧ arr.size = 62
  own : grow F w V bm
  lt : b < w.heap.size
  imm : F b
  more : w.heap.size < V.heap.size

/-- The table is made and laid into the map. -/
theorem Ready.made {w V W1 : World} {F : Nat → Prop} {b bm g n c : Nat} {p l : Int} (h : Ready w V F b bm g n c p l) (hb : Below V.heap.size V W1) (ht : W1.heap[V.heap.size]? = some (.cells #[.slice none 0 0, .slice none 0 0, .slice none 0 0, .slice none 0 0, .slice none 0 0, .slice none 0 0, .slice none 0 0] 204 (0, 0))) :
    ∃ W2, (Instr.mapUpdate 109 (.map (some bm)) (.int .u64 0) (.pointer (some ⟨V.heap.size, 0, none⟩))).run Tryz.prog W1 = .ok () W2 ∧ W2.cell? ⟨b, 61, none⟩ = some (.map (some bm)) ∧ W2.cell? ⟨w.heap.size, 0, none⟩ = some (.int .i64 p) ∧ W2.cell? ⟨w.heap.size, 1, none⟩ = some (.int .i64 l) ∧ MapAt W2 bm (some V.heap.size) ∧
      Turns w W2 F ∧ (∀ o, o ≠ 61 → W2.cell? ⟨b, o, none⟩ = w.cell? ⟨b, o, none⟩) ∧ (∃ arr, W2.heap[b]? = some (.cells arr 111 (0, 0)) ∧ arr.size = 62) ∧ grow F w W2 bm ∧ TabAt W2 (fun k => grow F w W2 k ∧ k ≠ b ∧ ∃ cs t fz, W2.heap[k]? = some (.cells cs t fz)) V.heap.size [] := by
  have hM1 : MapAt W1 bm none := h.map.turn (hb.block bm h.map.lt)
  obtain ⟨W2, r, hM2, htn⟩ := hM1.put V.heap.size
  have hbV : b < V.heap.size := Nat.lt_of_lt_of_le h.lt h.turns.size
  obtain ⟨arr, hblk, hsz⟩ := h.blk
  have hgr := htn.grown
  have hmb : bm ≠ b := fun e => by
    subst e
    obtain ⟨es, clock, hh, _⟩ := h.map
    rw [hblk] at hh; cases hh
  have hW1 : V.heap.size < W1.heap.size := (Array.getElem?_eq_some_iff.1 ht).1
  have hother : ∀ k, k < W1.heap.size → k ≠ bm → W2.heap[k]? = W1.heap[k]? := fun k hk hn => hgr.block k hk (fun e => hn (by simpa using e))
  have hold : ∀ k, k < V.heap.size → k ≠ bm → W2.heap[k]? = V.heap[k]? := fun k hk hn => (hother k (Nat.lt_of_lt_of_le hk hb.size) hn).trans (hb.block k hk)
  have ebb := hold b hbV (Ne.symm hmb)
  have hmh : bm ≠ w.heap.size := fun e => by
    subst e
    obtain ⟨es, clock, hh, _⟩ := h.map
    have := h.h0
    simp [World.cell?, hh] at this
  have ehh := hold w.heap.size h.more (Ne.symm hmh)
  have hmt : V.heap.size ≠ bm := by have := h.map.lt; omega
  have ett : W2.heap[V.heap.size]? = _ := (hother V.heap.size hW1 hmt).trans ht
  have hs2 : V.heap.size < W2.heap.size := Nat.lt_of_lt_of_le hW1 hgr.size
  have hT : Turns w W2 F := by
    refine h.turns.trans ⟨hgr.os.trans hb.os, hgr.tape.trans hb.tape, hgr.output.trans hb.output, Nat.le_of_lt hs2, fun k hk hn => hold k hk (fun e => hn (by rw [e]; exact h.own))⟩
  have hgb : grow F w W2 bm := h.own.imp id fun ⟨x, y⟩ => ⟨x, by omega⟩
  refine ⟨W2, r, (World.cell?_of_block (a := ⟨b, 61, none⟩) ebb).trans h.c61, (World.cell?_of_block (a := ⟨w.heap.size, 0, none⟩) ehh).trans h.h0, (World.cell?_of_block (a := ⟨w.heap.size, 1, none⟩) ehh).trans h.h1, hM2, hT,
    fun o ho => (World.cell?_of_block (a := ⟨b, o, none⟩) ebb).trans (h.cells o ho), ⟨arr, ebb.trans hblk, hsz⟩, hgb, ⟨⟨Or.inr ⟨h.turns.size, hs2⟩, by omega, _, _, _, ett⟩, _, ett, ⟨rfl, Or.inl ⟨rfl, rfl⟩⟩, fun k hk => by cases hk⟩⟩

end Go.Proofs.YthkbeaffkcfgiabGreatDoor

namespace Go.Proofs.YthkbeaffkcfgiabGreatDoor
open Go.RowKit

/-- What holds of a new table when the components ahead of j have had their turn. -/
def TabUpTo (W : World) (own : Nat → Nat) (base tb s : Nat) (cks : List (List Nat)) (sl : Nat → Value) (j : Nat) : Prop :=
  own tb = base ∧ W.heap[tb]? = some (.cells #[.slice none 0 0, sl 0, sl 1, sl 2, sl 3, sl 4, sl 5] 204 (0, 0)) ∧
    ∀ k, k < 6 → if hasC s cks k && decide (k < j) then ∃ cbs, ColsAt W own base k (sl k) (cks.getD k []) cbs (fun _ => 0) (fun _ => []) else sl k = .slice none 0 0

theorem upd6 (sl : Nat → Value) (j : Nat) (hj : j < 6) (v : Value) : (#[.slice none 0 0, sl 0, sl 1, sl 2, sl 3, sl 4, sl 5] : Array Value).setIfInBounds (1 + j) v = #[.slice none 0 0, upd sl j v 0, upd sl j v 1, upd sl j v 2, upd sl j v 3, upd sl j v 4, upd sl j v 5] := by
  have h : j = 0 ∨ j = 1 ∨ j = 2 ∨ j = 3 ∨ j = 4 ∨ j = 5 := by omega
  rcases h with rfl | rfl | rfl | rfl | rfl | rfl <;> rfl

/-- A component that the set has not. -/
theorem TabUpTo.skip {W W' : World} {own : Nat → Nat} {base tb s : Nat} {cks : List (List Nat)} {sl : Nat → Value} {j : Nat} (h : TabUpTo W own base tb s cks sl j) (hj : hasC s cks j = false) (htb : tb < W.heap.size) (hb : ∀ b, b < W.heap.size → W'.heap[b]? = W.heap[b]?) : TabUpTo W' own base tb s cks sl (j + 1) := by
  obtain ⟨h1, h2, h3⟩ := h
  refine ⟨h1, (hb tb htb).trans h2, fun k hk => ?_⟩
  have := h3 k hk
  by_cases e : k = j
  · subst e
    simpa [hj] using this
  · have e1 : decide (k < j + 1) = decide (k < j) := by simp; omega
    rw [e1]
    split
    · rename_i hq
      rw [if_pos hq] at this
      obtain ⟨cbs, hc⟩ := this
      exact ⟨cbs, hc.turn fun b hb1 _ => ⟨hb b hb1, rfl⟩⟩
    · rename_i hq
      rw [if_neg hq] at this
      exact this

/-- A component that it has. -/
theorem TabUpTo.take {W W' : World} {own : Nat → Nat} {base tb s B : Nat} {cks : List (List Nat)} {sl : Nat → Value} {j : Nat} {v : Value} {cbs : List Nat} (h : TabUpTo W own base tb s cks sl j) (hj : hasC s cks j = true) (hj6 : j < 6) (htb : tb < W.heap.size) (hBW : W.heap.size ≤ B)
    (hb : ∀ b, b < W.heap.size → W'.heap[b]? = W.heap[b]?) (hv : ∃ a n c, v = .slice a n c) (hr : W'.ownsRow B 195 1 v (cks.getD j []).length (List.zipWith colVal (cks.getD j []) cbs)) (hn : NewCols W' B v.ownBlock (cks.getD j []) cbs) :
    TabUpTo (W'.setCell ⟨tb, 1 + j, none⟩ v) (fun b => if b < B then own b else if v.ownBlock = some b then base + lCols j else base + lCol j (cbs.idxOf b)) base tb s cks (upd sl j v) (j + 1) := by
  obtain ⟨h1, h2, h3⟩ := h
  refine ⟨by show (if tb < B then _ else _) = _; rw [if_pos (by omega)]; exact h1, ?_, fun k hk => ?_⟩
  · rw [setCell_block _ ((hb tb htb).trans h2), upd6 sl j hj6]
  · by_cases e : k = j
    · subst e
      simp only [hj, upd_same]
      rw [if_pos (by simp)]
      refine ⟨cbs, (ColsAt.fresh (own := own) (base := base) (k := k) hv hr hn).turn fun b hb1 hb2 => ⟨Below.heap_setCell _ _ _ _ ?_, rfl⟩⟩
      intro e
      simp at e
      subst e
      rw [if_pos (by omega), h1] at hb2
      rcases hb2 with h | ⟨f, _, h⟩
      · unfold lCols at h; omega
      · unfold lCol at h; omega
    · rw [upd_ne _ _ _ e]
      have e1 : decide (k < j + 1) = decide (k < j) := by simp; omega
      rw [e1]
      have := h3 k hk
      split
      · rename_i hq
        rw [if_pos hq] at this
        obtain ⟨cb2, hc⟩ := this
        refine ⟨cb2, hc.turn fun b hb1 hb2 => ⟨(Below.heap_setCell _ _ _ _ ?_).trans (hb b hb1), by rw [if_pos (by omega)]⟩⟩
        intro e
        simp at e
        subst e
        rw [h1] at hb2
        rcases hb2 with h | ⟨f, _, h⟩
        · unfold lCols at h; omega
        · unfold lCol at h; omega
      · rename_i hq
        rw [if_neg hq] at this
        exact this

end Go.Proofs.YthkbeaffkcfgiabGreatDoor

namespace Go.Proofs.YthkbeaffkcfgiabGreatDoor
open Go.RowKit Go.Maps

/-- How a table's number reads in the map. -/
def elemD : Option Nat → DataW Unit
  | none => .nil
  | some tb => .lit (.int .u64 tb)

theorem elemD_inv {v : Value} {t : Option Nat} {ps : List MemPlace} (h : ptrElem v = some (elemD t, ps)) : v = .pointer (t.map fun tb => ⟨tb, 0, none⟩) := by
  cases t with
  | none => exact ptrElem_nil h
  | some tb => exact ptrElem_inv (n := tb) h

theorem keyS (s : Nat) (h : s < 64) : keyOf Tryz.prog 105 (.int .u64 (s : Int)) = some (.int .u64 (s : Int)) := keyOf_int_mk Tryz.underlying105 (by
  have : s = 0 ∨ s = 1 ∨ 2 ≤ s := by omega
  simp [Lit.wf, IntKind.min, IntKind.max, IntKind.signed, IntKind.bits]
  omega)

/-- The map of tables at block bm: of each set of components its table's block. -/
def MapM (W : World) (bm n : Nat) (m : Nat → Option Nat) : Prop := ∃ D, W.ownsMap Tryz.prog 105 ptrElem bm n D ∧ IsMap D ∧ ∀ s : Nat, s < 64 → D.atKey (.int .u64 (s : Int)) .nil = elemD (m s)

theorem MapM.look {W : World} {bm n : Nat} {m : Nat → Option Nat} (h : MapM W bm n m) (s : Nat) (hs : s < 64) : (Instr.lookup 109 (.map (some bm)) (.int .u64 (s : Int)) false).run Tryz.prog W = .ok (.pointer ((m s).map fun tb => ⟨tb, 0, none⟩)) W := by
  obtain ⟨D, h0, _, h2⟩ := h
  obtain ⟨v, ps, e1, e2⟩ := h0.lookup key79 Tryz.underlying109 (zero96 W) (zd := .nil) (zp := []) rfl (keyS s hs)
  rw [h2 s hs] at e2
  rw [e1, elemD_inv e2]

theorem MapM.put {W : World} {bm n : Nat} {m : Nat → Option Nat} (h : MapM W bm n m) (hn : n < maxLen) (s tb : Nat) (hs : s < 64) : ∃ W', (Instr.mapUpdate 109 (.map (some bm)) (.int .u64 (s : Int)) (.pointer (some ⟨tb, 0, none⟩))).run Tryz.prog W = .ok () W' ∧ MapM W' bm (n + 1) (fun x => if x = s then some tb else m x) ∧ W.mapTurned W' bm := by
  obtain ⟨D, h0, h1, h2⟩ := h
  obtain ⟨W', e1, e2, e3⟩ := h0.store key79 Tryz.underlying109 hn (val := .pointer (some ⟨tb, 0, none⟩)) (d := .lit (.int .u64 tb)) (ps := []) (keyS s hs) rfl
  refine ⟨W', e1, ⟨_, e2, h1.put _ _, fun x hx => ?_⟩, e3⟩
  by_cases e : x = s
  · subst e
    rw [atKey_put_same h1 (by simp [WideAt.IsKeyLit])]
    simp [elemD]
  · rw [atKey_put_other (by intro h; simp at h; omega), h2 x hx]
    simp [e]

/-- The map that has just been made. -/
theorem MapM.ofNone {W : World} {bm : Nat} (h : MapAt W bm none) : MapM W bm 1 (fun _ => none) := ⟨_, h, isMap_empty, fun _ _ => rfl⟩
theorem MapM.lt {W : World} {bm n : Nat} {m : Nat → Option Nat} (h : MapM W bm n m) : bm < W.heap.size := by obtain ⟨D, h0, _⟩ := h; exact World.ownsMap.lt h0
theorem MapM.turn {W W' : World} {bm n : Nat} {m : Nat → Option Nat} (h : MapM W bm n m) (hb : W'.heap[bm]? = W.heap[bm]?) : MapM W' bm n m := by
  obtain ⟨D, ⟨es, clock, h1, r⟩, h2⟩ := h
  exact ⟨D, ⟨es, clock, hb.trans h1, r⟩, h2⟩

end Go.Proofs.YthkbeaffkcfgiabGreatDoor
