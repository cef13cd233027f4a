import Derived.Test.YthkbeaffkcfgiaaGreatDoorRspn
import Derived.Test.YthkbeaffkcfgiaaGreatDoorPick
import Derived.Maps.AppendAt
namespace Go.Proofs.YthkbeaffkcfgiaaGreatDoor
open Go.RowKit

/-- A world on both sides: the program's at x, the document's at m (of n components); the lives of each side. -/
structure PW where
  x : Nat
  m : Nat
  n : Nat
  bx : Nat → Nat
  tx : Nat → Bool
  bm : Nat → Nat
  tm : Nat → Bool

def pairCells (ps : List PW) : List Value := (ps.map fun P => (P.x, P.m)).flatMap fun z => [.pointer (some ⟨z.1, 0, none⟩), .pointer (some ⟨z.2, 0, none⟩)]
def handCells (hs : List (Int × Int)) : List Value := hs.flatMap fun h => [.int .i64 h.1, .int .i64 h.2]

/-- The blocks of the program's world of pair j; those that are written no more. -/
def Fx (ka : Nat → Nat) (j N S : Nat) : Nat → Prop := fun k => ka k = 10 + 2 * j ∧ N ≤ k ∧ k < S
def Gx (ka : Nat → Nat) (S : Nat) : Nat → Prop := fun k => ka k = 4 ∧ k < S

structure PairAt (W : World) (N : Nat) (ka : Nat → Nat) (j : Nat) (P : PW) : Prop where
  px : ∃ nl, ProgAt W (Fx ka j N W.heap.size) (Gx ka W.heap.size) P.x nl P.bx P.tx
  pm : ∃ la lc ls, RefAt W (fun b => ka b = 4) P.m P.n P.bm P.tm la lc ls
  km : ka P.m = 11 + 2 * j
  nm : N ≤ P.m

theorem PairAt.xlt {W : World} {N : Nat} {ka : Nat → Nat} {j : Nat} {P : PW} (h : PairAt W N ka j P) : P.x < W.heap.size := by
  obtain ⟨nl, hp⟩ := h.px
  exact hp.lt
theorem PairAt.kx {W : World} {N : Nat} {ka : Nat → Nat} {j : Nat} {P : PW} (h : PairAt W N ka j P) : ka P.x = 10 + 2 * j := by
  obtain ⟨nl, hp⟩ := h.px
  exact hp.imm.1
theorem PairAt.nx {W : World} {N : Nat} {ka : Nat → Nat} {j : Nat} {P : PW} (h : PairAt W N ka j P) : N ≤ P.x := by
  obtain ⟨nl, hp⟩ := h.px
  exact hp.imm.2.1

theorem PairAt.turn {W W' : World} {N : Nat} {ka ka' : Nat → Nat} {j : Nat} {P : PW} (h : PairAt W N ka j P) (hs : W.heap.size ≤ W'.heap.size) (hk : ∀ b, b < W.heap.size → ka' b = ka b)
    (hb : ∀ b, b < W.heap.size → ka b = 10 + 2 * j ∨ ka b = 11 + 2 * j ∨ ka b = 4 → W'.heap[b]? = W.heap[b]?) : PairAt W' N ka' j P := by
  obtain ⟨la, lc, ls, hm⟩ := h.pm
  obtain ⟨nl, hp⟩ := h.px
  refine ⟨⟨nl, hp.turn hs (fun k hkF hkl => ⟨hb k hkl (Or.inl hkF.1), (hk k hkl).trans hkF.1, hkF.2.1, by omega⟩) (fun k hkG hkl => ⟨hb k hkl (Or.inr (Or.inr hkG.1)), (hk k hkl).trans hkG.1, by omega⟩)⟩, ⟨la, lc, ls, ?_⟩, (hk _ hm.lt).trans h.km, h.nm⟩
  · refine hm.turn hs (hb _ hm.lt (Or.inr (Or.inl h.km))) (fun k hk4 hkl => ⟨hb k hkl (Or.inr (Or.inr hk4)), (hk k hkl).trans hk4⟩) ?_
    intro h4
    have h5 : ka' P.m = 4 := h4
    rw [hk _ hm.lt, h.km] at h5
    omega

/-- The law's own world at block b0: worlds on both sides, handles that were told; every block that may be written has a label of its own. -/
structure Inv (W : World) (N b0 : Nat) (ka : Nat → Nat) (ps : List PW) (hs : List (Int × Int)) (wv hv : Value) : Prop where
  nb : N ≤ b0
  lt : b0 < W.heap.size
  kb : ka b0 = 1
  c0 : W.cell? ⟨b0, 0, none⟩ = some wv
  c1 : W.cell? ⟨b0, 1, none⟩ = some hv
  c2 : W.cell? ⟨b0, 2, none⟩ = some (.slice none 0 0)
  c5 : W.cell? ⟨b0, 5, none⟩ = some (.bool false)
  f0 : W.frozen? ⟨b0, 0, none⟩ = false
  f1 : W.frozen? ⟨b0, 1, none⟩ = false
  rowW : W.ownsRow N 45 2 wv ps.length (pairCells ps)
  kW : ∀ k, wv.ownBlock = some k → ka k = 2
  rowH : W.ownsRow N 48 2 hv hs.length (handCells hs)
  kH : ∀ k, hv.ownBlock = some k → ka k = 3
  each : ∀ j (h : j < ps.length), PairAt W N ka j ps[j]

theorem set_cells (ps : List PW) (j : Nat) (h : j < ps.length) (P' : PW) (hx : P'.x = ps[j].x) (hm : P'.m = ps[j].m) : pairCells (ps.set j P') = pairCells ps := by
  unfold pairCells
  have e : (ps.set j P').map (fun P => (P.x, P.m)) = ps.map fun P => (P.x, P.m) := by
    rw [List.map_set]
    simp only [hx, hm]
    have : (ps[j].x, ps[j].m) = (ps.map fun P => (P.x, P.m))[j]'(by rw [List.length_map]; exact h) := by rw [List.getElem_map]
    rw [this, List.set_getElem_self]
  rw [e]

/-- Nothing that was there has turned, but the blocks of pair j. -/
theorem Inv.update {W W' : World} {N b0 : Nat} {ka ka' : Nat → Nat} {ps : List PW} {hs : List (Int × Int)} {wv hv : Value} (h : Inv W N b0 ka ps hs wv hv) (j : Nat) (hj : j < ps.length) (P' : PW) (hx : P'.x = ps[j].x) (hm : P'.m = ps[j].m)
    (hsz : W.heap.size ≤ W'.heap.size) (hk : ∀ b, b < W.heap.size → ka' b = ka b) (hb : ∀ b, b < W.heap.size → ka b ≠ 10 + 2 * j → ka b ≠ 11 + 2 * j → W'.heap[b]? = W.heap[b]?) (hP : PairAt W' N ka' j P') :
    Inv W' N b0 ka' (ps.set j P') hs wv hv := by
  have hblk := hb b0 h.lt (by have := h.kb; omega) (by have := h.kb; omega)
  refine { nb := h.nb, lt := Nat.lt_of_lt_of_le h.lt hsz, kb := (hk _ h.lt).trans h.kb, c0 := (World.cell?_of_block (a := ⟨b0, _, none⟩) hblk).trans h.c0, c1 := (World.cell?_of_block (a := ⟨b0, _, none⟩) hblk).trans h.c1, c2 := (World.cell?_of_block (a := ⟨b0, _, none⟩) hblk).trans h.c2,
           c5 := (World.cell?_of_block (a := ⟨b0, _, none⟩) hblk).trans h.c5, f0 := (World.frozen?_of_block (a := ⟨b0, _, none⟩) hblk).trans h.f0, f1 := (World.frozen?_of_block (a := ⟨b0, _, none⟩) hblk).trans h.f1, rowW := ?_, kW := ?_, rowH := ?_, kH := ?_, each := ?_ }
  · rw [set_cells ps j hj P' hx hm, List.length_set]
    exact own_turn h.rowW fun k hk' hkl => hb k hkl (by have := h.kW k hk'; omega) (by have := h.kW k hk'; omega)
  · intro k hk'
    exact (hk k (h.rowW.lt k hk').2).trans (h.kW k hk')
  · exact own_turn h.rowH fun k hk' hkl => hb k hkl (by have := h.kH k hk'; omega) (by have := h.kH k hk'; omega)
  · intro k hk'
    exact (hk k (h.rowH.lt k hk').2).trans (h.kH k hk')
  · intro i hi
    rw [List.length_set] at hi
    by_cases e : i = j
    · subst e
      rw [List.getElem_set_self]; exact hP
    · rw [List.getElem_set_ne (Ne.symm e)]
      exact (h.each i hi).turn hsz hk fun b hbl hl => hb b hbl (by omega) (by omega)

theorem Inv.below {W W' : World} {N b0 : Nat} {ka : Nat → Nat} {ps : List PW} {hs : List (Int × Int)} {wv hv : Value} (h : Inv W N b0 ka ps hs wv hv) (hb : Below W.heap.size W W') : Inv W' N b0 ka ps hs wv hv := by
  have hblk := hb.block b0 h.lt
  exact { nb := h.nb, lt := Nat.lt_of_lt_of_le h.lt hb.size, kb := h.kb, c0 := (World.cell?_of_block (a := ⟨b0, _, none⟩) hblk).trans h.c0, c1 := (World.cell?_of_block (a := ⟨b0, _, none⟩) hblk).trans h.c1, c2 := (World.cell?_of_block (a := ⟨b0, _, none⟩) hblk).trans h.c2,
           c5 := (World.cell?_of_block (a := ⟨b0, _, none⟩) hblk).trans h.c5, f0 := (World.frozen?_of_block (a := ⟨b0, _, none⟩) hblk).trans h.f0, f1 := (World.frozen?_of_block (a := ⟨b0, _, none⟩) hblk).trans h.f1,
           rowW := own_turn h.rowW fun k _ hkl => hb.block k hkl, kW := h.kW, rowH := own_turn h.rowH fun k _ hkl => hb.block k hkl, kH := h.kH, each := fun i hi => (h.each i hi).turn hb.size (fun _ _ => rfl) fun b hbl _ => hb.block b hbl }

/-- A label for what has come since. -/
def ext (ka : Nat → Nat) (W : World) : Nat → Nat := fun b => if b < W.heap.size then ka b else 4

theorem ext_old {ka : Nat → Nat} {W : World} {b : Nat} (h : b < W.heap.size) : ext ka W b = ka b := by unfold ext; rw [if_pos h]

/-- Where the row lies behind an append. -/
def ext1 (ka : Nat → Nat) (W : World) (v : Value) (l : Nat) : Nat → Nat := fun b => if b < W.heap.size then ka b else if v.ownBlock = some b then l else 4

theorem ext1_old {ka : Nat → Nat} {W : World} {v : Value} {l b : Nat} (h : b < W.heap.size) : ext1 ka W v l b = ka b := by unfold ext1; rw [if_pos h]

/-- A handle more. -/
theorem Inv.addHand {W W2 : World} {N b0 : Nat} {ka : Nat → Nat} {ps : List PW} {hs : List (Int × Int)} {wv hv hv' : Value} {o : Obj} {p l : Int} (h : Inv W N b0 ka ps hs wv hv) (hg : (W.alloc o).grownBy W2 hv.ownBlock)
    (hr : W2.ownsRow N 48 2 hv' (hs.length + 1) (handCells hs ++ [.int .i64 p, .int .i64 l])) (hat : hv'.ownBlock = hv.ownBlock ∨ hv'.ownBlock = some (W.alloc o).heap.size) :
    Inv (W2.setCell ⟨b0, 1, none⟩ hv') N b0 (ext1 ka W hv' 3) ps (hs ++ [(p, l)]) wv hv' := by
  have hsz : W.heap.size ≤ W2.heap.size := by have := hg.size; simp at this; omega
  have hb2 : ∀ b, b < W.heap.size → ka b ≠ 3 → W2.heap[b]? = W.heap[b]? := fun b hb hk => by
    rw [hg.block b (by simp; omega) (fun e => hk (h.kH b e.symm)), Below.heap_alloc _ _ _ hb]
  have hb : ∀ b, b < W.heap.size → ka b ≠ 3 → ka b ≠ 1 → (W2.setCell ⟨b0, 1, none⟩ hv').heap[b]? = W.heap[b]? := fun b hbl h3 h1 => by
    rw [Below.heap_setCell _ _ _ _ (fun e => h1 (by rw [e]; exact h.kb))]; exact hb2 b hbl h3
  have hb0 : W2.heap[b0]? = W.heap[b0]? := hb2 b0 h.lt (by have := h.kb; omega)
  have hc : ∀ i, W2.cell? ⟨b0, i, none⟩ = W.cell? ⟨b0, i, none⟩ := fun i => World.cell?_of_block (a := ⟨b0, i, none⟩) hb0
  have hf : ∀ i, W2.frozen? ⟨b0, i, none⟩ = W.frozen? ⟨b0, i, none⟩ := fun i => World.frozen?_of_block (a := ⟨b0, i, none⟩) hb0
  have hz : (W2.setCell ⟨b0, 1, none⟩ hv').heap.size = W2.heap.size := by simp [World.setCell]
  have hob : hv'.ownBlock ≠ some b0 := fun e => by
    rcases hat with h1 | h1
    · have := h.kH b0 (by rw [← h1]; exact e); have := h.kb; omega
    · rw [h1] at e; simp at e; have := h.lt; omega
  refine { nb := h.nb, lt := by rw [hz]; exact Nat.lt_of_lt_of_le h.lt hsz, kb := (ext1_old h.lt).trans h.kb, c0 := ?_, c1 := ?_, c2 := ?_, c5 := ?_, f0 := ?_, f1 := ?_, rowW := ?_, kW := ?_, rowH := ?_, kH := ?_, each := ?_ }
  · rw [set_other _ (by omega)]; exact (hc 0).trans h.c0
  · exact set_same _ ((hc 1).trans h.c1)
  · rw [set_other _ (by omega)]; exact (hc 2).trans h.c2
  · rw [set_other _ (by omega)]; exact (hc 5).trans h.c5
  · rw [World.frozen?_setCell]; exact (hf 0).trans h.f0
  · rw [World.frozen?_setCell]; exact (hf 1).trans h.f1
  · exact own_turn h.rowW fun k hk hkl => hb k hkl (by have := h.kW k hk; omega) (by have := h.kW k hk; omega)
  · intro k hk
    exact (ext1_old (h.rowW.lt k hk).2).trans (h.kW k hk)
  · have e : handCells (hs ++ [(p, l)]) = handCells hs ++ [.int .i64 p, .int .i64 l] := by simp [handCells]
    rw [e, List.length_append]
    exact ownsRow_setCell_other hr hob _
  · intro k hk
    unfold ext1
    split
    · rename_i hkl
      rcases hat with h1 | h1
      · exact h.kH k (by rw [← h1]; exact hk)
      · rw [h1] at hk; simp at hk; omega
    · rfl
  · intro i hi
    refine (h.each i hi).turn (by rw [hz]; exact hsz) (fun b hbl => ext1_old hbl) fun b hbl hl => hb b hbl (by omega) (by omega)

end Go.Proofs.YthkbeaffkcfgiaaGreatDoor
