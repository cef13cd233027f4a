import Derived.Test.YthkbeaffkcfgiaaGreatDoorHand
namespace Go.Proofs.YthkbeaffkcfgiaaGreatDoor
open Go.RowKit

theorem schema_few {text : List UInt8} {cs : List (List UInt8 × List (List UInt8 × Nat))} (h : schemaL text = some cs) : 1 ≤ cs.length ∧ cs.length ≤ 6 := by
  unfold schemaL at h
  split at h
  · rename_i hc
    have := compsL_length _ _ _ h
    simp at this
    omega
  · cases h

/-- A new world of the document's, in its cells. -/
def z76 (v : Value) : Array Value := #[v, .int .i64 0, .int .i64 0, .int .i64 0, .int .i64 0, .int .i64 0, .int .i64 0, .int .i64 0, .int .i64 0, .int .i64 0, .int .i64 0, .int .i64 0, .int .i64 0, .int .i64 0, .int .i64 0, .int .i64 0, .int .i64 0, .int .i64 0, .int .i64 0, .int .i64 0, .int .i64 0, .int .i64 0, .slice none 0 0]

theorem z76_zero (v : Value) : ∀ p, 1 ≤ p → p ≤ 20 → (z76 v)[1 + p]? = some (.int .i64 ((0 : Nat) : Int)) := by
  intro p h1 h2
  match p, h1, h2 with
  | 1, _, _ => rfl
  | 2, _, _ => rfl
  | 3, _, _ => rfl
  | 4, _, _ => rfl
  | 5, _, _ => rfl
  | 6, _, _ => rfl
  | 7, _, _ => rfl
  | 8, _, _ => rfl
  | 9, _, _ => rfl
  | 10, _, _ => rfl
  | 11, _, _ => rfl
  | 12, _, _ => rfl
  | 13, _, _ => rfl
  | 14, _, _ => rfl
  | 15, _, _ => rfl
  | 16, _, _ => rfl
  | 17, _, _ => rfl
  | 18, _, _ => rfl
  | 19, _, _ => rfl
  | 20, _, _ => rfl
  | p + 21, _, h => exact absurd h (by omega)

theorem live_none : livePl (fun _ => false) = [] := by simp [livePl]

/-- A new world of the document's. -/
theorem RefAt.new {W W' : World} {F : Nat → Prop} {n : Nat} {sa : Option Addr} {sc : Nat} (hn : 1 ≤ n ∧ n ≤ 6) (hb : W'.heap[W.heap.size]? = some (.cells (z76 (.slice sa n sc)) 76 (0, 0))) (ho : ¬ F W.heap.size) :
    RefAt W' F W.heap.size n (fun _ => 0) (fun _ => false) none 0 [] := by
  have hlt : W.heap.size < W'.heap.size := (Array.getElem?_eq_some_iff.1 hb).1
  have hc : ∀ i, W'.cell? ⟨W.heap.size, i, none⟩ = (z76 (.slice sa n sc))[i]? := fun i => by simp [World.cell?, hb]
  have hf : ∀ i, W'.frozen? ⟨W.heap.size, i, none⟩ = false := fun i => by simp [World.frozen?, hb]
  exact { lt := hlt, few := hn, out := ho, schema := ⟨sa, sc, (hc 0).trans rfl⟩, lives := fun p h1 h2 => ⟨(hc _).trans (z76_zero _ p h1 h2), hf _⟩, line := (hc 22).trans rfl, lineF := hf 22, row := World.ownsRow_nil _ _ _ _, rowF := fun k hk => by simp [Value.ownBlock] at hk, live := live_none.symm, each := fun z hz => by cases hz }

def ext2 (ka : Nat → Nat) (W : World) (x m j : Nat) (v : Value) : Nat → Nat := fun b => if b < W.heap.size then ka b else if b = x then 10 + 2 * j else if b = m then 11 + 2 * j else if v.ownBlock = some b then 2 else 4

theorem ext2_old {ka : Nat → Nat} {W : World} {x m j : Nat} {v : Value} {b : Nat} (h : b < W.heap.size) : ext2 ka W x m j v b = ka b := by unfold ext2; rw [if_pos h]

/-- A pair of worlds more. -/
theorem Inv.addPair {W W3 W6 : World} {N b0 : Nat} {ka : Nat → Nat} {ps : List PW} {hs : List (Int × Int)} {wv hv wv' : Value} {o : Obj} {x n : Nat} {sa : Option Addr} {sc : Nat} (h : Inv W N b0 ka ps hs wv hv) (hB : Below W.heap.size W W3) (hx : W.heap.size ≤ x) (hP : ∃ nl, ProgAt W3 (fun k => k = x) (fun k => W.heap.size ≤ k ∧ k < W3.heap.size ∧ k ≠ x) x nl (fun _ => 0) (fun _ => false)) (hn : 1 ≤ n ∧ n ≤ 6)
    (hg : ((W3.alloc (.cells (z76 (.slice sa n sc)) 76 (0, 0))).alloc o).grownBy W6 wv.ownBlock) (hr : W6.ownsRow N 45 2 wv' (ps.length + 1) (pairCells ps ++ [.pointer (some ⟨x, 0, none⟩), .pointer (some ⟨W3.heap.size, 0, none⟩)]))
    (hat : wv'.ownBlock = wv.ownBlock ∨ wv'.ownBlock = some ((W3.alloc (.cells (z76 (.slice sa n sc)) 76 (0, 0))).alloc o).heap.size) :
    Inv (W6.setCell ⟨b0, 0, none⟩ wv') N b0 (ext2 ka W x W3.heap.size ps.length wv') (ps ++ [⟨x, W3.heap.size, n, fun _ => 0, fun _ => false, fun _ => 0, fun _ => false⟩]) hs wv' hv := by
  have hs3 := hB.size
  obtain ⟨nl, hP⟩ := hP
  have hx3 := hP.lt
  have hsz : W3.heap.size + 2 ≤ W6.heap.size := by have := hg.size; simp at this; omega
  have hbl : b0 < W.heap.size := h.lt
  have hz : (W6.setCell ⟨b0, 0, none⟩ wv').heap.size = W6.heap.size := by simp [World.setCell]
  have hb3 : ∀ b, b < W3.heap.size → wv.ownBlock ≠ some b → W6.heap[b]? = W3.heap[b]? := fun b hb hne => by
    rw [hg.block b (by simp; omega) (fun e => hne e.symm), Below.heap_alloc _ _ _ (by simp; omega), Below.heap_alloc _ _ _ hb]
  have hold : ∀ k, wv.ownBlock = some k → k < W.heap.size := fun k hk => (h.rowW.lt k hk).2
  have hb2 : ∀ b, b < W.heap.size → ka b ≠ 2 → W6.heap[b]? = W.heap[b]? := fun b hb hk => by
    rw [hb3 b (by omega) (fun e => hk (h.kW b e))]; exact hB.block b hb
  have hb : ∀ b, b < W.heap.size → ka b ≠ 2 → ka b ≠ 1 → (W6.setCell ⟨b0, 0, none⟩ wv').heap[b]? = W.heap[b]? := fun b hbl h3 h1 => by
    rw [Below.heap_setCell _ _ _ _ (fun e => h1 (by rw [e]; exact h.kb))]; exact hb2 b hbl h3
  have hb0 : W6.heap[b0]? = W.heap[b0]? := hb2 b0 h.lt (by have := h.kb; omega)
  have hc : ∀ i, W6.cell? ⟨b0, i, none⟩ = W.cell? ⟨b0, i, none⟩ := fun i => World.cell?_of_block (a := ⟨b0, i, none⟩) hb0
  have hf : ∀ i, W6.frozen? ⟨b0, i, none⟩ = W.frozen? ⟨b0, i, none⟩ := fun i => World.frozen?_of_block (a := ⟨b0, i, none⟩) hb0
  have hob : wv'.ownBlock ≠ some b0 := fun e => by
    rcases hat with h1 | h1
    · have := h.kW b0 (by rw [← h1]; exact e); have := h.kb; omega
    · rw [h1] at e; simp at e; omega
  have hN : N ≤ W.heap.size := Nat.le_trans h.nb (Nat.le_of_lt h.lt)
  refine { nb := h.nb, lt := by rw [hz]; omega, kb := (ext2_old h.lt).trans h.kb, c0 := ?_, c1 := ?_, c2 := ?_, c5 := ?_, f0 := ?_, f1 := ?_, rowW := ?_, kW := ?_, rowH := ?_, kH := ?_, each := ?_ }
  · exact set_same _ ((hc 0).trans h.c0)
  · rw [set_other _ (by omega)]; exact (hc 1).trans h.c1
  · rw [set_other _ (by omega)]; exact (hc 2).trans h.c2
  · rw [set_other _ (by omega)]; exact (hc 5).trans h.c5
  · rw [World.frozen?_setCell]; exact (hf 0).trans h.f0
  · rw [World.frozen?_setCell]; exact (hf 1).trans h.f1
  · have e : pairCells (ps ++ [⟨x, W3.heap.size, n, fun _ => 0, fun _ => false, fun _ => 0, fun _ => false⟩]) = pairCells ps ++ [.pointer (some ⟨x, 0, none⟩), .pointer (some ⟨W3.heap.size, 0, none⟩)] := by simp [pairCells]
    rw [e, List.length_append]
    exact ownsRow_setCell_other hr hob _
  · intro k hk
    unfold ext2
    rcases hat with h1 | h1
    · have hk' := hold k (by rw [← h1]; exact hk)
      rw [if_pos hk']
      exact h.kW k (by rw [← h1]; exact hk)
    · have e : k = W3.heap.size + 1 + 1 := by rw [h1] at hk; simp at hk; omega
      rw [if_neg (by omega), if_neg (by omega), if_neg (by omega), if_pos hk]
  · exact own_turn h.rowH fun k hk hkl => hb k hkl (by have := h.kH k hk; omega) (by have := h.kH k hk; omega)
  · intro k hk
    exact (ext2_old (h.rowH.lt k hk).2).trans (h.kH k hk)
  · intro i hi
    rw [List.length_append] at hi
    by_cases e : i < ps.length
    · rw [List.getElem_append_left e]
      exact (h.each i e).turn (by rw [hz]; omega) (fun b hbl => ext2_old hbl) fun b hbl hl => hb b hbl (by omega) (by omega)
    · have ei : i = ps.length := by simp at hi; omega
      subst ei
      rw [List.getElem_append_right (by omega)]
      simp only [Nat.sub_self, List.getElem_cons_zero]
      have hm6 : (W6.setCell ⟨b0, 0, none⟩ wv').heap[W3.heap.size]? = some (.cells (z76 (.slice sa n sc)) 76 (0, 0)) := by
        rw [Below.heap_setCell _ _ _ _ (by simp; omega), hg.block W3.heap.size (by simp; omega) (fun e => by have := hold _ e.symm; omega), Below.heap_alloc _ _ _ (by simp)]
        show (W3.heap.push _)[W3.heap.size]? = _
        simp
      have hk6 : ∀ k, W.heap.size ≤ k → k < W3.heap.size → (W6.setCell ⟨b0, 0, none⟩ wv').heap[k]? = W3.heap[k]? := fun k h1 h2 => by
        rw [Below.heap_setCell _ _ _ _ (by show k ≠ b0; omega)]
        exact hb3 k h2 (fun e => by have := hold _ e; omega)
      have hnr : ∀ k, W.heap.size ≤ k → k < W3.heap.size → wv'.ownBlock ≠ some k := fun k h1 h2 e => by
        rcases hat with h3 | h3
        · have := hold k (by rw [← h3]; exact e); omega
        · rw [h3] at e; simp at e; omega
      refine ⟨⟨nl, hP.turn (by rw [hz]; omega) (fun k hk hkl => ?_) (fun k hk hkl => ?_)⟩, ⟨none, 0, [], RefAt.new hn hm6 ?_⟩, ?_, by simp only; omega⟩
      · subst hk
        exact ⟨hk6 _ hx hx3, by unfold ext2; rw [if_neg (by omega), if_pos rfl], by omega, by rw [hz]; omega⟩
      · obtain ⟨h1, h2, h3⟩ := hk
        refine ⟨hk6 _ h1 h2, ?_, by rw [hz]; omega⟩
        unfold ext2; rw [if_neg (by omega), if_neg h3, if_neg (by omega), if_neg (hnr k h1 h2)]
      · intro h4
        have h5 : ext2 ka W x W3.heap.size ps.length wv' W3.heap.size = 4 := h4
        unfold ext2 at h5
        rw [if_neg (by omega), if_neg (by omega), if_pos rfl] at h5
        omega
      · unfold ext2; rw [if_neg (by simp only; omega), if_neg (by simp only; omega), if_pos rfl]

theorem cell_two_new' (w : World) (x y : Value) (t : TypeId) (b : Nat) (hb : b = w.heap.size) : ∀ j u, [x, y][j]? = some u → (w.alloc (.cells #[x, y] t)).cell? ((⟨b, 0, none⟩ : Addr).add j) = some u := by
  subst hb; exact cell_two_new w x y t

theorem kept_b0 {W2 W6 : World} {o1 o2 : Obj} {row : Option Nat} {b i : Nat} {v : Value} (hg : ((W2.alloc o1).alloc o2).grownBy W6 row) (hb : b < W2.heap.size) (hc : W2.cell? ⟨b, i, none⟩ = some v) (hr : row = some b → False) : W6.cell? ⟨b, i, none⟩ = some v := by
  have : W6.heap[b]? = W2.heap[b]? := by
    rw [hg.block b (by simp; omega) (fun e => hr e.symm), Below.heap_alloc _ _ _ (by simp; omega), Below.heap_alloc _ _ _ hb]
  exact (World.cell?_of_block (a := ⟨b, i, none⟩) this).trans hc

theorem kept_f0 {W2 W6 : World} {o1 o2 : Obj} {row : Option Nat} {b i : Nat} {v : Bool} (hg : ((W2.alloc o1).alloc o2).grownBy W6 row) (hb : b < W2.heap.size) (hc : W2.frozen? ⟨b, i, none⟩ = v) (hr : row = some b → False) : W6.frozen? ⟨b, i, none⟩ = v := by
  have : W6.heap[b]? = W2.heap[b]? := by
    rw [hg.block b (by simp; omega) (fun e => hr e.symm), Below.heap_alloc _ _ _ (by simp; omega), Below.heap_alloc _ _ _ hb]
  exact (World.frozen?_of_block (a := ⟨b, i, none⟩) this).trans hc

theorem Tryz.info45 : (Tryz.prog.info? 45).map (fun i => (i.zero, i.size, i.bytes)) = some (some (.agg #[.pointer none, .pointer none]), 2, 16) := by kernel_rfl

/-- How begun ends at a step that speaks of no world. -/
def NewEnds (W : World) (N b0 : Nat) (ps : List PW) (hs : List (Int × Int)) (hv : Value) (e : Ending) (W' : World) : Prop :=
  e = .returned (.tuple #[.bool true, .bool true]) ∧ (Below W.heap.size W W' ∨ (∃ ka' wv' x m n, Inv W' N b0 ka' (ps ++ [⟨x, m, n, fun _ => 0, fun _ => false, fun _ => 0, fun _ => false⟩]) hs wv' hv ∧ Below N W W'))

set_option maxHeartbeats 3200000 in
set_option maxRecDepth 20000 in
theorem begun_new {W : World} {N b0 : Nat} {ka : Nat → Nat} {ps : List PW} {hs : List (Int × Int)} {wv hv : Value} (o : OpV) (M : Int) (h : Inv W N b0 ka ps hs wv hv) (hM : W.cell? ⟨0, 0, none⟩ = some (.int .i64 M)) (hn : ps.length ≤ 1048576) (hk : o.kind = 1) (hs1 : o.s.length ≤ 1048576) :
    Calls Tryz.prog 21 #[.pointer (some ⟨b0, 0, none⟩), .agg (opVals o)] W fun e W' => NewEnds W N b0 ps hs hv e W' := by
  have HI : Hid (Inv W N b0 ka ps hs wv hv) := h
  have h00 : 0 < W.heap.size := World.block_lt_of_cell? _ _ hM
  obtain ⟨n, hnn⟩ : ∃ n, n = ps.length := ⟨_, rfl⟩
  have HNn : Hid (n = ps.length) := hnn
  have HRow : Hid (W.ownsRow N 45 2 wv n (pairCells ps)) := by rw [hnn]; exact h.rowW
  rw [← hnn] at hn
  obtain ⟨sa, sc, rfl⟩ : ∃ a c, wv = .slice a n c := own_form HRow.out
  have HNw : Hid _ := new_any o.s M (W.alloc (.cells (opVals o) 27)) (by omega) (by rw [World.cell?_alloc_old _ _ _ (Nat.ne_of_lt h00)]; exact hM)
  have HSL : Hid (o.s.length ≤ 1000000000) := by show _ ≤ _; omega
  clear h hnn hs1 hM
  unfold opVals at HNw ⊢
  rw [hk] at HNw ⊢
  clear hk
  go_enter Tryz.func21, Tryz.ntmps21
  go_wp2_with fail
  refine Calls.mono HNw.out ?_
  rintro e W1 ⟨hends, hb1⟩
  have s5 : W1.cell? ⟨W.heap.size, 5, none⟩ = some (.string (mk o.s)) := by rw [hb1.cell (p := ⟨W.heap.size, 5, none⟩) (by simp)]; simp
  have HB1 : Hid (Below W.heap.size W W1) := ((Below.refl _ _).alloc (Nat.le_refl _) _).trans (hb1.mono (by simp))
  have hs1 : W.heap.size < W1.heap.size := by have := hb1.size; simp at this; omega
  clear hb1
  rcases hends with ⟨cs, hcs, x, nl, rfl, hx, hx1, hpl⟩ | ⟨hcs, rfl⟩
  · have HCs : Hid (schemaL o.s = some cs) := hcs
    have HPl : Hid (ProgAt W1 (fun k => k = x) (fun k => W.heap.size ≤ k ∧ k < W1.heap.size ∧ k ≠ x) x nl (fun _ => 0) (fun _ => false)) := hpl.turn (Nat.le_refl _) (fun k hk _ => ⟨rfl, hk⟩) (fun k hk _ => ⟨rfl, by have := hk.1; simp at this; omega, hk.2.1, hk.2.2⟩)
    have hxW : W.heap.size ≤ x := by simp at hx; omega
    clear hcs hpl hx hx1
    go_wp2_with fail
    refine (schema_any o.s _ HSL.out).mono ?_
    rintro e W2 ⟨hse, hb2⟩
    have HB2 : Hid (Below W1.heap.size W1 W2) := hb2
    rcases hse with ⟨cs', hcs', ta, tc, rfl⟩ | ⟨hcs', _⟩
    · obtain rfl : cs = cs' := by have := HCs.out; rw [hcs'] at this; exact (Option.some.inj this).symm
      have HB3 : Hid (Below W.heap.size W W2) := Below.trans HB1.out (hb2.mono (Nat.le_of_lt hs1))
      have HP2 : Hid (∃ nl, ProgAt W2 (fun k => k = x) (fun k => W.heap.size ≤ k ∧ k < W2.heap.size ∧ k ≠ x) x nl (fun _ => 0) (fun _ => false)) := ⟨nl, HPl.out.turn hb2.size (fun k hk hkl => ⟨hb2.block k hkl, hk⟩) (fun k hk hkl => ⟨hb2.block k hkl, hk.1, by have := hb2.size; omega, hk.2.2⟩)⟩
      have HI2 : Hid (Inv W2 N b0 ka ps hs (.slice sa n sc) hv) := HI.out.below HB3.out
      have HRow2 : Hid (W2.ownsRow N 45 2 (.slice sa n sc) n (pairCells ps)) := by rw [HNn.out]; have := HI2.out.rowW; rw [HNn.out] at this; exact this
      have c0 := HI2.out.c0
      have f0 := HI2.out.f0
      have hlt := HI2.out.lt
      have hnb := HI2.out.nb
      have HFew : Hid (1 ≤ cs.length ∧ cs.length ≤ 6) := schema_few HCs.out
      obtain ⟨q, hq⟩ : ∃ q, q = cs.length := ⟨_, rfl⟩
      rw [← hq]
      have HFq : Hid (1 ≤ q ∧ q ≤ 6) := by show _ ∧ _; rw [hq]; exact HFew.out
      obtain ⟨i0, hi, hz0, hz1, hz2⟩ := info_parts Tryz.info45
      have hlt0 : b0 < W.heap.size := HI.out.lt
      clear hb2 hcs' hq s5
      go_wp2_with (at_builtin; go_must (refine wpList_append_own_at _ rfl _ _ 29 rfl N 45 i0 (.agg #[.pointer none, .pointer none]) 2 16 Tryz.underlying29 hi hz0 hz1 hz2 rfl (by decide) _ _ _ rfl ((HRow2.out.alloc _).alloc _) ⟨W2.heap.size + 1, 0, none⟩ 1 1 [.pointer (some ⟨x, 0, none⟩), .pointer (some ⟨W2.heap.size, 0, none⟩)] rfl rfl (cell_two_new' _ _ _ _ _ (by simp)) (fun x hx => by simp at hx; rcases hx with rfl | rfl <;> rfl) (by unfold maxLen; omega) (by omega) (by simp; omega) ?_); intro v' W6 hown6 hgrow6 _ hat6; go_must (obtain ⟨gg, gc, rfl⟩ := own_succ hown6); go_must (have hAP : Hid _ := HI.out.addPair (x := x) (n := q) (sa := ta) (sc := tc) HB3.out hxW HP2.out HFq.out hgrow6 (by rw [← HNn.out]; exact hown6) hat6); go_must (have k0 : W6.cell? ⟨b0, 0, none⟩ = some (.slice sa n sc) := kept_b0 hgrow6 hlt c0 (fun e => by have := HI.out.kW b0 e; have := HI.out.kb; omega)); go_must (have k1 : W6.frozen? ⟨b0, 0, none⟩ = false := kept_f0 hgrow6 hlt f0 (fun e => by have := HI.out.kW b0 e; have := HI.out.kb; omega)); go_must (have HB6 : Hid (Below N W W6) := Below.grown (((HB3.out.mono (by omega)).alloc (by omega) _).alloc (by simp; omega) _) hgrow6 (by simp; omega) (fun j hj => (HRow2.out.lt j hj).1)); clear hown6 hgrow6 hat6)
      go_ret2
      refine ⟨rfl, Or.inr ⟨_, _, _, _, _, hAP.out, ?_⟩⟩
      exact HB6.out.setCell (by exact hnb) _
    · have := HCs.out; rw [hcs'] at this; cases this
  · have HCs : Hid (schemaL o.s = none) := hcs
    clear hcs
    go_wp2_with fail
    refine (schema_any o.s _ HSL.out).mono ?_
    rintro e W2 ⟨hse, hb2⟩
    have HB2 : Hid (Below W.heap.size W W2) := Below.trans HB1.out (hb2.mono (Nat.le_of_lt hs1))
    rcases hse with ⟨cs', hcs', _⟩ | ⟨_, rfl⟩
    · have := HCs.out; rw [hcs'] at this; cases this
    · clear hb2 s5
      go_wp2_with fail
      go_ret2
      exact ⟨rfl, Or.inl HB2.out⟩

end Go.Proofs.YthkbeaffkcfgiaaGreatDoor
