import Derived.Test.YthkbeaffkcfgiabGreatDoorV13
set_option linter.unusedSimpArgs false
set_option linter.unusedVariables false
namespace Go.Proofs.YthkbeaffkcfgiabGreatDoor
open Go.RowKit

/-- What holds of the world where enter has its map, and the map is empty. -/
structure Ready (w V : World) (F : Nat → Prop) (b bm g n c : Nat) (p l : Int) : Prop where
  c61 : V.cell? ⟨b, 61, none⟩ = some (.map (some bm))
  c0 : V.cell? ⟨b, 0, none⟩ = some (.slice (some ⟨g, 0, none⟩) n c)
  h0 : V.cell? ⟨w.heap.size, 0, none⟩ = some (.int .i64 p)
  h1 : V.cell? ⟨w.heap.size, 1, none⟩ = some (.int .i64 l)
  map : MapAt V bm none
  lay : LayAt V g n
  turns : Turns w V F
  cells : ∀ o, o ≠ 61 → V.cell? ⟨b, o, none⟩ = w.cell? ⟨b, o, none⟩
  blk : ∃ arr, V.heap[b]? = some (.cells arr 111 (0, 0)) ∧ arr.size = 62
  own : grow F w V bm
  lt : b < w.heap.size
  imm : F b
  more : w.heap.size < V.heap.size

/-- The table is made and laid into the map. -/
theorem Ready.made {w V W1 : World} {F : Nat → Prop} {b bm g n c : Nat} {p l : Int} (h : Ready w V F b bm g n c p l) (hb : Below V.heap.size V W1) (ht : W1.heap[V.heap.size]? = some (.cells #[.slice none 0 0, .slice none 0 0, .slice none 0 0, .slice none 0 0, .slice none 0 0, .slice none 0 0, .slice none 0 0] 204 (0, 0))) :
    ∃ W2, (Instr.mapUpdate 109 (.map (some bm)) (.int .u64 0) (.pointer (some ⟨V.heap.size, 0, none⟩))).run Tryz.prog W1 = .ok () W2 ∧ W2.cell? ⟨b, 61, none⟩ = some (.map (some bm)) ∧ W2.cell? ⟨w.heap.size, 0, none⟩ = some (.int .i64 p) ∧ W2.cell? ⟨w.heap.size, 1, none⟩ = some (.int .i64 l) ∧ MapAt W2 bm (some V.heap.size) ∧
      Turns w W2 F ∧ (∀ o, o ≠ 61 → W2.cell? ⟨b, o, none⟩ = w.cell? ⟨b, o, none⟩) ∧ (∃ arr, W2.heap[b]? = some (.cells arr 111 (0, 0)) ∧ arr.size = 62) ∧ grow F w W2 bm ∧ TabAt W2 (fun k => grow F w W2 k ∧ k ≠ b ∧ ∃ cs t fz, W2.heap[k]? = some (.cells cs t fz)) V.heap.size [] := by
  have hM1 : MapAt W1 bm none := h.map.turn (hb.block bm h.map.lt)
  obtain ⟨W2, r, hM2, htn⟩ := hM1.put V.heap.size
  have hbV : b < V.heap.size := Nat.lt_of_lt_of_le h.lt h.turns.size
  obtain ⟨arr, hblk, hsz⟩ := h.blk
  have hgr := htn.grown
  have hmb : bm ≠ b := fun e => by
    subst e
    obtain ⟨es, clock, hh, _⟩ := h.map
    rw [hblk] at hh; cases hh
  have hW1 : V.heap.size < W1.heap.size := (Array.getElem?_eq_some_iff.1 ht).1
  have hother : ∀ k, k < W1.heap.size → k ≠ bm → W2.heap[k]? = W1.heap[k]? := fun k hk hn => hgr.block k hk (fun e => hn (by simpa using e))
  have hold : ∀ k, k < V.heap.size → k ≠ bm → W2.heap[k]? = V.heap[k]? := fun k hk hn => (hother k (Nat.lt_of_lt_of_le hk hb.size) hn).trans (hb.block k hk)
  have ebb := hold b hbV (Ne.symm hmb)
  have hmh : bm ≠ w.heap.size := fun e => by
    subst e
    obtain ⟨es, clock, hh, _⟩ := h.map
    have := h.h0
    simp [World.cell?, hh] at this
  have ehh := hold w.heap.size h.more (Ne.symm hmh)
  have hmt : V.heap.size ≠ bm := by have := h.map.lt; omega
  have ett : W2.heap[V.heap.size]? = _ := (hother V.heap.size hW1 hmt).trans ht
  have hs2 : V.heap.size < W2.heap.size := Nat.lt_of_lt_of_le hW1 hgr.size
  have hT : Turns w W2 F := by
    refine h.turns.trans ⟨hgr.os.trans hb.os, hgr.tape.trans hb.tape, hgr.output.trans hb.output, Nat.le_of_lt hs2, fun k hk hn => hold k hk (fun e => hn (by rw [e]; exact h.own))⟩
  have hgb : grow F w W2 bm := h.own.imp id fun ⟨x, y⟩ => ⟨x, by omega⟩
  refine ⟨W2, r, (World.cell?_of_block (a := ⟨b, 61, none⟩) ebb).trans h.c61, (World.cell?_of_block (a := ⟨w.heap.size, 0, none⟩) ehh).trans h.h0, (World.cell?_of_block (a := ⟨w.heap.size, 1, none⟩) ehh).trans h.h1, hM2, hT,
    fun o ho => (World.cell?_of_block (a := ⟨b, o, none⟩) ebb).trans (h.cells o ho), ⟨arr, ebb.trans hblk, hsz⟩, hgb, ⟨⟨Or.inr ⟨h.turns.size, hs2⟩, by omega, _, _, _, ett⟩, _, ett, ⟨rfl, Or.inl ⟨rfl, rfl⟩⟩, fun k hk => by cases hk⟩⟩

set_option maxHeartbeats 4000000 in
set_option maxRecDepth 100000 in
theorem enter_B {F : Nat → Prop} (b bm g n c : Nat) (p l : Int) (w : World) (hR : Ready w (w.alloc (.cells #[.int .i64 p, .int .i64 l] 46)) F b bm g n c p l) (hnc : n ≤ c) (w61 : w.cell? ⟨b, 61, none⟩ = some (.map (some bm))) :
    Calls Tryz.prog 121 #[.pointer (some ⟨b, 0, none⟩), .agg #[.int .i64 p, .int .i64 l], .int .u64 0] w (EnterEnds w F b [] p l) := by
  have hlookE : (Instr.lookup 109 (.map (some bm)) (.int .u64 0) false).run Tryz.prog (w.alloc (.cells #[.int .i64 p, .int .i64 l] 46)) = .ok (.pointer none) (w.alloc (.cells #[.int .i64 p, .int .i64 l] 46)) := hR.map.look
  obtain ⟨V, hV⟩ : ∃ V, V = w.alloc (.cells #[.int .i64 p, .int .i64 l] 46) := ⟨_, rfl⟩
  rw [← hV] at hR
  have HR : Hid (Ready w V F b bm g n c p l) := hR
  have hlook0 : (Instr.lookup 109 (.map (some bm)) (.int .u64 0) false).run Tryz.prog V = .ok (.pointer none) V := hR.map.look
  have hq := eql86_some bm
  have c61 := hR.c61
  have c0 := hR.c0
  have hVs := hR.more
  have hlt := hR.lt
  have HN : Hid (∀ W, W = V.drew → Calls Tryz.prog 189 #[.slice (some ⟨g, 0, none⟩) n c, .int .u64 0] W fun e w' => ∃ W2, e = .returned (.pointer (some ⟨V.heap.size, 0, none⟩)) ∧ (Instr.mapUpdate 109 (.map (some bm)) (.int .u64 0) (.pointer (some ⟨V.heap.size, 0, none⟩))).run Tryz.prog w' = .ok () W2 ∧ W2.cell? ⟨b, 61, none⟩ = some (.map (some bm)) ∧ W2.cell? ⟨w.heap.size, 0, none⟩ = some (.int .i64 p) ∧ W2.cell? ⟨w.heap.size, 1, none⟩ = some (.int .i64 l) ∧ (Instr.lookup 109 (.map (some bm)) (.int .u64 0) false).run Tryz.prog W2 = .ok (.pointer (some ⟨V.heap.size, 0, none⟩)) W2 ∧ (Instr.lookup 109 (.map (some bm)) (.int .u64 0) false).run Tryz.prog W2.drew = .ok (.pointer (some ⟨V.heap.size, 0, none⟩)) W2.drew ∧
      (w'.cell? ⟨b, 61, none⟩ = some (.map (some bm)) ∧ w'.cell? ⟨b, 0, none⟩ = some (.slice (some ⟨g, 0, none⟩) n c)) ∧ W2.cell? ⟨b, 0, none⟩ = some (.slice (some ⟨g, 0, none⟩) n c) ∧
      Hid (TabAt W2 (fun k => grow F w W2 k ∧ k ≠ b ∧ ∃ cs t fz, W2.heap[k]? = some (.cells cs t fz)) V.heap.size []) ∧
      Hid (∀ w3, Turns W2 w3 (fun k => grow F w W2 k ∧ k ≠ b ∧ ∃ cs t fz, W2.heap[k]? = some (.cells cs t fz)) ∧ TabAt w3 (grow (fun k => grow F w W2 k ∧ k ≠ b ∧ ∃ cs t fz, W2.heap[k]? = some (.cells cs t fz)) W2 w3) V.heap.size (setIn [] (ahead [] p) [(p, l)]) → EnterEnds w F b [] p l (.returned (.tuple #[])) w3)) := by
    rintro W rfl
    have hbV : b < V.heap.size := by omega
    have hLd : LayAt V.drew g n := hR.lay.turn (Nat.le_refl _) rfl
    refine (new_tab g n c V.drew hLd hnc).mono ?_
    rintro e w' ⟨rfl, hb, ht⟩
    obtain ⟨W2, r, a1, a2, a3, a4, a5, a6, ⟨arr, a7, a8⟩, a9, a10⟩ := hR.made (W1 := w') ⟨hb.os, hb.tape, hb.output, hb.size, hb.block⟩ ht
    refine ⟨W2, rfl, r, a1, a2, a3, a4.look, (MapAt.turn (W' := W2.drew) a4 rfl).look, ⟨(hb.cell (p := ⟨b, 61, none⟩) hbV).trans hR.c61, (hb.cell (p := ⟨b, 0, none⟩) hbV).trans hR.c0⟩, (a6 0 (by decide)).trans ((hR.cells 0 (by decide)).symm.trans hR.c0), a10, fun w3 ⟨t1, t2⟩ => ?_⟩
    exact enter_ends (W1 := W2) (bm := bm) (tb := V.heap.size) (arr := arr) hR.imm a7 a8 a5 a6 a1 a9 a4 hR.lt t1 t2
  clear hR
  go_enter Tryz.func121, Tryz.ntmps121
  have HV : Hid (w.alloc (.cells #[.int .i64 p, .int .i64 l] 46) = V) := hV.symm
  clear hV
  go_wp2_with fail
  rw [HV.out]
  clear w61 hlookE
  go_region_held3 (fun w' => w'.cell? ⟨b, 61, none⟩ = some (.map (some bm)) ∧ w'.cell? ⟨b, 0, none⟩ = some (.slice (some ⟨g, 0, none⟩) n c)) ((first | exact ⟨a1, d0⟩ | exact k1 | exact ⟨c61, c0⟩)) ((go_at_call 189; refine (HN.out _ rfl).mono ?_; rintro e w1 ⟨W2, rfl, hup, a1, a2, a3, l1, l2, k1, d0, HTab, HEnd⟩))
  go_wp2_with fail
  go_region_with (go_at_call 190; refine (enter_tab V.heap.size [] p l _ (HTab.out.below (Below.refl _ _).drew) (by simp) List.Pairwise.nil).mono ?_; rintro e w2 ⟨rfl, ht2, hT2⟩)
  all_goals go_end0
  all_goals exact HEnd.out _ ⟨⟨ht2.os, ht2.tape, ht2.output, ht2.size, ht2.block⟩, hT2⟩

end Go.Proofs.YthkbeaffkcfgiabGreatDoor
