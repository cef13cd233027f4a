import Derived.Test.YthkbeaffkcfgiabGreatDoorWorldB
namespace Go.Proofs.YthkbeaffkcfgiabGreatDoor
open Go.RowKit

set_option maxHeartbeats 4000000 in
set_option maxRecDepth 100000 in
theorem enter_A {F : Nat → Prop} (b g n c : Nat) (p l : Int) (w : World) (hR : Ready w (((w.setCell ⟨b, 61, none⟩ (.map (some (w.heap.size + 1)))).alloc (.cells #[.int .i64 p, .int .i64 l] 46)).alloc (.map #[] 0)) F b (w.heap.size + 1) g n c p l) (hnc : n ≤ c) (w61 : w.cell? ⟨b, 61, none⟩ = some (.map none)) (wf : w.frozen? ⟨b, 61, none⟩ = false) :
    Calls Tryz.prog 121 #[.pointer (some ⟨b, 0, none⟩), .agg #[.int .i64 p, .int .i64 l], .int .u64 0] w (EnterEnds w F b [] p l) := by
  have hq0 := eql86_none
  have hmk := @run_makeMap Tryz.prog
  obtain ⟨V, hV⟩ : ∃ V, V = (((w.setCell ⟨b, 61, none⟩ (.map (some (w.heap.size + 1)))).alloc (.cells #[.int .i64 p, .int .i64 l] 46)).alloc (.map #[] 0)) := ⟨_, rfl⟩
  have hlookE : (Instr.lookup 109 (.map (some (w.heap.size + 1))) (.int .u64 0) false).run Tryz.prog (((w.setCell ⟨b, 61, none⟩ (.map (some (w.heap.size + 1)))).alloc (.cells #[.int .i64 p, .int .i64 l] 46)).alloc (.map #[] 0)) = .ok (.pointer none) (((w.setCell ⟨b, 61, none⟩ (.map (some (w.heap.size + 1)))).alloc (.cells #[.int .i64 p, .int .i64 l] 46)).alloc (.map #[] 0)) := hR.map.look
  rw [← hV] at hR
  have HR : Hid (Ready w V F b (w.heap.size + 1) g n c p l) := hR
  have hlook0 : (Instr.lookup 109 (.map (some (w.heap.size + 1))) (.int .u64 0) false).run Tryz.prog V = .ok (.pointer none) V := hR.map.look
  have hq := eql86_some (w.heap.size + 1)
  have c61 := hR.c61
  have c0 := hR.c0
  have hVs := hR.more
  have hlt := hR.lt
  have HN : Hid (∀ W, W = V.drew → Calls Tryz.prog 189 #[.slice (some ⟨g, 0, none⟩) n c, .int .u64 0] W fun e w' => ∃ W2, e = .returned (.pointer (some ⟨V.heap.size, 0, none⟩)) ∧ (Instr.mapUpdate 109 (.map (some (w.heap.size + 1))) (.int .u64 0) (.pointer (some ⟨V.heap.size, 0, none⟩))).run Tryz.prog w' = .ok () W2 ∧ W2.cell? ⟨b, 61, none⟩ = some (.map (some (w.heap.size + 1))) ∧ W2.cell? ⟨w.heap.size, 0, none⟩ = some (.int .i64 p) ∧ W2.cell? ⟨w.heap.size, 1, none⟩ = some (.int .i64 l) ∧ (Instr.lookup 109 (.map (some (w.heap.size + 1))) (.int .u64 0) false).run Tryz.prog W2 = .ok (.pointer (some ⟨V.heap.size, 0, none⟩)) W2 ∧ (Instr.lookup 109 (.map (some (w.heap.size + 1))) (.int .u64 0) false).run Tryz.prog W2.drew = .ok (.pointer (some ⟨V.heap.size, 0, none⟩)) W2.drew ∧
      (w'.cell? ⟨b, 61, none⟩ = some (.map (some (w.heap.size + 1))) ∧ w'.cell? ⟨b, 0, none⟩ = some (.slice (some ⟨g, 0, none⟩) n c)) ∧ W2.cell? ⟨b, 0, none⟩ = some (.slice (some ⟨g, 0, none⟩) n c) ∧
      Hid (TabAt W2 (fun k => grow F w W2 k ∧ k ≠ b ∧ ∃ cs t fz, W2.heap[k]? = some (.cells cs t fz)) V.heap.size []) ∧
      Hid (∀ w3, Turns W2 w3 (fun k => grow F w W2 k ∧ k ≠ b ∧ ∃ cs t fz, W2.heap[k]? = some (.cells cs t fz)) ∧ TabAt w3 (grow (fun k => grow F w W2 k ∧ k ≠ b ∧ ∃ cs t fz, W2.heap[k]? = some (.cells cs t fz)) W2 w3) V.heap.size (setIn [] (ahead [] p) [(p, l)]) → EnterEnds w F b [] p l (.returned (.tuple #[])) w3)) := by
    rintro W rfl
    have hbV : b < V.heap.size := by omega
    have hLd : LayAt V.drew g n := hR.lay.turn (Nat.le_refl _) rfl
    refine (new_tab g n c V.drew hLd hnc).mono ?_
    rintro e w' ⟨rfl, hb, ht⟩
    obtain ⟨W2, r, a1, a2, a3, a4, a5, a6, ⟨arr, a7, a8⟩, a9, a10⟩ := hR.made (W1 := w') ⟨hb.os, hb.tape, hb.output, hb.size, hb.block⟩ ht
    refine ⟨W2, rfl, r, a1, a2, a3, a4.look, (MapAt.turn (W' := W2.drew) a4 rfl).look, ⟨(hb.cell (p := ⟨b, 61, none⟩) hbV).trans hR.c61, (hb.cell (p := ⟨b, 0, none⟩) hbV).trans hR.c0⟩, (a6 0 (by decide)).trans ((hR.cells 0 (by decide)).symm.trans hR.c0), a10, fun w3 ⟨t1, t2⟩ => ?_⟩
    exact enter_ends (W1 := W2) (bm := w.heap.size + 1) (tb := V.heap.size) (arr := arr) hR.imm a7 a8 a5 a6 a1 a9 a4 hR.lt t1 t2
  clear hR
  go_enter Tryz.func121, Tryz.ntmps121
  have HV : Hid ((((w.setCell ⟨b, 61, none⟩ (.map (some (w.heap.size + 1)))).alloc (.cells #[.int .i64 p, .int .i64 l] 46)).alloc (.map #[] 0)) = V) := hV.symm
  clear hV
  go_wp2_with fail
  rw [HV.out]
  clear w61 wf hlookE
  go_region_held3 (fun w' => w'.cell? ⟨b, 61, none⟩ = some (.map (some (w.heap.size + 1))) ∧ w'.cell? ⟨b, 0, none⟩ = some (.slice (some ⟨g, 0, none⟩) n c)) ((first | exact ⟨a1, d0⟩ | exact k1 | exact ⟨c61, c0⟩)) ((go_at_call 189; refine (HN.out _ rfl).mono ?_; rintro e w1 ⟨W2, rfl, hup, a1, a2, a3, l1, l2, k1, d0, HTab, HEnd⟩))
  go_wp2_with fail
  go_region_with (go_at_call 190; refine (enter_tab V.heap.size [] p l _ (HTab.out.below (Below.refl _ _).drew) (by simp) List.Pairwise.nil).mono ?_; rintro e w2 ⟨rfl, ht2, hT2⟩)
  all_goals go_end0
  all_goals exact HEnd.out _ ⟨⟨ht2.os, ht2.tape, ht2.output, ht2.size, ht2.block⟩, hT2⟩

/-- Where enter comes to an empty map: ready. -/
theorem ready_B {F : Nat → Prop} {b bm g n c : Nat} {p l : Int} {w : World} {arr : Array Value} (hF : F b) (hb0 : w.heap[b]? = some (.cells arr 111 (0, 0))) (hbs : arr.size = 62) (hlay : w.cell? ⟨b, 0, none⟩ = some (.slice (some ⟨g, 0, none⟩) n c)) (hL : LayAt w g n) (h61 : w.cell? ⟨b, 61, none⟩ = some (.map (some bm))) (hbm : F bm) (hM : MapAt w bm none) :
    Ready w (w.alloc (.cells #[.int .i64 p, .int .i64 l] 46)) F b bm g n c p l := by
  have hlt : b < w.heap.size := (Array.getElem?_eq_some_iff.1 hb0).1
  have hA : Below w.heap.size w (w.alloc (.cells #[.int .i64 p, .int .i64 l] 46)) := (Below.refl _ _).alloc (Nat.le_refl _) _
  exact { c61 := (hA.cell (p := ⟨b, 61, none⟩) hlt).trans h61, c0 := (hA.cell (p := ⟨b, 0, none⟩) hlt).trans hlay, h0 := by simp, h1 := by simp, map := hM.turn (hA.block bm hM.lt), lay := hL.turn hA.size (hA.block g hL.1), turns := Turns.ofBelow F hA,
          cells := fun o _ => hA.cell (p := ⟨b, o, none⟩) hlt, blk := ⟨arr, (hA.block b hlt).trans hb0, hbs⟩, own := Or.inl hbm, lt := hlt, imm := hF, more := by simp }

/-- Where enter finds no map: it has made one. -/
theorem ready_A {F : Nat → Prop} {b g n c : Nat} {p l : Int} {w : World} {arr : Array Value} (hF : F b) (hgb : g ≠ b) (hb0 : w.heap[b]? = some (.cells arr 111 (0, 0))) (hbs : arr.size = 62) (hlay : w.cell? ⟨b, 0, none⟩ = some (.slice (some ⟨g, 0, none⟩) n c)) (hL : LayAt w g n) :
    Ready w (((w.setCell ⟨b, 61, none⟩ (.map (some (w.heap.size + 1)))).alloc (.cells #[.int .i64 p, .int .i64 l] 46)).alloc (.map #[] 0)) F b (w.heap.size + 1) g n c p l := by
  have hlt : b < w.heap.size := (Array.getElem?_eq_some_iff.1 hb0).1
  have hs : (w.setCell ⟨b, 61, none⟩ (.map (some (w.heap.size + 1)))).heap.size = w.heap.size := by simp [World.setCell]
  have hA : Below w.heap.size (w.setCell ⟨b, 61, none⟩ (.map (some (w.heap.size + 1)))) (((w.setCell ⟨b, 61, none⟩ (.map (some (w.heap.size + 1)))).alloc (.cells #[.int .i64 p, .int .i64 l] 46)).alloc (.map #[] 0)) := (((Below.refl w.heap.size (w.setCell ⟨b, 61, none⟩ (.map (some (w.heap.size + 1))))).alloc (by rw [hs]; exact Nat.le_refl _) _).alloc (by simp [World.setCell]) _)
  have hbk : (((w.setCell ⟨b, 61, none⟩ (.map (some (w.heap.size + 1)))).alloc (.cells #[.int .i64 p, .int .i64 l] 46)).alloc (.map #[] 0)).heap[b]? = some (.cells (arr.setIfInBounds 61 (.map (some (w.heap.size + 1)))) 111 (0, 0)) := (hA.block b hlt).trans (setCell_block _ hb0)
  have hc : ∀ o, o ≠ 61 → (((w.setCell ⟨b, 61, none⟩ (.map (some (w.heap.size + 1)))).alloc (.cells #[.int .i64 p, .int .i64 l] 46)).alloc (.map #[] 0)).cell? ⟨b, o, none⟩ = w.cell? ⟨b, o, none⟩ := fun o ho => (hA.cell (p := ⟨b, o, none⟩) hlt).trans (set_other _ (Or.inr ho))
  have hT : Turns w (((w.setCell ⟨b, 61, none⟩ (.map (some (w.heap.size + 1)))).alloc (.cells #[.int .i64 p, .int .i64 l] 46)).alloc (.map #[] 0)) F := ⟨rfl, rfl, rfl, by first | (simp [World.setCell]; done) | (simp [World.setCell]; omega), fun k hk hn => (hA.block k hk).trans (Below.heap_setCell _ _ _ _ (fun e => hn (by have e' : k = b := e; rw [e']; exact hF)))⟩
  exact { c61 := by rw [cell_row hbk, Array.getElem?_setIfInBounds_self_of_lt (by omega)], c0 := (hc 0 (by decide)).trans hlay,
          h0 := by rw [World.cell?_alloc_lt _ _ _ (by simp [World.setCell])]; rw [cell_row (heap_alloc_at (by rw [hs]) _)]; rfl, h1 := by rw [World.cell?_alloc_lt _ _ _ (by simp [World.setCell])]; rw [cell_row (heap_alloc_at (by rw [hs]) _)]; rfl,
          map := by
            have h := World.ownsMap_made ((w.setCell ⟨b, 61, none⟩ (.map (some (w.heap.size + 1)))).alloc (.cells #[.int .i64 p, .int .i64 l] 46)) Tryz.prog 105 ptrElem
            have e : ((w.setCell ⟨b, 61, none⟩ (.map (some (w.heap.size + 1)))).alloc (.cells #[.int .i64 p, .int .i64 l] 46)).heap.size = w.heap.size + 1 := by simp [World.setCell]
            rw [e] at h
            exact h.mono (by omega),
          lay := hL.turn (by first | (simp [World.setCell]; done) | (simp [World.setCell]; omega)) ((hA.block g hL.1).trans (Below.heap_setCell _ _ _ _ hgb)), turns := hT, cells := hc, blk := ⟨_, hbk, by simp [hbs]⟩, own := Or.inr ⟨by omega, by first | (simp [World.setCell]; done) | (simp [World.setCell]; omega)⟩, lt := hlt, imm := hF, more := by first | (simp [World.setCell]; done) | (simp [World.setCell]; omega) }

/-- The entity comes into the table of those without components. -/
theorem enter_world {F : Nat → Prop} (b n g c : Nat) (ents : List (Int × Int)) (p l : Int) (w : World) (hF : F b) (hbb : ∃ arr, w.heap[b]? = some (.cells arr 111 (0, 0)) ∧ arr.size = 62) (hlay : w.cell? ⟨b, 0, none⟩ = some (.slice (some ⟨g, 0, none⟩) n c)) (hnc : n ≤ c) (hL : LayAt w g n) (hgb : g ≠ b)
    (hT : TablesAt w F b ents) (hl : ents.length ≤ 100) (hsort : ents.Pairwise fun a b => a.1 < b.1) :
    Calls Tryz.prog 121 #[.pointer (some ⟨b, 0, none⟩), .agg #[.int .i64 p, .int .i64 l], .int .u64 0] w (EnterEnds w F b ents p l) := by
  obtain ⟨arr, hb0, hbs⟩ := hbb
  rcases hT with ⟨h1, rfl⟩ | ⟨bm, h1, h2, ⟨h3, rfl⟩ | ⟨tb, h3, h4⟩⟩
  · exact enter_A b g n c p l w (ready_A hF hgb hb0 hbs hlay hL) hnc h1 (frozen_row hb0 61)
  · exact enter_B b bm g n c p l w (ready_B hF hb0 hbs hlay hL h1 h2 h3) hnc h1
  · exact enter_C b bm tb ents p l w arr hF hb0 hbs h1 h2 h3 h4 hl hsort

end Go.Proofs.YthkbeaffkcfgiabGreatDoor
