import Derived.Defers
import Derived.Recover
import Derived.Test.YthkbeaffkcfgiabGreatDoorV14
import Derived.Test.YthkbeaffkcfgiabGreatDoorV15
set_option linter.unusedSimpArgs false
set_option linter.unusedVariables false
namespace Go.Proofs.YthkbeaffkcfgiabGreatDoor
open Go.RowKit

set_option maxHeartbeats 4000000 in
set_option maxRecDepth 100000 in
theorem enter_A {F : Nat → Prop} (b g n c : Nat) (p l : Int) (w : World) (hR : Ready w (((w.setCell ⟨b, 61, none⟩ (.map (some (w.heap.size + 1)))).alloc (.cells #[.int .i64 p, .int .i64 l] 46)).alloc (.map #[] 0)) F b (w.heap.size + 1) g n c p l) (hnc : n ≤ c) (w61 : w.cell? ⟨b, 61, none⟩ = some (.map none)) (wf : w.frozen? ⟨b, 61, none⟩ = false) :
    Calls Tryz.prog 121 #[.pointer (some ⟨b, 0, none⟩), .agg #[.int .i64 p, .int .i64 l], .int .u64 0] w (EnterEnds w F b [] p l) := by
  have hq0 := eql86_none
  have hmk := @run_makeMap Tryz.prog
  obtain ⟨V, hV⟩ : ∃ V, V = (((w.setCell ⟨b, 61, none⟩ (.map (some (w.heap.size + 1)))).alloc (.cells #[.int .i64 p, .int .i64 l] 46)).alloc (.map #[] 0)) := ⟨_, rfl⟩
  have hlookE : (Instr.lookup 109 (.map (some (w.heap.size + 1))) (.int .u64 0) false).run Tryz.prog (((w.setCell ⟨b, 61, none⟩ (.map (some (w.heap.size + 1)))).alloc (.cells #[.int .i64 p, .int .i64 l] 46)).alloc (.map #[] 0)) = .ok (.pointer none) (((w.setCell ⟨b, 61, none⟩ (.map (some (w.heap.size + 1)))).alloc (.cells #[.int .i64 p, .int .i64 l] 46)).alloc (.map #[] 0)) := hR.map.look
  rw [← hV] at hR
  have HR : Hid (Ready w V F b (w.heap.size + 1) g n c p l) := hR
  have hlook0 : (Instr.lookup 109 (.map (some (w.heap.size + 1))) (.int .u64 0) false).run Tryz.prog V = .ok (.pointer none) V := hR.map.look
  have hq := eql86_some (w.heap.size + 1)
  have c61 := hR.c61
  have c0 := hR.c0
  have hVs := hR.more
  have hlt := hR.lt
  have HN : Hid (∀ W, W = V.drew → Calls Tryz.prog 189 #[.slice (some ⟨g, 0, none⟩) n c, .int .u64 0] W fun e w' => ∃ W2, e = .returned (.pointer (some ⟨V.heap.size, 0, none⟩)) ∧ (Instr.mapUpdate 109 (.map (some (w.heap.size + 1))) (.int .u64 0) (.pointer (some ⟨V.heap.size, 0, none⟩))).run Tryz.prog w' = .ok () W2 ∧ W2.cell? ⟨b, 61, none⟩ = some (.map (some (w.heap.size + 1))) ∧ W2.cell? ⟨w.heap.size, 0, none⟩ = some (.int .i64 p) ∧ W2.cell? ⟨w.heap.size, 1, none⟩ = some (.int .i64 l) ∧ (Instr.lookup 109 (.map (some (w.heap.size + 1))) (.int .u64 0) false).run Tryz.prog W2 = .ok (.pointer (some ⟨V.heap.size, 0, none⟩)) W2 ∧ (Instr.lookup 109 (.map (some (w.heap.size + 1))) (.int .u64 0) false).run Tryz.prog W2.drew = .ok (.pointer (some ⟨V.heap.size, 0, none⟩)) W2.drew ∧
      (w'.cell? ⟨b, 61, none⟩ = some (.map (some (w.heap.size + 1))) ∧ w'.cell? ⟨b, 0, none⟩ = some (.slice (some ⟨g, 0, none⟩) n c)) ∧ W2.cell? ⟨b, 0, none⟩ = some (.slice (some ⟨g, 0, none⟩) n c) ∧
      Hid (TabAt W2 (fun k => grow F w W2 k ∧ k ≠ b ∧ ∃ cs t fz, W2.heap[k]? = some (.cells cs t fz)) V.heap.size []) ∧
      Hid (∀ w3, Turns W2 w3 (fun k => grow F w W2 k ∧ k ≠ b ∧ ∃ cs t fz, W2.heap[k]? = some (.cells cs t fz)) ∧ TabAt w3 (grow (fun k => grow F w W2 k ∧ k ≠ b ∧ ∃ cs t fz, W2.heap[k]? = some (.cells cs t fz)) W2 w3) V.heap.size (setIn [] (ahead [] p) [(p, l)]) → EnterEnds w F b [] p l (.returned (.tuple #[])) w3)) := by
    rintro W rfl
    have hbV : b < V.heap.size := by omega
    have hLd : LayAt V.drew g n := hR.lay.turn (Nat.le_refl _) rfl
    refine (new_tab g n c V.drew hLd hnc).mono ?_
    rintro e w' ⟨rfl, hb, ht⟩
    obtain ⟨W2, r, a1, a2, a3, a4, a5, a6, ⟨arr, a7, a8⟩, a9, a10⟩ := hR.made (W1 := w') ⟨hb.os, hb.tape, hb.output, hb.size, hb.block⟩ ht
    refine ⟨W2, rfl, r, a1, a2, a3, a4.look, (MapAt.turn (W' := W2.drew) a4 rfl).look, ⟨(hb.cell (p := ⟨b, 61, none⟩) hbV).trans hR.c61, (hb.cell (p := ⟨b, 0, none⟩) hbV).trans hR.c0⟩, (a6 0 (by decide)).trans ((hR.cells 0 (by decide)).symm.trans hR.c0), a10, fun w3 ⟨t1, t2⟩ => ?_⟩
    exact enter_ends (W1 := W2) (bm := w.heap.size + 1) (tb := V.heap.size) (arr := arr) hR.imm a7 a8 a5 a6 a1 a9 a4 hR.lt t1 t2
  clear hR
  go_enter Tryz.func121, Tryz.ntmps121
  have HV : Hid ((((w.setCell ⟨b, 61, none⟩ (.map (some (w.heap.size + 1)))).alloc (.cells #[.int .i64 p, .int .i64 l] 46)).alloc (.map #[] 0)) = V) := hV.symm
  clear hV
  go_wp2_with fail
  rw [HV.out]
  clear w61 wf hlookE
  go_region_held3 (fun w' => w'.cell? ⟨b, 61, none⟩ = some (.map (some (w.heap.size + 1))) ∧ w'.cell? ⟨b, 0, none⟩ = some (.slice (some ⟨g, 0, none⟩) n c)) ((first | exact ⟨a1, d0⟩ | exact k1 | exact ⟨c61, c0⟩)) ((go_at_call 189; refine (HN.out _ rfl).mono ?_; rintro e w1 ⟨W2, rfl, hup, a1, a2, a3, l1, l2, k1, d0, HTab, HEnd⟩))
  go_wp2_with fail
  go_region_with (go_at_call 190; refine (enter_tab V.heap.size [] p l _ (HTab.out.below (Below.refl _ _).drew) (by simp) List.Pairwise.nil).mono ?_; rintro e w2 ⟨rfl, ht2, hT2⟩)
  all_goals go_end0
  all_goals exact HEnd.out _ ⟨⟨ht2.os, ht2.tape, ht2.output, ht2.size, ht2.block⟩, hT2⟩

/-- Where enter comes to an empty map: ready. -/
theorem ready_B {F : Nat → Prop} {b bm g n c : Nat} {p l : Int} {w : World} {arr : Array Value} (hF : F b) (hb0 : w.heap[b]? = some (.cells arr 111 (0, 0))) (hbs : arr.size = 62) (hlay : w.cell? ⟨b, 0, none⟩ = some (.slice (some ⟨g, 0, none⟩) n c)) (hL : LayAt w g n) (h61 : w.cell? ⟨b, 61, none⟩ = some (.map (some bm))) (hbm : F bm) (hM : MapAt w bm none) :
    Ready w (w.alloc (.cells #[.int .i64 p, .int .i64 l] 46)) F b bm g n c p l := by
  have hlt : b < w.heap.size := (Array.getElem?_eq_some_iff.1 hb0).1
  have hA : Below w.heap.size w (w.alloc (.cells #[.int .i64 p, .int .i64 l] 46)) := (Below.refl _ _).alloc (Nat.le_refl _) _
  exact { c61 := (hA.cell (p := ⟨b, 61, none⟩) hlt).trans h61, c0 := (hA.cell (p := ⟨b, 0, none⟩) hlt).trans hlay, h0 := by simp, h1 := by simp, map := hM.turn (hA.block bm hM.lt), lay := hL.turn hA.size (hA.block g hL.1), turns := Turns.ofBelow F hA,
          cells := fun o _ => hA.cell (p := ⟨b, o, none⟩) hlt, blk := ⟨arr, (hA.block b hlt).trans hb0, hbs⟩, own := Or.inl hbm, lt := hlt, imm := hF, more := by simp }

/-- Where enter finds no map: it has made one. -/
theorem ready_A {F : Nat → Prop} {b g n c : Nat} {p l : Int} {w : World} {arr : Array Value} (hF : F b) (hgb : g ≠ b) (hb0 : w.heap[b]? = some (.cells arr 111 (0, 0))) (hbs : arr.size = 62) (hlay : w.cell? ⟨b, 0, none⟩ = some (.slice (some ⟨g, 0, none⟩) n c)) (hL : LayAt w g n) :
    Ready w (((w.setCell ⟨b, 61, none⟩ (.map (some (w.heap.size + 1)))).alloc (.cells #[.int .i64 p, .int .i64 l] 46)).alloc (.map #[] 0)) F b (w.heap.size + 1) g n c p l := by
  have hlt : b < w.heap.size := (Array.getElem?_eq_some_iff.1 hb0).1
  have hs : (w.setCell ⟨b, 61, none⟩ (.map (some (w.heap.size + 1)))).heap.size = w.heap.size := by simp [World.setCell]
  have hA : Below w.heap.size (w.setCell ⟨b, 61, none⟩ (.map (some (w.heap.size + 1)))) (((w.setCell ⟨b, 61, none⟩ (.map (some (w.heap.size + 1)))).alloc (.cells #[.int .i64 p, .int .i64 l] 46)).alloc (.map #[] 0)) := (((Below.refl w.heap.size (w.setCell ⟨b, 61, none⟩ (.map (some (w.heap.size + 1))))).alloc (by rw [hs]; exact Nat.le_refl _) _).alloc (by simp [World.setCell]) _)
  have hbk : (((w.setCell ⟨b, 61, none⟩ (.map (some (w.heap.size + 1)))).alloc (.cells #[.int .i64 p, .int .i64 l] 46)).alloc (.map #[] 0)).heap[b]? = some (.cells (arr.setIfInBounds 61 (.map (some (w.heap.size + 1)))) 111 (0, 0)) := (hA.block b hlt).trans (setCell_block _ hb0)
  have hc : ∀ o, o ≠ 61 → (((w.setCell ⟨b, 61, none⟩ (.map (some (w.heap.size + 1)))).alloc (.cells #[.int .i64 p, .int .i64 l] 46)).alloc (.map #[] 0)).cell? ⟨b, o, none⟩ = w.cell? ⟨b, o, none⟩ := fun o ho => (hA.cell (p := ⟨b, o, none⟩) hlt).trans (set_other _ (Or.inr ho))
  have hT : Turns w (((w.setCell ⟨b, 61, none⟩ (.map (some (w.heap.size + 1)))).alloc (.cells #[.int .i64 p, .int .i64 l] 46)).alloc (.map #[] 0)) F := ⟨rfl, rfl, rfl, by first | (simp [World.setCell]; done) | (simp [World.setCell]; omega), fun k hk hn => (hA.block k hk).trans (Below.heap_setCell _ _ _ _ (fun e => hn (by have e' : k = b := e; rw [e']; exact hF)))⟩
  exact { c61 := by rw [cell_row hbk, Array.getElem?_setIfInBounds_self_of_lt (by omega)], c0 := (hc 0 (by decide)).trans hlay,
          h0 := by rw [World.cell?_alloc_lt _ _ _ (by simp [World.setCell])]; rw [cell_row (heap_alloc_at (by rw [hs]) _)]; rfl, h1 := by rw [World.cell?_alloc_lt _ _ _ (by simp [World.setCell])]; rw [cell_row (heap_alloc_at (by rw [hs]) _)]; rfl,
          map := by
            have h := World.ownsMap_made ((w.setCell ⟨b, 61, none⟩ (.map (some (w.heap.size + 1)))).alloc (.cells #[.int .i64 p, .int .i64 l] 46)) Tryz.prog 105 ptrElem
            have e : ((w.setCell ⟨b, 61, none⟩ (.map (some (w.heap.size + 1)))).alloc (.cells #[.int .i64 p, .int .i64 l] 46)).heap.size = w.heap.size + 1 := by simp [World.setCell]
            rw [e] at h
            exact h.mono (by omega),
          lay := hL.turn (by first | (simp [World.setCell]; done) | (simp [World.setCell]; omega)) ((hA.block g hL.1).trans (Below.heap_setCell _ _ _ _ hgb)), turns := hT, cells := hc, blk := ⟨_, hbk, by simp [hbs]⟩, own := Or.inr ⟨by omega, by first | (simp [World.setCell]; done) | (simp [World.setCell]; omega)⟩, lt := hlt, imm := hF, more := by first | (simp [World.setCell]; done) | (simp [World.setCell]; omega) }

/-- The entity comes into the table of those without components. -/
theorem enter_world {F : Nat → Prop} (b n g c : Nat) (ents : List (Int × Int)) (p l : Int) (w : World) (hF : F b) (hbb : ∃ arr, w.heap[b]? = some (.cells arr 111 (0, 0)) ∧ arr.size = 62) (hlay : w.cell? ⟨b, 0, none⟩ = some (.slice (some ⟨g, 0, none⟩) n c)) (hnc : n ≤ c) (hL : LayAt w g n) (hgb : g ≠ b)
    (hT : TablesAt w F b ents) (hl : ents.length ≤ 100) (hsort : ents.Pairwise fun a b => a.1 < b.1) :
    Calls Tryz.prog 121 #[.pointer (some ⟨b, 0, none⟩), .agg #[.int .i64 p, .int .i64 l], .int .u64 0] w (EnterEnds w F b ents p l) := by
  obtain ⟨arr, hb0, hbs⟩ := hbb
  rcases hT with ⟨h1, rfl⟩ | ⟨bm, h1, h2, ⟨h3, rfl⟩ | ⟨tb, h3, h4⟩⟩
  · exact enter_A b g n c p l w (ready_A hF hgb hb0 hbs hlay hL) hnc h1 (frozen_row hb0 61)
  · exact enter_B b bm g n c p l w (ready_B hF hb0 hbs hlay hL h1 h2 h3) hnc h1
  · exact enter_C b bm tb ents p l w arr hF hb0 hbs h1 h2 h3 h4 hl hsort

end Go.Proofs.YthkbeaffkcfgiabGreatDoor

namespace Go.Proofs.YthkbeaffkcfgiabGreatDoor
open Go.RowKit

/-- How an entity goes out of the table of those without components. -/
def LeaveEnds (w : World) (F : Nat → Prop) (b : Nat) (ents : List (Int × Int)) (p : Int) (e : Ending) (w' : World) : Prop :=
  e = .returned (.tuple #[]) ∧ Turns w w' F ∧ w'.heap[b]? = w.heap[b]? ∧ TablesAt w' (grow F w w') b (cutOut ents (ahead ents p) 1)

set_option maxHeartbeats 4000000 in
set_option maxRecDepth 100000 in
theorem leave_world {F : Nat → Prop} (b bm tb : Nat) (ents : List (Int × Int)) (p l : Int) (w : World) (arr : Array Value) (hF : F b) (hb0 : w.heap[b]? = some (.cells arr 111 (0, 0))) (h61 : w.cell? ⟨b, 61, none⟩ = some (.map (some bm))) (hbm : F bm) (hM : MapAt w bm (some tb)) (hT : TabAt w F tb ents)
    (hl : ents.length ≤ 100) (hsort : ents.Pairwise fun a b => a.1 < b.1) (hin : ahead ents p < ents.length) :
    Calls Tryz.prog 60 #[.pointer (some ⟨b, 0, none⟩), .agg #[.int .i64 p, .int .i64 l], .int .u64 0] w (LeaveEnds w F b ents p) := by
  have hlt : b < w.heap.size := (Array.getElem?_eq_some_iff.1 hb0).1
  have hmb : bm ≠ b := fun e => by
    subst e
    obtain ⟨es, clock, hh, _⟩ := hM
    rw [hb0] at hh; cases hh
  obtain ⟨V, hV⟩ : ∃ V, V = w.alloc (.cells #[.int .i64 p, .int .i64 l] 46) := ⟨_, rfl⟩
  have hA : Below w.heap.size w V := by rw [hV]; exact (Below.refl _ _).alloc (Nat.le_refl _) _
  have hM1 : MapAt V bm (some tb) := hM.turn (hA.block bm hM.lt)
  have hT1 := (tab_apart hT hb0).below hA
  have hlook : (Instr.lookup 109 (.map (some bm)) (.int .u64 0) false).run Tryz.prog V = .ok (.pointer (some ⟨tb, 0, none⟩)) V := hM1.look
  rw [hV] at hlook
  have HC : Hid (Calls Tryz.prog 122 #[.pointer (some ⟨tb, 0, none⟩), .agg #[.int .i64 p, .int .i64 l]] V fun e w' => e = .returned (.tuple #[]) ∧ ∃ a n c, w'.cell? ⟨tb, 0, none⟩ = some (.slice a n c) ∧ w'.cell? ⟨b, 61, none⟩ = some (.map (some bm)) ∧
      Hid (((n : Int) == 0) = false → LeaveEnds w F b ents p (.returned (.tuple #[])) w') ∧ Hid (((n : Int) == 0) = true → ∀ ty, ∃ w2, (Builtin.delete_ #[109, 105] ty #[.map (some bm), .int .u64 0]).run Tryz.prog w' = .ok (.tuple #[]) w2 ∧ LeaveEnds w F b ents p (.returned (.tuple #[])) w2)) := by
    refine (leave_tab tb ents p l V hT1 hl hsort hin).mono ?_
    rintro e w' ⟨rfl, ht, hTn⟩
    have hMl := hM.lt
    have hVs := hA.size
    have eb : w'.heap[b]? = w.heap[b]? := (ht.block b (by omega) (fun h => h.2.1 rfl)).trans (hA.block b hlt)
    have em : w'.heap[bm]? = V.heap[bm]? := ht.block bm (by omega) (fun h => by
      obtain ⟨_, _, cs, t, fz, hh⟩ := h
      obtain ⟨es, clock, h2, _⟩ := hM
      rw [h2] at hh; cases hh)
    have hT3 : Turns w w' F := (Turns.ofBelow F hA).trans' ⟨ht.os, ht.tape, ht.output, ht.size, fun k hk hn => ht.block k hk (fun h => hn h.1)⟩
    have hsz : w.heap.size ≤ w'.heap.size := hT3.size
    have hTn2 : TabAt w' (grow F w w') tb (cutOut ents (ahead ents p) 1) := hTn.turn fun k hk _ => ⟨rfl, by
      rcases hk with h | h
      · exact Or.inl h.1
      · exact Or.inr ⟨by omega, h.2⟩⟩
    obtain ⟨i1, v, i2, i3, i4⟩ := hTn2
    obtain ⟨a, c, rfl⟩ := own_form i3
    have hMw : MapAt w' bm (some tb) := hM1.turn em
    refine ⟨rfl, a, (cutOut ents (ahead ents p) 1).length, c, by rw [cell_row i2]; rfl, (World.cell?_of_block (a := ⟨b, 61, none⟩) eb).trans h61, fun _ => ⟨rfl, hT3, eb, Or.inr ⟨bm, (World.cell?_of_block (a := ⟨b, 61, none⟩) eb).trans h61, Or.inl hbm, Or.inr ⟨tb, hMw, i1, _, i2, i3, i4⟩⟩⟩, fun h0 ty => ?_⟩
    obtain ⟨w2, r, hM2, htn⟩ := hMw.drop ty
    have hgr := htn.grown
    have eb2 : w2.heap[b]? = w'.heap[b]? := hgr.block b (by omega) (fun e => hmb (by simpa using e.symm))
    have hnil : cutOut ents (ahead ents p) 1 = [] := by
      have : ((cutOut ents (ahead ents p) 1).length : Int) = 0 := by simpa using h0
      exact List.length_eq_zero_iff.1 (by omega)
    refine ⟨w2, r, rfl, hT3.trans' (Turns.ofGrown hgr fun k hk _ => by simp at hk; rw [← hk]; exact hbm), eb2.trans eb, Or.inr ⟨bm, (World.cell?_of_block (a := ⟨b, 61, none⟩) eb2).trans ((World.cell?_of_block (a := ⟨b, 61, none⟩) eb).trans h61), Or.inl hbm, Or.inl ⟨hM2, hnil⟩⟩⟩
  rw [hV] at HC
  clear hM1 hT1 hM hT hsort hin hA
  go_enter Tryz.func60, Tryz.ntmps60
  go_wp2_with fail
  refine HC.out.mono ?_
  rintro e w1 ⟨rfl, a, n, c, ct, cb, HNo, HYes⟩
  by_cases h0 : ((n : Int) == 0) = true
  · obtain ⟨w3, hdel, hE⟩ := HYes.out h0 0
    have HE : Hid (LeaveEnds w F b ents p (.returned (.tuple #[])) w3) := hE
    clear hE
    go_wp2_with (go_at_call 123; refine (empty_tab tb a n c _ ct).mono ?_; rw [h0]; rintro e w2 ⟨rfl, rfl⟩)
    go_end0
    exact HE.out
  · have h0' : ((n : Int) == 0) = false := by simpa using h0
    have HE : Hid (LeaveEnds w F b ents p (.returned (.tuple #[])) w1) := HNo.out h0'
    go_wp2_with (go_at_call 123; refine (empty_tab tb a n c _ ct).mono ?_; rw [h0']; rintro e w2 ⟨rfl, rfl⟩)
    go_end0
    exact HE.out

end Go.Proofs.YthkbeaffkcfgiabGreatDoor

namespace Go.Proofs.YthkbeaffkcfgiabGreatDoor
open Go.RowKit

/-- May no life begin at place j? -/
def shutAt (bg : Nat → Nat) (tk : Nat → Bool) (j : Nat) : Prop := tk j = true ∨ 3 ≤ bg j

theorem free_shut (b o : Nat) (n : Nat) (t : Bool) (w : World) (h0 : w.cell? ⟨b, o, none⟩ = some (.int .i64 n)) (h1 : w.cell? ⟨b, o + 1, none⟩ = some (.bool t)) (hs : t = true ∨ 3 ≤ n) :
    Calls Tryz.prog 119 #[.pointer (some ⟨b, o, none⟩)] w fun e w' => e = .returned (.bool false) ∧ w' = w := by
  cases t with
  | true => exact free_taken b o w h1
  | false =>
    have := free_empty b o n w h0 h1
    have hd : decide ((n : Int) < 3) = false := by
      rcases hs with hs | hs
      · cases hs
      · simp; omega
    rw [hd] at this
    exact this

theorem free_open (b o : Nat) (n : Nat) (w : World) (h0 : w.cell? ⟨b, o, none⟩ = some (.int .i64 n)) (h1 : w.cell? ⟨b, o + 1, none⟩ = some (.bool false)) (hs : n < 3) :
    Calls Tryz.prog 119 #[.pointer (some ⟨b, o, none⟩)] w fun e w' => e = .returned (.bool true) ∧ w' = w := by
  have := free_empty b o n w h0 h1
  have hd : decide ((n : Int) < 3) = true := by simp; omega
  rw [hd] at this
  exact this

set_option maxHeartbeats 1600000 in
theorem spawnC_full (b : Nat) (bg : Nat → Nat) (tk : Nat → Bool) (cp : Nat → Nat) (w : World) (hp : PlacesAt w b bg tk cp) (hf : ∀ j, j < 20 → shutAt bg tk j) :
    Calls Tryz.prog 58 #[.pointer (some ⟨b, 0, none⟩), .int .u64 0] w fun e w' => e = .returned (.tuple #[.agg #[.int .i64 0, .int .i64 0], .int .i64 2]) ∧ Below w.heap.size w w' := by
  have HP : Hid (PlacesAt w b bg tk cp) := hp
  have HF : Hid (∀ j, j < 20 → shutAt bg tk j) := hf
  have hb := hp.1
  clear hp hf
  go_enter Tryz.func58, Tryz.ntmps58
  go_wp2
  go_loop [12] (fun t => ∃ k : Nat, k ≤ 20 ∧ t = .int .i64 k) (fun t => 20 - (intOf t).toNat)
  case atStart => exact ⟨0, by omega, rfl⟩
  case round =>
    obtain ⟨k, hk, rfl⟩ := hrel
    by_cases hlt : k < 20
    · have HP1 : Hid (PlacesAt (w.alloc (.cells #[.int .i64 0, .int .i64 0] 46)) b bg tk cp) := HP.out.below ((Below.refl _ _).alloc (Nat.le_refl _) _)
      go_wp2_with (go_at_call 119; refine (free_shut b (1 + k * 3) (bg k) (tk k) _ (HP1.out.2 k hlt).1 (HP1.out.2 k hlt).2.1 (HF.out k hlt)).mono ?_; rintro e w' ⟨rfl, rfl⟩)
      go_round
      case rel => exact ⟨k + 1, by omega, by go_num⟩
      case measure => simp [intOf]; omega
    · go_wp2
      exact bodyPost_ret (v := .tuple #[.agg #[.int .i64 0, .int .i64 0], .int .i64 2]) (by simp [results, Tryz.results58, go_sem]) rfl ⟨rfl, (Below.refl _ _).alloc (Nat.le_refl _) _⟩

/-- How Spawn ends where there is room: at place i. -/
def SpawnEnds (w : World) (F G : Nat → Prop) (b n : Nat) (bg : Nat → Nat) (tk : Nat → Bool) (i : Nat) (e : Ending) (w' : World) : Prop :=
  e = .returned (.tuple #[.agg #[.int .i64 ((i : Int) + 1), .int .i64 ((bg i : Int) + 1)], .int .i64 0]) ∧ Turns w w' F ∧ ProgAt w' (grow F w w') G b n (upd bg i (bg i + 1)) (upd tk i true)

theorem set3_block {w : World} {b o1 o2 o3 : Nat} {u1 u2 u3 : Value} {arr : Array Value} {t : TypeId} {fz : Nat × Nat} (hb : w.heap[b]? = some (.cells arr t fz)) : ∃ arr', (((w.setCell ⟨b, o1, none⟩ u1).setCell ⟨b, o2, none⟩ u2).setCell ⟨b, o3, none⟩ u3).heap[b]? = some (.cells arr' t fz) ∧ arr'.size = arr.size :=
  ⟨_, setCell_block _ (setCell_block _ (setCell_block _ hb)), by simp⟩

/-- What holds where Spawn comes to enter, and what it leaves behind it. -/
theorem spawn_mid {F G : Nat → Prop} {b n k : Nat} {bg : Nat → Nat} {tk : Nat → Bool} {w V : World} (hk : k < 20) (hP : ProgAt w F G b n bg tk) (hFl : ∀ k, F k → k < w.heap.size) (hFG : ∀ k, G k → ¬ F k) (ht : tk k = false)
    (hV : V = (((((w.setCell ⟨b, 1 + k * 3, none⟩ (.int .i64 ((bg k : Int) + 1))).setCell ⟨b, 1 + k * 3 + 1, none⟩ (.bool true)).setCell ⟨b, 1 + k * 3 + 2, none⟩ (.int .u64 0)).alloc (.cells #[.int .i64 0, .int .i64 0] 46)).alloc (.cells #[.int .i64 ((k : Int) + 1), .int .i64 ((bg k : Int) + 1)] 46))) :
    ∃ g c, V.cell? ⟨b, 0, none⟩ = some (.slice (some ⟨g, 0, none⟩) n c) ∧ n ≤ c ∧ LayAt V g n ∧ g ≠ b ∧ (∃ arr, V.heap[b]? = some (.cells arr 111 (0, 0)) ∧ arr.size = 62) ∧ TablesAt V F b (entsOf bg tk) ∧ F b ∧ V.heap.size = w.heap.size + 2 ∧
      V.cell? ⟨w.heap.size + 1, 0, none⟩ = some (.int .i64 ((k : Int) + 1)) ∧ V.cell? ⟨w.heap.size + 1, 1, none⟩ = some (.int .i64 ((bg k : Int) + 1)) ∧ V.cell? ⟨b, 1 + k * 3 + 2, none⟩ = some (.int .u64 0) ∧
      ∀ w', EnterEnds V F b (entsOf bg tk) ((k : Int) + 1) ((bg k : Int) + 1) (.returned (.tuple #[])) w' →
        w'.cell? ⟨w.heap.size + 1, 0, none⟩ = some (.int .i64 ((k : Int) + 1)) ∧ w'.cell? ⟨w.heap.size + 1, 1, none⟩ = some (.int .i64 ((bg k : Int) + 1)) ∧ w'.cell? ⟨w.heap.size, 0, none⟩ = some (.int .i64 0) ∧ w'.cell? ⟨w.heap.size, 1, none⟩ = some (.int .i64 0) ∧ w'.frozen? ⟨w.heap.size, 0, none⟩ = false ∧ w'.frozen? ⟨w.heap.size, 1, none⟩ = false ∧
        ∀ u0 u1, SpawnEnds w F G b n bg tk k (.returned (.tuple #[.agg #[.int .i64 ((k : Int) + 1), .int .i64 ((bg k : Int) + 1)], .int .i64 0])) ((w'.setCell ⟨w.heap.size, 0, none⟩ u0).setCell ⟨w.heap.size, 1, none⟩ u1) := by
  have hlt := hP.lt
  obtain ⟨arr, hb0, hbs⟩ := hP.blk
  obtain ⟨cp, hpl, hcp⟩ := hP.places
  obtain ⟨g, c, hl0, hnc, hL, hGg⟩ := hP.lay
  have hgb : g ≠ b := fun e => hFG g hGg (by rw [e]; exact hP.imm)
  obtain ⟨W1, hW1⟩ : ∃ W1, W1 = ((w.setCell ⟨b, 1 + k * 3, none⟩ (.int .i64 ((bg k : Int) + 1))).setCell ⟨b, 1 + k * 3 + 1, none⟩ (.bool true)).setCell ⟨b, 1 + k * 3 + 2, none⟩ (.int .u64 0) := ⟨_, rfl⟩
  rw [← hW1] at hV
  have hs1 : W1.heap.size = w.heap.size := by rw [hW1]; simp [World.setCell]
  have hB : Below w.heap.size W1 V := by rw [hV]; exact (((Below.refl w.heap.size W1).alloc (by omega) _).alloc (by simp; omega) _)
  have hsV : V.heap.size = w.heap.size + 2 := by rw [hV]; simp [hs1]
  have hR : V.heap[w.heap.size]? = some (.cells #[.int .i64 0, .int .i64 0] 46 (0, 0)) := by
    rw [hV, Below.heap_alloc _ _ _ (by simp; omega)]; exact heap_alloc_at hs1.symm _
  have hH : V.heap[w.heap.size + 1]? = some (.cells #[.int .i64 ((k : Int) + 1), .int .i64 ((bg k : Int) + 1)] 46 (0, 0)) := by
    rw [hV]; exact heap_alloc_at (by simp [hs1]) _
  obtain ⟨arr', hb1, hbs1⟩ : ∃ arr', W1.heap[b]? = some (.cells arr' 111 (0, 0)) ∧ arr'.size = arr.size := by rw [hW1]; exact set3_block hb0
  have hbV : V.heap[b]? = some (.cells arr' 111 (0, 0)) := (hB.block b hlt).trans hb1
  have hoth : ∀ j, j < w.heap.size → j ≠ b → V.heap[j]? = w.heap[j]? := fun j hj hn => (hB.block j hj).trans (by
    rw [hW1, Below.heap_setCell _ _ _ _ hn, Below.heap_setCell _ _ _ _ hn, Below.heap_setCell _ _ _ _ hn])
  have hcell : ∀ o, o ≠ 1 + k * 3 → o ≠ 1 + k * 3 + 1 → o ≠ 1 + k * 3 + 2 → V.cell? ⟨b, o, none⟩ = w.cell? ⟨b, o, none⟩ := fun o h1 h2 h3 => (hB.cell (p := ⟨b, o, none⟩) hlt).trans (by
    rw [hW1, set_other _ (Or.inr h3), set_other _ (Or.inr h2), set_other _ (Or.inr h1)])
  have hplV : PlacesAt V b (upd bg k (bg k + 1)) (upd tk k true) (upd cp k 0) := by
    have h := hpl.begun k hk
    rw [← hW1] at h
    exact h.kept (by omega) (hB.block b hlt)
  have hTV : TablesAt V F b (entsOf bg tk) := hP.tabs.turn (hcell 61 (by omega) (by omega) (by omega)) (fun j hj hjl hn => ⟨hoth j hjl hn, hj⟩) ⟨arr, hb0⟩
  have hTu : Turns w V F := ⟨hB.os.trans (by rw [hW1]; rfl), hB.tape.trans (by rw [hW1]; rfl), hB.output.trans (by rw [hW1]; rfl), by omega, fun j hj hn => hoth j hj (fun e => hn (by rw [e]; exact hP.imm))⟩
  have hLV : LayAt V g n := hL.turn (by omega) (hoth g hL.1 hgb)
  refine ⟨g, c, (hcell 0 (by omega) (by omega) (by omega)).trans hl0, hnc, hLV, hgb, ⟨arr', hbV, by omega⟩, hTV, hP.imm, hsV, by rw [cell_row hH]; rfl, by rw [cell_row hH]; rfl, ?_, ?_⟩
  · have := (hplV.2 k hk).2.2.1
    simpa [upd] using this
  · rintro w' ⟨_, t1, t2, ⟨arr2, t3, t4⟩, t5⟩
    have hnF : ∀ j, w.heap.size ≤ j → ¬ F j := fun j hj h => by have := hFl j h; omega
    have eH : w'.heap[w.heap.size + 1]? = V.heap[w.heap.size + 1]? := t1.block _ (by omega) (hnF _ (by omega))
    have eR : w'.heap[w.heap.size]? = V.heap[w.heap.size]? := t1.block _ (by omega) (hnF _ (Nat.le_refl _))
    have eg : w'.heap[g]? = V.heap[g]? := t1.block g (by have := hL.1; omega) (hFG g hGg)
    have hR' := eR.trans hR
    refine ⟨by rw [cell_row (eH.trans hH)]; rfl, by rw [cell_row (eH.trans hH)]; rfl, by rw [cell_row hR']; rfl, by rw [cell_row hR']; rfl, frozen_row hR' 0, frozen_row hR' 1, fun u0 u1 => ?_⟩
    obtain ⟨W4, hW4⟩ : ∃ W4, W4 = (w'.setCell ⟨w.heap.size, 0, none⟩ u0).setCell ⟨w.heap.size, 1, none⟩ u1 := ⟨_, rfl⟩
    rw [← hW4]
    have hs4 : W4.heap.size = w'.heap.size := by rw [hW4]; simp [World.setCell]
    have h4 : ∀ j, j ≠ w.heap.size → W4.heap[j]? = w'.heap[j]? := fun j hj => by rw [hW4, Below.heap_setCell _ _ _ _ hj, Below.heap_setCell _ _ _ _ hj]
    have eb4 : W4.heap[b]? = w'.heap[b]? := h4 b (by omega)
    have hsz : V.heap.size ≤ w'.heap.size := t1.size
    have hT4 : Turns w W4 F := by
      have h1 : Turns w w' F := hTu.trans' t1
      exact ⟨by rw [hW4]; exact h1.os, by rw [hW4]; exact h1.tape, by rw [hW4]; exact h1.output, by omega, fun j hj hn => (h4 j (by omega)).trans (h1.block j hj hn)⟩
    have hcell4 : ∀ o, o ≠ 61 → W4.cell? ⟨b, o, none⟩ = V.cell? ⟨b, o, none⟩ := fun o ho => (World.cell?_of_block (a := ⟨b, o, none⟩) eb4).trans (t2 o ho)
    refine ⟨rfl, hT4, Or.inl hP.imm, ⟨arr2, eb4.trans t3, t4⟩, ⟨upd cp k 0, ⟨by omega, fun j hj => ?_⟩, ?_⟩, ⟨g, c, (hcell4 0 (by decide)).trans ((hcell 0 (by omega) (by omega) (by omega)).trans hl0), hnc, hLV.turn (by omega) ((h4 g (by have := hL.1; omega)).trans eg), hGg⟩, ?_⟩
    · obtain ⟨p1, p2, p3, _, _, _⟩ := hplV.2 j hj
      exact ⟨(hcell4 _ (by omega)).trans p1, (hcell4 _ (by omega)).trans p2, (hcell4 _ (by omega)).trans p3, frozen_row (eb4.trans t3) _, frozen_row (eb4.trans t3) _, frozen_row (eb4.trans t3) _⟩
    · intro j hj htj
      by_cases e : j = k
      · rw [e]; exact upd_same _ _ _
      · rw [upd_ne _ _ _ e]; rw [upd_ne _ _ _ e] at htj; exact hcp j hj htj
    · rw [ents_spawn bg tk k hk ht]
      refine t5.turn (World.cell?_of_block (a := ⟨b, 61, none⟩) eb4) (fun j hj hjl _ => ⟨h4 j ?_, ?_⟩) ⟨arr2, t3⟩
      · rcases hj with h | h
        · have := hFl j h; omega
        · omega
      · rcases hj with h | h
        · exact Or.inl h
        · exact Or.inr ⟨by omega, by omega⟩

set_option maxHeartbeats 4000000 in
set_option maxRecDepth 100000 in
theorem spawnC_at {F G : Nat → Prop} (b n i : Nat) (bg : Nat → Nat) (tk : Nat → Bool) (w : World) (hi : i < 20) (hP : ProgAt w F G b n bg tk) (hFl : ∀ k, F k → k < w.heap.size) (hFG : ∀ k, G k → ¬ F k) (hf : ∀ j, j < i → shutAt bg tk j) (ht : tk i = false) (hg : bg i < 3) :
    Calls Tryz.prog 58 #[.pointer (some ⟨b, 0, none⟩), .int .u64 0] w (SpawnEnds w F G b n bg tk i) := by
  have HPr : Hid (ProgAt w F G b n bg tk) := hP
  obtain ⟨cp, hpl, hcp⟩ := hP.places
  have HP : Hid (PlacesAt w b bg tk cp) := hpl
  have HP1 : Hid (PlacesAt (w.alloc (.cells #[.int .i64 0, .int .i64 0] 46)) b bg tk cp) := hpl.below ((Below.refl _ _).alloc (Nat.le_refl _) _)
  have HF : Hid (∀ j, j < i → shutAt bg tk j) := hf
  have HT : Hid (tk i = false) := ht
  have hb := hP.lt
  clear hP hpl hcp hf ht
  go_enter Tryz.func58, Tryz.ntmps58
  go_wp2
  go_loop [12] (fun t => ∃ k : Nat, k ≤ i ∧ t = .int .i64 k) (fun t => 20 - (intOf t).toNat)
  case atStart => exact ⟨0, by omega, rfl⟩
  case round =>
    obtain ⟨k, hk, rfl⟩ := hrel
    by_cases hlt : k < i
    · have hk20 : k < 20 := by omega
      go_wp2_with (go_at_call 119; refine (free_shut b (1 + k * 3) (bg k) (tk k) _ (HP1.out.2 k hk20).1 (HP1.out.2 k hk20).2.1 (HF.out k hlt)).mono ?_; rintro e w' ⟨rfl, rfl⟩)
      go_round
      case rel => exact ⟨k + 1, by omega, by go_num⟩
      case measure => simp [intOf]; omega
    · obtain rfl : k = i := by omega
      go_wp2_with (first | (go_at_call 119; refine (free_open b (1 + k * 3) (bg k) _ (HP1.out.2 k hi).1 (by have hh := (HP1.out.2 k hi).2.1; rw [HT.out] at hh; exact hh) hg).mono ?_; rintro e w' ⟨rfl, rfl⟩) | (go_at_call 120; refine (begin_any b (1 + k * 3) (bg k) false (.int .u64 (cp k)) 0 _ (by omega) (HP1.out.2 k hi).1 (by have hh := (HP1.out.2 k hi).2.1; rw [HT.out] at hh; exact hh) (HP1.out.2 k hi).2.2.1 (HP1.out.2 k hi).2.2.2.1 (HP1.out.2 k hi).2.2.2.2.1 (HP1.out.2 k hi).2.2.2.2.2).mono ?_; rintro e w' ⟨rfl, rfl⟩))
      obtain ⟨V, hV⟩ : ∃ V, V = (((((w.setCell ⟨b, 1 + k * 3, none⟩ (.int .i64 ((bg k : Int) + 1))).setCell ⟨b, 1 + k * 3 + 1, none⟩ (.bool true)).setCell ⟨b, 1 + k * 3 + 2, none⟩ (.int .u64 0)).alloc (.cells #[.int .i64 0, .int .i64 0] 46)).alloc (.cells #[.int .i64 ((k : Int) + 1), .int .i64 ((bg k : Int) + 1)] 46)) := ⟨_, rfl⟩
      obtain ⟨g, c, m1, m2, m3, m4, m5, m6, m7, m8, m9, m10, m11, m12⟩ := spawn_mid hi HPr.out hFl hFG HT.out hV
      have HM : Hid (Calls Tryz.prog 121 #[.pointer (some ⟨b, 0, none⟩), .agg #[.int .i64 ((k : Int) + 1), .int .i64 ((bg k : Int) + 1)], .int .u64 0] V fun e w' => e = .returned (.tuple #[]) ∧ w'.cell? ⟨w.heap.size + 1, 0, none⟩ = some (.int .i64 ((k : Int) + 1)) ∧ w'.cell? ⟨w.heap.size + 1, 1, none⟩ = some (.int .i64 ((bg k : Int) + 1)) ∧ w'.cell? ⟨w.heap.size, 0, none⟩ = some (.int .i64 0) ∧ w'.cell? ⟨w.heap.size, 1, none⟩ = some (.int .i64 0) ∧ w'.frozen? ⟨w.heap.size, 0, none⟩ = false ∧ w'.frozen? ⟨w.heap.size, 1, none⟩ = false ∧
          Hid (∀ u0 u1, SpawnEnds w F G b n bg tk k (.returned (.tuple #[.agg #[.int .i64 ((k : Int) + 1), .int .i64 ((bg k : Int) + 1)], .int .i64 0])) ((w'.setCell ⟨w.heap.size, 0, none⟩ u0).setCell ⟨w.heap.size, 1, none⟩ u1))) := by
        refine (enter_world (F := F) b n g c (entsOf bg tk) _ _ V m7 m5 m1 m2 m3 m4 m6 (Nat.le_trans (ents_len bg tk) (by omega)) (ents_sort bg tk)).mono ?_
        intro e w' he
        obtain ⟨rfl, t1, t2, t3, t4⟩ := he
        obtain ⟨q1, q2, q3, q4, q5, q6, q7⟩ := m12 w' ⟨rfl, t1, t2, t3, t4⟩
        exact ⟨rfl, q1, q2, q3, q4, q5, q6, q7⟩
      have HV : Hid ((((((w.setCell ⟨b, 1 + k * 3, none⟩ (.int .i64 ((bg k : Int) + 1))).setCell ⟨b, 1 + k * 3 + 1, none⟩ (.bool true)).setCell ⟨b, 1 + k * 3 + 2, none⟩ (.int .u64 0)).alloc (.cells #[.int .i64 0, .int .i64 0] 46)).alloc (.cells #[.int .i64 ((k : Int) + 1), .int .i64 ((bg k : Int) + 1)] 46)) = V) := hV.symm
      have KS : Hid (∀ w' : World, (∀ a, w'.cell? a = V.cell? a) → w'.cell? ⟨w.heap.size + 1, 0, none⟩ = some (.int .i64 ((k : Int) + 1)) ∧ w'.cell? ⟨w.heap.size + 1, 1, none⟩ = some (.int .i64 ((bg k : Int) + 1)) ∧ w'.cell? ⟨b, 1 + k * 3 + 2, none⟩ = some (.int .u64 0)) := fun w' h => ⟨(h _).trans m9, (h _).trans m10, (h _).trans m11⟩
      clear hV m1 m2 m3 m4 m5 m6 m7 m12
      rw [HV.out]
      go_wp2_with (go_at_call 121; refine HM.out.mono ?_; rintro e w2 ⟨rfl, q1, q2, q3, q4, q5, q6, HQ⟩)
      exact bodyPost_ret (v := .tuple #[.agg #[.int .i64 ((k : Int) + 1), .int .i64 ((bg k : Int) + 1)], .int .i64 0]) (by simp [results, Tryz.results58, go_sem, q3, q4]) rfl (HQ.out _ _)

set_option maxHeartbeats 1600000 in
theorem spawn_full (b : Nat) (bg : Nat → Nat) (tk : Nat → Bool) (cp : Nat → Nat) (w : World) (hp : PlacesAt w b bg tk cp) (hf : ∀ j, j < 20 → shutAt bg tk j) :
    Calls Tryz.prog 26 #[.pointer (some ⟨b, 0, none⟩)] w fun e w' => e = .returned (.tuple #[.agg #[.int .i64 0, .int .i64 0], .int .i64 2]) ∧ Below w.heap.size w w' := by
  obtain ⟨W1, hW1⟩ : ∃ W1, W1 = w.alloc (.cells #[.int .i64 0, .int .i64 0] 46) := ⟨_, rfl⟩
  have hb1 : Below w.heap.size w W1 := by rw [hW1]; exact (Below.refl _ _).alloc (Nat.le_refl _) _
  have hr1 : W1.heap[w.heap.size]? = some (.cells #[.int .i64 0, .int .i64 0] 46 (0, 0)) := by rw [hW1]; exact heap_alloc_at rfl _
  have hs1 : W1.heap.size = w.heap.size + 1 := by rw [hW1]; simp
  have HI : Hid (Calls Tryz.prog 58 #[.pointer (some ⟨b, 0, none⟩), .int .u64 0] W1 fun e w' => e = .returned (.tuple #[.agg #[.int .i64 0, .int .i64 0], .int .i64 2]) ∧ w'.cell? ⟨w.heap.size, 0, none⟩ = some (.int .i64 0) ∧ w'.cell? ⟨w.heap.size, 1, none⟩ = some (.int .i64 0) ∧ w'.frozen? ⟨w.heap.size, 0, none⟩ = false ∧ w'.frozen? ⟨w.heap.size, 1, none⟩ = false ∧ Hid (Below w.heap.size w w')) := by
    refine (spawnC_full b bg tk cp W1 (hp.below hb1) hf).mono ?_
    rintro e w' ⟨rfl, hb⟩
    have hr2 := (hb.block w.heap.size (by omega)).trans hr1
    exact ⟨rfl, by rw [cell_row hr2]; rfl, by rw [cell_row hr2]; rfl, frozen_row hr2 0, frozen_row hr2 1, hb1.trans (hb.mono (by omega))⟩
  rw [hW1] at HI
  clear hp hf hb1 hr1 hs1 hW1
  go_enter Tryz.func26, Tryz.ntmps26
  go_wp2_with (go_at_call 58; refine HI.out.mono ?_; rintro e w2 ⟨rfl, q3, q4, q5, q6, HB⟩)
  exact bodyPost_ret (v := .tuple #[.agg #[.int .i64 0, .int .i64 0], .int .i64 2]) (by simp [results, Tryz.results26, go_sem, q3, q4]) rfl ⟨rfl, (HB.out.setCell (by simp) _).setCell (by simp) _⟩

set_option maxHeartbeats 1600000 in
theorem spawn_at {F G : Nat → Prop} (b n i : Nat) (bg : Nat → Nat) (tk : Nat → Bool) (w : World) (hi : i < 20) (hP : ProgAt w F G b n bg tk) (hFl : ∀ k, F k → k < w.heap.size) (hFG : ∀ k, G k → ¬ F k) (hf : ∀ j, j < i → shutAt bg tk j) (ht : tk i = false) (hg : bg i < 3) :
    Calls Tryz.prog 26 #[.pointer (some ⟨b, 0, none⟩)] w (SpawnEnds w F G b n bg tk i) := by
  obtain ⟨W1, hW1⟩ : ∃ W1, W1 = w.alloc (.cells #[.int .i64 0, .int .i64 0] 46) := ⟨_, rfl⟩
  have hb1 : Below w.heap.size w W1 := by rw [hW1]; exact (Below.refl _ _).alloc (Nat.le_refl _) _
  have hr1 : W1.heap[w.heap.size]? = some (.cells #[.int .i64 0, .int .i64 0] 46 (0, 0)) := by rw [hW1]; exact heap_alloc_at rfl _
  have hs1 : W1.heap.size = w.heap.size + 1 := by rw [hW1]; simp
  have HI : Hid (Calls Tryz.prog 58 #[.pointer (some ⟨b, 0, none⟩), .int .u64 0] W1 fun e w' => e = .returned (.tuple #[.agg #[.int .i64 ((i : Int) + 1), .int .i64 ((bg i : Int) + 1)], .int .i64 0]) ∧ w'.cell? ⟨w.heap.size, 0, none⟩ = some (.int .i64 0) ∧ w'.cell? ⟨w.heap.size, 1, none⟩ = some (.int .i64 0) ∧ w'.frozen? ⟨w.heap.size, 0, none⟩ = false ∧ w'.frozen? ⟨w.heap.size, 1, none⟩ = false ∧
      Hid (∀ u0 u1, SpawnEnds w F G b n bg tk i (.returned (.tuple #[.agg #[.int .i64 ((i : Int) + 1), .int .i64 ((bg i : Int) + 1)], .int .i64 0])) ((w'.setCell ⟨w.heap.size, 0, none⟩ u0).setCell ⟨w.heap.size, 1, none⟩ u1))) := by
    refine (spawnC_at (G := fun k => G k ∧ k < w.heap.size) b n i bg tk W1 hi (hP.turn hb1.size (fun k hk hl => ⟨hb1.block k hl, hk⟩) (fun k hk hl => ⟨hb1.block k hl, hk, hl⟩)) (fun k hk => Nat.lt_of_lt_of_le (hFl k hk) hb1.size) (fun k hk => hFG k hk.1) hf ht hg).mono ?_
    rintro e w' ⟨rfl, hT, hP2⟩
    have hnF : ¬ F w.heap.size := fun h => by have := hFl _ h; omega
    have hr2 := (hT.block w.heap.size (by omega) hnF).trans hr1
    refine ⟨rfl, by rw [cell_row hr2]; rfl, by rw [cell_row hr2]; rfl, frozen_row hr2 0, frozen_row hr2 1, fun u0 u1 => ⟨rfl, ?_, ?_⟩⟩
    · exact (((Turns.ofBelow F hb1).trans' hT).set w.heap.size 0 u0 (fun h => by omega)).set w.heap.size 1 u1 (fun h => by omega)
    · have hsz := hT.size
      have hset : ∀ k, k ≠ w.heap.size → ((w'.setCell ⟨w.heap.size, 0, none⟩ u0).setCell ⟨w.heap.size, 1, none⟩ u1).heap[k]? = w'.heap[k]? := fun k hk => by rw [Below.heap_setCell _ _ _ _ hk, Below.heap_setCell _ _ _ _ hk]
      have hz : ((w'.setCell ⟨w.heap.size, 0, none⟩ u0).setCell ⟨w.heap.size, 1, none⟩ u1).heap.size = w'.heap.size := by simp [World.setCell]
      refine hP2.turn (by rw [hz]; exact Nat.le_refl _) (fun k hk hl => ?_) (fun k hk hl => ?_)
      · rcases hk with h | ⟨h, h'⟩
        · have := hFl k h
          exact ⟨hset k (by omega), Or.inl h⟩
        · exact ⟨hset k (by omega), Or.inr ⟨by omega, by rw [hz]; exact h'⟩⟩
      · exact ⟨hset k (by have := hk.2; omega), hk.1⟩
  rw [hW1] at HI
  clear hP hf hb1 hr1 hs1 hW1
  go_enter Tryz.func26, Tryz.ntmps26
  go_wp2_with (go_at_call 58; refine HI.out.mono ?_; rintro e w2 ⟨rfl, q3, q4, q5, q6, HB⟩)
  exact bodyPost_ret (v := .tuple #[.agg #[.int .i64 ((i : Int) + 1), .int .i64 ((bg i : Int) + 1)], .int .i64 0]) (by simp [results, Tryz.results26, go_sem, q3, q4]) rfl (HB.out _ _)

end Go.Proofs.YthkbeaffkcfgiabGreatDoor

namespace Go.Proofs.YthkbeaffkcfgiabGreatDoor
open Go.RowKit Go.Maps

/-- A pointer to a table, or none. -/
def ptrTo (o : Option Nat) : Value := .pointer (o.map fun n => ⟨n, 0, none⟩)

theorem ptrElem_form (v : Value) (y : DataW Unit × List MemPlace) (h : ptrElem v = some y) : ∃ c, v = ptrTo c := by
  unfold ptrElem at h
  split at h
  · exact ⟨none, rfl⟩
  · exact ⟨some _, rfl⟩
  · cases h
theorem key_form (key : Value) (kl : Lit) (h : keyOf Tryz.prog 105 key = some kl) : ∃ x, key = Value.int .u64 x := by
  obtain ⟨x, h1, _⟩ := Maps.keyOf_int_inv Tryz.underlying105 h
  exact ⟨x, h1⟩

/-- What comes up in a range over the map is the table that it holds. -/
theorem range_elem {t c : Option Nat} {kl : Lit} {y : DataW Unit × List MemPlace} (hat : ∀ zd, (mapD t).atKey kl zd = y.1) (hv : ptrElem (ptrTo c) = some y) : ∃ tb, t = some tb ∧ c = some tb := by
  cases t with
  | none =>
    have h1 := hat .nil
    have h2 := hat (.agg [])
    simp [mapD, DataW.atKey] at h1 h2
    rw [← h1] at h2; cases h2
  | some tb =>
    have h1 := hat .nil
    have h2 := hat (.agg [])
    simp only [mapD, DataW.atKey, List.find?] at h1 h2
    cases hs : Lit.sameKey (.int .u64 0) kl with
    | false =>
      rw [hs] at h1 h2
      simp at h1 h2
      rw [← h1] at h2; cases h2
    | true =>
      rw [hs] at h1
      simp at h1
      refine ⟨tb, rfl, ?_⟩
      cases c with
      | none => simp [ptrTo, ptrElem] at hv; rw [← hv] at h1; cases h1
      | some n =>
        simp [ptrTo, ptrElem] at hv
        rw [← hv] at h1
        simp at h1
        have e := Int.ofNat.inj h1
        rw [e]

/-- How Despawn of a life that goes on ends. -/
def DespawnEnds (w : World) (F G : Nat → Prop) (b n : Nat) (bg : Nat → Nat) (tk : Nat → Bool) (i : Nat) (e : Ending) (w' : World) : Prop :=
  e = .returned (.int .i64 0) ∧ Turns w w' F ∧ ProgAt w' (grow F w w') G b n bg (upd tk i false)

/-- What holds behind leave and end. -/
def AfterEnd (w : World) (F G : Nat → Prop) (b n : Nat) (bg : Nat → Nat) (tk : Nat → Bool) (i : Nat) (W3 : World) : Prop :=
  ∃ bm t, W3.cell? ⟨b, 61, none⟩ = some (.map (some bm)) ∧ MapAt W3 bm t ∧ (∀ tb, t = some tb → tb < W3.heap.size ∧ ∀ k, k < 6 → W3.cell? ⟨tb, 1 + k, none⟩ = some (.slice none 0 0)) ∧ ∀ W', Below W3.heap.size W3 W' → DespawnEnds w F G b n bg tk i (.returned (.int .i64 0)) W'

theorem tab_columns {W : World} {F : Nat → Prop} {tb : Nat} {ents : List (Int × Int)} (h : TabAt W F tb ents) : ∀ k, k < 6 → W.cell? ⟨tb, 1 + k, none⟩ = some (.slice none 0 0) := by
  obtain ⟨_, v, hb, _⟩ := h
  intro k hk
  rw [cell_row hb]
  have : k = 0 ∨ k = 1 ∨ k = 2 ∨ k = 3 ∨ k = 4 ∨ k = 5 := by omega
  rcases this with rfl | rfl | rfl | rfl | rfl | rfl <;> rfl

theorem after_end {F G : Nat → Prop} {b n i : Nat} {bg : Nat → Nat} {tk : Nat → Bool} {w W1 W2 : World} (hi : i < 20) (hP : ProgAt W1 F G b n bg tk) (hB : Below w.heap.size w W1) (_hFl : ∀ k, F k → k < w.heap.size) (hFG : ∀ k, G k → ¬ F k) (ht : tk i = true) (hE : LeaveEnds W1 F b (entsOf bg tk) ((i : Int) + 1) (.returned (.tuple #[])) W2) (h61 : ∃ bm, W1.cell? ⟨b, 61, none⟩ = some (.map (some bm))) :
    AfterEnd w F G b n bg tk i (W2.setCell ⟨b, 1 + i * 3 + 1, none⟩ (.bool false)) := by
  obtain ⟨bm0, h61⟩ := h61
  obtain ⟨_, t1, t2, t3⟩ := hE
  have hlt := hP.lt
  obtain ⟨arr, hb0, hbs⟩ := hP.blk
  obtain ⟨cp, hpl, hcp⟩ := hP.places
  obtain ⟨g, c, hl0, hnc, hL, hGg⟩ := hP.lay
  have hgb : g ≠ b := fun e => hFG g hGg (by rw [e]; exact hP.imm)
  obtain ⟨W3, hW3⟩ : ∃ W3, W3 = W2.setCell ⟨b, 1 + i * 3 + 1, none⟩ (.bool false) := ⟨_, rfl⟩
  rw [← hW3]
  have hs3 : W3.heap.size = W2.heap.size := by rw [hW3]; simp [World.setCell]
  have hs2 := t1.size
  have hs1 := hB.size
  have h3 : ∀ j, j ≠ b → W3.heap[j]? = W2.heap[j]? := fun j hj => by rw [hW3, Below.heap_setCell _ _ _ _ hj]
  have hb2 := t2.trans hb0
  have hb3 : W3.heap[b]? = some (.cells (arr.setIfInBounds (1 + i * 3 + 1) (.bool false)) 111 (0, 0)) := by rw [hW3]; exact setCell_block _ hb2
  have hc3 : ∀ o, o ≠ 1 + i * 3 + 1 → W3.cell? ⟨b, o, none⟩ = W1.cell? ⟨b, o, none⟩ := fun o ho => by
    rw [hW3, set_other _ (Or.inr ho)]; exact World.cell?_of_block (a := ⟨b, o, none⟩) t2
  have hT3 : TablesAt W3 (grow F W1 W2) b (entsOf bg (upd tk i false)) := by
    rw [(ents_despawn bg tk i hi ht).2]
    exact t3.turn (by rw [hW3, set_other _ (Or.inr (by omega))]) (fun j hj _ hn => ⟨h3 j hn, hj⟩) ⟨arr, hb2⟩
  have hTu : Turns w W3 F := by
    have h1 : Turns w W2 F := (Turns.ofBelow F hB).trans' t1
    exact ⟨by rw [hW3]; exact h1.os, by rw [hW3]; exact h1.tape, by rw [hW3]; exact h1.output, by omega, fun j hj hn => (h3 j (fun e => hn (by rw [e]; exact hP.imm))).trans (h1.block j hj hn)⟩
  have hP3 : ProgAt W3 (grow F w W3) G b n bg (upd tk i false) := by
    refine ⟨Or.inl hP.imm, ⟨_, hb3, by simp [hbs]⟩, ⟨cp, ?_, ?_⟩, ⟨g, c, (hc3 0 (by omega)).trans hl0, hnc, hL.turn (by omega) ((h3 g hgb).trans (t1.block g hL.1 (hFG g hGg))), hGg⟩, ?_⟩
    · have h := (hpl.kept hs2 t2).leave i hi
      rw [← hW3] at h
      exact h
    · intro j hj htj
      by_cases e : j = i
      · subst e; rw [upd_same] at htj; cases htj
      · rw [upd_ne _ _ _ e] at htj; exact hcp j hj htj
    · refine hT3.turn rfl (fun j hj _ _ => ⟨rfl, ?_⟩) ⟨_, hb3⟩
      rcases hj with h | h
      · exact Or.inl h
      · exact Or.inr ⟨by omega, by omega⟩
  have h61' : W3.cell? ⟨b, 61, none⟩ = some (.map (some bm0)) := (hc3 61 (by omega)).trans h61
  have hEnd : ∀ W', Below W3.heap.size W3 W' → DespawnEnds w F G b n bg tk i (.returned (.int .i64 0)) W' := fun W' hb => by
    have hz := hb.size
    refine ⟨rfl, hTu.trans' (Turns.ofBelow F hb), hP3.turn hb.size (fun k hk hkl => ⟨hb.block k hkl, ?_⟩) (fun k hk hkl => ⟨hb.block k hkl, hk⟩)⟩
    rcases hk with h | h
    · exact Or.inl h
    · exact Or.inr ⟨h.1, by omega⟩
  rcases hT3 with ⟨q1, _⟩ | ⟨bm, q1, _, ⟨q2, _⟩ | ⟨tb, q2, q3⟩⟩
  · rw [h61'] at q1; cases q1
  · exact ⟨bm, none, q1, q2, (fun tb h => by cases h), hEnd⟩
  · exact ⟨bm, some tb, q1, q2, (fun tb' h => by cases h; exact ⟨q3.lt, tab_columns q3⟩), hEnd⟩

set_option maxHeartbeats 4000000 in
set_option maxRecDepth 100000 in
theorem despawn_yes {F G : Nat → Prop} (b n i : Nat) (bg : Nat → Nat) (tk : Nat → Bool) (w : World) (hi : i < 20) (hP : ProgAt w F G b n bg tk) (hFl : ∀ k, F k → k < w.heap.size) (hFG : ∀ k, G k → ¬ F k) (ht : tk i = true) :
    Calls Tryz.prog 27 #[.pointer (some ⟨b, 0, none⟩), .agg #[.int .i64 ((i : Int) + 1), .int .i64 (bg i : Int)]] w (DespawnEnds w F G b n bg tk i) := by
  have HPr : Hid (ProgAt w F G b n bg tk) := hP
  have HT : Hid (tk i = true) := ht
  have hb := hP.lt
  clear hP ht
  obtain ⟨V, hV⟩ : ∃ V, V = w.alloc (.cells #[.int .i64 ((i : Int) + 1), .int .i64 (bg i : Int)] 46) := ⟨_, rfl⟩
  have hA : Hid (Below w.heap.size w V) := by rw [hV]; exact (Below.refl _ _).alloc (Nat.le_refl _) _
  have hVs : V.heap.size = w.heap.size + 1 := by rw [hV]; simp
  have hH : Hid (V.heap[w.heap.size]? = some (.cells #[.int .i64 ((i : Int) + 1), .int .i64 (bg i : Int)] 46 (0, 0))) := by rw [hV]; exact _root_.Go.heap_alloc_new w _
  have HV : Hid (w.alloc (.cells #[.int .i64 ((i : Int) + 1), .int .i64 (bg i : Int)] 46) = V) := hV.symm
  clear hV
  go_enter Tryz.func27, Tryz.ntmps27
  go_wp2_with fail
  rw [HV.out]
  obtain ⟨cp0, hpl0, _⟩ := (HPr.out.below hA.out).places
  refine (alive_at b i (bg i) bg tk cp0 V hi hpl0).mono ?_
  have hyes : (tk i && ((bg i : Int) == (bg i : Int))) = true := by rw [HT.out]; simp
  rw [hyes]
  rintro e w1 ⟨rfl, hb1⟩
  have hB1 : Hid (Below w.heap.size w w1) := hA.out.trans (hb1.mono (by omega))
  have hs1 : w.heap.size < w1.heap.size := by have := hb1.size; omega
  have hH1 : Hid (w1.heap[w.heap.size]? = some (.cells #[.int .i64 ((i : Int) + 1), .int .i64 (bg i : Int)] 46 (0, 0))) := (hb1.block _ (by omega)).trans hH.out
  have d0 : w1.cell? ⟨w.heap.size, 0, none⟩ = some (.int .i64 ((i : Int) + 1)) := by rw [cell_row hH1.out]; rfl
  have d1 : w1.cell? ⟨w.heap.size, 1, none⟩ = some (.int .i64 (bg i : Int)) := by rw [cell_row hH1.out]; rfl
  clear hb1 hpl0 hyes hVs
  go_wp2_with fail
  refine (placeOf_any b i _ _ hi).mono ?_
  rintro e w2 ⟨rfl, hb2⟩
  have hB2 : Hid (Below w.heap.size w w2) := hB1.out.trans (hb2.mono (by omega))
  have hs2 : w.heap.size < w2.heap.size := by have := hb2.size; omega
  have e0 : w2.cell? ⟨w.heap.size, 0, none⟩ = some (.int .i64 ((i : Int) + 1)) := (hb2.cell (p := ⟨w.heap.size, 0, none⟩) hs1).trans d0
  have e1 : w2.cell? ⟨w.heap.size, 1, none⟩ = some (.int .i64 (bg i : Int)) := (hb2.cell (p := ⟨w.heap.size, 1, none⟩) hs1).trans d1
  clear hb2 d0 d1
  have hcp : w2.cell? ⟨b, 1 + i * 3 + 2, none⟩ = some (.int .u64 0) := by
    obtain ⟨cp, hpl, h0⟩ := (HPr.out.below hB2.out).places
    have := (hpl.2 i hi).2.2.1
    rw [h0 i hi HT.out] at this
    exact this
  have HM : Hid (∀ W, W = w2.drew → Calls Tryz.prog 60 #[.pointer (some ⟨b, 0, none⟩), .agg #[.int .i64 ((i : Int) + 1), .int .i64 (bg i : Int)], .int .u64 0] W fun e w3 => e = .returned (.tuple #[]) ∧ w3.cell? ⟨b, 1 + i * 3 + 1, none⟩ = some (.bool true) ∧ w3.frozen? ⟨b, 1 + i * 3 + 1, none⟩ = false ∧ w3.cell? ⟨w.heap.size, 0, none⟩ = some (.int .i64 ((i : Int) + 1)) ∧ w3.cell? ⟨w.heap.size, 1, none⟩ = some (.int .i64 (bg i : Int)) ∧ w3.cell? ⟨b, 1 + i * 3 + 2, none⟩ = some (.int .u64 0) ∧ Hid (w.heap.size < w3.heap.size) ∧
      Hid (AfterEnd w F G b n bg tk i (w3.setCell ⟨b, 1 + i * 3 + 1, none⟩ (.bool false)))) := by
    rintro W rfl
    have hBd : Below w.heap.size w w2.drew := hB2.out.drew
    have hPd := HPr.out.below hBd
    obtain ⟨hin, _⟩ := ents_despawn bg tk i hi HT.out
    have hne : entsOf bg tk ≠ [] := fun e => by rw [e] at hin; simp at hin
    obtain ⟨arr, hb0, hbs⟩ := hPd.blk
    rcases hPd.tabs with ⟨_, q⟩ | ⟨bm, q1, q2, ⟨_, q⟩ | ⟨tb, q3, q4⟩⟩
    · exact absurd q hne
    · exact absurd q hne
    · refine (leave_world b bm tb (entsOf bg tk) _ _ w2.drew arr hPd.imm hb0 q1 q2 q3 q4 (Nat.le_trans (ents_len bg tk) (by omega)) (ents_sort bg tk) hin).mono ?_
      intro e w3 hE
      obtain ⟨cp, hpl, h0⟩ := hPd.places
      obtain ⟨rfl, t1, t2, t3⟩ := hE
      have p2 := (hpl.2 i hi).2.1
      rw [HT.out] at p2
      have eH : w3.heap[w.heap.size]? = w2.heap[w.heap.size]? := t1.block _ hs2 (fun h => by have := hFl _ h; omega)
      exact ⟨rfl, (World.cell?_of_block (a := ⟨b, _, none⟩) t2).trans p2, (World.frozen?_of_block (a := ⟨b, _, none⟩) t2).trans (hpl.2 i hi).2.2.2.2.1, (World.cell?_of_block (a := ⟨w.heap.size, 0, none⟩) eH).trans e0, (World.cell?_of_block (a := ⟨w.heap.size, 1, none⟩) eH).trans e1, (World.cell?_of_block (a := ⟨b, _, none⟩) t2).trans hcp, Nat.lt_of_lt_of_le hs2 t1.size,
        after_end hi hPd hBd hFl hFG HT.out ⟨rfl, t1, t2, t3⟩ ⟨bm, q1⟩⟩
  go_wp2_with fail
  go_region_held3 (fun w' => w'.cell? ⟨w.heap.size, 0, none⟩ = some (.int .i64 ((i : Int) + 1)) ∧ w'.cell? ⟨w.heap.size, 1, none⟩ = some (.int .i64 (bg i : Int)) ∧ w'.cell? ⟨b, 1 + i * 3 + 2, none⟩ = some (.int .u64 0)) ((first | exact ⟨x3, x4, x5⟩ | exact ⟨e0, e1, hcp⟩)) ((go_at_call 60; refine (HM.out _ rfl).mono ?_; rintro e w3 ⟨rfl, x1, x2, x3, x4, x5, HS3, HAE⟩))
  have HX : Hid (∀ w4, w4 = w3.setCell ⟨b, 1 + i * 3 + 1, none⟩ (.bool false) → ∃ bm t, w4.cell? ⟨b, 61, none⟩ = some (.map (some bm)) ∧ w4.cell? ⟨w.heap.size, 0, none⟩ = some (.int .i64 ((i : Int) + 1)) ∧ w4.cell? ⟨w.heap.size, 1, none⟩ = some (.int .i64 (bg i : Int)) ∧ w.heap.size < w4.heap.size ∧ Hid (MapAt w4 bm t ∧ (∀ tb, t = some tb → tb < w4.heap.size ∧ ∀ k, k < 6 → w4.cell? ⟨tb, 1 + k, none⟩ = some (.slice none 0 0)) ∧ ∀ W', Below w4.heap.size w4 W' → DespawnEnds w F G b n bg tk i (.returned (.int .i64 0)) W')) := by
    rintro w4 rfl
    obtain ⟨bm, t, y1, y2, y3, y4⟩ := HAE.out
    exact ⟨bm, t, y1, by rw [set_other _ (by omega)]; exact x3, by rw [set_other _ (by omega)]; exact x4, by simpa [World.setCell] using HS3.out, y2, y3, y4⟩
  go_wp2_with (first
    | (go_at_call 61; refine (end_any b (1 + i * 3) true _ x1 x2).mono ?_; rintro e w4 ⟨rfl, hw4⟩; obtain ⟨bm, t, y1, y2, y3, y4, HY⟩ := HX.out w4 hw4; clear hw4 x1 x2 x3 x4 x5 HX HAE)
    | (at_range; refine wpList_range_own _ rfl _ 109 rfl 105 125 key79 Tryz.underlying109 ptrElem bm 1 (mapD t) rfl HY.out.1 ?_; intro w5 hrg5 hg5 hs5))
  go_frame
  have HB5 : Hid (Below w4.heap.size w4 w5) := ⟨hg5.os, hg5.tape, hg5.output, hg5.size, fun k hk => hg5.block k hk (by simp)⟩
  clear hg5
  go_loopw [7] (fun _ wr => ∃ left cnt, wr.ranges Tryz.prog 105 ptrElem bm w4.heap.size 1 (mapD t) left cnt ∧ Below w4.heap.size w4 wr) (fun _ wr => wr.rangeLeft bm w4.heap.size)
  case atStart => exact ⟨_, _, hrg5, HB5.out⟩
  case round =>
    obtain ⟨left, cnt, hrg, hB⟩ := hrel
    have HB : Hid (Below w4.heap.size w4 wr) := hB
    have HRg : Hid (wr.ranges Tryz.prog 105 ptrElem bm w4.heap.size 1 (mapD t) left cnt) := hrg
    clear hB hrg hrg5 hs5
    go_wp2_with (at_next; refine wpList_next_ranges _ rfl _ rfl 105 key79 ptrElem (Value.int .u64) ptrTo key_form ptrElem_form bm w4.heap.size 1 (mapD t) _ _ rfl HRg.out ?_ ?_)
    · intro _ _
      go_wp2_with fail
      go_ret
      exact HY.out.2.2 _ HB.out
    · intro x c kl yy ps w6 cnt6 hkey hlk hv hat hrg6 hlt6 hg6 hs6 hen
      obtain ⟨tb, ht, hc⟩ := range_elem (y := (yy, ps)) hat hv
      rw [hc] at hen
      rw [hc]
      simp only [ptrTo, Option.map] at hen ⊢
      have hB6 : Hid (Below w4.heap.size w4 w6) := ⟨hg6.os.trans HB.out.os, hg6.tape.trans HB.out.tape, hg6.output.trans HB.out.output, Nat.le_trans HB.out.size hg6.size, fun k hk => (hg6.block k (Nat.lt_of_lt_of_le hk HB.out.size) (by simp; omega)).trans (HB.out.block k hk)⟩
      have HR6 : Hid (w6.ranges Tryz.prog 105 ptrElem bm w4.heap.size 1 (mapD t) (fun z => left z && !z.sameKey kl) cnt6) := hrg6
      have z0 : w6.cell? ⟨w.heap.size, 0, none⟩ = some (.int .i64 ((i : Int) + 1)) := (hB6.out.cell (p := ⟨w.heap.size, 0, none⟩) y4).trans y2
      have z1 : w6.cell? ⟨w.heap.size, 1, none⟩ = some (.int .i64 (bg i : Int)) := (hB6.out.cell (p := ⟨w.heap.size, 1, none⟩) y4).trans y3
      have HLt : Hid (cnt6 < cnt) := hlt6
      have HF : Hid (tb < w6.heap.size ∧ ∀ k, k < 6 → w6.cell? ⟨tb, 1 + k, none⟩ = some (.slice none 0 0)) := by
        obtain ⟨q1, q2⟩ := HY.out.2.1 tb ht
        exact ⟨Nat.lt_of_lt_of_le q1 hB6.out.size, fun k hk => (hB6.out.cell (p := ⟨tb, _, none⟩) q1).trans (q2 k hk)⟩
      clear hkey hlk hv hat hrg6 hlt6 hg6 hs6 ht hc
      go_wp2_with (go_at_call 62; refine (forget_none tb _ _ _ HF.out.1 HF.out.2).mono ?_; rintro e w7 ⟨rfl, hb7⟩)
      have hr7 : w7.ranges Tryz.prog 105 ptrElem bm w4.heap.size 1 (mapD t) (fun z => left z && !z.sameKey kl) cnt6 := HR6.out.kept (row := none) ⟨hb7.os, hb7.tape, hb7.output, hb7.size, fun k hk _ => hb7.block k hk⟩ (by simp) (by simp)
      go_roundw
      case rel => exact ⟨_, _, hr7, hB6.out.trans (hb7.mono hB6.out.size)⟩
      case measure => rw [hr7.left_eq, HRg.out.left_eq]; exact HLt.out

end Go.Proofs.YthkbeaffkcfgiabGreatDoor

namespace Go.Proofs.YthkbeaffkcfgiabGreatDoor
open Go.RowKit

theorem catch_idle (p q : Value) (w : World) :
    CallsD Tryz.prog 126 #[p, q] .returning w fun e u' w' => e = .returned (.tuple #[]) ∧ u' = .returning ∧ w' = w := by
  refine callsD_of_wpS Tryz.func126 rfl fun c₀ cs hu => ?_
  apply wpS_seq
  apply wpS_region
  simp [wpOpsS, go_sem, recoverD, hu, Tryz.ntmps126, Exit.thenS]
  apply wpS_seq
  refine wpS_of_wp ?_
  go_wp2
  simp only [Exit.thenS]
  refine wpS_cond (t := false) (by simp [Act.eval]) ?_
  simp only [Bool.false_eq_true, if_false]
  refine wpS_of_wp (wp_skip ?_)
  cases c₀
  simp_all [bodyPostS, results, Tryz.results126]

set_option maxHeartbeats 800000 in
set_option maxRecDepth 20000 in
theorem catch_wrong (b1 b2 : Nat) (v0 : Option Addr) (n0 c0 : Nat) (b0 : Bool) (w : World) (hp : w.cell? ⟨b1, 0, none⟩ = some (.slice v0 n0 c0)) (hq : w.cell? ⟨b2, 0, none⟩ = some (.bool b0)) (fp : w.frozen? ⟨b1, 0, none⟩ = false) (fq : w.frozen? ⟨b2, 0, none⟩ = false) (hpq : b1 < b2) (hqs : b2 < w.heap.size) :
    CallsD Tryz.prog 126 #[.pointer (some ⟨b1, 0, none⟩), .pointer (some ⟨b2, 0, none⟩)] (.panicking wrong) w fun e u' w' => e = .returned (.tuple #[]) ∧ u' = .panicking [{ v := .iface 197 (.agg #[]), recovered := true }] ∧ w' = ((w.alloc (.cells #[] 197)).setCell ⟨b1, 0, none⟩ (.slice none 0 0)).setCell ⟨b2, 0, none⟩ (.bool false) := by
  unfold wrong
  have hta : ∀ W : World, Sem.run Tryz.prog (Instr.typeAssert (.iface 197 (.agg #[])) 20 197 true) W = .ok (.tuple #[.agg #[], .bool true]) W := fun _ => by kernel_rfl
  have hp2 : (w.alloc (.cells #[] 197)).cell? ⟨b1, 0, none⟩ = some (.slice v0 n0 c0) := (World.cell?_alloc_lt _ _ _ (by simp; omega)).trans hp
  have hq2 : (w.alloc (.cells #[] 197)).cell? ⟨b2, 0, none⟩ = some (.bool b0) := (World.cell?_alloc_lt _ _ _ hqs).trans hq
  have fp2 : (w.alloc (.cells #[] 197)).frozen? ⟨b1, 0, none⟩ = false := (World.frozen?_of_block (a := ⟨b1, 0, none⟩) (Below.heap_alloc w _ b1 (by omega))).trans fp
  have fq2 : (w.alloc (.cells #[] 197)).frozen? ⟨b2, 0, none⟩ = false := (World.frozen?_of_block (a := ⟨b2, 0, none⟩) (Below.heap_alloc w _ b2 (by omega))).trans fq
  have hne : ¬ b1 = b2 := by omega
  have hne2 : ¬ b2 = b1 := by omega
  refine callsD_of_wpS Tryz.func126 rfl fun c₀ cs hu => ?_
  apply wpS_seq
  apply wpS_region
  simp [wpOpsS, go_sem, recoverD, hu, Tryz.ntmps126, Exit.thenS]
  apply wpS_seq
  refine wpS_of_wp ?_
  go_wp2
  simp only [Exit.thenS]
  refine wpS_cond (t := true) (by simp [Act.eval]) ?_
  simp only [if_true]
  refine wpS_of_wp ?_
  go_wp2
  simp [bodyPostS, results, Tryz.results126]

set_option maxHeartbeats 1600000 in
theorem read_any (text : List UInt8) (m : Int) (w : World) (hsz : text.length ≤ 1000000000) (hm : w.cell? ⟨3, 0, none⟩ = some (.int .i64 m)) :
    Calls Tryz.prog 64 #[.string (mk text)] w fun e w' => ((∃ cs, schemaL text = some cs ∧ ∃ sa n c, e = .returned (.tuple #[.slice sa n c, .bool true]) ∧ LaidAt w w' sa n c) ∨ (schemaL text = none ∧ e = .returned (.tuple #[.slice none 0 0, .bool false]))) ∧ Below w.heap.size w w' := by
  have h0 : 3 < w.heap.size := World.block_lt_of_cell? w ⟨3, 0, none⟩ hm
  have HM : Hid (∀ o1 o2 : Obj, ((w.alloc o1).alloc o2).cell? ⟨3, 0, none⟩ = some (.int .i64 m)) := fun o1 o2 => ((below_two w o1 o2).cell (p := ⟨3, 0, none⟩) h0).trans hm
  clear hm
  have hmf : ∀ (fn : Fn) (first cap : Array Value) (w : World), (Instr.makeFunc fn first cap).run Tryz.prog w = .ok (.func fn first cap) w := fun _ _ _ _ => rfl
  go_enter_defers Tryz.func64, Tryz.ntmps64
  go_wp2_with fail
  refine (readLayout_any text m _ hsz (HM.out _ _)).mono ?_
  rintro e w1 ⟨hends, hb⟩
  have HB : Hid (Below w.heap.size w w1) := (below_two _ _ _).trans (hb.mono (by simp; omega))
  have c0 : w1.cell? ⟨w.heap.size, 0, none⟩ = some (.slice none 0 0) := by rw [hb.cell (p := ⟨w.heap.size, 0, none⟩) (by simp; omega), World.cell?_alloc_lt _ _ _ (by simp)]; simp
  have c1 : w1.cell? ⟨w.heap.size + 1, 0, none⟩ = some (.bool false) := by
    rw [hb.cell (p := ⟨w.heap.size + 1, 0, none⟩) (by simp)]
    have := World.cell?_alloc_new (w.alloc (.cells #[.slice none 0 0] 103)) #[.bool false] 4 0
    rw [World.size_alloc] at this
    rw [this]; rfl
  have f0 : w1.frozen? ⟨w.heap.size, 0, none⟩ = false := by rw [hb.frozen (p := ⟨w.heap.size, 0, none⟩) (by simp; omega)]; simp
  have f1 : w1.frozen? ⟨w.heap.size + 1, 0, none⟩ = false := by rw [hb.frozen (p := ⟨w.heap.size + 1, 0, none⟩) (by simp)]; simp
  have hs1 : w.heap.size + 1 < w1.heap.size := by have := hb.size; simp at this; omega
  clear hb
  rcases hends with ⟨cs, hcs, sa, sn, sc, rfl, hld⟩ | ⟨hcs, rfl⟩
  · have HS : Hid (schemaL text = some cs) := hcs
    have HLd : Hid (∀ u0 u1, LaidAt w ((w1.setCell ⟨w.heap.size, 0, none⟩ u0).setCell ⟨w.heap.size + 1, 0, none⟩ u1) sa sn sc) := fun u0 u1 => by
      obtain ⟨g, q1, q2, q3, q4⟩ := hld
      simp at q2
      exact ⟨g, q1, by omega, q3, q4.turn (by simp [World.setCell]) (by rw [Below.heap_setCell _ _ _ _ (by show g ≠ w.heap.size + 1; omega), Below.heap_setCell _ _ _ _ (by show g ≠ w.heap.size; omega)])⟩
    clear hcs hld
    go_wp2
    refine leaves_cons (f := 126) (args := #[.pointer (some ⟨w.heap.size, 0, none⟩), .pointer (some ⟨w.heap.size + 1, 0, none⟩)]) (by simp) (by simp [go_sem]) ?_
    refine (catch_idle _ _ _).mono ?_
    rintro e u' w'' ⟨rfl, rfl, rfl⟩
    simp only [Leaves, settle]
    refine ⟨.tuple #[.slice sa sn sc, .bool true], by simp [results, Tryz.results64, go_sem, c0, c1], Or.inl ⟨cs, HS.out, sa, sn, sc, rfl, HLd.out _ _⟩, (HB.out.setCell (by simp) _).setCell (by simp) _⟩
  · have HS : Hid (schemaL text = none) := hcs
    clear hcs
    go_wp2_with fail
    refine leaves_cons (f := 126) (args := #[.pointer (some ⟨w.heap.size, 0, none⟩), .pointer (some ⟨w.heap.size + 1, 0, none⟩)]) (by simp) (by simp [go_sem]) ?_
    refine (catch_wrong w.heap.size (w.heap.size + 1) none 0 0 false w1 c0 c1 f0 f1 (by omega) hs1).mono ?_
    rintro e u' w'' ⟨rfl, rfl, rfl⟩
    simp only [Leaves, settle, List.dropWhile_nil]
    have hl : w.heap.size < w1.heap.size := by omega
    have t0 : (((w1.alloc (.cells #[] 197)).setCell ⟨w.heap.size, 0, none⟩ (.slice none 0 0)).setCell ⟨w.heap.size + 1, 0, none⟩ (.bool false)).cell? ⟨w.heap.size, 0, none⟩ = some (.slice none 0 0) := by
      rw [set_other _ (by omega), set_same (u := .slice none 0 0) _ (by rw [World.cell?_alloc_lt _ _ _ hl]; exact c0)]
    have t1 : (((w1.alloc (.cells #[] 197)).setCell ⟨w.heap.size, 0, none⟩ (.slice none 0 0)).setCell ⟨w.heap.size + 1, 0, none⟩ (.bool false)).cell? ⟨w.heap.size + 1, 0, none⟩ = some (.bool false) := by
      rw [set_same (u := .bool false) _ (by rw [set_other _ (by omega), World.cell?_alloc_lt _ _ _ hs1]; exact c1)]
    refine ⟨.tuple #[.slice none 0 0, .bool false], by simp [results, Tryz.results64, go_sem, t0, t1], Or.inr ⟨HS.out, rfl⟩, ((HB.out.alloc HB.out.size _).setCell (by simp) _).setCell (by simp) _⟩

/-- How New ends. -/
def NewDone (w : World) (text : List UInt8) (e : Ending) (w' : World) : Prop :=
  (∃ cs, schemaL text = some cs ∧ ∃ b nl, e = .returned (.tuple #[.pointer (some ⟨b, 0, none⟩), .int .i64 0]) ∧ w.heap.size ≤ b ∧ b < w'.heap.size ∧ ProgAt w' (fun k => k = b) (fun k => w.heap.size ≤ k ∧ k < w'.heap.size ∧ k ≠ b) b nl (fun _ => 0) (fun _ => false)) ∨ (schemaL text = none ∧ e = .returned (.tuple #[.pointer none, .int .i64 1]))

set_option maxHeartbeats 1600000 in
theorem new_any (text : List UInt8) (m : Int) (w : World) (hsz : text.length ≤ 1000000000) (hm : w.cell? ⟨3, 0, none⟩ = some (.int .i64 m)) :
    Calls Tryz.prog 34 #[.string (mk text)] w fun e w' => NewDone w text e w' ∧ Below w.heap.size w w' := by
  have HR : Hid _ := read_any text m w hsz hm
  clear hm
  go_enter Tryz.func34, Tryz.ntmps34
  go_wp2_with fail
  refine Calls.mono HR.out ?_
  rintro e w1 ⟨hends, hb⟩
  have HB : Hid (Below w.heap.size w w1) := hb
  clear hb
  rcases hends with ⟨cs, hcs, sa, sn, sc, rfl, hld⟩ | ⟨hcs, rfl⟩
  · have HS : Hid (schemaL text = some cs) := hcs
    have HLd : Hid (LaidAt w w1 sa sn sc) := hld
    clear hcs hld
    go_wp2
    go_ret2
    obtain ⟨g, rfl, q2, q3, q4⟩ := HLd.out
    have hg1 := q4.1
    refine ⟨Or.inl ⟨cs, HS.out, w1.heap.size, sn, rfl, HB.out.size, by simp, rfl, ⟨_, _root_.Go.heap_alloc_new _ _, rfl⟩, ⟨fun _ => 0, ⟨by simp, fun i hi => ?_⟩, fun _ _ h => by cases h⟩, ⟨g, sc, by rw [cell_row (_root_.Go.heap_alloc_new _ _)]; rfl, q3, q4.turn (by simp) (Below.heap_alloc _ _ _ hg1), q2, by simp; omega, by omega⟩, Or.inl ⟨by rw [cell_row (_root_.Go.heap_alloc_new _ _)]; rfl, rfl⟩⟩, HB.out.alloc HB.out.size _⟩
    have hi' : i = 0 ∨ i = 1 ∨ i = 2 ∨ i = 3 ∨ i = 4 ∨ i = 5 ∨ i = 6 ∨ i = 7 ∨ i = 8 ∨ i = 9 ∨ i = 10 ∨ i = 11 ∨ i = 12 ∨ i = 13 ∨ i = 14 ∨ i = 15 ∨ i = 16 ∨ i = 17 ∨ i = 18 ∨ i = 19 := by omega
    rcases hi' with rfl | rfl | rfl | rfl | rfl | rfl | rfl | rfl | rfl | rfl | rfl | rfl | rfl | rfl | rfl | rfl | rfl | rfl | rfl | rfl <;> simp
  · have HS : Hid (schemaL text = none) := hcs
    clear hcs
    go_wp2
    go_ret2
    exact ⟨Or.inr ⟨HS.out, rfl⟩, HB.out⟩

end Go.Proofs.YthkbeaffkcfgiabGreatDoor
