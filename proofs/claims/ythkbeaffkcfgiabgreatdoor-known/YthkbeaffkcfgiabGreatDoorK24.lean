import Derived.Test.YthkbeaffkcfgiabGreatDoorK23
set_option linter.unusedSimpArgs false
set_option linter.unusedVariables false
namespace Go.Proofs.YthkbeaffkcfgiabGreatDoor
open Go.RowKit

set_option maxHeartbeats 4000000 in
set_option maxRecDepth 100000 in
theorem enterT_A (own own0 : Nat → Nat) (b n g lc N s : Nat) (m : Nat → Option Nat) (L : List CompS) (ents : Nat → List (Int × Int)) (xs : Nat → Nat → Nat → List Value) (p l : Int) (w : World) (hR : ReadyT w (((w.setCell ⟨b, 61, none⟩ (.map (some (w.heap.size + 1)))).alloc (.cells #[.int .i64 p, .int .i64 l] 46)).alloc (.map #[] 0)) own own0 b (w.heap.size + 1) n g lc N m L ents xs p l) (hN : N ≤ 1000) (hs : s < 64) (hms : m s = none) (hlc : L.length ≤ lc) (w61 : w.cell? ⟨b, 61, none⟩ = some (.map none)) (wf : w.frozen? ⟨b, 61, none⟩ = false) :
    Calls Tryz.prog 121 #[.pointer (some ⟨b, 0, none⟩), .agg #[.int .i64 p, .int .i64 l], .int .u64 (s : Int)] w (EnterT w own b N L ents xs s p l) := by
  have hq0 := eql86_none
  have hmk := @run_makeMap Tryz.prog
  have hlookE := hR.tabs.map.look s hs
  rw [hms] at hlookE
  simp only [Option.map_none] at hlookE
  obtain ⟨V, hV⟩ : ∃ V, V = ((w.setCell ⟨b, 61, none⟩ (.map (some (w.heap.size + 1)))).alloc (.cells #[.int .i64 p, .int .i64 l] 46)).alloc (.map #[] 0) := ⟨_, rfl⟩
  rw [← hV] at hR
  have hlook0 := hR.tabs.map.look s hs
  rw [hms] at hlook0
  simp only [Option.map_none] at hlook0
  have hq := eql86_some (w.heap.size + 1)
  have c61 := hR.tabs.c61
  have c0 := hR.c0
  have hVs := hR.more
  have hlt := hR.lt
  have HN : Hid (∀ W, W = V.drew → Calls Tryz.prog 189 #[.slice (some ⟨g, 0, none⟩) L.length lc, .int .u64 (s : Int)] W (TabMade w V own b (w.heap.size + 1) g L.length lc N L ents xs s p l)) := fun W hW => by rw [hW]; exact hR.calls hN hs hms hlc
  generalize L.length = nl at HN c0 hlc
  clear hR hms
  go_enter Tryz.func121, Tryz.ntmps121
  have HV : Hid (((w.setCell ⟨b, 61, none⟩ (.map (some (w.heap.size + 1)))).alloc (.cells #[.int .i64 p, .int .i64 l] 46)).alloc (.map #[] 0) = V) := hV.symm
  clear hV
  go_wp2_with fail
  rw [HV.out]
  clear w61 wf hlookE
  go_region_held3 (fun w' => w'.cell? ⟨b, 61, none⟩ = some (.map (some (w.heap.size + 1))) ∧ w'.cell? ⟨b, 0, none⟩ = some (.slice (some ⟨g, 0, none⟩) nl lc)) ((first | exact ⟨a1, d0⟩ | exact k1 | exact ⟨c61, c0⟩)) ((go_at_call 189; refine (HN.out _ rfl).mono ?_; rintro e w1 ⟨W2, rfl, hup, a1, a2, a3, l1, l2, k1, d0, HEnd⟩))
  go_wp2_with fail
  go_region_with (go_at_call 190; refine (HEnd.out _ rfl).mono ?_; rintro e w2 ⟨rfl, HE⟩)
  all_goals go_end0
  all_goals exact HE.out

/-- Where enter finds its map, but no table. -/
theorem readyT_B {own : Nat → Nat} {b bm n g lc N : Nat} {m : Nat → Option Nat} {L : List CompS} {ents : Nat → List (Int × Int)} {xs : Nat → Nat → Nat → List Value} {p l : Int} {w : World} (hme : own b = 1) (hblk : ∃ arr, w.heap[b]? = some (.cells arr 111 (0, 0)) ∧ arr.size = 62) (hc0 : w.cell? ⟨b, 0, none⟩ = some (.slice (some ⟨g, 0, none⟩) L.length lc)) (hL : LayN w b g L) (hT : TabsIn w own b bm n m L ents xs) (hn : n ≤ N) :
    ReadyT w (w.alloc (.cells #[.int .i64 p, .int .i64 l] 46)) own own b bm n g lc N m L ents xs p l := by
  obtain ⟨arr, hb0, hbs⟩ := hblk
  have hlt : b < w.heap.size := (Array.getElem?_eq_some_iff.1 hb0).1
  have hA : Below w.heap.size w (w.alloc (.cells #[.int .i64 p, .int .i64 l] 46)) := (Below.refl _ _).alloc (Nat.le_refl _) _
  exact { tabs := hT.turn hL.kl (hA.cell (p := ⟨b, 61, none⟩) hlt) (fun k hk _ => ⟨hA.block k hk, rfl⟩), c0 := (hA.cell (p := ⟨b, 0, none⟩) hlt).trans hc0, h0 := by simp, h1 := by simp, lay := hL.below hA.size (fun k hk => hA.block k (by omega)), turns := Turns.ofBelow _ hA, cells := fun o _ => hA.cell (p := ⟨b, o, none⟩) hlt, blk := ⟨arr, (hA.block b hlt).trans hb0, hbs⟩, labs := fun _ _ => rfl, me := hme, lt := hlt, more := by simp, few := hn }

/-- Where enter finds no map: it has made one. -/
theorem readyT_A {own : Nat → Nat} {b g lc N : Nat} {L : List CompS} {ents : Nat → List (Int × Int)} {xs : Nat → Nat → Nat → List Value} {p l : Int} {w : World} (hme : own b = 1) (hblk : ∃ arr, w.heap[b]? = some (.cells arr 111 (0, 0)) ∧ arr.size = 62) (hc0 : w.cell? ⟨b, 0, none⟩ = some (.slice (some ⟨g, 0, none⟩) L.length lc)) (hL : LayN w b g L) (hT : ∀ s, s < 64 → ents s = [] ∧ xs s = fun _ _ => []) (hN : 1 ≤ N) :
    ReadyT w (((w.setCell ⟨b, 61, none⟩ (.map (some (w.heap.size + 1)))).alloc (.cells #[.int .i64 p, .int .i64 l] 46)).alloc (.map #[] 0)) own (fun k => if k = w.heap.size + 1 then 2 else own k) b (w.heap.size + 1) 1 g lc N (fun _ => none) L ents xs p l := by
  obtain ⟨arr, hb0, hbs⟩ := hblk
  have hlt : b < w.heap.size := (Array.getElem?_eq_some_iff.1 hb0).1
  have hs : (w.setCell ⟨b, 61, none⟩ (.map (some (w.heap.size + 1)))).heap.size = w.heap.size := by simp [World.setCell]
  have hA : Below w.heap.size (w.setCell ⟨b, 61, none⟩ (.map (some (w.heap.size + 1)))) (((w.setCell ⟨b, 61, none⟩ (.map (some (w.heap.size + 1)))).alloc (.cells #[.int .i64 p, .int .i64 l] 46)).alloc (.map #[] 0)) := (((Below.refl w.heap.size (w.setCell ⟨b, 61, none⟩ (.map (some (w.heap.size + 1))))).alloc (by rw [hs]; exact Nat.le_refl _) _).alloc (by simp [World.setCell]) _)
  have hbk : (((w.setCell ⟨b, 61, none⟩ (.map (some (w.heap.size + 1)))).alloc (.cells #[.int .i64 p, .int .i64 l] 46)).alloc (.map #[] 0)).heap[b]? = some (.cells (arr.setIfInBounds 61 (.map (some (w.heap.size + 1)))) 111 (0, 0)) := (hA.block b hlt).trans (setCell_block _ hb0)
  have hc : ∀ o, o ≠ 61 → (((w.setCell ⟨b, 61, none⟩ (.map (some (w.heap.size + 1)))).alloc (.cells #[.int .i64 p, .int .i64 l] 46)).alloc (.map #[] 0)).cell? ⟨b, o, none⟩ = w.cell? ⟨b, o, none⟩ := fun o ho => (hA.cell (p := ⟨b, o, none⟩) hlt).trans (set_other _ (Or.inr ho))
  have hT' : Turns w (((w.setCell ⟨b, 61, none⟩ (.map (some (w.heap.size + 1)))).alloc (.cells #[.int .i64 p, .int .i64 l] 46)).alloc (.map #[] 0)) (Tur own) := ⟨rfl, rfl, rfl, by first | (simp [World.setCell]; done) | (simp [World.setCell]; omega), fun k hk hn => (hA.block k hk).trans (Below.heap_setCell _ _ _ _ (fun e => hn (by have e' : k = b := e; rw [e']; exact Or.inl hme)))⟩
  have hmap : MapAt (((w.setCell ⟨b, 61, none⟩ (.map (some (w.heap.size + 1)))).alloc (.cells #[.int .i64 p, .int .i64 l] 46)).alloc (.map #[] 0)) (w.heap.size + 1) none := by
    have h := World.ownsMap_made ((w.setCell ⟨b, 61, none⟩ (.map (some (w.heap.size + 1)))).alloc (.cells #[.int .i64 p, .int .i64 l] 46)) Tryz.prog 105 ptrElem
    have e : ((w.setCell ⟨b, 61, none⟩ (.map (some (w.heap.size + 1)))).alloc (.cells #[.int .i64 p, .int .i64 l] 46)).heap.size = w.heap.size + 1 := by simp [World.setCell]
    rw [e] at h
    exact h.mono (by omega)
  exact { tabs := ⟨by rw [cell_row hbk, Array.getElem?_setIfInBounds_self_of_lt (by omega)], if_pos rfl, MapM.ofNone hmap, fun s hs => Or.inl ⟨rfl, hT s hs⟩⟩, c0 := (hc 0 (by decide)).trans hc0,
          h0 := by rw [World.cell?_alloc_lt _ _ _ (by simp [World.setCell])]; rw [cell_row (heap_alloc_at (by rw [hs]) _)]; rfl, h1 := by rw [World.cell?_alloc_lt _ _ _ (by simp [World.setCell])]; rw [cell_row (heap_alloc_at (by rw [hs]) _)]; rfl,
          lay := hL.below hT'.size (fun k hk => (hA.block k (by omega)).trans (Below.heap_setCell _ _ _ _ (by show k ≠ b; omega))), turns := hT', cells := hc, blk := ⟨_, hbk, by simp [hbs]⟩, labs := fun k hk => if_neg (by omega), me := hme, lt := hlt, more := by first | (simp [World.setCell]; done) | (simp [World.setCell]; omega), few := hN }

set_option maxHeartbeats 4000000 in
set_option maxRecDepth 100000 in
theorem enterT_C (own : Nat → Nat) (b bm n N s tb : Nat) (m : Nat → Option Nat) (L : List CompS) (ents : Nat → List (Int × Int)) (xs : Nat → Nat → Nat → List Value) (p l : Int) (w : World) (hme : own b = 1) (hblk : ∃ arr, w.heap[b]? = some (.cells arr 111 (0, 0)) ∧ arr.size = 62) (hkl : ∀ k, ((kinds L).getD k []).length ≤ 4) (hkk : ∀ k, ∀ x ∈ (kinds L).getD k [], 1 ≤ x ∧ x ≤ 5) (hT : TabsIn w own b bm n m L ents xs) (hn : n ≤ N) (hs : s < 64) (hms : m s = some tb)
    (hl : (ents s).length ≤ 99) (hsort : (ents s).Pairwise fun a b => a.1 < b.1) (hx1 : ∀ k f, ∀ u ∈ xs s k f, u.oneCell' = true) :
    Calls Tryz.prog 121 #[.pointer (some ⟨b, 0, none⟩), .agg #[.int .i64 p, .int .i64 l], .int .u64 (s : Int)] w (EnterT w own b N L ents xs s p l) := by
  obtain ⟨arr, hb0, hbs⟩ := hblk
  have hlt : b < w.heap.size := (Array.getElem?_eq_some_iff.1 hb0).1
  obtain ⟨V, hV⟩ : ∃ V, V = w.alloc (.cells #[.int .i64 p, .int .i64 l] 46) := ⟨_, rfl⟩
  have hA : Below w.heap.size w V := by rw [hV]; exact (Below.refl _ _).alloc (Nat.le_refl _) _
  have hT1 : TabsIn V own b bm n m L ents xs := hT.turn hkl (hA.cell (p := ⟨b, 61, none⟩) hlt) (fun k hk _ => ⟨hA.block k hk, rfl⟩)
  have hlook0 := hT1.map.look s hs
  have hlook1 := (hT1.map.turn (W' := V.drew) rfl).look s hs
  rw [hms] at hlook0 hlook1
  simp only [Option.map_some] at hlook0 hlook1
  have h61 := hT.c61
  have HC : Hid (∀ W, W = V.drew → Calls Tryz.prog 190 #[.pointer (some ⟨tb, 0, none⟩), .agg #[.int .i64 p, .int .i64 l]] W fun e w3 => e = .returned (.tuple #[]) ∧ Hid (EnterT w own b N L ents xs s p l (.returned (.tuple #[])) w3)) := by
    rintro W rfl
    obtain ⟨tb', q1, q2⟩ : ∃ tb', m s = some tb' ∧ TabC V own (32 * (1 + s)) tb' s (kinds L) (ents s) (xs s) := by
      rcases hT1.tab s hs with ⟨q, _⟩ | q
      · rw [hms] at q; cases q
      · exact q
    rw [hms] at q1
    cases q1
    refine (enter_tabC own (32 * (1 + s)) tb s (kinds L) (ents s) (xs s) p l V.drew (q2.turn hkl fun _ _ _ _ => ⟨rfl, rfl⟩) (by omega) hkl hkk hl hsort hx1).mono ?_
    rintro e w3 ⟨rfl, t1, own2, t2, t3⟩
    exact ⟨rfl, enterT_end (W1 := V) (own1 := own) (own2 := own2) (bm := bm) (n := n) (tb := tb) (m := m) hs hkl (Turns.ofBelow _ hA) (fun o _ => hA.cell (p := ⟨b, o, none⟩) hlt) ⟨arr, (hA.block b hlt).trans hb0, hbs⟩ hme hlt (fun _ _ => rfl) hT1 (by omega) hms ⟨t1.os, t1.tape, t1.output, t1.size, t1.block⟩ t2 t3⟩
  have HB0 : Hid (w.heap[b]? = some (.cells arr 111 (0, 0))) := hb0
  rw [hV] at HC hlook0 hlook1
  clear hT hT1 hsort hA hb0 hV hms hx1 hkl hkk
  go_enter Tryz.func121, Tryz.ntmps121
  have hq := eql86_some bm
  go_wp2_with fail
  go_region_with (go_at_call 190; refine (HC.out _ rfl).mono ?_; rintro e w2 ⟨rfl, HE⟩)
  all_goals go_end0
  all_goals exact HE.out

/-- (*World).enter: an entity comes into the table of a set of components. -/
theorem enter_wt (own : Nat → Nat) (b g lc N s : Nat) (L : List CompS) (ents : Nat → List (Int × Int)) (xs : Nat → Nat → Nat → List Value) (p l : Int) (w : World) (hme : own b = 1) (hblk : ∃ arr, w.heap[b]? = some (.cells arr 111 (0, 0)) ∧ arr.size = 62) (hc0 : w.cell? ⟨b, 0, none⟩ = some (.slice (some ⟨g, 0, none⟩) L.length lc)) (hlc : L.length ≤ lc) (hL : LayN w b g L) (hT : TabsW w own b N L ents xs) (hN : N ≤ 1000) (hN1 : 1 ≤ N) (hs : s < 64)
    (hl : (ents s).length ≤ 99) (hsort : (ents s).Pairwise fun a b => a.1 < b.1) (hx1 : ∀ k f, ∀ u ∈ xs s k f, u.oneCell' = true) :
    Calls Tryz.prog 121 #[.pointer (some ⟨b, 0, none⟩), .agg #[.int .i64 p, .int .i64 l], .int .u64 (s : Int)] w (EnterT w own b N L ents xs s p l) := by
  rcases hT with ⟨h1, h2⟩ | ⟨bm, n, m, h1, h2⟩
  · obtain ⟨arr, hb0, hbs⟩ := hblk
    exact enterT_A own _ b 1 g lc N s (fun _ => none) L ents xs p l w (readyT_A hme ⟨arr, hb0, hbs⟩ hc0 hL h2 hN1) hN hs rfl hlc h1 (frozen_row hb0 61)
  · cases hms : m s with
    | none => exact enterT_B own own b bm n g lc N s m L ents xs p l w (readyT_B hme hblk hc0 hL h1 h2) hN hs hms hlc h1.c61
    | some tb => exact enterT_C own b bm n N s tb m L ents xs p l w hme hblk hL.kl hL.kk h1 h2 hs hms hl hsort hx1

end Go.Proofs.YthkbeaffkcfgiabGreatDoor
