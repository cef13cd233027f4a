import Derived.Test.YthkbeaffkcfgiabGreatDoorWorldL
namespace Go.Proofs.YthkbeaffkcfgiabGreatDoor
open Go.RowKit

/-- May no life begin at place j? -/
def shutAt (bg : Nat → Nat) (tk : Nat → Bool) (j : Nat) : Prop := tk j = true ∨ 3 ≤ bg j

theorem free_shut (b o : Nat) (n : Nat) (t : Bool) (w : World) (h0 : w.cell? ⟨b, o, none⟩ = some (.int .i64 n)) (h1 : w.cell? ⟨b, o + 1, none⟩ = some (.bool t)) (hs : t = true ∨ 3 ≤ n) :
    Calls Tryz.prog 119 #[.pointer (some ⟨b, o, none⟩)] w fun e w' => e = .returned (.bool false) ∧ w' = w := by
  cases t with
  | true => exact free_taken b o w h1
  | false =>
    have := free_empty b o n w h0 h1
    have hd : decide ((n : Int) < 3) = false := by
      rcases hs with hs | hs
      · cases hs
      · simp; omega
    rw [hd] at this
    exact this

theorem free_open (b o : Nat) (n : Nat) (w : World) (h0 : w.cell? ⟨b, o, none⟩ = some (.int .i64 n)) (h1 : w.cell? ⟨b, o + 1, none⟩ = some (.bool false)) (hs : n < 3) :
    Calls Tryz.prog 119 #[.pointer (some ⟨b, o, none⟩)] w fun e w' => e = .returned (.bool true) ∧ w' = w := by
  have := free_empty b o n w h0 h1
  have hd : decide ((n : Int) < 3) = true := by simp; omega
  rw [hd] at this
  exact this

set_option maxHeartbeats 1600000 in
theorem spawnC_full (b : Nat) (bg : Nat → Nat) (tk : Nat → Bool) (cp : Nat → Nat) (w : World) (hp : PlacesAt w b bg tk cp) (hf : ∀ j, j < 20 → shutAt bg tk j) :
    Calls Tryz.prog 58 #[.pointer (some ⟨b, 0, none⟩), .int .u64 0] w fun e w' => e = .returned (.tuple #[.agg #[.int .i64 0, .int .i64 0], .int .i64 2]) ∧ Below w.heap.size w w' := by
  have HP : Hid (PlacesAt w b bg tk cp) := hp
  have HF : Hid (∀ j, j < 20 → shutAt bg tk j) := hf
  have hb := hp.1
  clear hp hf
  go_enter Tryz.func58, Tryz.ntmps58
  go_wp2
  go_loop [12] (fun t => ∃ k : Nat, k ≤ 20 ∧ t = .int .i64 k) (fun t => 20 - (intOf t).toNat)
  case atStart => exact ⟨0, by omega, rfl⟩
  case round =>
    obtain ⟨k, hk, rfl⟩ := hrel
    by_cases hlt : k < 20
    · have HP1 : Hid (PlacesAt (w.alloc (.cells #[.int .i64 0, .int .i64 0] 46)) b bg tk cp) := HP.out.below ((Below.refl _ _).alloc (Nat.le_refl _) _)
      go_wp2_with (go_at_call 119; refine (free_shut b (1 + k * 3) (bg k) (tk k) _ (HP1.out.2 k hlt).1 (HP1.out.2 k hlt).2.1 (HF.out k hlt)).mono ?_; rintro e w' ⟨rfl, rfl⟩)
      go_round
      case rel => exact ⟨k + 1, by omega, by go_num⟩
      case measure => simp [intOf]; omega
    · go_wp2
      exact bodyPost_ret (v := .tuple #[.agg #[.int .i64 0, .int .i64 0], .int .i64 2]) (by simp [results, Tryz.results58, go_sem]) rfl ⟨rfl, (Below.refl _ _).alloc (Nat.le_refl _) _⟩

/-- How Spawn ends where there is room: at place i. -/
def SpawnEnds (w : World) (F G : Nat → Prop) (b n : Nat) (bg : Nat → Nat) (tk : Nat → Bool) (i : Nat) (e : Ending) (w' : World) : Prop :=
  e = .returned (.tuple #[.agg #[.int .i64 ((i : Int) + 1), .int .i64 ((bg i : Int) + 1)], .int .i64 0]) ∧ Turns w w' F ∧ ProgAt w' (grow F w w') G b n (upd bg i (bg i + 1)) (upd tk i true)

theorem set3_block {w : World} {b o1 o2 o3 : Nat} {u1 u2 u3 : Value} {arr : Array Value} {t : TypeId} {fz : Nat × Nat} (hb : w.heap[b]? = some (.cells arr t fz)) : ∃ arr', (((w.setCell ⟨b, o1, none⟩ u1).setCell ⟨b, o2, none⟩ u2).setCell ⟨b, o3, none⟩ u3).heap[b]? = some (.cells arr' t fz) ∧ arr'.size = arr.size :=
  ⟨_, setCell_block _ (setCell_block _ (setCell_block _ hb)), by simp⟩

/-- What holds where Spawn comes to enter, and what it leaves behind it. -/
theorem spawn_mid {F G : Nat → Prop} {b n k : Nat} {bg : Nat → Nat} {tk : Nat → Bool} {w V : World} (hk : k < 20) (hP : ProgAt w F G b n bg tk) (hFl : ∀ k, F k → k < w.heap.size) (hFG : ∀ k, G k → ¬ F k) (ht : tk k = false)
    (hV : V = (((((w.setCell ⟨b, 1 + k * 3, none⟩ (.int .i64 ((bg k : Int) + 1))).setCell ⟨b, 1 + k * 3 + 1, none⟩ (.bool true)).setCell ⟨b, 1 + k * 3 + 2, none⟩ (.int .u64 0)).alloc (.cells #[.int .i64 0, .int .i64 0] 46)).alloc (.cells #[.int .i64 ((k : Int) + 1), .int .i64 ((bg k : Int) + 1)] 46))) :
    ∃ g c, V.cell? ⟨b, 0, none⟩ = some (.slice (some ⟨g, 0, none⟩) n c) ∧ n ≤ c ∧ LayAt V g n ∧ g ≠ b ∧ (∃ arr, V.heap[b]? = some (.cells arr 111 (0, 0)) ∧ arr.size = 62) ∧ TablesAt V F b (entsOf bg tk) ∧ F b ∧ V.heap.size = w.heap.size + 2 ∧
      V.cell? ⟨w.heap.size + 1, 0, none⟩ = some (.int .i64 ((k : Int) + 1)) ∧ V.cell? ⟨w.heap.size + 1, 1, none⟩ = some (.int .i64 ((bg k : Int) + 1)) ∧ V.cell? ⟨b, 1 + k * 3 + 2, none⟩ = some (.int .u64 0) ∧
      ∀ w', EnterEnds V F b (entsOf bg tk) ((k : Int) + 1) ((bg k : Int) + 1) (.returned (.tuple #[])) w' →
        w'.cell? ⟨w.heap.size + 1, 0, none⟩ = some (.int .i64 ((k : Int) + 1)) ∧ w'.cell? ⟨w.heap.size + 1, 1, none⟩ = some (.int .i64 ((bg k : Int) + 1)) ∧ w'.cell? ⟨w.heap.size, 0, none⟩ = some (.int .i64 0) ∧ w'.cell? ⟨w.heap.size, 1, none⟩ = some (.int .i64 0) ∧ w'.frozen? ⟨w.heap.size, 0, none⟩ = false ∧ w'.frozen? ⟨w.heap.size, 1, none⟩ = false ∧
        ∀ u0 u1, SpawnEnds w F G b n bg tk k (.returned (.tuple #[.agg #[.int .i64 ((k : Int) + 1), .int .i64 ((bg k : Int) + 1)], .int .i64 0])) ((w'.setCell ⟨w.heap.size, 0, none⟩ u0).setCell ⟨w.heap.size, 1, none⟩ u1) := by
  have hlt := hP.lt
  obtain ⟨arr, hb0, hbs⟩ := hP.blk
  obtain ⟨cp, hpl, hcp⟩ := hP.places
  obtain ⟨g, c, hl0, hnc, hL, hGg⟩ := hP.lay
  have hgb : g ≠ b := fun e => hFG g hGg (by rw [e]; exact hP.imm)
  obtain ⟨W1, hW1⟩ : ∃ W1, W1 = ((w.setCell ⟨b, 1 + k * 3, none⟩ (.int .i64 ((bg k : Int) + 1))).setCell ⟨b, 1 + k * 3 + 1, none⟩ (.bool true)).setCell ⟨b, 1 + k * 3 + 2, none⟩ (.int .u64 0) := ⟨_, rfl⟩
  rw [← hW1] at hV
  have hs1 : W1.heap.size = w.heap.size := by rw [hW1]; simp [World.setCell]
  have hB : Below w.heap.size W1 V := by rw [hV]; exact (((Below.refl w.heap.size W1).alloc (by omega) _).alloc (by simp; omega) _)
  have hsV : V.heap.size = w.heap.size + 2 := by rw [hV]; simp [hs1]
  have hR : V.heap[w.heap.size]? = some (.cells #[.int .i64 0, .int .i64 0] 46 (0, 0)) := by
    rw [hV, Below.heap_alloc _ _ _ (by simp; omega)]; exact heap_alloc_at hs1.symm _
  have hH : V.heap[w.heap.size + 1]? = some (.cells #[.int .i64 ((k : Int) + 1), .int .i64 ((bg k : Int) + 1)] 46 (0, 0)) := by
    rw [hV]; exact heap_alloc_at (by simp [hs1]) _
  obtain ⟨arr', hb1, hbs1⟩ : ∃ arr', W1.heap[b]? = some (.cells arr' 111 (0, 0)) ∧ arr'.size = arr.size := by rw [hW1]; exact set3_block hb0
  have hbV : V.heap[b]? = some (.cells arr' 111 (0, 0)) := (hB.block b hlt).trans hb1
  have hoth : ∀ j, j < w.heap.size → j ≠ b → V.heap[j]? = w.heap[j]? := fun j hj hn => (hB.block j hj).trans (by
    rw [hW1, Below.heap_setCell _ _ _ _ hn, Below.heap_setCell _ _ _ _ hn, Below.heap_setCell _ _ _ _ hn])
  have hcell : ∀ o, o ≠ 1 + k * 3 → o ≠ 1 + k * 3 + 1 → o ≠ 1 + k * 3 + 2 → V.cell? ⟨b, o, none⟩ = w.cell? ⟨b, o, none⟩ := fun o h1 h2 h3 => (hB.cell (p := ⟨b, o, none⟩) hlt).trans (by
    rw [hW1, set_other _ (Or.inr h3), set_other _ (Or.inr h2), set_other _ (Or.inr h1)])
  have hplV : PlacesAt V b (upd bg k (bg k + 1)) (upd tk k true) (upd cp k 0) := by
    have h := hpl.begun k hk
    rw [← hW1] at h
    exact h.kept (by omega) (hB.block b hlt)
  have hTV : TablesAt V F b (entsOf bg tk) := hP.tabs.turn (hcell 61 (by omega) (by omega) (by omega)) (fun j hj hjl hn => ⟨hoth j hjl hn, hj⟩) ⟨arr, hb0⟩
  have hTu : Turns w V F := ⟨hB.os.trans (by rw [hW1]; rfl), hB.tape.trans (by rw [hW1]; rfl), hB.output.trans (by rw [hW1]; rfl), by omega, fun j hj hn => hoth j hj (fun e => hn (by rw [e]; exact hP.imm))⟩
  have hLV : LayAt V g n := hL.turn (by omega) (hoth g hL.1 hgb)
  refine ⟨g, c, (hcell 0 (by omega) (by omega) (by omega)).trans hl0, hnc, hLV, hgb, ⟨arr', hbV, by omega⟩, hTV, hP.imm, hsV, by rw [cell_row hH]; rfl, by rw [cell_row hH]; rfl, ?_, ?_⟩
  · have := (hplV.2 k hk).2.2.1
    simpa [upd] using this
  · rintro w' ⟨_, t1, t2, ⟨arr2, t3, t4⟩, t5⟩
    have hnF : ∀ j, w.heap.size ≤ j → ¬ F j := fun j hj h => by have := hFl j h; omega
    have eH : w'.heap[w.heap.size + 1]? = V.heap[w.heap.size + 1]? := t1.block _ (by omega) (hnF _ (by omega))
    have eR : w'.heap[w.heap.size]? = V.heap[w.heap.size]? := t1.block _ (by omega) (hnF _ (Nat.le_refl _))
    have eg : w'.heap[g]? = V.heap[g]? := t1.block g (by have := hL.1; omega) (hFG g hGg)
    have hR' := eR.trans hR
    refine ⟨by rw [cell_row (eH.trans hH)]; rfl, by rw [cell_row (eH.trans hH)]; rfl, by rw [cell_row hR']; rfl, by rw [cell_row hR']; rfl, frozen_row hR' 0, frozen_row hR' 1, fun u0 u1 => ?_⟩
    obtain ⟨W4, hW4⟩ : ∃ W4, W4 = (w'.setCell ⟨w.heap.size, 0, none⟩ u0).setCell ⟨w.heap.size, 1, none⟩ u1 := ⟨_, rfl⟩
    rw [← hW4]
    have hs4 : W4.heap.size = w'.heap.size := by rw [hW4]; simp [World.setCell]
    have h4 : ∀ j, j ≠ w.heap.size → W4.heap[j]? = w'.heap[j]? := fun j hj => by rw [hW4, Below.heap_setCell _ _ _ _ hj, Below.heap_setCell _ _ _ _ hj]
    have eb4 : W4.heap[b]? = w'.heap[b]? := h4 b (by omega)
    have hsz : V.heap.size ≤ w'.heap.size := t1.size
    have hT4 : Turns w W4 F := by
      have h1 : Turns w w' F := hTu.trans' t1
      exact ⟨by rw [hW4]; exact h1.os, by rw [hW4]; exact h1.tape, by rw [hW4]; exact h1.output, by omega, fun j hj hn => (h4 j (by omega)).trans (h1.block j hj hn)⟩
    have hcell4 : ∀ o, o ≠ 61 → W4.cell? ⟨b, o, none⟩ = V.cell? ⟨b, o, none⟩ := fun o ho => (World.cell?_of_block (a := ⟨b, o, none⟩) eb4).trans (t2 o ho)
    refine ⟨rfl, hT4, Or.inl hP.imm, ⟨arr2, eb4.trans t3, t4⟩, ⟨upd cp k 0, ⟨by omega, fun j hj => ?_⟩, ?_⟩, ⟨g, c, (hcell4 0 (by decide)).trans ((hcell 0 (by omega) (by omega) (by omega)).trans hl0), hnc, hLV.turn (by omega) ((h4 g (by have := hL.1; omega)).trans eg), hGg⟩, ?_⟩
    · obtain ⟨p1, p2, p3, _, _, _⟩ := hplV.2 j hj
      exact ⟨(hcell4 _ (by omega)).trans p1, (hcell4 _ (by omega)).trans p2, (hcell4 _ (by omega)).trans p3, frozen_row (eb4.trans t3) _, frozen_row (eb4.trans t3) _, frozen_row (eb4.trans t3) _⟩
    · intro j hj htj
      by_cases e : j = k
      · rw [e]; exact upd_same _ _ _
      · rw [upd_ne _ _ _ e]; rw [upd_ne _ _ _ e] at htj; exact hcp j hj htj
    · rw [ents_spawn bg tk k hk ht]
      refine t5.turn (World.cell?_of_block (a := ⟨b, 61, none⟩) eb4) (fun j hj hjl _ => ⟨h4 j ?_, ?_⟩) ⟨arr2, t3⟩
      · rcases hj with h | h
        · have := hFl j h; omega
        · omega
      · rcases hj with h | h
        · exact Or.inl h
        · exact Or.inr ⟨by omega, by omega⟩

set_option maxHeartbeats 4000000 in
set_option maxRecDepth 100000 in
theorem spawnC_at {F G : Nat → Prop} (b n i : Nat) (bg : Nat → Nat) (tk : Nat → Bool) (w : World) (hi : i < 20) (hP : ProgAt w F G b n bg tk) (hFl : ∀ k, F k → k < w.heap.size) (hFG : ∀ k, G k → ¬ F k) (hf : ∀ j, j < i → shutAt bg tk j) (ht : tk i = false) (hg : bg i < 3) :
    Calls Tryz.prog 58 #[.pointer (some ⟨b, 0, none⟩), .int .u64 0] w (SpawnEnds w F G b n bg tk i) := by
  have HPr : Hid (ProgAt w F G b n bg tk) := hP
  obtain ⟨cp, hpl, hcp⟩ := hP.places
  have HP : Hid (PlacesAt w b bg tk cp) := hpl
  have HP1 : Hid (PlacesAt (w.alloc (.cells #[.int .i64 0, .int .i64 0] 46)) b bg tk cp) := hpl.below ((Below.refl _ _).alloc (Nat.le_refl _) _)
  have HF : Hid (∀ j, j < i → shutAt bg tk j) := hf
  have HT : Hid (tk i = false) := ht
  have hb := hP.lt
  clear hP hpl hcp hf ht
  go_enter Tryz.func58, Tryz.ntmps58
  go_wp2
  go_loop [12] (fun t => ∃ k : Nat, k ≤ i ∧ t = .int .i64 k) (fun t => 20 - (intOf t).toNat)
  case atStart => exact ⟨0, by omega, rfl⟩
  case round =>
    obtain ⟨k, hk, rfl⟩ := hrel
    by_cases hlt : k < i
    · have hk20 : k < 20 := by omega
      go_wp2_with (go_at_call 119; refine (free_shut b (1 + k * 3) (bg k) (tk k) _ (HP1.out.2 k hk20).1 (HP1.out.2 k hk20).2.1 (HF.out k hlt)).mono ?_; rintro e w' ⟨rfl, rfl⟩)
      go_round
      case rel => exact ⟨k + 1, by omega, by go_num⟩
      case measure => simp [intOf]; omega
    · obtain rfl : k = i := by omega
      go_wp2_with (first | (go_at_call 119; refine (free_open b (1 + k * 3) (bg k) _ (HP1.out.2 k hi).1 (by have hh := (HP1.out.2 k hi).2.1; rw [HT.out] at hh; exact hh) hg).mono ?_; rintro e w' ⟨rfl, rfl⟩) | (go_at_call 120; refine (begin_any b (1 + k * 3) (bg k) false (.int .u64 (cp k)) 0 _ (by omega) (HP1.out.2 k hi).1 (by have hh := (HP1.out.2 k hi).2.1; rw [HT.out] at hh; exact hh) (HP1.out.2 k hi).2.2.1 (HP1.out.2 k hi).2.2.2.1 (HP1.out.2 k hi).2.2.2.2.1 (HP1.out.2 k hi).2.2.2.2.2).mono ?_; rintro e w' ⟨rfl, rfl⟩))
      obtain ⟨V, hV⟩ : ∃ V, V = (((((w.setCell ⟨b, 1 + k * 3, none⟩ (.int .i64 ((bg k : Int) + 1))).setCell ⟨b, 1 + k * 3 + 1, none⟩ (.bool true)).setCell ⟨b, 1 + k * 3 + 2, none⟩ (.int .u64 0)).alloc (.cells #[.int .i64 0, .int .i64 0] 46)).alloc (.cells #[.int .i64 ((k : Int) + 1), .int .i64 ((bg k : Int) + 1)] 46)) := ⟨_, rfl⟩
      obtain ⟨g, c, m1, m2, m3, m4, m5, m6, m7, m8, m9, m10, m11, m12⟩ := spawn_mid hi HPr.out hFl hFG HT.out hV
      have HM : Hid (Calls Tryz.prog 121 #[.pointer (some ⟨b, 0, none⟩), .agg #[.int .i64 ((k : Int) + 1), .int .i64 ((bg k : Int) + 1)], .int .u64 0] V fun e w' => e = .returned (.tuple #[]) ∧ w'.cell? ⟨w.heap.size + 1, 0, none⟩ = some (.int .i64 ((k : Int) + 1)) ∧ w'.cell? ⟨w.heap.size + 1, 1, none⟩ = some (.int .i64 ((bg k : Int) + 1)) ∧ w'.cell? ⟨w.heap.size, 0, none⟩ = some (.int .i64 0) ∧ w'.cell? ⟨w.heap.size, 1, none⟩ = some (.int .i64 0) ∧ w'.frozen? ⟨w.heap.size, 0, none⟩ = false ∧ w'.frozen? ⟨w.heap.size, 1, none⟩ = false ∧
          Hid (∀ u0 u1, SpawnEnds w F G b n bg tk k (.returned (.tuple #[.agg #[.int .i64 ((k : Int) + 1), .int .i64 ((bg k : Int) + 1)], .int .i64 0])) ((w'.setCell ⟨w.heap.size, 0, none⟩ u0).setCell ⟨w.heap.size, 1, none⟩ u1))) := by
        refine (enter_world (F := F) b n g c (entsOf bg tk) _ _ V m7 m5 m1 m2 m3 m4 m6 (Nat.le_trans (ents_len bg tk) (by omega)) (ents_sort bg tk)).mono ?_
        intro e w' he
        obtain ⟨rfl, t1, t2, t3, t4⟩ := he
        obtain ⟨q1, q2, q3, q4, q5, q6, q7⟩ := m12 w' ⟨rfl, t1, t2, t3, t4⟩
        exact ⟨rfl, q1, q2, q3, q4, q5, q6, q7⟩
      have HV : Hid ((((((w.setCell ⟨b, 1 + k * 3, none⟩ (.int .i64 ((bg k : Int) + 1))).setCell ⟨b, 1 + k * 3 + 1, none⟩ (.bool true)).setCell ⟨b, 1 + k * 3 + 2, none⟩ (.int .u64 0)).alloc (.cells #[.int .i64 0, .int .i64 0] 46)).alloc (.cells #[.int .i64 ((k : Int) + 1), .int .i64 ((bg k : Int) + 1)] 46)) = V) := hV.symm
      have KS : Hid (∀ w' : World, (∀ a, w'.cell? a = V.cell? a) → w'.cell? ⟨w.heap.size + 1, 0, none⟩ = some (.int .i64 ((k : Int) + 1)) ∧ w'.cell? ⟨w.heap.size + 1, 1, none⟩ = some (.int .i64 ((bg k : Int) + 1)) ∧ w'.cell? ⟨b, 1 + k * 3 + 2, none⟩ = some (.int .u64 0)) := fun w' h => ⟨(h _).trans m9, (h _).trans m10, (h _).trans m11⟩
      clear hV m1 m2 m3 m4 m5 m6 m7 m12
      rw [HV.out]
      go_wp2_with (go_at_call 121; refine HM.out.mono ?_; rintro e w2 ⟨rfl, q1, q2, q3, q4, q5, q6, HQ⟩)
      exact bodyPost_ret (v := .tuple #[.agg #[.int .i64 ((k : Int) + 1), .int .i64 ((bg k : Int) + 1)], .int .i64 0]) (by simp [results, Tryz.results58, go_sem, q3, q4]) rfl (HQ.out _ _)

set_option maxHeartbeats 1600000 in
theorem spawn_full (b : Nat) (bg : Nat → Nat) (tk : Nat → Bool) (cp : Nat → Nat) (w : World) (hp : PlacesAt w b bg tk cp) (hf : ∀ j, j < 20 → shutAt bg tk j) :
    Calls Tryz.prog 26 #[.pointer (some ⟨b, 0, none⟩)] w fun e w' => e = .returned (.tuple #[.agg #[.int .i64 0, .int .i64 0], .int .i64 2]) ∧ Below w.heap.size w w' := by
  obtain ⟨W1, hW1⟩ : ∃ W1, W1 = w.alloc (.cells #[.int .i64 0, .int .i64 0] 46) := ⟨_, rfl⟩
  have hb1 : Below w.heap.size w W1 := by rw [hW1]; exact (Below.refl _ _).alloc (Nat.le_refl _) _
  have hr1 : W1.heap[w.heap.size]? = some (.cells #[.int .i64 0, .int .i64 0] 46 (0, 0)) := by rw [hW1]; exact heap_alloc_at rfl _
  have hs1 : W1.heap.size = w.heap.size + 1 := by rw [hW1]; simp
  have HI : Hid (Calls Tryz.prog 58 #[.pointer (some ⟨b, 0, none⟩), .int .u64 0] W1 fun e w' => e = .returned (.tuple #[.agg #[.int .i64 0, .int .i64 0], .int .i64 2]) ∧ w'.cell? ⟨w.heap.size, 0, none⟩ = some (.int .i64 0) ∧ w'.cell? ⟨w.heap.size, 1, none⟩ = some (.int .i64 0) ∧ w'.frozen? ⟨w.heap.size, 0, none⟩ = false ∧ w'.frozen? ⟨w.heap.size, 1, none⟩ = false ∧ Hid (Below w.heap.size w w')) := by
    refine (spawnC_full b bg tk cp W1 (hp.below hb1) hf).mono ?_
    rintro e w' ⟨rfl, hb⟩
    have hr2 := (hb.block w.heap.size (by omega)).trans hr1
    exact ⟨rfl, by rw [cell_row hr2]; rfl, by rw [cell_row hr2]; rfl, frozen_row hr2 0, frozen_row hr2 1, hb1.trans (hb.mono (by omega))⟩
  rw [hW1] at HI
  clear hp hf hb1 hr1 hs1 hW1
  go_enter Tryz.func26, Tryz.ntmps26
  go_wp2_with (go_at_call 58; refine HI.out.mono ?_; rintro e w2 ⟨rfl, q3, q4, q5, q6, HB⟩)
  exact bodyPost_ret (v := .tuple #[.agg #[.int .i64 0, .int .i64 0], .int .i64 2]) (by simp [results, Tryz.results26, go_sem, q3, q4]) rfl ⟨rfl, (HB.out.setCell (by simp) _).setCell (by simp) _⟩

set_option maxHeartbeats 1600000 in
theorem spawn_at {F G : Nat → Prop} (b n i : Nat) (bg : Nat → Nat) (tk : Nat → Bool) (w : World) (hi : i < 20) (hP : ProgAt w F G b n bg tk) (hFl : ∀ k, F k → k < w.heap.size) (hFG : ∀ k, G k → ¬ F k) (hf : ∀ j, j < i → shutAt bg tk j) (ht : tk i = false) (hg : bg i < 3) :
    Calls Tryz.prog 26 #[.pointer (some ⟨b, 0, none⟩)] w (SpawnEnds w F G b n bg tk i) := by
  obtain ⟨W1, hW1⟩ : ∃ W1, W1 = w.alloc (.cells #[.int .i64 0, .int .i64 0] 46) := ⟨_, rfl⟩
  have hb1 : Below w.heap.size w W1 := by rw [hW1]; exact (Below.refl _ _).alloc (Nat.le_refl _) _
  have hr1 : W1.heap[w.heap.size]? = some (.cells #[.int .i64 0, .int .i64 0] 46 (0, 0)) := by rw [hW1]; exact heap_alloc_at rfl _
  have hs1 : W1.heap.size = w.heap.size + 1 := by rw [hW1]; simp
  have HI : Hid (Calls Tryz.prog 58 #[.pointer (some ⟨b, 0, none⟩), .int .u64 0] W1 fun e w' => e = .returned (.tuple #[.agg #[.int .i64 ((i : Int) + 1), .int .i64 ((bg i : Int) + 1)], .int .i64 0]) ∧ w'.cell? ⟨w.heap.size, 0, none⟩ = some (.int .i64 0) ∧ w'.cell? ⟨w.heap.size, 1, none⟩ = some (.int .i64 0) ∧ w'.frozen? ⟨w.heap.size, 0, none⟩ = false ∧ w'.frozen? ⟨w.heap.size, 1, none⟩ = false ∧
      Hid (∀ u0 u1, SpawnEnds w F G b n bg tk i (.returned (.tuple #[.agg #[.int .i64 ((i : Int) + 1), .int .i64 ((bg i : Int) + 1)], .int .i64 0])) ((w'.setCell ⟨w.heap.size, 0, none⟩ u0).setCell ⟨w.heap.size, 1, none⟩ u1))) := by
    refine (spawnC_at (G := fun k => G k ∧ k < w.heap.size) b n i bg tk W1 hi (hP.turn hb1.size (fun k hk hl => ⟨hb1.block k hl, hk⟩) (fun k hk hl => ⟨hb1.block k hl, hk, hl⟩)) (fun k hk => Nat.lt_of_lt_of_le (hFl k hk) hb1.size) (fun k hk => hFG k hk.1) hf ht hg).mono ?_
    rintro e w' ⟨rfl, hT, hP2⟩
    have hnF : ¬ F w.heap.size := fun h => by have := hFl _ h; omega
    have hr2 := (hT.block w.heap.size (by omega) hnF).trans hr1
    refine ⟨rfl, by rw [cell_row hr2]; rfl, by rw [cell_row hr2]; rfl, frozen_row hr2 0, frozen_row hr2 1, fun u0 u1 => ⟨rfl, ?_, ?_⟩⟩
    · exact (((Turns.ofBelow F hb1).trans' hT).set w.heap.size 0 u0 (fun h => by omega)).set w.heap.size 1 u1 (fun h => by omega)
    · have hsz := hT.size
      have hset : ∀ k, k ≠ w.heap.size → ((w'.setCell ⟨w.heap.size, 0, none⟩ u0).setCell ⟨w.heap.size, 1, none⟩ u1).heap[k]? = w'.heap[k]? := fun k hk => by rw [Below.heap_setCell _ _ _ _ hk, Below.heap_setCell _ _ _ _ hk]
      have hz : ((w'.setCell ⟨w.heap.size, 0, none⟩ u0).setCell ⟨w.heap.size, 1, none⟩ u1).heap.size = w'.heap.size := by simp [World.setCell]
      refine hP2.turn (by rw [hz]; exact Nat.le_refl _) (fun k hk hl => ?_) (fun k hk hl => ?_)
      · rcases hk with h | ⟨h, h'⟩
        · have := hFl k h
          exact ⟨hset k (by omega), Or.inl h⟩
        · exact ⟨hset k (by omega), Or.inr ⟨by omega, by rw [hz]; exact h'⟩⟩
      · exact ⟨hset k (by have := hk.2; omega), hk.1⟩
  rw [hW1] at HI
  clear hP hf hb1 hr1 hs1 hW1
  go_enter Tryz.func26, Tryz.ntmps26
  go_wp2_with (go_at_call 58; refine HI.out.mono ?_; rintro e w2 ⟨rfl, q3, q4, q5, q6, HB⟩)
  exact bodyPost_ret (v := .tuple #[.agg #[.int .i64 ((i : Int) + 1), .int .i64 ((bg i : Int) + 1)], .int .i64 0]) (by simp [results, Tryz.results26, go_sem, q3, q4]) rfl (HB.out _ _)

end Go.Proofs.YthkbeaffkcfgiabGreatDoor
