import Derived.Test.YthkbeaffkcfgiabGreatDoorEnts
namespace Go.Proofs.YthkbeaffkcfgiabGreatDoor
open Go.RowKit

/-- The tables of the program's world at block b: a map, or none yet; in it the table of those without components, while there are some. F: blocks that are this world's. -/
def TablesAt (W : World) (F : Nat → Prop) (b : Nat) (ents : List (Int × Int)) : Prop :=
  (W.cell? ⟨b, 61, none⟩ = some (.map none) ∧ ents = []) ∨
  ∃ bm, W.cell? ⟨b, 61, none⟩ = some (.map (some bm)) ∧ F bm ∧ ((MapAt W bm none ∧ ents = []) ∨ ∃ tb, MapAt W bm (some tb) ∧ TabAt W F tb ents)

/-- The program's world at block b, without components: its layout of n components at a block of G, which stays as it is. -/
structure ProgAt (W : World) (F G : Nat → Prop) (b n : Nat) (bg : Nat → Nat) (tk : Nat → Bool) : Prop where
  imm : F b
  blk : ∃ arr, W.heap[b]? = some (.cells arr 111 (0, 0)) ∧ arr.size = 62
  places : ∃ cp, PlacesAt W b bg tk cp ∧ ∀ i, i < 20 → tk i = true → cp i = 0
  lay : ∃ g c, W.cell? ⟨b, 0, none⟩ = some (.slice (some ⟨g, 0, none⟩) n c) ∧ n ≤ c ∧ LayAt W g n ∧ G g
  tabs : TablesAt W F b (entsOf bg tk)

theorem TablesAt.turn {W W' : World} {F F' : Nat → Prop} {b : Nat} {ents : List (Int × Int)} (h : TablesAt W F b ents) (hc : W'.cell? ⟨b, 61, none⟩ = W.cell? ⟨b, 61, none⟩) (hb : ∀ k, F k → k < W.heap.size → k ≠ b → W'.heap[k]? = W.heap[k]? ∧ F' k)
    (hbb : ∃ arr, W.heap[b]? = some (.cells arr 111 (0, 0))) : TablesAt W' F' b ents := by
  obtain ⟨arr, hbb⟩ := hbb
  rcases h with ⟨h1, h2⟩ | ⟨bm, h1, h2, h3⟩
  · exact Or.inl ⟨hc.trans h1, h2⟩
  · have hm : bm < W.heap.size ∧ bm ≠ b := by
      rcases h3 with ⟨h3, _⟩ | ⟨tb, h3, _⟩ <;>
      · refine ⟨h3.lt, fun e => ?_⟩
        subst e
        obtain ⟨es, clock, hh, _⟩ := h3
        rw [hbb] at hh; cases hh
    refine Or.inr ⟨bm, hc.trans h1, (hb bm h2 hm.1 hm.2).2, ?_⟩
    rcases h3 with ⟨h3, h4⟩ | ⟨tb, h3, h4⟩
    · exact Or.inl ⟨h3.turn (hb bm h2 hm.1 hm.2).1, h4⟩
    · refine Or.inr ⟨tb, h3.turn (hb bm h2 hm.1 hm.2).1, ?_⟩
      have hne : ∀ k t (cs : Array Value) fz, W.heap[k]? = some (.cells cs t fz) → t ≠ 111 → k ≠ b := fun k t cs fz hk ht e => by subst e; rw [hbb] at hk; simp at hk; exact ht hk.2.1.symm
      have htl := h4.lt
      obtain ⟨i1, v, i2, i3, i4⟩ := h4
      have e1 := hb tb i1 htl (hne tb 204 _ _ i2 (by decide))
      have e2 : ∀ k, v.ownBlock = some k → W'.heap[k]? = W.heap[k]? ∧ F' k := fun k hk => by
        refine hb k (i4 k hk).1 (i3.lt k hk).2 ?_
        rcases i3.2 with ⟨j1, _⟩ | ⟨g, cap, cur, j1, _, j2, _⟩
        · rw [j1] at hk; cases hk
        · rw [j1] at hk; simp [Value.ownBlock] at hk; subst hk; exact hne g 46 _ _ j2 (by decide)
      exact ⟨e1.2, v, e1.1.trans i2, own_turn i3 fun k hk _ => (e2 k hk).1, fun k hk => ⟨(e2 k hk).2, (i4 k hk).2⟩⟩

theorem ProgAt.lt {W : World} {F G : Nat → Prop} {b n : Nat} {bg : Nat → Nat} {tk : Nat → Bool} (h : ProgAt W F G b n bg tk) : b < W.heap.size := by
  obtain ⟨arr, hb, _⟩ := h.blk
  exact (Array.getElem?_eq_some_iff.1 hb).1

theorem ProgAt.turn {W W' : World} {F F' G G' : Nat → Prop} {b n : Nat} {bg : Nat → Nat} {tk : Nat → Bool} (h : ProgAt W F G b n bg tk) (hs : W.heap.size ≤ W'.heap.size) (hb : ∀ k, F k → k < W.heap.size → W'.heap[k]? = W.heap[k]? ∧ F' k)
    (hg : ∀ k, G k → k < W.heap.size → W'.heap[k]? = W.heap[k]? ∧ G' k) : ProgAt W' F' G' b n bg tk := by
  have e := hb b h.imm h.lt
  obtain ⟨arr, h1, h2⟩ := h.blk
  obtain ⟨cp, h3, h4⟩ := h.places
  obtain ⟨g, c, h5, h6, h7, h8⟩ := h.lay
  have e2 := hg g h8 h7.1
  exact ⟨e.2, ⟨arr, e.1.trans h1, h2⟩, ⟨cp, h3.kept hs e.1, h4⟩, ⟨g, c, (World.cell?_of_block (a := ⟨b, _, none⟩) e.1).trans h5, h6, h7.turn hs e2.1, e2.2⟩,
    h.tabs.turn (World.cell?_of_block (a := ⟨b, 61, none⟩) e.1) (fun k hk hl _ => hb k hk hl) ⟨arr, h1⟩⟩

theorem ProgAt.below {W W' : World} {F G : Nat → Prop} {b n : Nat} {bg : Nat → Nat} {tk : Nat → Bool} (h : ProgAt W F G b n bg tk) (hb : Below W.heap.size W W') : ProgAt W' F G b n bg tk :=
  h.turn hb.size (fun k hk hl => ⟨hb.block k hl, hk⟩) (fun k hk hl => ⟨hb.block k hl, hk⟩)

theorem eql86_some (bm : Nat) (w : World) : (binOp .eql 109 (.map (some bm)) (.map none)).run Tryz.prog w = .ok (.bool false) w := by kernel_rfl
theorem eql86_none (w : World) : (binOp .eql 109 (.map none) (.map none)).run Tryz.prog w = .ok (.bool true) w := by kernel_rfl

/-- How an entity comes into the table of those without components. -/
def EnterEnds (w : World) (F : Nat → Prop) (b : Nat) (ents : List (Int × Int)) (p l : Int) (e : Ending) (w' : World) : Prop :=
  e = .returned (.tuple #[]) ∧ Turns w w' F ∧ (∀ o, o ≠ 61 → w'.cell? ⟨b, o, none⟩ = w.cell? ⟨b, o, none⟩) ∧ (∃ arr, w'.heap[b]? = some (.cells arr 111 (0, 0)) ∧ arr.size = 62) ∧ TablesAt w' (grow F w w') b (setIn ents (ahead ents p) [(p, l)])

theorem tab_apart {W : World} {F : Nat → Prop} {tb b : Nat} {ents : List (Int × Int)} {arr : Array Value} (h : TabAt W F tb ents) (hb : W.heap[b]? = some (.cells arr 111 (0, 0))) : TabAt W (fun k => F k ∧ k ≠ b ∧ ∃ cs t fz, W.heap[k]? = some (.cells cs t fz)) tb ents := by
  have hne : ∀ k t (cs : Array Value) fz, W.heap[k]? = some (.cells cs t fz) → t ≠ 111 → k ≠ b := fun k t cs fz hk ht e => by subst e; rw [hb] at hk; simp at hk; exact ht hk.2.1.symm
  obtain ⟨i1, v, i2, i3, i4⟩ := h
  refine ⟨⟨i1, hne tb 204 _ _ i2 (by decide), _, _, _, i2⟩, v, i2, i3, fun k hk => ⟨⟨(i4 k hk).1, ?_⟩, (i4 k hk).2⟩⟩
  rcases i3.2 with ⟨j1, _⟩ | ⟨g, cap, cur, j1, _, j2, _⟩
  · rw [j1] at hk; cases hk
  · rw [j1] at hk; simp [Value.ownBlock] at hk; subst hk; exact ⟨hne g 46 _ _ j2 (by decide), _, _, _, j2⟩

/-- The table is there: what its Enter leaves is what enter leaves. -/
theorem enter_ends {F : Nat → Prop} {b bm tb : Nat} {ents : List (Int × Int)} {p l : Int} {w W1 w' : World} {arr : Array Value} (_hF : F b) (hb1 : W1.heap[b]? = some (.cells arr 111 (0, 0))) (hbs : arr.size = 62) (ht1 : Turns w W1 F) (hc : ∀ o, o ≠ 61 → W1.cell? ⟨b, o, none⟩ = w.cell? ⟨b, o, none⟩) (h61 : W1.cell? ⟨b, 61, none⟩ = some (.map (some bm))) (hbm : grow F w W1 bm) (hM : MapAt W1 bm (some tb))
    (hl : b < w.heap.size)
    (ht : Turns W1 w' (fun k => grow F w W1 k ∧ k ≠ b ∧ ∃ cs t fz, W1.heap[k]? = some (.cells cs t fz))) (hT : TabAt w' (grow (fun k => grow F w W1 k ∧ k ≠ b ∧ ∃ cs t fz, W1.heap[k]? = some (.cells cs t fz)) W1 w') tb (setIn ents (ahead ents p) [(p, l)])) :
    EnterEnds w F b ents p l (.returned (.tuple #[])) w' := by
  have hbl : b < W1.heap.size := Nat.lt_of_lt_of_le hl ht1.size
  have eb : w'.heap[b]? = W1.heap[b]? := ht.block b hbl (fun h => h.2.1 rfl)
  have em : w'.heap[bm]? = W1.heap[bm]? := ht.block bm hM.lt (fun h => by
    obtain ⟨_, _, cs, t, fz, hh⟩ := h
    obtain ⟨es, clock, h2, _⟩ := hM
    rw [h2] at hh; cases hh)
  have hg : ∀ k, grow F w W1 k → grow F w w' k := fun k hk => by
    rcases hk with h | h
    · exact Or.inl h
    · exact Or.inr ⟨h.1, Nat.lt_of_lt_of_le h.2 ht.size⟩
  refine ⟨rfl, ?_, fun o ho => (World.cell?_of_block (a := ⟨b, o, none⟩) eb).trans (hc o ho), ⟨arr, eb.trans hb1, hbs⟩, Or.inr ⟨bm, (World.cell?_of_block (a := ⟨b, 61, none⟩) eb).trans h61, hg bm hbm, Or.inr ⟨tb, hM.turn em, hT.turn fun k hk hkl => ⟨rfl, ?_⟩⟩⟩⟩
  · refine ht1.trans ⟨ht.os, ht.tape, ht.output, ht.size, fun k hk hn => ht.block k hk (fun h => hn h.1)⟩
  · rcases hk with h | h
    · exact hg k h.1
    · exact Or.inr ⟨Nat.le_trans ht1.size h.1, h.2⟩

set_option maxHeartbeats 4000000 in
set_option maxRecDepth 100000 in
theorem enter_C {F : Nat → Prop} (b bm tb : Nat) (ents : List (Int × Int)) (p l : Int) (w : World) (arr : Array Value) (hF : F b) (hb0 : w.heap[b]? = some (.cells arr 111 (0, 0))) (hbs : arr.size = 62) (h61 : w.cell? ⟨b, 61, none⟩ = some (.map (some bm))) (hbm : F bm) (hM : MapAt w bm (some tb)) (hT : TabAt w F tb ents)
    (hl : ents.length ≤ 100) (hsort : ents.Pairwise fun a b => a.1 < b.1) :
    Calls Tryz.prog 121 #[.pointer (some ⟨b, 0, none⟩), .agg #[.int .i64 p, .int .i64 l], .int .u64 0] w (EnterEnds w F b ents p l) := by
  have hlt : b < w.heap.size := (Array.getElem?_eq_some_iff.1 hb0).1
  have hA : Below w.heap.size w (w.alloc (.cells #[.int .i64 p, .int .i64 l] 46)) := (Below.refl _ _).alloc (Nat.le_refl _) _
  have hM1 : MapAt (w.alloc (.cells #[.int .i64 p, .int .i64 l] 46)) bm (some tb) := hM.turn (hA.block bm hM.lt)
  have hT1 := (tab_apart hT hb0).below hA
  have hlook0 : (Instr.lookup 109 (.map (some bm)) (.int .u64 0) false).run Tryz.prog (w.alloc (.cells #[.int .i64 p, .int .i64 l] 46)) = .ok (.pointer (some ⟨tb, 0, none⟩)) (w.alloc (.cells #[.int .i64 p, .int .i64 l] 46)) := hM1.look
  have hlook1 : (Instr.lookup 109 (.map (some bm)) (.int .u64 0) false).run Tryz.prog (w.alloc (.cells #[.int .i64 p, .int .i64 l] 46)).drew = .ok (.pointer (some ⟨tb, 0, none⟩)) (w.alloc (.cells #[.int .i64 p, .int .i64 l] 46)).drew := (MapAt.turn (W' := (w.alloc (.cells #[.int .i64 p, .int .i64 l] 46)).drew) hM1 rfl).look
  have HE : Hid (∀ w', Turns (w.alloc (.cells #[.int .i64 p, .int .i64 l] 46)) w' (fun k => F k ∧ k ≠ b ∧ ∃ cs t fz, w.heap[k]? = some (.cells cs t fz)) ∧ TabAt w' (grow (fun k => F k ∧ k ≠ b ∧ ∃ cs t fz, w.heap[k]? = some (.cells cs t fz)) (w.alloc (.cells #[.int .i64 p, .int .i64 l] 46)) w') tb (setIn ents (ahead ents p) [(p, l)]) → EnterEnds w F b ents p l (.returned (.tuple #[])) w') := by
    intro w' ⟨t1, t2⟩
    have hsub : ∀ k, (F k ∧ k ≠ b ∧ ∃ cs t fz, w.heap[k]? = some (.cells cs t fz)) → (grow F w (w.alloc (.cells #[.int .i64 p, .int .i64 l] 46)) k ∧ k ≠ b ∧ ∃ cs t fz, (w.alloc (.cells #[.int .i64 p, .int .i64 l] 46)).heap[k]? = some (.cells cs t fz)) := fun k ⟨a1, a2, cs, t, fz, a3⟩ => ⟨Or.inl a1, a2, cs, t, fz, (hA.block k (Array.getElem?_eq_some_iff.1 a3).1).trans a3⟩
    refine enter_ends (W1 := w.alloc (.cells #[.int .i64 p, .int .i64 l] 46)) (bm := bm) (tb := tb) (arr := arr) hF ((hA.block b hlt).trans hb0) hbs (Turns.ofBelow F hA) (fun o _ => hA.cell (p := ⟨b, o, none⟩) hlt) ((hA.cell (p := ⟨b, 61, none⟩) hlt).trans h61) (Or.inl hbm) hM1 hlt
      ⟨t1.os, t1.tape, t1.output, t1.size, fun k hk hn => t1.block k hk (fun h => hn (hsub k h))⟩ (t2.turn fun k hk _ => ⟨rfl, hk.imp (hsub k) id⟩)
  have HT1 : Hid (TabAt (w.alloc (.cells #[.int .i64 p, .int .i64 l] 46)) (fun k => F k ∧ k ≠ b ∧ ∃ cs t fz, w.heap[k]? = some (.cells cs t fz)) tb ents) := hT1
  have HO : Hid (ents.Pairwise fun a b => a.1 < b.1) := hsort
  have HA : Hid _ := hA
  have HB0 : Hid (w.heap[b]? = some (.cells arr 111 (0, 0))) := hb0
  clear hM1 hT1 hM hT hsort hA hb0
  go_enter Tryz.func121, Tryz.ntmps121
  have hq := eql86_some bm
  go_wp2_with fail
  go_region_with (go_at_call 190; refine (enter_tab tb ents p l _ (HT1.out.below (Below.refl _ _).drew) hl HO.out).mono ?_; rintro e w2 ⟨rfl, ht2, hT2⟩)
  all_goals go_end0
  all_goals exact HE.out _ ⟨⟨ht2.os, ht2.tape, ht2.output, ht2.size, ht2.block⟩, hT2⟩

end Go.Proofs.YthkbeaffkcfgiabGreatDoor
