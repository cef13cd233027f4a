import Derived.Test.YthkbeaffkcfgiabGreatDoorSpawn
namespace Go.Proofs.YthkbeaffkcfgiabGreatDoor
open Go.RowKit Go.Maps

/-- A pointer to a table, or none. -/
def ptrTo (o : Option Nat) : Value := .pointer (o.map fun n => ⟨n, 0, none⟩)

theorem ptrElem_form (v : Value) (y : DataW Unit × List MemPlace) (h : ptrElem v = some y) : ∃ c, v = ptrTo c := by
  unfold ptrElem at h
  split at h
  · exact ⟨none, rfl⟩
  · exact ⟨some _, rfl⟩
  · cases h
theorem key_form (key : Value) (kl : Lit) (h : keyOf Tryz.prog 105 key = some kl) : ∃ x, key = Value.int .u64 x := by
  obtain ⟨x, h1, _⟩ := Maps.keyOf_int_inv Tryz.underlying105 h
  exact ⟨x, h1⟩

/-- What comes up in a range over the map is the table that it holds. -/
theorem range_elem {t c : Option Nat} {kl : Lit} {y : DataW Unit × List MemPlace} (hat : ∀ zd, (mapD t).atKey kl zd = y.1) (hv : ptrElem (ptrTo c) = some y) : ∃ tb, t = some tb ∧ c = some tb := by
  cases t with
  | none =>
    have h1 := hat .nil
    have h2 := hat (.agg [])
    simp [mapD, DataW.atKey] at h1 h2
    rw [← h1] at h2; cases h2
  | some tb =>
    have h1 := hat .nil
    have h2 := hat (.agg [])
    simp only [mapD, DataW.atKey, List.find?] at h1 h2
    cases hs : Lit.sameKey (.int .u64 0) kl with
    | false =>
      rw [hs] at h1 h2
      simp at h1 h2
      rw [← h1] at h2; cases h2
    | true =>
      rw [hs] at h1
      simp at h1
      refine ⟨tb, rfl, ?_⟩
      cases c with
      | none => simp [ptrTo, ptrElem] at hv; rw [← hv] at h1; cases h1
      | some n =>
        simp [ptrTo, ptrElem] at hv
        rw [← hv] at h1
        simp at h1
        have e := Int.ofNat.inj h1
        rw [e]

/-- How Despawn of a life that goes on ends. -/
def DespawnEnds (w : World) (F G : Nat → Prop) (b n : Nat) (bg : Nat → Nat) (tk : Nat → Bool) (i : Nat) (e : Ending) (w' : World) : Prop :=
  e = .returned (.int .i64 0) ∧ Turns w w' F ∧ ProgAt w' (grow F w w') G b n bg (upd tk i false)

/-- What holds behind leave and end. -/
def AfterEnd (w : World) (F G : Nat → Prop) (b n : Nat) (bg : Nat → Nat) (tk : Nat → Bool) (i : Nat) (W3 : World) : Prop :=
  ∃ bm t, W3.cell? ⟨b, 61, none⟩ = some (.map (some bm)) ∧ MapAt W3 bm t ∧ (∀ tb, t = some tb → tb < W3.heap.size ∧ ∀ k, k < 6 → W3.cell? ⟨tb, 1 + k, none⟩ = some (.slice none 0 0)) ∧ ∀ W', Below W3.heap.size W3 W' → DespawnEnds w F G b n bg tk i (.returned (.int .i64 0)) W'

theorem tab_columns {W : World} {F : Nat → Prop} {tb : Nat} {ents : List (Int × Int)} (h : TabAt W F tb ents) : ∀ k, k < 6 → W.cell? ⟨tb, 1 + k, none⟩ = some (.slice none 0 0) := by
  obtain ⟨_, v, hb, _⟩ := h
  intro k hk
  rw [cell_row hb]
  have : k = 0 ∨ k = 1 ∨ k = 2 ∨ k = 3 ∨ k = 4 ∨ k = 5 := by omega
  rcases this with rfl | rfl | rfl | rfl | rfl | rfl <;> rfl

theorem after_end {F G : Nat → Prop} {b n i : Nat} {bg : Nat → Nat} {tk : Nat → Bool} {w W1 W2 : World} (hi : i < 20) (hP : ProgAt W1 F G b n bg tk) (hB : Below w.heap.size w W1) (_hFl : ∀ k, F k → k < w.heap.size) (hFG : ∀ k, G k → ¬ F k) (ht : tk i = true) (hE : LeaveEnds W1 F b (entsOf bg tk) ((i : Int) + 1) (.returned (.tuple #[])) W2) (h61 : ∃ bm, W1.cell? ⟨b, 61, none⟩ = some (.map (some bm))) :
    AfterEnd w F G b n bg tk i (W2.setCell ⟨b, 1 + i * 3 + 1, none⟩ (.bool false)) := by
  obtain ⟨bm0, h61⟩ := h61
  obtain ⟨_, t1, t2, t3⟩ := hE
  have hlt := hP.lt
  obtain ⟨arr, hb0, hbs⟩ := hP.blk
  obtain ⟨cp, hpl, hcp⟩ := hP.places
  obtain ⟨g, c, hl0, hnc, hL, hGg⟩ := hP.lay
  have hgb : g ≠ b := fun e => hFG g hGg (by rw [e]; exact hP.imm)
  obtain ⟨W3, hW3⟩ : ∃ W3, W3 = W2.setCell ⟨b, 1 + i * 3 + 1, none⟩ (.bool false) := ⟨_, rfl⟩
  rw [← hW3]
  have hs3 : W3.heap.size = W2.heap.size := by rw [hW3]; simp [World.setCell]
  have hs2 := t1.size
  have hs1 := hB.size
  have h3 : ∀ j, j ≠ b → W3.heap[j]? = W2.heap[j]? := fun j hj => by rw [hW3, Below.heap_setCell _ _ _ _ hj]
  have hb2 := t2.trans hb0
  have hb3 : W3.heap[b]? = some (.cells (arr.setIfInBounds (1 + i * 3 + 1) (.bool false)) 111 (0, 0)) := by rw [hW3]; exact setCell_block _ hb2
  have hc3 : ∀ o, o ≠ 1 + i * 3 + 1 → W3.cell? ⟨b, o, none⟩ = W1.cell? ⟨b, o, none⟩ := fun o ho => by
    rw [hW3, set_other _ (Or.inr ho)]; exact World.cell?_of_block (a := ⟨b, o, none⟩) t2
  have hT3 : TablesAt W3 (grow F W1 W2) b (entsOf bg (upd tk i false)) := by
    rw [(ents_despawn bg tk i hi ht).2]
    exact t3.turn (by rw [hW3, set_other _ (Or.inr (by omega))]) (fun j hj _ hn => ⟨h3 j hn, hj⟩) ⟨arr, hb2⟩
  have hTu : Turns w W3 F := by
    have h1 : Turns w W2 F := (Turns.ofBelow F hB).trans' t1
    exact ⟨by rw [hW3]; exact h1.os, by rw [hW3]; exact h1.tape, by rw [hW3]; exact h1.output, by omega, fun j hj hn => (h3 j (fun e => hn (by rw [e]; exact hP.imm))).trans (h1.block j hj hn)⟩
  have hP3 : ProgAt W3 (grow F w W3) G b n bg (upd tk i false) := by
    refine ⟨Or.inl hP.imm, ⟨_, hb3, by simp [hbs]⟩, ⟨cp, ?_, ?_⟩, ⟨g, c, (hc3 0 (by omega)).trans hl0, hnc, hL.turn (by omega) ((h3 g hgb).trans (t1.block g hL.1 (hFG g hGg))), hGg⟩, ?_⟩
    · have h := (hpl.kept hs2 t2).leave i hi
      rw [← hW3] at h
      exact h
    · intro j hj htj
      by_cases e : j = i
      · subst e; rw [upd_same] at htj; cases htj
      · rw [upd_ne _ _ _ e] at htj; exact hcp j hj htj
    · refine hT3.turn rfl (fun j hj _ _ => ⟨rfl, ?_⟩) ⟨_, hb3⟩
      rcases hj with h | h
      · exact Or.inl h
      · exact Or.inr ⟨by omega, by omega⟩
  have h61' : W3.cell? ⟨b, 61, none⟩ = some (.map (some bm0)) := (hc3 61 (by omega)).trans h61
  have hEnd : ∀ W', Below W3.heap.size W3 W' → DespawnEnds w F G b n bg tk i (.returned (.int .i64 0)) W' := fun W' hb => by
    have hz := hb.size
    refine ⟨rfl, hTu.trans' (Turns.ofBelow F hb), hP3.turn hb.size (fun k hk hkl => ⟨hb.block k hkl, ?_⟩) (fun k hk hkl => ⟨hb.block k hkl, hk⟩)⟩
    rcases hk with h | h
    · exact Or.inl h
    · exact Or.inr ⟨h.1, by omega⟩
  rcases hT3 with ⟨q1, _⟩ | ⟨bm, q1, _, ⟨q2, _⟩ | ⟨tb, q2, q3⟩⟩
  · rw [h61'] at q1; cases q1
  · exact ⟨bm, none, q1, q2, (fun tb h => by cases h), hEnd⟩
  · exact ⟨bm, some tb, q1, q2, (fun tb' h => by cases h; exact ⟨q3.lt, tab_columns q3⟩), hEnd⟩

set_option maxHeartbeats 4000000 in
set_option maxRecDepth 100000 in
theorem despawn_yes {F G : Nat → Prop} (b n i : Nat) (bg : Nat → Nat) (tk : Nat → Bool) (w : World) (hi : i < 20) (hP : ProgAt w F G b n bg tk) (hFl : ∀ k, F k → k < w.heap.size) (hFG : ∀ k, G k → ¬ F k) (ht : tk i = true) :
    Calls Tryz.prog 27 #[.pointer (some ⟨b, 0, none⟩), .agg #[.int .i64 ((i : Int) + 1), .int .i64 (bg i : Int)]] w (DespawnEnds w F G b n bg tk i) := by
  have HPr : Hid (ProgAt w F G b n bg tk) := hP
  have HT : Hid (tk i = true) := ht
  have hb := hP.lt
  clear hP ht
  obtain ⟨V, hV⟩ : ∃ V, V = w.alloc (.cells #[.int .i64 ((i : Int) + 1), .int .i64 (bg i : Int)] 46) := ⟨_, rfl⟩
  have hA : Hid (Below w.heap.size w V) := by rw [hV]; exact (Below.refl _ _).alloc (Nat.le_refl _) _
  have hVs : V.heap.size = w.heap.size + 1 := by rw [hV]; simp
  have hH : Hid (V.heap[w.heap.size]? = some (.cells #[.int .i64 ((i : Int) + 1), .int .i64 (bg i : Int)] 46 (0, 0))) := by rw [hV]; exact _root_.Go.heap_alloc_new w _
  have HV : Hid (w.alloc (.cells #[.int .i64 ((i : Int) + 1), .int .i64 (bg i : Int)] 46) = V) := hV.symm
  clear hV
  go_enter Tryz.func27, Tryz.ntmps27
  go_wp2_with fail
  rw [HV.out]
  obtain ⟨cp0, hpl0, _⟩ := (HPr.out.below hA.out).places
  refine (alive_at b i (bg i) bg tk cp0 V hi hpl0).mono ?_
  have hyes : (tk i && ((bg i : Int) == (bg i : Int))) = true := by rw [HT.out]; simp
  rw [hyes]
  rintro e w1 ⟨rfl, hb1⟩
  have hB1 : Hid (Below w.heap.size w w1) := hA.out.trans (hb1.mono (by omega))
  have hs1 : w.heap.size < w1.heap.size := by have := hb1.size; omega
  have hH1 : Hid (w1.heap[w.heap.size]? = some (.cells #[.int .i64 ((i : Int) + 1), .int .i64 (bg i : Int)] 46 (0, 0))) := (hb1.block _ (by omega)).trans hH.out
  have d0 : w1.cell? ⟨w.heap.size, 0, none⟩ = some (.int .i64 ((i : Int) + 1)) := by rw [cell_row hH1.out]; rfl
  have d1 : w1.cell? ⟨w.heap.size, 1, none⟩ = some (.int .i64 (bg i : Int)) := by rw [cell_row hH1.out]; rfl
  clear hb1 hpl0 hyes hVs
  go_wp2_with fail
  refine (placeOf_any b i _ _ hi).mono ?_
  rintro e w2 ⟨rfl, hb2⟩
  have hB2 : Hid (Below w.heap.size w w2) := hB1.out.trans (hb2.mono (by omega))
  have hs2 : w.heap.size < w2.heap.size := by have := hb2.size; omega
  have e0 : w2.cell? ⟨w.heap.size, 0, none⟩ = some (.int .i64 ((i : Int) + 1)) := (hb2.cell (p := ⟨w.heap.size, 0, none⟩) hs1).trans d0
  have e1 : w2.cell? ⟨w.heap.size, 1, none⟩ = some (.int .i64 (bg i : Int)) := (hb2.cell (p := ⟨w.heap.size, 1, none⟩) hs1).trans d1
  clear hb2 d0 d1
  have hcp : w2.cell? ⟨b, 1 + i * 3 + 2, none⟩ = some (.int .u64 0) := by
    obtain ⟨cp, hpl, h0⟩ := (HPr.out.below hB2.out).places
    have := (hpl.2 i hi).2.2.1
    rw [h0 i hi HT.out] at this
    exact this
  have HM : Hid (∀ W, W = w2.drew → Calls Tryz.prog 60 #[.pointer (some ⟨b, 0, none⟩), .agg #[.int .i64 ((i : Int) + 1), .int .i64 (bg i : Int)], .int .u64 0] W fun e w3 => e = .returned (.tuple #[]) ∧ w3.cell? ⟨b, 1 + i * 3 + 1, none⟩ = some (.bool true) ∧ w3.frozen? ⟨b, 1 + i * 3 + 1, none⟩ = false ∧ w3.cell? ⟨w.heap.size, 0, none⟩ = some (.int .i64 ((i : Int) + 1)) ∧ w3.cell? ⟨w.heap.size, 1, none⟩ = some (.int .i64 (bg i : Int)) ∧ w3.cell? ⟨b, 1 + i * 3 + 2, none⟩ = some (.int .u64 0) ∧ Hid (w.heap.size < w3.heap.size) ∧
      Hid (AfterEnd w F G b n bg tk i (w3.setCell ⟨b, 1 + i * 3 + 1, none⟩ (.bool false)))) := by
    rintro W rfl
    have hBd : Below w.heap.size w w2.drew := hB2.out.drew
    have hPd := HPr.out.below hBd
    obtain ⟨hin, _⟩ := ents_despawn bg tk i hi HT.out
    have hne : entsOf bg tk ≠ [] := fun e => by rw [e] at hin; simp at hin
    obtain ⟨arr, hb0, hbs⟩ := hPd.blk
    rcases hPd.tabs with ⟨_, q⟩ | ⟨bm, q1, q2, ⟨_, q⟩ | ⟨tb, q3, q4⟩⟩
    · exact absurd q hne
    · exact absurd q hne
    · refine (leave_world b bm tb (entsOf bg tk) _ _ w2.drew arr hPd.imm hb0 q1 q2 q3 q4 (Nat.le_trans (ents_len bg tk) (by omega)) (ents_sort bg tk) hin).mono ?_
      intro e w3 hE
      obtain ⟨cp, hpl, h0⟩ := hPd.places
      obtain ⟨rfl, t1, t2, t3⟩ := hE
      have p2 := (hpl.2 i hi).2.1
      rw [HT.out] at p2
      have eH : w3.heap[w.heap.size]? = w2.heap[w.heap.size]? := t1.block _ hs2 (fun h => by have := hFl _ h; omega)
      exact ⟨rfl, (World.cell?_of_block (a := ⟨b, _, none⟩) t2).trans p2, (World.frozen?_of_block (a := ⟨b, _, none⟩) t2).trans (hpl.2 i hi).2.2.2.2.1, (World.cell?_of_block (a := ⟨w.heap.size, 0, none⟩) eH).trans e0, (World.cell?_of_block (a := ⟨w.heap.size, 1, none⟩) eH).trans e1, (World.cell?_of_block (a := ⟨b, _, none⟩) t2).trans hcp, Nat.lt_of_lt_of_le hs2 t1.size,
        after_end hi hPd hBd hFl hFG HT.out ⟨rfl, t1, t2, t3⟩ ⟨bm, q1⟩⟩
  go_wp2_with fail
  go_region_held3 (fun w' => w'.cell? ⟨w.heap.size, 0, none⟩ = some (.int .i64 ((i : Int) + 1)) ∧ w'.cell? ⟨w.heap.size, 1, none⟩ = some (.int .i64 (bg i : Int)) ∧ w'.cell? ⟨b, 1 + i * 3 + 2, none⟩ = some (.int .u64 0)) ((first | exact ⟨x3, x4, x5⟩ | exact ⟨e0, e1, hcp⟩)) ((go_at_call 60; refine (HM.out _ rfl).mono ?_; rintro e w3 ⟨rfl, x1, x2, x3, x4, x5, HS3, HAE⟩))
  have HX : Hid (∀ w4, w4 = w3.setCell ⟨b, 1 + i * 3 + 1, none⟩ (.bool false) → ∃ bm t, w4.cell? ⟨b, 61, none⟩ = some (.map (some bm)) ∧ w4.cell? ⟨w.heap.size, 0, none⟩ = some (.int .i64 ((i : Int) + 1)) ∧ w4.cell? ⟨w.heap.size, 1, none⟩ = some (.int .i64 (bg i : Int)) ∧ w.heap.size < w4.heap.size ∧ Hid (MapAt w4 bm t ∧ (∀ tb, t = some tb → tb < w4.heap.size ∧ ∀ k, k < 6 → w4.cell? ⟨tb, 1 + k, none⟩ = some (.slice none 0 0)) ∧ ∀ W', Below w4.heap.size w4 W' → DespawnEnds w F G b n bg tk i (.returned (.int .i64 0)) W')) := by
    rintro w4 rfl
    obtain ⟨bm, t, y1, y2, y3, y4⟩ := HAE.out
    exact ⟨bm, t, y1, by rw [set_other _ (by omega)]; exact x3, by rw [set_other _ (by omega)]; exact x4, by simpa [World.setCell] using HS3.out, y2, y3, y4⟩
  go_wp2_with (first
    | (go_at_call 61; refine (end_any b (1 + i * 3) true _ x1 x2).mono ?_; rintro e w4 ⟨rfl, hw4⟩; obtain ⟨bm, t, y1, y2, y3, y4, HY⟩ := HX.out w4 hw4; clear hw4 x1 x2 x3 x4 x5 HX HAE)
    | (at_range; refine wpList_range_own _ rfl _ 109 rfl 105 125 key79 Tryz.underlying109 ptrElem bm 1 (mapD t) rfl HY.out.1 ?_; intro w5 hrg5 hg5 hs5))
  go_frame
  have HB5 : Hid (Below w4.heap.size w4 w5) := ⟨hg5.os, hg5.tape, hg5.output, hg5.size, fun k hk => hg5.block k hk (by simp)⟩
  clear hg5
  go_loopw [7] (fun _ wr => ∃ left cnt, wr.ranges Tryz.prog 105 ptrElem bm w4.heap.size 1 (mapD t) left cnt ∧ Below w4.heap.size w4 wr) (fun _ wr => wr.rangeLeft bm w4.heap.size)
  case atStart => exact ⟨_, _, hrg5, HB5.out⟩
  case round =>
    obtain ⟨left, cnt, hrg, hB⟩ := hrel
    have HB : Hid (Below w4.heap.size w4 wr) := hB
    have HRg : Hid (wr.ranges Tryz.prog 105 ptrElem bm w4.heap.size 1 (mapD t) left cnt) := hrg
    clear hB hrg hrg5 hs5
    go_wp2_with (at_next; refine wpList_next_ranges _ rfl _ rfl 105 key79 ptrElem (Value.int .u64) ptrTo key_form ptrElem_form bm w4.heap.size 1 (mapD t) _ _ rfl HRg.out ?_ ?_)
    · intro _ _
      go_wp2_with fail
      go_ret
      exact HY.out.2.2 _ HB.out
    · intro x c kl yy ps w6 cnt6 hkey hlk hv hat hrg6 hlt6 hg6 hs6 hen
      obtain ⟨tb, ht, hc⟩ := range_elem (y := (yy, ps)) hat hv
      rw [hc] at hen
      rw [hc]
      simp only [ptrTo, Option.map] at hen ⊢
      have hB6 : Hid (Below w4.heap.size w4 w6) := ⟨hg6.os.trans HB.out.os, hg6.tape.trans HB.out.tape, hg6.output.trans HB.out.output, Nat.le_trans HB.out.size hg6.size, fun k hk => (hg6.block k (Nat.lt_of_lt_of_le hk HB.out.size) (by simp; omega)).trans (HB.out.block k hk)⟩
      have HR6 : Hid (w6.ranges Tryz.prog 105 ptrElem bm w4.heap.size 1 (mapD t) (fun z => left z && !z.sameKey kl) cnt6) := hrg6
      have z0 : w6.cell? ⟨w.heap.size, 0, none⟩ = some (.int .i64 ((i : Int) + 1)) := (hB6.out.cell (p := ⟨w.heap.size, 0, none⟩) y4).trans y2
      have z1 : w6.cell? ⟨w.heap.size, 1, none⟩ = some (.int .i64 (bg i : Int)) := (hB6.out.cell (p := ⟨w.heap.size, 1, none⟩) y4).trans y3
      have HLt : Hid (cnt6 < cnt) := hlt6
      have HF : Hid (tb < w6.heap.size ∧ ∀ k, k < 6 → w6.cell? ⟨tb, 1 + k, none⟩ = some (.slice none 0 0)) := by
        obtain ⟨q1, q2⟩ := HY.out.2.1 tb ht
        exact ⟨Nat.lt_of_lt_of_le q1 hB6.out.size, fun k hk => (hB6.out.cell (p := ⟨tb, _, none⟩) q1).trans (q2 k hk)⟩
      clear hkey hlk hv hat hrg6 hlt6 hg6 hs6 ht hc
      go_wp2_with (go_at_call 62; refine (forget_none tb _ _ _ HF.out.1 HF.out.2).mono ?_; rintro e w7 ⟨rfl, hb7⟩)
      have hr7 : w7.ranges Tryz.prog 105 ptrElem bm w4.heap.size 1 (mapD t) (fun z => left z && !z.sameKey kl) cnt6 := HR6.out.kept (row := none) ⟨hb7.os, hb7.tape, hb7.output, hb7.size, fun k hk _ => hb7.block k hk⟩ (by simp) (by simp)
      go_roundw
      case rel => exact ⟨_, _, hr7, hB6.out.trans (hb7.mono hB6.out.size)⟩
      case measure => rw [hr7.left_eq, HRg.out.left_eq]; exact HLt.out

end Go.Proofs.YthkbeaffkcfgiabGreatDoor
