import Derived.Test.YthkbeaffkcfgiabGreatDoorK29
set_option linter.unusedSimpArgs false
set_option linter.unusedVariables false
namespace Go.Proofs.YthkbeaffkcfgiabGreatDoor
open Go.RowKit

/-- The cell that holds an entity's slice. -/
theorem BScene.slot {W : World} {B g cap n : Nat} {sc : List Ent} {sls : Nat → Nat → Value} {lvs : Nat → Nat → List Value} (h : BScene W B g cap n sc sls lvs) (i k : Nat) (hi : i < n) (hk : k < 6) : W.cell? ⟨g, i * 7 + (1 + k), none⟩ = some (sls i k) ∧ W.frozen? ⟨g, i * 7 + (1 + k), none⟩ = false := by
  obtain ⟨cur, hb, _, _, _, _, _⟩ := h.blk (by omega)
  refine ⟨?_, frozen_row hb _⟩
  obtain ⟨g', cap', h1, _, _, _, h5⟩ := h.own.cell i (by have := h.len; omega)
  simp only [Value.slice.injEq, Option.some.injEq, Addr.mk.injEq] at h1
  obtain ⟨⟨rfl, _, _⟩, _, _⟩ := h1
  rw [h5 (1 + k) (by omega)]
  have h6 : k = 0 ∨ k = 1 ∨ k = 2 ∨ k = 3 ∨ k = 4 ∨ k = 5 := by omega
  rcases h6 with rfl | rfl | rfl | rfl | rfl | rfl <;> rfl

theorem colGo_len (k kd n : Nat) : ∀ (is : List Nat) (sc : List Ent) (l : List UInt8) {sc' : List Ent} {r : List UInt8}, colGo k kd n is sc l = some (sc', r) → r.length ≤ l.length ∧ sc'.length = sc.length
  | [], sc, l, sc', r, h => by simp [colGo] at h; rw [← h.1, ← h.2]; simp
  | i :: is, sc, l, sc', r, h => by
    rw [colGo] at h
    split at h
    · cases h
    · rename_i x q hb
      have h1 := colGo_len k kd n is _ _ h
      have h2 := valueBL_len hb
      exact ⟨by omega, by rw [h1.2]; simp⟩

theorem pushV_len (k : Nat) (x : SV) (e : Ent) : ((pushV k x e).vs.getD k []).length ≤ (e.vs.getD k []).length + 1 := by
  unfold pushV
  by_cases h : k < e.vs.length
  · simp [List.getD, h]
  · simp [List.getD, h]
theorem pushed_len {n i k B : Nat} {x : SV} {sc : List Ent} (h : ∀ j, j < n → ((entAt sc j).vs.getD k []).length ≤ B) (hi : i < sc.length) : ∀ j, j < n → ((entAt (sc.set i (pushV k x (entAt sc i))) j).vs.getD k []).length ≤ B + 1 := fun j hj => by
  have := h j hj
  rw [entAt_set sc i j _ hi]
  split
  · rename_i e
    subst e
    have h1 := pushV_len k x (entAt sc j)
    omega
  · omega
/-- The cell, after the slice has grown. -/
theorem BSt.slot6 {w wr w6 : World} {b0 rb g cap n : Nat} {tail : List Value} {sc : List Ent} {sls : Nat → Nat → Value} {lvs : Nat → Nat → List Value} {r : List UInt8} {i k : Nat} (h : BSt w wr b0 rb g cap n tail sc sls lvs r) (hi : i < n) (hk : k < 6) (hg : wr.grownBy w6 (sls i k).ownBlock) :
    w6.cell? ⟨g, i * 7 + 1 + k, none⟩ = some (sls i k) ∧ w6.frozen? ⟨g, i * 7 + 1 + k, none⟩ = false := by
  obtain ⟨cur, hb, _, _, _, _, _⟩ := h.scene.blk (by omega)
  have hrow := ((h.scene.own.ents i (by have := h.scene.len; omega)).2.2 k hk).row
  have he : w6.heap[g]? = wr.heap[g]? := hg.block g (Array.getElem?_eq_some_iff.1 hb).1 (fun e => by
    rcases hrow.2 with ⟨q, _⟩ | ⟨g', cap', cur', q, _, q3, _⟩
    · rw [q] at e; cases e
    · rw [q] at e; simp [Value.ownBlock] at e; subst e; exact type_ne hb q3 (by decide) rfl)
  rw [Nat.add_assoc]
  exact ⟨(World.cell?_of_block (a := ⟨g, i * 7 + (1 + k), none⟩) he).trans (h.scene.slot i k hi hk).1, frozen_row (he.trans hb) _⟩

theorem BSt.block6 {w wr w6 : World} {b0 rb g cap n : Nat} {tail : List Value} {sc : List Ent} {sls : Nat → Nat → Value} {lvs : Nat → Nat → List Value} {r : List UInt8} {i k b : Nat} {cs : Array Value} {o : Nat} {v : Value} (h : BSt w wr b0 rb g cap n tail sc sls lvs r) (hi : i < n) (hk : k < 6) (hg : wr.grownBy w6 (sls i k).ownBlock) (hb : wr.heap[b]? = some (.cells cs 135 (0, 0))) :
    (w6.setCell ⟨g, o, none⟩ v).heap[b]? = some (.cells cs 135 (0, 0)) := by
  obtain ⟨cur, hc, _, _, _, _, _⟩ := h.scene.blk (by omega)
  have hrow := ((h.scene.own.ents i (by have := h.scene.len; omega)).2.2 k hk).row
  rw [heapSet (type_ne hb hc (by decide))]
  refine (hg.block b (Array.getElem?_eq_some_iff.1 hb).1 (fun e => ?_)).trans hb
  rcases hrow.2 with ⟨q, _⟩ | ⟨g', cap', cur', q, _, q3, _⟩
  · rw [q] at e; cases e
  · rw [q] at e; simp [Value.ownBlock] at e; subst e; exact type_ne hb q3 (by decide) rfl

set_option maxHeartbeats 6400000 in
set_option maxRecDepth 20000 in
theorem columns_any (b0 rb g cap n k : Nat) (tail : List Value) (fs wv : Value) (fl : List (List UInt8 × Nat)) (who : List Nat) (sc : List Ent) (sls : Nat → Nat → Value) (lvs : Nat → Nat → List Value) (l : List UInt8) (w : World)
    (hS : BSt w w b0 rb g cap n tail sc sls lvs l) (hb0 : b0 ≤ w.heap.size) (hrb : b0 ≤ rb) (hl : l.length ≤ 2 ^ 40) (hk : k < 6) (hn : n ≤ 20) (htl : tail[0]? = some (.slice (some ⟨g, 0, none⟩) n cap))
    (hF : FieldsN w fs fl) (hfb : ∀ j, fs.ownBlock = some j → j < b0) (hfl : fl.length ≤ 4) (hfk : ∀ f ∈ fl, 1 ≤ f.2 ∧ f.2 ≤ 5) (hW : w.ownsRow b0 3 1 wv who.length ((who.map fun i : Nat => (i : Int)).map (Value.int .i64))) (hwn : ∀ i ∈ who, i < n) (hwl : who.length ≤ 20) (C : Nat) (hC : C ≤ 1000000) (hv4 : ∀ i, i < n → ((entAt sc i).vs.getD k []).length ≤ C) :
    Calls Tryz.prog 241 #[.pointer (some ⟨rb, 0, none⟩), .int .i64 k, fs, wv] w (CEnds w b0 rb g cap n tail (columnsGo k n who fl sc l)) := by
  obtain ⟨i0, hi0, hz0, hz1, hz2⟩ := info_parts Tryz.info56
  obtain ⟨fa, fc, rfl⟩ := hF.form
  obtain ⟨wa, wc, rfl⟩ := own_form hW
  obtain ⟨m, hm⟩ : ∃ m, m = fl.length := ⟨_, rfl⟩
  obtain ⟨p, hp⟩ : ∃ p, p = who.length := ⟨_, rfl⟩
  rw [← hm] at hF hfl hfb ⊢
  rw [← hp] at hW hwl ⊢
  have HM : Hid (m = fl.length) := hm
  have HP : Hid (p = who.length) := hp
  have HF : Hid (FieldsN w (.slice fa m fc) fl) := hF
  have HFb : Hid (∀ j, (Value.slice fa m fc).ownBlock = some j → j < b0) := hfb
  have HFk : Hid (∀ f ∈ fl, 1 ≤ f.2 ∧ f.2 ≤ 5) := hfk
  have HW : Hid (w.ownsRow b0 3 1 (.slice wa p wc) p ((who.map fun i : Nat => (i : Int)).map (Value.int .i64))) := hW
  have HWn : Hid (∀ i ∈ who, i < n) := hwn
  have HTl : Hid (tail[0]? = some (.slice (some ⟨g, 0, none⟩) n cap)) := htl
  have HS0 : Hid (BSt w w b0 rb g cap n tail sc sls lvs l) := hS
  have HV4 : Hid (∀ i, i < n → ((entAt sc i).vs.getD k []).length ≤ C) := hv4
  have hrw := hS.rd.lt
  clear hS hF hfb hfk hW hwn htl hm hp hv4
  go_enter Tryz.func241, Tryz.ntmps241
  go_wp2_with fail
  go_loopw [15] (fun t wr => ∃ (f : Nat) (sc' : List Ent) (sls' : Nat → Nat → Value) (lvs' : Nat → Nat → List Value) (r : List UInt8), f ≤ m ∧ t = .int .i64 f ∧ r.length ≤ 2 ^ 40 ∧ Hid (columnsGo k n who fl sc l = columnsGo k n who (fl.drop f) sc' r) ∧ Hid (∀ i, i < n → ((entAt sc' i).vs.getD k []).length ≤ C + 20 * f) ∧ Hid (BSt w wr b0 rb g cap n tail sc' sls' lvs' r)) (fun t _ => m - (intOf t).toNat)
  case atStart => exact ⟨0, sc, sls, lvs, l, by omega, rfl, hl, rfl, fun i hi => by have := HV4.out i hi; omega, HS0⟩
  case round =>
    obtain ⟨f, sc1, sls1, lvs1, r1, hf, rfl, hr1, HG, HQ, HS⟩ := hrel
    by_cases hlt : f < m
    · have hfc : f < fl.length := by rw [← HM.out]; exact hlt
      have hdr : fl.drop f = fl[f] :: fl.drop (f + 1) := List.drop_eq_getElem_cons hfc
      have hkf := HFk.out fl[f] (List.getElem_mem hfc)
      have hsr := HS.out.more
      obtain ⟨gf, hfa, e0, e1, hgl⟩ : ∃ gf, fa = some ⟨gf, 0, none⟩ ∧ wr.cell? ⟨gf, f * 2, none⟩ = some (.string (mk fl[f].1)) ∧ wr.cell? ⟨gf, f * 2 + 1, none⟩ = some (.int .i64 (fl[f].2 : Int)) ∧ m ≤ fc := by
        rcases HF.out with ⟨h1, h2⟩ | ⟨gf, c', h1, h2, h3, h4⟩
        · rw [h2] at hfc; simp at hfc
        · simp at h1
          have hlb := HFb.out gf (by rw [h1.1]; rfl)
          exact ⟨gf, h1.1, (World.cell?_of_block (a := ⟨gf, f * 2, none⟩) (HS.out.below.block gf hlb)).trans (h4 f hfc).1, (World.cell?_of_block (a := ⟨gf, f * 2 + 1, none⟩) (HS.out.below.block gf hlb)).trans (h4 f hfc).2, by rw [h1.2.2, HM.out]; exact h2⟩
      subst hfa
      have HG2 : Hid (columnsGo k n who fl sc l = columnsGo k n who (fl[f] :: fl.drop (f + 1)) sc1 r1) := by show _ = _; rw [HG.out, hdr]
      clear hdr HG
      generalize fl[f] = fx at hkf e0 e1 HG2
      obtain ⟨fn, fk⟩ := fx
      simp only at hkf e0 e1
      obtain ⟨hk1, hk5⟩ := hkf
      obtain ⟨Wa, hWa⟩ : ∃ Wa, Wa = wr.alloc (.cells #[.string (mk fn), .int .i64 (fk : Int)] 135) := ⟨_, rfl⟩
      have hBa : Below wr.heap.size wr Wa := by rw [hWa]; exact (Below.refl _ _).alloc (Nat.le_refl _) _
      have HSa : Hid (BSt w Wa b0 rb g cap n tail sc1 sls1 lvs1 r1) := HS.out.alloc hb0 hBa
      have hba : Wa.heap[wr.heap.size]? = some (.cells #[.string (mk fn), .int .i64 (fk : Int)] 135 (0, 0)) := by rw [hWa]; exact heap_alloc_at rfl _
      rw [hWa] at HSa hba
      have HBa : Hid ((wr.alloc (.cells #[.string (mk fn), .int .i64 (fk : Int)] 135)).heap[wr.heap.size]? = some (.cells #[.string (mk fn), .int .i64 (fk : Int)] 135 (0, 0))) := hba
      clear hBa hba hWa Wa
      rename World => w1
      go_wp2_with fail
      go_loopw [21] (fun t wq => ∃ (q : Nat) (sc2 : List Ent) (sls2 : Nat → Nat → Value) (lvs2 : Nat → Nat → List Value) (r2 : List UInt8), q ≤ p ∧ t = .int .i64 q ∧ r2.length ≤ 2 ^ 40 ∧ Hid (colGo k fk n who sc1 r1 = colGo k fk n (who.drop q) sc2 r2) ∧ Hid (∀ i, i < n → ((entAt sc2 i).vs.getD k []).length ≤ C + 20 * f + q) ∧ Hid (wq.heap[w1.heap.size]? = some (.cells #[.string (mk fn), .int .i64 (fk : Int)] 135 (0, 0))) ∧ Hid (BSt w wq b0 rb g cap n tail sc2 sls2 lvs2 r2)) (fun t _ => p - (intOf t).toNat)
      case atStart => exact ⟨0, sc1, sls1, lvs1, r1, by omega, rfl, hr1, rfl, HQ, HBa, HSa⟩
      case round =>
        obtain ⟨q, sc2, sls2, lvs2, r2, hq, rfl, hr2, HG3, HQ2, HB2, HS2⟩ := hrel
        by_cases hqt : q < p
        · have hqw : q < who.length := by rw [← HP.out]; exact hqt
          have hdw : who.drop q = who[q] :: who.drop (q + 1) := List.drop_eq_getElem_cons hqw
          have hin := HWn.out who[q] (List.getElem_mem hqw)
          obtain ⟨gw, hwa, ew, hwc⟩ : ∃ gw, wa = some ⟨gw, 0, none⟩ ∧ wr.cell? ⟨gw, q, none⟩ = some (.int .i64 (who[q] : Int)) ∧ p ≤ wc := by
            rcases HW.out.2 with ⟨h1, h2⟩ | ⟨g', cap', cur, h1, h2, h3, h4, h5, h6, h7⟩
            · simp at h1; omega
            · simp at h1
              obtain ⟨rfl, rfl⟩ := h1
              refine ⟨g', rfl, ?_, h4⟩
              have hx := HS2.out.keep g' cur 3 h3 (by decide) (by decide) (by decide)
              rw [World.cell?_of_block (a := ⟨g', q, none⟩) (hx.trans h3.symm)]
              rw [HW.out.cellAt q (by omega)]
              simp [hqw]
          subst hwa
          have HG4 : Hid (colGo k fk n who sc1 r1 = colGo k fk n (who[q] :: who.drop (q + 1)) sc2 r2) := by show _ = _; rw [HG3.out, hdw]
          clear hdw HG3
          generalize who[q] = i at hin ew HG4
          have ek : wr.cell? ⟨w1.heap.size, 1, none⟩ = some (.int .i64 fk) := by rw [cell_row HB2.out]; rfl
          have es : wr.cell? ⟨rb, 1, none⟩ = some (.slice (some ⟨g, 0, none⟩) n cap) := by
            rw [cell_row HS2.out.rd]
            have := HTl.out
            simpa using this
          obtain ⟨ec, ef⟩ := HS2.out.scene.slot i k hin hk
          rw [← Nat.add_assoc] at ec ef
          obtain ⟨L, hL⟩ : ∃ L, L = ((entAt sc2 i).vs.getD k []).length := ⟨_, rfl⟩
          have HL : Hid (L = ((entAt sc2 i).vs.getD k []).length) := hL
          have hLC : L ≤ C + 20 * f + q := by rw [hL]; exact HQ2.out i hin
          obtain ⟨va, vc, hsl⟩ := own_form ((HS2.out.scene.own.ents i (by have := HS2.out.scene.len; omega)).2.2 k hk).row
          rw [← hL] at hsl
          rw [hsl] at ec
          have HSl : Hid (sls2 i k = .slice va L vc) := hsl
          clear hL hsl
          have HVl : Hid (Calls Tryz.prog 270 #[.pointer (some ⟨rb, 0, none⟩), .int .i64 fk] wr.drew fun e w3 => (∃ x r3 lv, e = .returned (.agg (svCells x lv).toArray) ∧ r3.length ≤ 2 ^ 40 ∧ Hid (colGo k fk n who sc1 r1 = colGo k fk n (who.drop (q + 1)) (sc2.set i (pushV k x (entAt sc2 i))) r3) ∧ Hid (BSt w w3 b0 rb g cap n tail sc2 sls2 lvs2 r3) ∧ Hid (w3.ownsRow b0 3 1 lv x.l.length (x.l.map (Value.int .i64))) ∧ Hid (w3.heap[w1.heap.size]? = some (.cells #[.string (mk fn), .int .i64 (fk : Int)] 135 (0, 0)))) ∨ (Hid (columnsGo k n who fl sc l = none) ∧ e = .panicked wrongS ∧ Hid (Below b0 w w3))) := by
            refine (valueB_any fk n hk1 hk5 rb tail r2 wr.drew (HS2.out.rd.keep rfl) hr2 (some ⟨g, 0, none⟩) cap es).mono ?_
            rintro e w3 (⟨x, r3, lv, hv, rfl, ht3, ho3⟩ | ⟨hn, rfl, ht3⟩)
            · have h3 := valueBL_len hv
              have hs := HS2.out.more
              have ht : Rd wr w3 rb 276 tail r3 := ⟨ht3.rest, ⟨ht3.turns.os, ht3.turns.tape, ht3.turns.output, ht3.turns.size, ht3.turns.block⟩⟩
              refine Or.inl ⟨x, r3, lv, rfl, by omega, ?_, HS2.out.read hb0 hrb ht, own_base ho3 (show b0 ≤ wr.heap.size by omega), ?_⟩
              · show _ = _
                rw [HG4.out, colGo, hv]
              · exact (ht.turns.block w1.heap.size (Array.getElem?_eq_some_iff.1 HB2.out).1 (type_ne HB2.out HS2.out.rd (by decide))).trans HB2.out
            · refine Or.inr ⟨?_, rfl, ?_⟩
              · show _ = _
                rw [HG2.out, columnsGo, HG4.out, colGo, hn]
              · have hs := HS2.out.more
                exact HS2.out.below.trans ⟨ht3.os, ht3.tape, ht3.output, by have := HS2.out.below.size; have := ht3.size; exact Nat.le_trans this (Nat.le_refl _) , fun j hj => ht3.block j (show j < wr.heap.size by omega) (by omega)⟩
          clear HG4
          go_wp2_with fail
          go_region_dies
          all_goals refine Calls.mono HVl.out ?_
          all_goals rintro e w3 (⟨x, r3, lv, rfl, hr3, HG5, HS5, HO5, HB5⟩ | ⟨HN, rfl, HBl⟩)
          · obtain ⟨la, lc, rfl⟩ := own_form HO5.out
            have hn3 : w1.heap.size < w3.heap.size := (Array.getElem?_eq_some_iff.1 HB5.out).1
            have hb3 : b0 ≤ w3.heap.size := Nat.le_trans hb0 HS5.out.more
            have HRow : Hid (w3.ownsRow b0 56 6 (.slice va L vc) L (flatSV ((entAt sc2 i).vs.getD k []) (lvs2 i k))) := by
              have := ((HS5.out.scene.own.ents i (by have := HS5.out.scene.len; omega)).2.2 k hk).row
              rw [HSl.out, ← HL.out] at this
              exact this
            have HSa5 : Hid (BSt w (w3.alloc (.cells (svCells x (.slice la x.l.length lc)).toArray 56)) b0 rb g cap n tail sc2 sls2 lvs2 r3) := HS5.out.alloc hb0 ((Below.refl _ _).alloc (Nat.le_refl _) _)
            have k3 : w3.cell? ⟨g, i * 7 + 1 + k, none⟩ = some (.slice va L vc) := by rw [Nat.add_assoc, (HS5.out.scene.slot i k hin hk).1, HSl.out]
            simp only [svCells]
            go_wp2_with fail
            refine wpAny_ready (rs := [8]) (by kernel_rfl) (by simp) ?_
            refine AllReady.cons rfl (fun K hK => ?_) AllReady.nil
            go_simp
            refine hK _ _ ?_
            clear hK K
            refine wpAny_ready (rs := [9]) (by kernel_rfl) (by simp) ?_
            refine AllReady.cons rfl (fun K hK => ?_) AllReady.nil
            refine step_append_own_at rfl (.tmp 37) (.tmp 42) 40 rfl b0 56 i0 _ 6 72 Tryz.underlying40 hi0 hz0 hz1 hz2 rfl (by decide) (.slice va L vc) L (flatSV ((entAt sc2 i).vs.getD k []) (lvs2 i k)) (by simp [Act.eval]) (HRow.out.alloc _) ⟨w3.heap.size, 0, none⟩ 1 1 (svCells x (.slice la x.l.length lc)) (by simp [Act.eval]) rfl (new_cells (svCells x (.slice la x.l.length lc))) (svCells_one x ⟨_, _, _, rfl⟩) (by unfold maxLen; omega) (by omega) (by simp; omega) ?_
            intro v' w6 hown6 hgrow6 hv6
            obtain ⟨sa', sc', rfl⟩ := own_form hown6
            have HGr : Hid ((w3.alloc (.cells (svCells x (.slice la x.l.length lc)).toArray 56)).grownBy w6 (sls2 i k).ownBlock) := by rw [HSl.out]; exact hgrow6
            obtain ⟨c6, f6⟩ := HSa5.out.slot6 hin hk HGr.out
            rw [HSl.out] at c6
            have HP : Hid (BSt w (w6.setCell ⟨g, i * 7 + 1 + k, none⟩ (.slice sa' (L + 1) sc')) b0 rb g cap n tail (sc2.set i (pushV k x (entAt sc2 i))) (upd2 sls2 i k (.slice sa' (L + 1) sc')) (upd2 lvs2 i k (lvs2 i k ++ [.slice la x.l.length lc])) r3) := by
              show BSt _ _ _ _ _ _ _ _ _ _ _ _
              rw [Nat.add_assoc]
              refine HSa5.out.push hb0 hin hk (HO5.out.alloc _) ?_ HGr.out (by rw [HSl.out]; exact hv6)
              rw [← HL.out]; exact hown6
            have HB6 : Hid ((w6.setCell ⟨g, i * 7 + 1 + k, none⟩ (.slice sa' (L + 1) sc')).heap[w1.heap.size]? = some (.cells #[.string (mk fn), .int .i64 (fk : Int)] 135 (0, 0))) := HSa5.out.block6 hin hk HGr.out ((Below.heap_alloc _ _ _ (Array.getElem?_eq_some_iff.1 HB5.out).1).trans HB5.out)
            clear hown6 hgrow6 hv6
            refine hK _ _ ?_
            clear hK K
            refine wpAny_ready (rs := [10]) (by kernel_rfl) (by simp) ?_
            refine AllReady.cons rfl (fun K hK => ?_) AllReady.nil
            go_simp
            refine hK _ _ ?_
            clear hK K
            refine wpAny_ready (rs := [11]) (by kernel_rfl) (by simp) ?_
            refine AllReady.cons rfl (fun K hK => ?_) AllReady.nil
            go_simp
            refine hK _ _ ?_
            clear hK K
            refine wpAny_done (by kernel_rfl) ?_ _
            go_wp2_with fail
            refine ⟨⟨q + 1, sc2.set i (pushV k x (entAt sc2 i)), _, _, r3, by omega, by go_num, hr3, HG5, ?_, HB6, HP⟩, by simp [intOf]; omega⟩
            exact pushed_len HQ2.out (by rw [HS2.out.scene.len]; exact hin)
          · exact ⟨rfl, Or.inr ⟨HN.out, rfl, HBl.out⟩⟩
          · obtain ⟨la, lc, rfl⟩ := own_form HO5.out
            have hn3 : w1.heap.size < w3.heap.size := (Array.getElem?_eq_some_iff.1 HB5.out).1
            have hb3 : b0 ≤ w3.heap.size := Nat.le_trans hb0 HS5.out.more
            have HRow : Hid (w3.ownsRow b0 56 6 (.slice va L vc) L (flatSV ((entAt sc2 i).vs.getD k []) (lvs2 i k))) := by
              have := ((HS5.out.scene.own.ents i (by have := HS5.out.scene.len; omega)).2.2 k hk).row
              rw [HSl.out, ← HL.out] at this
              exact this
            have HSa5 : Hid (BSt w (w3.alloc (.cells (svCells x (.slice la x.l.length lc)).toArray 56)) b0 rb g cap n tail sc2 sls2 lvs2 r3) := HS5.out.alloc hb0 ((Below.refl _ _).alloc (Nat.le_refl _) _)
            have k3 : w3.cell? ⟨g, i * 7 + 1 + k, none⟩ = some (.slice va L vc) := by rw [Nat.add_assoc, (HS5.out.scene.slot i k hin hk).1, HSl.out]
            simp only [svCells]
            go_wp2_with fail
            refine wpAny_ready (rs := [8]) (by kernel_rfl) (by simp) ?_
            refine AllReady.cons rfl (fun K hK => ?_) AllReady.nil
            go_simp
            refine hK _ _ ?_
            clear hK K
            refine wpAny_ready (rs := [9]) (by kernel_rfl) (by simp) ?_
            refine AllReady.cons rfl (fun K hK => ?_) AllReady.nil
            refine step_append_own_at rfl (.tmp 37) (.tmp 42) 40 rfl b0 56 i0 _ 6 72 Tryz.underlying40 hi0 hz0 hz1 hz2 rfl (by decide) (.slice va L vc) L (flatSV ((entAt sc2 i).vs.getD k []) (lvs2 i k)) (by simp [Act.eval]) (HRow.out.alloc _) ⟨w3.heap.size, 0, none⟩ 1 1 (svCells x (.slice la x.l.length lc)) (by simp [Act.eval]) rfl (new_cells (svCells x (.slice la x.l.length lc))) (svCells_one x ⟨_, _, _, rfl⟩) (by unfold maxLen; omega) (by omega) (by simp; omega) ?_
            intro v' w6 hown6 hgrow6 hv6
            obtain ⟨sa', sc', rfl⟩ := own_form hown6
            have HGr : Hid ((w3.alloc (.cells (svCells x (.slice la x.l.length lc)).toArray 56)).grownBy w6 (sls2 i k).ownBlock) := by rw [HSl.out]; exact hgrow6
            obtain ⟨c6, f6⟩ := HSa5.out.slot6 hin hk HGr.out
            rw [HSl.out] at c6
            have HP : Hid (BSt w (w6.setCell ⟨g, i * 7 + 1 + k, none⟩ (.slice sa' (L + 1) sc')) b0 rb g cap n tail (sc2.set i (pushV k x (entAt sc2 i))) (upd2 sls2 i k (.slice sa' (L + 1) sc')) (upd2 lvs2 i k (lvs2 i k ++ [.slice la x.l.length lc])) r3) := by
              show BSt _ _ _ _ _ _ _ _ _ _ _ _
              rw [Nat.add_assoc]
              refine HSa5.out.push hb0 hin hk (HO5.out.alloc _) ?_ HGr.out (by rw [HSl.out]; exact hv6)
              rw [← HL.out]; exact hown6
            have HB6 : Hid ((w6.setCell ⟨g, i * 7 + 1 + k, none⟩ (.slice sa' (L + 1) sc')).heap[w1.heap.size]? = some (.cells #[.string (mk fn), .int .i64 (fk : Int)] 135 (0, 0))) := HSa5.out.block6 hin hk HGr.out ((Below.heap_alloc _ _ _ (Array.getElem?_eq_some_iff.1 HB5.out).1).trans HB5.out)
            clear hown6 hgrow6 hv6
            refine hK _ _ ?_
            clear hK K
            refine wpAny_ready (rs := [10]) (by kernel_rfl) (by simp) ?_
            refine AllReady.cons rfl (fun K hK => ?_) AllReady.nil
            go_simp
            refine hK _ _ ?_
            clear hK K
            refine wpAny_ready (rs := [11]) (by kernel_rfl) (by simp) ?_
            refine AllReady.cons rfl (fun K hK => ?_) AllReady.nil
            go_simp
            refine hK _ _ ?_
            clear hK K
            refine wpAny_done (by kernel_rfl) ?_ _
            go_wp2_with fail
            refine ⟨⟨q + 1, sc2.set i (pushV k x (entAt sc2 i)), _, _, r3, by omega, by go_num, hr3, HG5, ?_, HB6, HP⟩, by simp [intOf]; omega⟩
            exact pushed_len HQ2.out (by rw [HS2.out.scene.len]; exact hin)
          · exact ⟨rfl, Or.inr ⟨HN.out, rfl, HBl.out⟩⟩
          · obtain ⟨la, lc, rfl⟩ := own_form HO5.out
            have hn3 : w1.heap.size < w3.heap.size := (Array.getElem?_eq_some_iff.1 HB5.out).1
            have hb3 : b0 ≤ w3.heap.size := Nat.le_trans hb0 HS5.out.more
            have HRow : Hid (w3.ownsRow b0 56 6 (.slice va L vc) L (flatSV ((entAt sc2 i).vs.getD k []) (lvs2 i k))) := by
              have := ((HS5.out.scene.own.ents i (by have := HS5.out.scene.len; omega)).2.2 k hk).row
              rw [HSl.out, ← HL.out] at this
              exact this
            have HSa5 : Hid (BSt w (w3.alloc (.cells (svCells x (.slice la x.l.length lc)).toArray 56)) b0 rb g cap n tail sc2 sls2 lvs2 r3) := HS5.out.alloc hb0 ((Below.refl _ _).alloc (Nat.le_refl _) _)
            have k3 : w3.cell? ⟨g, i * 7 + 1 + k, none⟩ = some (.slice va L vc) := by rw [Nat.add_assoc, (HS5.out.scene.slot i k hin hk).1, HSl.out]
            have k3a : ∀ o, (w3.alloc o).cell? ⟨g, i * 7 + 1 + k, none⟩ = some (.slice va L vc) := fun o => by
              obtain ⟨cur, hb, _⟩ := HS5.out.scene.blk (by omega)
              exact (World.cell?_of_block (a := ⟨g, i * 7 + 1 + k, none⟩) (Below.heap_alloc _ _ _ (Array.getElem?_eq_some_iff.1 hb).1)).trans k3
            simp only [svCells]
            go_wp2_with fail
            refine wpAny_ready (rs := [3, 8]) (by kernel_rfl) (by simp) ?_
            refine AllReady.cons rfl (fun K hK => ?_) (AllReady.cons rfl (fun K hK => ?_) AllReady.nil)
            · go_simp
              refine hK _ _ ?_
              clear hK K
              refine wpAny_ready (rs := [8]) (by kernel_rfl) (by simp) ?_
              refine AllReady.cons rfl (fun K hK => ?_) AllReady.nil
              go_simp
              refine hK _ _ ?_
              clear hK K
              refine wpAny_ready (rs := [9]) (by kernel_rfl) (by simp) ?_
              refine AllReady.cons rfl (fun K hK => ?_) AllReady.nil
              refine step_append_own_at rfl (.tmp 37) (.tmp 42) 40 rfl b0 56 i0 _ 6 72 Tryz.underlying40 hi0 hz0 hz1 hz2 rfl (by decide) (.slice va L vc) L (flatSV ((entAt sc2 i).vs.getD k []) (lvs2 i k)) (by simp [Act.eval]) (HRow.out.alloc _) ⟨w3.heap.size, 0, none⟩ 1 1 (svCells x (.slice la x.l.length lc)) (by simp [Act.eval]) rfl (new_cells (svCells x (.slice la x.l.length lc))) (svCells_one x ⟨_, _, _, rfl⟩) (by unfold maxLen; omega) (by omega) (by simp; omega) ?_
              intro v' w6 hown6 hgrow6 hv6
              obtain ⟨sa', sc', rfl⟩ := own_form hown6
              have HGr : Hid ((w3.alloc (.cells (svCells x (.slice la x.l.length lc)).toArray 56)).grownBy w6 (sls2 i k).ownBlock) := by rw [HSl.out]; exact hgrow6
              obtain ⟨c6, f6⟩ := HSa5.out.slot6 hin hk HGr.out
              rw [HSl.out] at c6
              have HP : Hid (BSt w (w6.setCell ⟨g, i * 7 + 1 + k, none⟩ (.slice sa' (L + 1) sc')) b0 rb g cap n tail (sc2.set i (pushV k x (entAt sc2 i))) (upd2 sls2 i k (.slice sa' (L + 1) sc')) (upd2 lvs2 i k (lvs2 i k ++ [.slice la x.l.length lc])) r3) := by
                show BSt _ _ _ _ _ _ _ _ _ _ _ _
                rw [Nat.add_assoc]
                refine HSa5.out.push hb0 hin hk (HO5.out.alloc _) ?_ HGr.out (by rw [HSl.out]; exact hv6)
                rw [← HL.out]; exact hown6
              have HB6 : Hid ((w6.setCell ⟨g, i * 7 + 1 + k, none⟩ (.slice sa' (L + 1) sc')).heap[w1.heap.size]? = some (.cells #[.string (mk fn), .int .i64 (fk : Int)] 135 (0, 0))) := HSa5.out.block6 hin hk HGr.out ((Below.heap_alloc _ _ _ (Array.getElem?_eq_some_iff.1 HB5.out).1).trans HB5.out)
              clear hown6 hgrow6 hv6
              refine hK _ _ ?_
              clear hK K
              refine wpAny_ready (rs := [10]) (by kernel_rfl) (by simp) ?_
              refine AllReady.cons rfl (fun K hK => ?_) AllReady.nil
              go_simp
              refine hK _ _ ?_
              clear hK K
              refine wpAny_ready (rs := [11]) (by kernel_rfl) (by simp) ?_
              refine AllReady.cons rfl (fun K hK => ?_) AllReady.nil
              go_simp
              refine hK _ _ ?_
              clear hK K
              refine wpAny_done (by kernel_rfl) ?_ _
              go_wp2_with fail
              refine ⟨⟨q + 1, sc2.set i (pushV k x (entAt sc2 i)), _, _, r3, by omega, by go_num, hr3, HG5, ?_, HB6, HP⟩, by simp [intOf]; omega⟩
              exact pushed_len HQ2.out (by rw [HS2.out.scene.len]; exact hin)
            · go_simp
              refine hK _ _ ?_
              clear hK K
              refine wpAny_ready (rs := [3]) (by kernel_rfl) (by simp) ?_
              refine AllReady.cons rfl (fun K hK => ?_) AllReady.nil
              go_simp
              refine hK _ _ ?_
              clear hK K
              refine wpAny_ready (rs := [9]) (by kernel_rfl) (by simp) ?_
              refine AllReady.cons rfl (fun K hK => ?_) AllReady.nil
              refine step_append_own_at rfl (.tmp 37) (.tmp 42) 40 rfl b0 56 i0 _ 6 72 Tryz.underlying40 hi0 hz0 hz1 hz2 rfl (by decide) (.slice va L vc) L (flatSV ((entAt sc2 i).vs.getD k []) (lvs2 i k)) (by simp [Act.eval]) (HRow.out.alloc _) ⟨w3.heap.size, 0, none⟩ 1 1 (svCells x (.slice la x.l.length lc)) (by simp [Act.eval]) rfl (new_cells (svCells x (.slice la x.l.length lc))) (svCells_one x ⟨_, _, _, rfl⟩) (by unfold maxLen; omega) (by omega) (by simp; omega) ?_
              intro v' w6 hown6 hgrow6 hv6
              obtain ⟨sa', sc', rfl⟩ := own_form hown6
              have HGr : Hid ((w3.alloc (.cells (svCells x (.slice la x.l.length lc)).toArray 56)).grownBy w6 (sls2 i k).ownBlock) := by rw [HSl.out]; exact hgrow6
              obtain ⟨c6, f6⟩ := HSa5.out.slot6 hin hk HGr.out
              rw [HSl.out] at c6
              have HP : Hid (BSt w (w6.setCell ⟨g, i * 7 + 1 + k, none⟩ (.slice sa' (L + 1) sc')) b0 rb g cap n tail (sc2.set i (pushV k x (entAt sc2 i))) (upd2 sls2 i k (.slice sa' (L + 1) sc')) (upd2 lvs2 i k (lvs2 i k ++ [.slice la x.l.length lc])) r3) := by
                show BSt _ _ _ _ _ _ _ _ _ _ _ _
                rw [Nat.add_assoc]
                refine HSa5.out.push hb0 hin hk (HO5.out.alloc _) ?_ HGr.out (by rw [HSl.out]; exact hv6)
                rw [← HL.out]; exact hown6
              have HB6 : Hid ((w6.setCell ⟨g, i * 7 + 1 + k, none⟩ (.slice sa' (L + 1) sc')).heap[w1.heap.size]? = some (.cells #[.string (mk fn), .int .i64 (fk : Int)] 135 (0, 0))) := HSa5.out.block6 hin hk HGr.out ((Below.heap_alloc _ _ _ (Array.getElem?_eq_some_iff.1 HB5.out).1).trans HB5.out)
              clear hown6 hgrow6 hv6
              refine hK _ _ ?_
              clear hK K
              refine wpAny_ready (rs := [10]) (by kernel_rfl) (by simp) ?_
              refine AllReady.cons rfl (fun K hK => ?_) AllReady.nil
              go_simp
              refine hK _ _ ?_
              clear hK K
              refine wpAny_ready (rs := [11]) (by kernel_rfl) (by simp) ?_
              refine AllReady.cons rfl (fun K hK => ?_) AllReady.nil
              go_simp
              refine hK _ _ ?_
              clear hK K
              refine wpAny_done (by kernel_rfl) ?_ _
              go_wp2_with fail
              refine ⟨⟨q + 1, sc2.set i (pushV k x (entAt sc2 i)), _, _, r3, by omega, by go_num, hr3, HG5, ?_, HB6, HP⟩, by simp [intOf]; omega⟩
              exact pushed_len HQ2.out (by rw [HS2.out.scene.len]; exact hin)
          · exact ⟨rfl, Or.inr ⟨HN.out, rfl, HBl.out⟩⟩
        · obtain rfl : q = p := by omega
          have HGe : Hid (colGo k fk n who sc1 r1 = some (sc2, r2)) := by show _ = _; rw [HG3.out, List.drop_of_length_le (by rw [← HP.out]; exact Nat.le_refl _), colGo]
          go_wp2_with fail
          refine ⟨⟨f + 1, sc2, sls2, lvs2, r2, by omega, by go_num, hr2, ?_, ?_, HS2⟩, by simp [intOf]; omega⟩
          · show _ = _
            rw [HG2.out, columnsGo, HGe.out]
          · intro j hj
            have := HQ2.out j hj
            have := hwl
            omega
    · obtain rfl : f = m := by omega
      have HGe : Hid (columnsGo k n who fl sc l = some (sc1, r1)) := by show _ = _; rw [HG.out, List.drop_of_length_le (by rw [← HM.out]; exact Nat.le_refl _), columnsGo]
      go_wp2_with fail
      go_end0
      exact Or.inl ⟨sc1, r1, sls1, lvs1, HGe.out, rfl, HS.out⟩

end Go.Proofs.YthkbeaffkcfgiabGreatDoor
