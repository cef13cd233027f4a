import Derived.Test.YthkbeaffkcfgiaaGreatDoorStepA
namespace Go.Proofs.YthkbeaffkcfgiaaGreatDoor
open Go.RowKit

set_option maxHeartbeats 6400000 in
set_option maxRecDepth 20000 in
theorem step_despawn {W : World} {N b0 : Nat} {ka : Nat → Nat} {ps : List PW} {hs : List (Int × Int)} {wv hv : Value} (a b c nn : Int) (s t : List UInt8) (la : Option Addr) (ln lc : Nat) (ho : InRange (⟨3, a, b, c, nn, s, t, la, ln, lc⟩ : OpV)) (h : Inv W N b0 ka ps hs wv hv) (hgd : Good ps) (hhs : hs.length ≤ 1048576) (hps : ps.length ≤ 1048576) (hp0 : 0 < ps.length) :
    Calls Tryz.prog 18 #[.pointer (some ⟨b0, 0, none⟩), .agg #[.int .i64 3, .int .i64 a, .int .i64 b, .int .i64 c, .int .i64 nn, .string (mk s), .string (mk t), .slice la ln lc]] W fun e W' => StepEnds W N b0 ps hs e W' := by
  have HI : Hid (Inv W N b0 ka ps hs wv hv) := h
  have HG : Hid (Good ps) := hgd
  have HO : Hid (InRange (⟨3, a, b, c, nn, s, t, la, ln, lc⟩ : OpV)) := ho
  have HHs : Hid (hs.length ≤ 1048576) := hhs
  have HBg : Hid _ := begun_else b0 (W.alloc (.cells #[.int .i64 3, .int .i64 a, .int .i64 b, .int .i64 c, .int .i64 nn, .string (mk s), .string (mk t), .slice la ln lc] 27)) (⟨3, a, b, c, nn, s, t, la, ln, lc⟩ : OpV) (by show (3 : Int) ≠ 1; decide) (by show (3 : Int) ≠ 15; decide)
  obtain ⟨n, hnn⟩ : ∃ n, n = ps.length := ⟨_, rfl⟩
  have HNn : Hid (n = ps.length) := hnn
  have HRow : Hid (W.ownsRow N 45 2 wv n (pairCells ps)) := by rw [hnn]; exact h.rowW
  rw [← hnn] at hps hp0
  obtain ⟨g, sc, rfl⟩ : ∃ g c, wv = .slice (some ⟨g, 0, none⟩) n c := by
    rcases HRow.out.2 with ⟨_, h2⟩ | ⟨g, cap, cur, h, _⟩
    · omega
    · exact ⟨g, cap, h⟩
  have hg : g < W.heap.size := (HRow.out.lt g rfl).2
  have hcap : n ≤ sc := by
    rcases HRow.out.2 with ⟨h, _⟩ | ⟨g', cap, cur, h, _, _, h4, _⟩
    · simp at h
    · simp at h; omega
  have HC : Hid (∀ j (h : j < ps.length), W.cell? ⟨g, j * 2, none⟩ = some (.pointer (some ⟨ps[j].x, 0, none⟩)) ∧ W.cell? ⟨g, j * 2 + 1, none⟩ = some (.pointer (some ⟨ps[j].m, 0, none⟩))) := fun j hj => by
    have hj2 : j < n := by rw [HNn.out]; exact hj
    obtain ⟨e1, e2⟩ := pair_at ps j hj
    exact ⟨(HRow.out.cellAt (j * 2) (by omega)).trans e1, (HRow.out.cellAt (j * 2 + 1) (by omega)).trans e2⟩
  have a1 : -9223372036854775808 ≤ a := ho.a0
  have a2 : a ≤ 9223372036854775807 := ho.a1
  have hlt := h.lt
  clear h hgd hnn ho hhs
  go_enter Tryz.func18, Tryz.ntmps18
  go_wp2_with fail
  refine Calls.mono HBg.out ?_
  rintro e W1 ⟨rfl, hb1⟩
  have hB1 : Below W.heap.size W W1 := ((Below.refl _ _).alloc (Nat.le_refl _) _).trans (hb1.mono (by simp))
  have c0 := (HI.out.below hB1).c0
  have hs1 : W.heap.size < W1.heap.size := by have := hb1.size; simp at this; omega
  have HE : Hid (∀ i, W1.cell? ⟨W.heap.size, i, none⟩ = (#[.int .i64 3, .int .i64 a, .int .i64 b, .int .i64 c, .int .i64 nn, .string (mk s), .string (mk t), .slice la ln lc] : Array Value)[i]?) := fun i => (hb1.cell (p := ⟨W.heap.size, i, none⟩) (by simp)).trans (cell_at W _ 27 _ i rfl)
  have d1 : W1.cell? ⟨W.heap.size, 1, none⟩ = some (.int .i64 a) := (HE.out 1).trans rfl
  have hgW : g < W1.heap.size := by omega
  have hltW : b0 < W1.heap.size := by omega
  have HB1 : Hid (Below W.heap.size W W1) := hB1
  have HC1 : Hid (∀ j (h : j < ps.length), W1.cell? ⟨g, j * 2, none⟩ = some (.pointer (some ⟨ps[j].x, 0, none⟩)) ∧ W1.cell? ⟨g, j * 2 + 1, none⟩ = some (.pointer (some ⟨ps[j].m, 0, none⟩))) := fun j hj =>
    ⟨(hB1.cell (p := ⟨g, _, none⟩) hg).trans (HC.out j hj).1, (hB1.cell (p := ⟨g, _, none⟩) hg).trans (HC.out j hj).2⟩
  clear hb1 hB1
  go_wp2_with fail
  go_cut [7] (fun s wx => PickedAt W1 wx ps s)
  case first =>
    obtain ⟨fx, hfx⟩ : ∃ f : Nat → Nat, ∀ j (h : j < ps.length), f j = ps[j].x := ⟨fun j => (ps[j]?.map PW.x).getD 0, fun j h => by simp [h]⟩
    obtain ⟨fm, hfm⟩ : ∃ f : Nat → Nat, ∀ j (h : j < ps.length), f j = ps[j].m := ⟨fun j => (ps[j]?.map PW.m).getD 0, fun j h => by simp [h]⟩
    have KS : Hid (∀ w' : World, Below W1.heap.size W1 w' → w'.cell? ⟨b0, 0, none⟩ = some (.slice (some ⟨g, 0, none⟩) n sc) ∧ w'.cell? ⟨W.heap.size, 1, none⟩ = some (.int .i64 a) ∧ (∀ j, j < n → w'.cell? ⟨g, j * 2, none⟩ = some (.pointer (some ⟨fx j, 0, none⟩))) ∧ (∀ j, j < n → w'.cell? ⟨g, j * 2 + 1, none⟩ = some (.pointer (some ⟨fm j, 0, none⟩)))) := fun w' hb =>
      ⟨(hb.cell (p := ⟨b0, 0, none⟩) hltW).trans c0, (hb.cell (p := ⟨W.heap.size, 1, none⟩) hs1).trans d1, fun j hj => by rw [hfx j (by rw [← HNn.out]; exact hj)]; exact (hb.cell (p := ⟨g, _, none⟩) hgW).trans (HC1.out j _).1, fun j hj => by rw [hfm j (by rw [← HNn.out]; exact hj)]; exact (hb.cell (p := ⟨g, _, none⟩) hgW).trans (HC1.out j _).2⟩
    have HFX : Hid (∀ j (h : j < ps.length), f1 fx j = ps[j].x) := hfx
    have HFM : Hid (∀ j (h : j < ps.length), f1 fm j = ps[j].m) := hfm
    clear hfx hfm
    go_region_held3 (fun w' => w'.cell? ⟨b0, 0, none⟩ = some (.slice (some ⟨g, 0, none⟩) n sc) ∧ w'.cell? ⟨W.heap.size, 1, none⟩ = some (.int .i64 a) ∧ (∀ j, j < n → w'.cell? ⟨g, j * 2, none⟩ = some (.pointer (some ⟨fx j, 0, none⟩))) ∧ (∀ j, j < n → w'.cell? ⟨g, j * 2 + 1, none⟩ = some (.pointer (some ⟨fm j, 0, none⟩)))) ((refine KS.out _ ?_; first | exact (Below.refl _ _).drew | exact ((Below.refl _ _).alloc (Nat.le_refl _) _).drew | exact ((Below.refl _ _).drew.alloc (Nat.le_refl _) _))) ((go_at_call 22; refine (pick_any a n _ (by omega) (by omega) a1 a2).mono ?_; rintro e w' ⟨⟨j, hj, rfl⟩, rfl⟩))
    all_goals (try go_wp2_with fail)
    all_goals go_meet
    all_goals
      have h1 := HFX.out j (by rw [← HNn.out]; exact hj)
      have h2 := HFM.out j (by rw [← HNn.out]; exact hj)
      unfold f1 at h1 h2
      rw [h1, h2]
      exact picked_new W1 ps j (by rw [← HNn.out]; exact hj) _
  case rest =>
    obtain ⟨j, g7, hj, rfl, hg1, hg2, y0, y1, hB2⟩ := hcut
    obtain ⟨W2, rfl⟩ : ∃ W2 : World, W2 = wc := ⟨_, rfl⟩
    have hs2 : W1.heap.size ≤ W2.heap.size := hB2.size
    have HB2 : Hid (Below W.heap.size W W2) := HB1.out.trans (hB2.mono (Nat.le_of_lt hs1))
    have HE2 : Hid (∀ i, W2.cell? ⟨W.heap.size, i, none⟩ = (#[.int .i64 3, .int .i64 a, .int .i64 b, .int .i64 c, .int .i64 nn, .string (mk s), .string (mk t), .slice la ln lc] : Array Value)[i]?) := fun i => (hB2.cell (p := ⟨W.heap.size, i, none⟩) hs1).trans (HE.out i)
    have HI2 : Hid (Inv W2 N b0 ka ps hs (.slice (some ⟨g, 0, none⟩) n sc) hv) := HI.out.below HB2.out
    have e0 : W2.cell? ⟨W.heap.size, 0, none⟩ = some (.int .i64 3) := (HE2.out 0).trans rfl
    have e1 : W2.cell? ⟨W.heap.size, 1, none⟩ = some (.int .i64 a) := (HE2.out 1).trans rfl
    have e2 : W2.cell? ⟨W.heap.size, 2, none⟩ = some (.int .i64 b) := (HE2.out 2).trans rfl
    have e3 : W2.cell? ⟨W.heap.size, 3, none⟩ = some (.int .i64 c) := (HE2.out 3).trans rfl
    have e4 : W2.cell? ⟨W.heap.size, 4, none⟩ = some (.int .i64 nn) := (HE2.out 4).trans rfl
    have e5 : W2.cell? ⟨W.heap.size, 5, none⟩ = some (.string (mk s)) := (HE2.out 5).trans rfl
    have e6 : W2.cell? ⟨W.heap.size, 6, none⟩ = some (.string (mk t)) := (HE2.out 6).trans rfl
    have e7 : W2.cell? ⟨W.heap.size, 7, none⟩ = some (.slice la ln lc) := (HE2.out 7).trans rfl
    have HHa : Hid _ := handle_any (⟨3, a, b, c, nn, s, t, la, ln, lc⟩ : OpV) HO.out HI2.out HHs.out
    clear hB2 d1 c0
    go_wp2_with fail
    refine Calls.mono HHa.out ?_
    rintro e W3 ⟨⟨p, l, rfl⟩, hb3⟩
    have HI3 : Hid (Inv W3 N b0 ka ps hs (.slice (some ⟨g, 0, none⟩) n sc) hv) := HI2.out.below hb3
    have HB3 : Hid (Below W.heap.size W W3) := HB2.out.trans (hb3.mono (by omega))
    have hs3 : W2.heap.size ≤ W3.heap.size := hb3.size
    have hs03 : W.heap.size < W3.heap.size := by omega
    have hg73 : g7 < W3.heap.size := by omega
    have z0 : W3.cell? ⟨g7, 0, none⟩ = some (.pointer (some ⟨ps[j].x, 0, none⟩)) := (hb3.cell (p := ⟨g7, 0, none⟩) hg2).trans y0
    have z1 : W3.cell? ⟨g7, 1, none⟩ = some (.pointer (some ⟨ps[j].m, 0, none⟩)) := (hb3.cell (p := ⟨g7, 1, none⟩) hg2).trans y1
    have x0 : W3.cell? ⟨W.heap.size, 0, none⟩ = some (.int .i64 3) := (hb3.cell (p := ⟨W.heap.size, 0, none⟩) (by simp; omega)).trans e0
    clear hb3 e0 e1 e2 e3 e4 e5 e6 e7 y0 y1
    go_wp2_with fail
    obtain ⟨W4, hW4⟩ : ∃ W4, W4 = W3.alloc (.cells #[.int .i64 p, .int .i64 l] 48) := ⟨_, rfl⟩
    rw [← hW4]
    have hB34 : Below W3.heap.size W3 W4 := by rw [hW4]; exact (Below.refl _ _).alloc (Nat.le_refl _) _
    have w0 : W4.cell? ⟨W3.heap.size, 0, none⟩ = some (.int .i64 p) := by rw [hW4]; simp
    have w1 : W4.cell? ⟨W3.heap.size, 1, none⟩ = some (.int .i64 l) := by rw [hW4]; simp
    have hs4 : W3.heap.size < W4.heap.size := by rw [hW4]; simp
    have u0 : W4.cell? ⟨g7, 0, none⟩ = some (.pointer (some ⟨ps[j].x, 0, none⟩)) := (hB34.cell (p := ⟨g7, 0, none⟩) hg73).trans z0
    have u1 : W4.cell? ⟨g7, 1, none⟩ = some (.pointer (some ⟨ps[j].m, 0, none⟩)) := (hB34.cell (p := ⟨g7, 1, none⟩) hg73).trans z1
    have HI4 : Hid (Inv W4 N b0 ka ps hs (.slice (some ⟨g, 0, none⟩) n sc) hv) := HI3.out.below hB34
    have HB4 : Hid (Below W.heap.size W W4) := HB3.out.trans (hB34.mono (Nat.le_of_lt hs03))
    have HPd : Hid (∃ nl, ProgAt W4.drew (Fx ka j N W.heap.size) (Gx ka W.heap.size) ps[j].x nl ps[j].bx ps[j].tx) := HI.out.progOf j hj HB4.out.drew
    have hxW : ps[j].x < W.heap.size := (HI.out.each j hj).xlt
    have HMW : Hid (ps[j].m < W.heap.size) := by obtain ⟨_, _, _, hh⟩ := (HI.out.each j hj).pm; exact hh.lt
    have H3 : Hid (∀ i, ps[j].bx i ≤ 3) := (HG.out ps[j] (List.getElem_mem hj)).2.2
    have HNW : Hid (N ≤ W.heap.size) := Nat.le_trans HI.out.nb (Nat.le_of_lt HI.out.lt)
    have HNx : Hid (N ≤ ps[j].x) := (HI.out.each j hj).nx
    have HNm : Hid (N ≤ ps[j].m) := (HI.out.each j hj).nm
    clear hW4 hB34 z0 z1 x0
    have KS : Hid (∀ w' : World, w'.heap[g7]? = W4.heap[g7]? → w'.heap[W3.heap.size]? = W4.heap[W3.heap.size]? → w'.cell? ⟨g7, 0, none⟩ = some (.pointer (some ⟨ps[j].x, 0, none⟩)) ∧ w'.cell? ⟨g7, 1, none⟩ = some (.pointer (some ⟨ps[j].m, 0, none⟩)) ∧ w'.cell? ⟨W3.heap.size, 0, none⟩ = some (.int .i64 p) ∧ w'.cell? ⟨W3.heap.size, 1, none⟩ = some (.int .i64 l)) := fun w' h1 h2 =>
      ⟨(World.cell?_of_block (a := ⟨g7, 0, none⟩) h1).trans u0, (World.cell?_of_block (a := ⟨g7, 1, none⟩) h1).trans u1, (World.cell?_of_block (a := ⟨W3.heap.size, 0, none⟩) h2).trans w0, (World.cell?_of_block (a := ⟨W3.heap.size, 1, none⟩) h2).trans w1⟩
    by_cases hL : Lv ps[j].bx ps[j].tx p l
    · obtain ⟨i, hi, ht, rfl, rfl⟩ := hL
      have HT : Hid (ps[j].tx i = true) := ht
      clear ht
      have HS4 : Hid (W.heap.size ≤ W4.heap.size) := HB4.out.size
      have HFl : Hid (∀ k, Fx ka j N W.heap.size k → k < W4.heap.size) := fx_lt HS4.out
      have HX : Hid (∀ W5 : World, Turns W4 W5 (Fx ka j N W.heap.size) → W5.heap[g7]? = W4.heap[g7]? ∧ W5.heap[W3.heap.size]? = W4.heap[W3.heap.size]?) := fun W5 h5 => ⟨h5.block g7 (by omega) (fun e => by have := e.2.2; omega), h5.block _ hs4 (fun e => by have := e.2.2; omega)⟩
      have HXM : Hid (∀ W5 W6 : World, Turns W4 W5 (Fx ka j N W.heap.size) → W5.grownBy W6 (some ps[j].m) → W6.heap[g7]? = W4.heap[g7]? ∧ W6.heap[W3.heap.size]? = W4.heap[W3.heap.size]?) := fun W5 W6 h5 h6 => by
        have hmW := HMW.out
        have h5s := h5.size
        exact ⟨(h6.block g7 (by omega) (fun e => by simp at e; omega)).trans (HX.out W5 h5).1, (h6.block _ (by omega) (fun e => by simp at e; omega)).trans (HX.out W5 h5).2⟩
      go_region_held3 (fun w' => w'.cell? ⟨g7, 0, none⟩ = some (.pointer (some ⟨ps[j].x, 0, none⟩)) ∧ w'.cell? ⟨g7, 1, none⟩ = some (.pointer (some ⟨ps[j].m, 0, none⟩)) ∧ w'.cell? ⟨W3.heap.size, 0, none⟩ = some (.int .i64 ((i : Int) + 1)) ∧ w'.cell? ⟨W3.heap.size, 1, none⟩ = some (.int .i64 (ps[j].bx i : Int))) ((first | exact KS.out _ rfl rfl | exact KS.out _ (HXM.out _ _ HG5.out HG6.out).1 (HXM.out _ _ HG5.out HG6.out).2 | exact KS.out _ (HX.out _ HG5.out).1 (HX.out _ HG5.out).2)) (first | (go_at_call 26; refine (despawn_is (F := Fx ka j N W.heap.size) (G := Gx ka W.heap.size) ps[j].x i ps[j].bx ps[j].tx _ hi ?_ ?_ ?_ HT.out).mono ?_; exact HPd.out; exact HFl.out; exact fx_gx; rintro e W5 ⟨rfl, hg5, hp5⟩; have HG5 : Hid (Turns W4 W5 (Fx ka j N W.heap.size)) := ⟨hg5.os, hg5.tape, hg5.output, hg5.size, hg5.block⟩; have HP5 : Hid (∃ nl, ProgAt W5 (grow (Fx ka j N W.heap.size) W4 W5) (Gx ka W.heap.size) ps[j].x nl ps[j].bx (upd ps[j].tx i false)) := hp5; clear hg5 hp5; obtain ⟨ra, rc, rs, hR⟩ := HI.out.refOf HG.out j hj HB4.out HG5.out; have HR : Hid (RefAt W5 (Gx ka W.heap.size) ps[j].m ps[j].n ps[j].bx ps[j].tx ra rc rs) := hR; clear hR) | (go_at_call 27; refine (rdespawn_yes i _ hi HT.out HR.out).mono ?_; rintro e W6 ⟨rfl, hg6, hr6⟩; have HG6 : Hid (W5.grownBy W6 (some ps[j].m)) := hg6; have HR6 : Hid _ := hr6; clear hg6 hr6))
      all_goals (try go_wp2_with fail)
      all_goals go_ret
      all_goals
        refine ⟨rfl, _, _, hs, _, hv, HI4.out.setBoth HS4.out j hj _ _ HG5.out HP5.out HG6.out HR6.out, good_set HG.out j _ ⟨rfl, rfl, H3.out⟩, by simp, by omega, ?_⟩
        exact Below.grown (below_turns (HB4.out.mono HNW.out) (by have := HNW.out; have := HS4.out; omega) HG5.out (fun k hk => hk.2.1)) HG6.out (by have := HNW.out; have := HG5.out.size; have := HS4.out; omega) (fun k hk => by simp at hk; have := HNm.out; omega)
    · have HL : Hid (¬ Lv ps[j].bx ps[j].tx p l) := hL
      clear hL
      obtain ⟨ra, rc, rs, hR⟩ := HI.out.refOf HG.out j hj HB4.out (W5 := W4) ⟨rfl, rfl, rfl, Nat.le_refl _, fun _ _ _ => rfl⟩
      have HR : Hid (RefAt W4 (Gx ka W.heap.size) ps[j].m ps[j].n ps[j].bx ps[j].tx ra rc rs) := hR
      clear hR
      go_region_held3 (fun w' => w'.cell? ⟨g7, 0, none⟩ = some (.pointer (some ⟨ps[j].x, 0, none⟩)) ∧ w'.cell? ⟨g7, 1, none⟩ = some (.pointer (some ⟨ps[j].m, 0, none⟩)) ∧ w'.cell? ⟨W3.heap.size, 0, none⟩ = some (.int .i64 p) ∧ w'.cell? ⟨W3.heap.size, 1, none⟩ = some (.int .i64 l)) ((first | exact KS.out _ rfl rfl | exact KS.out _ (HB6.out.block g7 (by omega)) (HB6.out.block _ hs4) | exact KS.out _ (HB5.out.block g7 (by omega)) (HB5.out.block _ hs4))) (first | (go_at_call 26; refine (despawn_not ps[j].x ps[j].bx ps[j].tx p l _ ?_ HL.out).mono ?_; exact pl_of HPd.out; rintro e W5 ⟨rfl, hb5⟩; have HB5 : Hid (Below W4.heap.size W4 W5) := ⟨hb5.os, hb5.tape, hb5.output, hb5.size, hb5.block⟩; clear hb5) | (go_at_call 27; refine (rdespawn_no p l _ (HR.out.below HB5.out) HL.out).mono ?_; rintro e W6 ⟨rfl, hb6⟩; have HB6 : Hid (Below W4.heap.size W4 W6) := HB5.out.trans (hb6.mono HB5.out.size); clear hb6))
      all_goals (try go_wp2_with fail)
      all_goals go_ret
      all_goals exact StepEnds.same HI.out HG.out (HB4.out.trans (HB6.out.mono (by omega)))

end Go.Proofs.YthkbeaffkcfgiaaGreatDoor
