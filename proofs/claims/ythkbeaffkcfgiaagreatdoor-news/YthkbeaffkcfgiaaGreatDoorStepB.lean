import Derived.Test.YthkbeaffkcfgiaaGreatDoorStepA
namespace Go.Proofs.YthkbeaffkcfgiaaGreatDoor
open Go.RowKit

set_option maxHeartbeats 6400000 in
set_option maxRecDepth 20000 in
theorem step_alive {W : World} {N b0 : Nat} {ka : Nat → Nat} {ps : List PW} {hs : List (Int × Int)} {wv hv : Value} (a b c nn : Int) (s t : List UInt8) (la : Option Addr) (ln lc : Nat) (ho : InRange (⟨4, a, b, c, nn, s, t, la, ln, lc⟩ : OpV)) (h : Inv W N b0 ka ps hs wv hv) (hgd : Good ps) (hhs : hs.length ≤ 1048576) (hps : ps.length ≤ 1048576) (hp0 : 0 < ps.length) :
    Calls Tryz.prog 18 #[.pointer (some ⟨b0, 0, none⟩), .agg #[.int .i64 4, .int .i64 a, .int .i64 b, .int .i64 c, .int .i64 nn, .string (mk s), .string (mk t), .slice la ln lc]] W fun e W' => StepEnds W N b0 ps hs e W' := by
  have HI : Hid (Inv W N b0 ka ps hs wv hv) := h
  have HG : Hid (Good ps) := hgd
  have HO : Hid (InRange (⟨4, a, b, c, nn, s, t, la, ln, lc⟩ : OpV)) := ho
  have HHs : Hid (hs.length ≤ 1048576) := hhs
  have HBg : Hid _ := begun_else b0 (W.alloc (.cells #[.int .i64 4, .int .i64 a, .int .i64 b, .int .i64 c, .int .i64 nn, .string (mk s), .string (mk t), .slice la ln lc] 27)) (⟨4, a, b, c, nn, s, t, la, ln, lc⟩ : OpV) (by show (4 : Int) ≠ 1; decide) (by show (4 : Int) ≠ 15; decide)
  obtain ⟨n, hnn⟩ : ∃ n, n = ps.length := ⟨_, rfl⟩
  have HNn : Hid (n = ps.length) := hnn
  have HRow : Hid (W.ownsRow N 45 2 wv n (pairCells ps)) := by rw [hnn]; exact h.rowW
  rw [← hnn] at hps hp0
  obtain ⟨g, sc, rfl⟩ : ∃ g c, wv = .slice (some ⟨g, 0, none⟩) n c := by
    rcases HRow.out.2 with ⟨_, h2⟩ | ⟨g, cap, cur, h, _⟩
    · omega
    · exact ⟨g, cap, h⟩
  have hg : g < W.heap.size := (HRow.out.lt g rfl).2
  have hcap : n ≤ sc := by
    rcases HRow.out.2 with ⟨h, _⟩ | ⟨g', cap, cur, h, _, _, h4, _⟩
    · simp at h
    · simp at h; omega
  have HC : Hid (∀ j (h : j < ps.length), W.cell? ⟨g, j * 2, none⟩ = some (.pointer (some ⟨ps[j].x, 0, none⟩)) ∧ W.cell? ⟨g, j * 2 + 1, none⟩ = some (.pointer (some ⟨ps[j].m, 0, none⟩))) := fun j hj => by
    have hj2 : j < n := by rw [HNn.out]; exact hj
    obtain ⟨e1, e2⟩ := pair_at ps j hj
    exact ⟨(HRow.out.cellAt (j * 2) (by omega)).trans e1, (HRow.out.cellAt (j * 2 + 1) (by omega)).trans e2⟩
  have a1 : -9223372036854775808 ≤ a := ho.a0
  have a2 : a ≤ 9223372036854775807 := ho.a1
  have hlt := h.lt
  clear h hgd hnn ho hhs
  go_enter Tryz.func18, Tryz.ntmps18
  go_wp2_with fail
  refine Calls.mono HBg.out ?_
  rintro e W1 ⟨rfl, hb1⟩
  have hB1 : Below W.heap.size W W1 := ((Below.refl _ _).alloc (Nat.le_refl _) _).trans (hb1.mono (by simp))
  have c0 := (HI.out.below hB1).c0
  have hs1 : W.heap.size < W1.heap.size := by have := hb1.size; simp at this; omega
  have HE : Hid (∀ i, W1.cell? ⟨W.heap.size, i, none⟩ = (#[.int .i64 4, .int .i64 a, .int .i64 b, .int .i64 c, .int .i64 nn, .string (mk s), .string (mk t), .slice la ln lc] : Array Value)[i]?) := fun i => (hb1.cell (p := ⟨W.heap.size, i, none⟩) (by simp)).trans (cell_at W _ 27 _ i rfl)
  have d1 : W1.cell? ⟨W.heap.size, 1, none⟩ = some (.int .i64 a) := (HE.out 1).trans rfl
  have hgW : g < W1.heap.size := by omega
  have hltW : b0 < W1.heap.size := by omega
  have HB1 : Hid (Below W.heap.size W W1) := hB1
  have HC1 : Hid (∀ j (h : j < ps.length), W1.cell? ⟨g, j * 2, none⟩ = some (.pointer (some ⟨ps[j].x, 0, none⟩)) ∧ W1.cell? ⟨g, j * 2 + 1, none⟩ = some (.pointer (some ⟨ps[j].m, 0, none⟩))) := fun j hj =>
    ⟨(hB1.cell (p := ⟨g, _, none⟩) hg).trans (HC.out j hj).1, (hB1.cell (p := ⟨g, _, none⟩) hg).trans (HC.out j hj).2⟩
  clear hb1 hB1
  go_wp2_with fail
  go_cut [7] (fun s wx => PickedAt W1 wx ps s)
  case first =>
    obtain ⟨fx, hfx⟩ : ∃ f : Nat → Nat, ∀ j (h : j < ps.length), f j = ps[j].x := ⟨fun j => (ps[j]?.map PW.x).getD 0, fun j h => by simp [h]⟩
    obtain ⟨fm, hfm⟩ : ∃ f : Nat → Nat, ∀ j (h : j < ps.length), f j = ps[j].m := ⟨fun j => (ps[j]?.map PW.m).getD 0, fun j h => by simp [h]⟩
    have KS : Hid (∀ w' : World, Below W1.heap.size W1 w' → w'.cell? ⟨b0, 0, none⟩ = some (.slice (some ⟨g, 0, none⟩) n sc) ∧ w'.cell? ⟨W.heap.size, 1, none⟩ = some (.int .i64 a) ∧ (∀ j, j < n → w'.cell? ⟨g, j * 2, none⟩ = some (.pointer (some ⟨fx j, 0, none⟩))) ∧ (∀ j, j < n → w'.cell? ⟨g, j * 2 + 1, none⟩ = some (.pointer (some ⟨fm j, 0, none⟩)))) := fun w' hb =>
      ⟨(hb.cell (p := ⟨b0, 0, none⟩) hltW).trans c0, (hb.cell (p := ⟨W.heap.size, 1, none⟩) hs1).trans d1, fun j hj => by rw [hfx j (by rw [← HNn.out]; exact hj)]; exact (hb.cell (p := ⟨g, _, none⟩) hgW).trans (HC1.out j _).1, fun j hj => by rw [hfm j (by rw [← HNn.out]; exact hj)]; exact (hb.cell (p := ⟨g, _, none⟩) hgW).trans (HC1.out j _).2⟩
    have HFX : Hid (∀ j (h : j < ps.length), f1 fx j = ps[j].x) := hfx
    have HFM : Hid (∀ j (h : j < ps.length), f1 fm j = ps[j].m) := hfm
    clear hfx hfm
    go_region_held3 (fun w' => w'.cell? ⟨b0, 0, none⟩ = some (.slice (some ⟨g, 0, none⟩) n sc) ∧ w'.cell? ⟨W.heap.size, 1, none⟩ = some (.int .i64 a) ∧ (∀ j, j < n → w'.cell? ⟨g, j * 2, none⟩ = some (.pointer (some ⟨fx j, 0, none⟩))) ∧ (∀ j, j < n → w'.cell? ⟨g, j * 2 + 1, none⟩ = some (.pointer (some ⟨fm j, 0, none⟩)))) ((refine KS.out _ ?_; first | exact (Below.refl _ _).drew | exact ((Below.refl _ _).alloc (Nat.le_refl _) _).drew | exact ((Below.refl _ _).drew.alloc (Nat.le_refl _) _))) ((go_at_call 22; refine (pick_any a n _ (by omega) (by omega) a1 a2).mono ?_; rintro e w' ⟨⟨j, hj, rfl⟩, rfl⟩))
    all_goals (try go_wp2_with fail)
    all_goals go_meet
    all_goals
      have h1 := HFX.out j (by rw [← HNn.out]; exact hj)
      have h2 := HFM.out j (by rw [← HNn.out]; exact hj)
      unfold f1 at h1 h2
      rw [h1, h2]
      exact picked_new W1 ps j (by rw [← HNn.out]; exact hj) _
  case rest =>
    obtain ⟨j, g7, hj, rfl, hg1, hg2, y0, y1, hB2⟩ := hcut
    obtain ⟨W2, rfl⟩ : ∃ W2 : World, W2 = wc := ⟨_, rfl⟩
    have hs2 : W1.heap.size ≤ W2.heap.size := hB2.size
    have HB2 : Hid (Below W.heap.size W W2) := HB1.out.trans (hB2.mono (Nat.le_of_lt hs1))
    have HE2 : Hid (∀ i, W2.cell? ⟨W.heap.size, i, none⟩ = (#[.int .i64 4, .int .i64 a, .int .i64 b, .int .i64 c, .int .i64 nn, .string (mk s), .string (mk t), .slice la ln lc] : Array Value)[i]?) := fun i => (hB2.cell (p := ⟨W.heap.size, i, none⟩) hs1).trans (HE.out i)
    have HI2 : Hid (Inv W2 N b0 ka ps hs (.slice (some ⟨g, 0, none⟩) n sc) hv) := HI.out.below HB2.out
    have e0 : W2.cell? ⟨W.heap.size, 0, none⟩ = some (.int .i64 4) := (HE2.out 0).trans rfl
    have e1 : W2.cell? ⟨W.heap.size, 1, none⟩ = some (.int .i64 a) := (HE2.out 1).trans rfl
    have e2 : W2.cell? ⟨W.heap.size, 2, none⟩ = some (.int .i64 b) := (HE2.out 2).trans rfl
    have e3 : W2.cell? ⟨W.heap.size, 3, none⟩ = some (.int .i64 c) := (HE2.out 3).trans rfl
    have e4 : W2.cell? ⟨W.heap.size, 4, none⟩ = some (.int .i64 nn) := (HE2.out 4).trans rfl
    have e5 : W2.cell? ⟨W.heap.size, 5, none⟩ = some (.string (mk s)) := (HE2.out 5).trans rfl
    have e6 : W2.cell? ⟨W.heap.size, 6, none⟩ = some (.string (mk t)) := (HE2.out 6).trans rfl
    have e7 : W2.cell? ⟨W.heap.size, 7, none⟩ = some (.slice la ln lc) := (HE2.out 7).trans rfl
    have HHa : Hid _ := handle_any (⟨4, a, b, c, nn, s, t, la, ln, lc⟩ : OpV) HO.out HI2.out HHs.out
    clear hB2 d1 c0
    go_wp2_with fail
    refine Calls.mono HHa.out ?_
    rintro e W3 ⟨⟨p, l, rfl⟩, hb3⟩
    have HI3 : Hid (Inv W3 N b0 ka ps hs (.slice (some ⟨g, 0, none⟩) n sc) hv) := HI2.out.below hb3
    have HB3 : Hid (Below W.heap.size W W3) := HB2.out.trans (hb3.mono (by omega))
    have hs3 : W2.heap.size ≤ W3.heap.size := hb3.size
    have hs03 : W.heap.size < W3.heap.size := by omega
    have hg73 : g7 < W3.heap.size := by omega
    have z0 : W3.cell? ⟨g7, 0, none⟩ = some (.pointer (some ⟨ps[j].x, 0, none⟩)) := (hb3.cell (p := ⟨g7, 0, none⟩) hg2).trans y0
    have z1 : W3.cell? ⟨g7, 1, none⟩ = some (.pointer (some ⟨ps[j].m, 0, none⟩)) := (hb3.cell (p := ⟨g7, 1, none⟩) hg2).trans y1
    have x0 : W3.cell? ⟨W.heap.size, 0, none⟩ = some (.int .i64 4) := (hb3.cell (p := ⟨W.heap.size, 0, none⟩) (by simp; omega)).trans e0
    clear hb3 e0 e1 e2 e3 e4 e5 e6 e7 y0 y1
    go_wp2_with fail
    obtain ⟨W4, hW4⟩ : ∃ W4, W4 = W3.alloc (.cells #[.int .i64 p, .int .i64 l] 48) := ⟨_, rfl⟩
    rw [← hW4]
    have hB34 : Below W3.heap.size W3 W4 := by rw [hW4]; exact (Below.refl _ _).alloc (Nat.le_refl _) _
    have w0 : W4.cell? ⟨W3.heap.size, 0, none⟩ = some (.int .i64 p) := by rw [hW4]; simp
    have w1 : W4.cell? ⟨W3.heap.size, 1, none⟩ = some (.int .i64 l) := by rw [hW4]; simp
    have hs4 : W3.heap.size < W4.heap.size := by rw [hW4]; simp
    have u0 : W4.cell? ⟨g7, 0, none⟩ = some (.pointer (some ⟨ps[j].x, 0, none⟩)) := (hB34.cell (p := ⟨g7, 0, none⟩) hg73).trans z0
    have u1 : W4.cell? ⟨g7, 1, none⟩ = some (.pointer (some ⟨ps[j].m, 0, none⟩)) := (hB34.cell (p := ⟨g7, 1, none⟩) hg73).trans z1
    have HI4 : Hid (Inv W4 N b0 ka ps hs (.slice (some ⟨g, 0, none⟩) n sc) hv) := HI3.out.below hB34
    have HB4 : Hid (Below W.heap.size W W4) := HB3.out.trans (hB34.mono (Nat.le_of_lt hs03))
    have HPd : Hid (∃ nl, ProgAt W4.drew (Fx ka j N W.heap.size) (Gx ka W.heap.size) ps[j].x nl ps[j].bx ps[j].tx) := HI.out.progOf j hj HB4.out.drew
    have hxW : ps[j].x < W.heap.size := (HI.out.each j hj).xlt
    have HMW : Hid (ps[j].m < W.heap.size) := by obtain ⟨_, _, _, hh⟩ := (HI.out.each j hj).pm; exact hh.lt
    have H3 : Hid (∀ i, ps[j].bx i ≤ 3) := (HG.out ps[j] (List.getElem_mem hj)).2.2
    have HNW : Hid (N ≤ W.heap.size) := Nat.le_trans HI.out.nb (Nat.le_of_lt HI.out.lt)
    have HNx : Hid (N ≤ ps[j].x) := (HI.out.each j hj).nx
    have HNm : Hid (N ≤ ps[j].m) := (HI.out.each j hj).nm
    clear hW4 hB34 z0 z1 x0
    obtain ⟨ra, rc, rs, hR⟩ := HI.out.refOf HG.out j hj HB4.out (W5 := W4) ⟨rfl, rfl, rfl, Nat.le_refl _, fun _ _ _ => rfl⟩
    have HR : Hid (RefAt W4 (Gx ka W.heap.size) ps[j].m ps[j].n ps[j].bx ps[j].tx ra rc rs) := hR
    have KS : Hid (∀ w' : World, Below W4.heap.size W4 w' → w'.cell? ⟨g7, 0, none⟩ = some (.pointer (some ⟨ps[j].x, 0, none⟩)) ∧ w'.cell? ⟨g7, 1, none⟩ = some (.pointer (some ⟨ps[j].m, 0, none⟩)) ∧ w'.cell? ⟨W3.heap.size, 0, none⟩ = some (.int .i64 p) ∧ w'.cell? ⟨W3.heap.size, 1, none⟩ = some (.int .i64 l)) := fun w' hb =>
      ⟨(hb.cell (p := ⟨g7, 0, none⟩) (by simp; omega)).trans u0, (hb.cell (p := ⟨g7, 1, none⟩) (by simp; omega)).trans u1, (hb.cell (p := ⟨W3.heap.size, 0, none⟩) hs4).trans w0, (hb.cell (p := ⟨W3.heap.size, 1, none⟩) hs4).trans w1⟩
    clear hR
    by_cases hL : Lv ps[j].bx ps[j].tx p l
    · have HL : Hid (Lv ps[j].bx ps[j].tx p l) := hL
      have HLt : Hid (true = true ↔ Lv ps[j].bx ps[j].tx p l) := by show _ ↔ _; simp [hL]
      clear hL
      go_region_held3 (fun w' => w'.cell? ⟨g7, 0, none⟩ = some (.pointer (some ⟨ps[j].x, 0, none⟩)) ∧ w'.cell? ⟨g7, 1, none⟩ = some (.pointer (some ⟨ps[j].m, 0, none⟩)) ∧ w'.cell? ⟨W3.heap.size, 0, none⟩ = some (.int .i64 p) ∧ w'.cell? ⟨W3.heap.size, 1, none⟩ = some (.int .i64 l)) ((refine KS.out _ ?_; first | exact (Below.refl _ _).drew | exact HB6.out | exact HB5.out)) (first | (go_at_call 28; refine (alive_is ps[j].x ps[j].bx ps[j].tx p l _ true HLt.out ?_).mono ?_; exact pl_of HPd.out; rintro e W5 ⟨rfl, hb5⟩; have HB5 : Hid (Below W4.heap.size W4 W5) := ⟨hb5.os, hb5.tape, hb5.output, hb5.size, hb5.block⟩; clear hb5) | (go_at_call 29; refine (get_yes p l _ HL.out (HR.out.below HB5.out)).mono ?_; rintro e W6 ⟨⟨aa, rfl⟩, hb6⟩; have HB6 : Hid (Below W4.heap.size W4 W6) := HB5.out.trans (hb6.mono HB5.out.size); clear hb6))
      all_goals (try go_wp2_with fail)
      all_goals go_ret
      all_goals exact StepEnds.same HI.out HG.out (HB4.out.trans (HB6.out.mono (by omega)))
    · have HL : Hid (¬ Lv ps[j].bx ps[j].tx p l) := hL
      have HLt : Hid (false = true ↔ Lv ps[j].bx ps[j].tx p l) := by show _ ↔ _; simp [hL]
      clear hL
      go_region_held3 (fun w' => w'.cell? ⟨g7, 0, none⟩ = some (.pointer (some ⟨ps[j].x, 0, none⟩)) ∧ w'.cell? ⟨g7, 1, none⟩ = some (.pointer (some ⟨ps[j].m, 0, none⟩)) ∧ w'.cell? ⟨W3.heap.size, 0, none⟩ = some (.int .i64 p) ∧ w'.cell? ⟨W3.heap.size, 1, none⟩ = some (.int .i64 l)) ((refine KS.out _ ?_; first | exact (Below.refl _ _).drew | exact HB6.out | exact HB5.out)) (first | (go_at_call 28; refine (alive_is ps[j].x ps[j].bx ps[j].tx p l _ false HLt.out ?_).mono ?_; exact pl_of HPd.out; rintro e W5 ⟨rfl, hb5⟩; have HB5 : Hid (Below W4.heap.size W4 W5) := ⟨hb5.os, hb5.tape, hb5.output, hb5.size, hb5.block⟩; clear hb5) | (go_at_call 29; refine (get_no p l _ HL.out (HR.out.below HB5.out)).mono ?_; rintro e W6 ⟨rfl, hb6⟩; have HB6 : Hid (Below W4.heap.size W4 W6) := HB5.out.trans (hb6.mono HB5.out.size); clear hb6))
      all_goals (try go_wp2_with fail)
      all_goals go_ret
      all_goals exact StepEnds.same HI.out HG.out (HB4.out.trans (HB6.out.mono (by omega)))

end Go.Proofs.YthkbeaffkcfgiaaGreatDoor
