import Derived.Test.YthkbeaffkcfgiaaGreatDoorStep
import Derived.Deep.RegionHeld3
namespace Go.Proofs.YthkbeaffkcfgiaaGreatDoor
open Go.RowKit

def f1 (f : Nat → Nat) (j : Nat) : Nat := f j

/-- Which pair was picked, and where the copy of it lies. -/
def PickedAt (W1 wx : World) (ps : List PW) (s : Value) : Prop :=
  ∃ j g7, ∃ h : j < ps.length, s = .pointer (some ⟨g7, 0, none⟩) ∧ W1.heap.size ≤ g7 ∧ g7 < wx.heap.size ∧ wx.cell? ⟨g7, 0, none⟩ = some (.pointer (some ⟨ps[j].x, 0, none⟩)) ∧ wx.cell? ⟨g7, 1, none⟩ = some (.pointer (some ⟨ps[j].m, 0, none⟩)) ∧ Below W1.heap.size W1 wx

theorem picked_new (W1 : World) (ps : List PW) (j : Nat) (h : j < ps.length) (t : TypeId) : PickedAt W1 (W1.alloc (.cells #[.pointer (some ⟨ps[j].x, 0, none⟩), .pointer (some ⟨ps[j].m, 0, none⟩)] t)).drew ps (.pointer (some ⟨W1.heap.size, 0, none⟩)) := by
  refine ⟨j, W1.heap.size, h, rfl, Nat.le_refl _, by simp [World.drew], ?_, ?_, ((Below.refl _ _).alloc (Nat.le_refl _) _).drew⟩
  · exact (cell_at _ _ _ _ _ rfl).trans (by simp)
  · exact (cell_at _ _ _ _ _ rfl).trans (by simp)

theorem alive_is (b : Nat) (bg : Nat → Nat) (tk : Nat → Bool) (hp hl : Int) (w : World) (r : Bool) (hr : r = true ↔ Lv bg tk hp hl) (hP : ∃ cp, PlacesAt w b bg tk cp) :
    Calls Tryz.prog 28 #[.pointer (some ⟨b, 0, none⟩), .agg #[.int .i64 hp, .int .i64 hl]] w fun e w' => e = .returned (.bool r) ∧ Below w.heap.size w w' := by
  obtain ⟨cp, hP⟩ := hP
  refine (alive_any b bg tk cp hp hl w hP).mono ?_
  rintro e w' ⟨⟨q, rfl, hq⟩, hb⟩
  have : q = r := by
    cases q <;> cases r <;> simp_all
  exact ⟨by rw [this], hb⟩

theorem get_yes {F : Nat → Prop} {m n : Nat} {bg : Nat → Nat} {tk : Nat → Bool} {la : Option Addr} {lc : Nat} {ls : List (Nat × Nat)} (hp hl : Int) (w : World) (hL : Lv bg tk hp hl) (hR : RefAt w F m n bg tk la lc ls) :
    Calls Tryz.prog 29 #[.pointer (some ⟨m, 0, none⟩), .agg #[.int .i64 hp, .int .i64 hl]] w fun e w' => (∃ a, e = .returned (.pointer (some a))) ∧ Below w.heap.size w w' := by
  refine (get_any hp hl w hR).mono ?_
  rintro e w' ⟨h | h, hb⟩
  · exact ⟨h.2, hb⟩
  · exact absurd hL h.1

theorem get_no {F : Nat → Prop} {m n : Nat} {bg : Nat → Nat} {tk : Nat → Bool} {la : Option Addr} {lc : Nat} {ls : List (Nat × Nat)} (hp hl : Int) (w : World) (hL : ¬ Lv bg tk hp hl) (hR : RefAt w F m n bg tk la lc ls) :
    Calls Tryz.prog 29 #[.pointer (some ⟨m, 0, none⟩), .agg #[.int .i64 hp, .int .i64 hl]] w fun e w' => e = .returned (.pointer none) ∧ Below w.heap.size w w' := by
  refine (get_any hp hl w hR).mono ?_
  rintro e w' ⟨h | h, hb⟩
  · exact absurd h.1 hL
  · exact ⟨h.2, hb⟩

theorem below_re {B : Nat} {w w' w'' : World} (h : Below B w w') (h1 : w''.os = w.os) (h2 : w''.tape = w.tape) (h3 : w''.output = w.output) (h4 : w''.heap = w.heap) : Below B w'' w' :=
  ⟨h.os.trans h1.symm, h.tape.trans h2.symm, h.output.trans h3.symm, by rw [h4]; exact h.size, fun k hk => by rw [h4]; exact h.block k hk⟩

theorem grown_re {r : Option Nat} {w w' w'' : World} (h : w.grownBy w' r) (h1 : w''.os = w.os) (h2 : w''.tape = w.tape) (h3 : w''.output = w.output) (h4 : w''.heap = w.heap) : w''.grownBy w' r :=
  ⟨h.os.trans h1.symm, h.tape.trans h2.symm, h.output.trans h3.symm, by rw [h4]; exact h.size, fun k hk hne => by rw [h4] at hk ⊢; exact h.block k hk hne⟩

/-- Labels behind a step of both worlds of pair j: what the program's call made is its world's, what came behind it is written no more. -/
def ext3 (ka : Nat → Nat) (W W5 : World) (j : Nat) : Nat → Nat := fun b => if b < W.heap.size then ka b else if b < W5.heap.size then 10 + 2 * j else 4
theorem ext3_old {ka : Nat → Nat} {W W5 : World} {j b : Nat} (h : b < W.heap.size) : ext3 ka W W5 j b = ka b := by unfold ext3; rw [if_pos h]

/-- Both worlds of pair j have turned, the program's first. -/
theorem Inv.setBoth {W W5 W6 : World} {N b0 S : Nat} {ka : Nat → Nat} {ps : List PW} {hs : List (Int × Int)} {wv hv : Value} (h : Inv W N b0 ka ps hs wv hv) (hS : S ≤ W.heap.size) (j : Nat) (hj : j < ps.length) (bg : Nat → Nat) (tk : Nat → Bool)
    (hg1 : Turns W W5 (Fx ka j N S)) (hp : ∃ nl, ProgAt W5 (grow (Fx ka j N S) W W5) (Gx ka S) ps[j].x nl bg tk) (hg2 : W5.grownBy W6 (some ps[j].m)) (hr : ∃ la lc ls, RefAt W6 (grow (Gx ka S) W5 W6) ps[j].m ps[j].n bg tk la lc ls) :
    Inv W6 N b0 (ext3 ka W W5 j) (ps.set j ⟨ps[j].x, ps[j].m, ps[j].n, bg, tk, bg, tk⟩) hs wv hv := by
  have hP := h.each j hj
  obtain ⟨la0, lc0, ls0, hm0⟩ := hP.pm
  obtain ⟨nl, hp⟩ := hp
  have hmW := hm0.lt
  have hxW := hP.xlt
  have hs1 := hg1.size
  have hs2 := hg2.size
  have hNW : N ≤ W.heap.size := Nat.le_trans h.nb (Nat.le_of_lt h.lt)
  have hkm := hP.km
  have hm6 : ∀ b, b < W5.heap.size → b ≠ ps[j].m → W6.heap[b]? = W5.heap[b]? := fun b hb hn => hg2.block b hb (fun e => hn (by simpa using e))
  have hbl : ∀ b, b < W.heap.size → ka b ≠ 10 + 2 * j → ka b ≠ 11 + 2 * j → W6.heap[b]? = W.heap[b]? := fun b hb hk1 hk2 =>
    (hm6 b (by omega) (fun e => hk2 (by rw [e]; exact hkm))).trans (hg1.block b hb (fun hF => hk1 hF.1))
  refine h.update j hj _ rfl rfl (Nat.le_trans hs1 hs2) (fun _ hb => ext3_old hb) hbl ?_
  obtain ⟨la, lc, ls, hm⟩ := hr
  refine ⟨⟨nl, hp.turn hs2 (fun k hk hkl => ?_) (fun k hk hkl => ⟨hm6 k hkl (fun e => by have := hk.1; rw [e, hkm] at this; omega), (ext3_old (by have := hk.2; omega)).trans hk.1, by have := hk.2; omega⟩)⟩, ⟨la, lc, ls, ?_⟩, (ext3_old hmW).trans hP.km, hP.nm⟩
  · rcases hk with h1 | h1
    · exact ⟨hm6 k hkl (fun e => by have := h1.1; rw [e, hkm] at this; omega), (ext3_old (by have := h1.2.2; omega)).trans h1.1, h1.2.1, by omega⟩
    · exact ⟨hm6 k hkl (by omega), by unfold ext3; rw [if_neg (by omega), if_pos h1.2], by omega, by omega⟩
  · refine hm.turn (Nat.le_refl _) rfl (fun k hk hkl => ⟨rfl, ?_⟩) ?_
    · show ext3 ka W W5 j k = 4
      rcases hk with h1 | h1
      · rw [ext3_old (by have := h1.2; omega)]; exact h1.1
      · unfold ext3; rw [if_neg (by omega), if_neg (by omega)]
    · intro h4
      have h5 : ext3 ka W W5 j ps[j].m = 4 := h4
      rw [ext3_old hmW, hP.km] at h5
      omega

/-- The document's world of pair j where only the program's has turned. -/
theorem Inv.refOf {W0 W W5 : World} {N b0 : Nat} {ka : Nat → Nat} {ps : List PW} {hs : List (Int × Int)} {wv hv : Value} (h : Inv W0 N b0 ka ps hs wv hv) (hgd : Good ps) (j : Nat) (hj : j < ps.length) (hB : Below W0.heap.size W0 W) (hg1 : Turns W W5 (Fx ka j N W0.heap.size)) :
    ∃ la lc ls, RefAt W5 (Gx ka W0.heap.size) ps[j].m ps[j].n ps[j].bx ps[j].tx la lc ls := by
  have hP := h.each j hj
  obtain ⟨la, lc, ls, hm⟩ := hP.pm
  obtain ⟨e1, e2, _⟩ := hgd ps[j] (List.getElem_mem hj)
  rw [e1, e2] at hm
  have hs0 := hB.size
  have hs1 := hg1.size
  have hbl : ∀ b, b < W0.heap.size → ka b ≠ 10 + 2 * j → W5.heap[b]? = W0.heap[b]? := fun b hb hk => (hg1.block b (by omega) (fun hF => hk hF.1)).trans (hB.block b hb)
  exact ⟨la, lc, ls, hm.turn (by omega) (hbl _ hm.lt (by have := hP.km; omega)) (fun k hk hkl => ⟨hbl k hkl (by have : ka k = 4 := hk; omega), hk, hkl⟩) (fun h4 => by have h5 := h4.1; rw [hP.km] at h5; omega)⟩

theorem Inv.progOf {W0 W : World} {N b0 : Nat} {ka : Nat → Nat} {ps : List PW} {hs : List (Int × Int)} {wv hv : Value} (h : Inv W0 N b0 ka ps hs wv hv) (j : Nat) (hj : j < ps.length) (hB : Below W0.heap.size W0 W) :
    ∃ nl, ProgAt W (Fx ka j N W0.heap.size) (Gx ka W0.heap.size) ps[j].x nl ps[j].bx ps[j].tx := by
  obtain ⟨nl, hp⟩ := (h.each j hj).px
  exact ⟨nl, hp.below hB⟩

theorem pl_of {W : World} {F G : Nat → Prop} {x : Nat} {bg : Nat → Nat} {tk : Nat → Bool} (h : ∃ nl, ProgAt W F G x nl bg tk) : ∃ cp, PlacesAt W x bg tk cp := by
  obtain ⟨nl, h⟩ := h
  obtain ⟨cp, hp, _⟩ := h.places
  exact ⟨cp, hp⟩

theorem despawn_is {F G : Nat → Prop} (x i : Nat) (bg : Nat → Nat) (tk : Nat → Bool) (w : World) (hi : i < 20) (hP : ∃ nl, ProgAt w F G x nl bg tk) (hFl : ∀ k, F k → k < w.heap.size) (hFG : ∀ k, G k → ¬ F k) (ht : tk i = true) :
    Calls Tryz.prog 26 #[.pointer (some ⟨x, 0, none⟩), .agg #[.int .i64 ((i : Int) + 1), .int .i64 (bg i : Int)]] w fun e w' => e = .returned (.int .i64 0) ∧ Turns w w' F ∧ ∃ nl, ProgAt w' (grow F w w') G x nl bg (upd tk i false) := by
  obtain ⟨nl, hP⟩ := hP
  exact (despawn_yes x nl i bg tk w hi hP hFl hFG ht).mono fun e w' h => ⟨h.1, h.2.1, nl, h.2.2⟩

theorem despawn_not (x : Nat) (bg : Nat → Nat) (tk : Nat → Bool) (hp hl : Int) (w : World) (hP : ∃ cp, PlacesAt w x bg tk cp) (hN : ¬ Lv bg tk hp hl) :
    Calls Tryz.prog 26 #[.pointer (some ⟨x, 0, none⟩), .agg #[.int .i64 hp, .int .i64 hl]] w fun e w' => e = .returned (.int .i64 3) ∧ Below w.heap.size w w' := by
  obtain ⟨cp, hP⟩ := hP
  exact despawn_no x bg tk cp hp hl w hP hN

theorem below_turns {N : Nat} {W W4 W5 : World} {F : Nat → Prop} (h : Below N W W4) (hN : N ≤ W4.heap.size) (ht : Turns W4 W5 F) (hF : ∀ k, F k → N ≤ k) : Below N W W5 :=
  h.trans ⟨ht.os, ht.tape, ht.output, ht.size, fun k hk => ht.block k (by omega) (fun hf => by have := hF k hf; omega)⟩

theorem fx_lt {ka : Nat → Nat} {j N S : Nat} {W : World} (hS : S ≤ W.heap.size) : ∀ k, Fx ka j N S k → k < W.heap.size := fun _ h => Nat.lt_of_lt_of_le h.2.2 hS
theorem fx_gx {ka : Nat → Nat} {j N S : Nat} : ∀ k, Gx ka S k → ¬ Fx ka j N S k := fun k h1 h2 => by have := h1.1; have := h2.1; omega

theorem turns_none {W W' : World} {F : Nat → Prop} (h : Below W.heap.size W W') : Turns W W' F := Turns.ofBelow F h

theorem grown_cell {W W' : World} {x b i : Nat} (hg : W.grownBy W' (some x)) (hb : b < W.heap.size) (hne : b ≠ x) : W'.cell? ⟨b, i, none⟩ = W.cell? ⟨b, i, none⟩ :=
  World.cell?_of_block (a := ⟨b, i, none⟩) (hg.block b hb (fun e => hne (by simpa using e)))

theorem good_set {ps : List PW} (h : Good ps) (j : Nat) (P : PW) (hP : P.bm = P.bx ∧ P.tm = P.tx ∧ ∀ i, P.bx i ≤ 3) : Good (ps.set j P) := by
  intro Q hQ
  rcases List.mem_or_eq_of_mem_set hQ with h1 | h1
  · exact h Q h1
  · subst h1; exact hP

set_option maxHeartbeats 6400000 in
set_option maxRecDepth 20000 in
theorem step_zero {W : World} {N b0 : Nat} {ka : Nat → Nat} {ps : List PW} {hs : List (Int × Int)} {wv hv : Value} (kd : Int) (a b c nn : Int) (s t : List UInt8) (la : Option Addr) (ln lc : Nat) (ho : InRange (⟨kd, a, b, c, nn, s, t, la, ln, lc⟩ : OpV)) (h : Inv W N b0 ka ps hs wv hv) (hgd : Good ps) (hhs : hs.length ≤ 1048576) (hps : ps.length ≤ 1048576) (hp0 : 0 < ps.length) (hk : kd ≤ 0) :
    Calls Tryz.prog 18 #[.pointer (some ⟨b0, 0, none⟩), .agg #[.int .i64 kd, .int .i64 a, .int .i64 b, .int .i64 c, .int .i64 nn, .string (mk s), .string (mk t), .slice la ln lc]] W fun e W' => StepEnds W N b0 ps hs e W' := by
  have HI : Hid (Inv W N b0 ka ps hs wv hv) := h
  have HG : Hid (Good ps) := hgd
  have HO : Hid (InRange (⟨kd, a, b, c, nn, s, t, la, ln, lc⟩ : OpV)) := ho
  have HHs : Hid (hs.length ≤ 1048576) := hhs
  have HBg : Hid _ := begun_else b0 (W.alloc (.cells #[.int .i64 kd, .int .i64 a, .int .i64 b, .int .i64 c, .int .i64 nn, .string (mk s), .string (mk t), .slice la ln lc] 27)) (⟨kd, a, b, c, nn, s, t, la, ln, lc⟩ : OpV) (by show kd ≠ 1; omega) (by show kd ≠ 15; omega)
  obtain ⟨n, hnn⟩ : ∃ n, n = ps.length := ⟨_, rfl⟩
  have HNn : Hid (n = ps.length) := hnn
  have HRow : Hid (W.ownsRow N 45 2 wv n (pairCells ps)) := by rw [hnn]; exact h.rowW
  rw [← hnn] at hps hp0
  obtain ⟨g, sc, rfl⟩ : ∃ g c, wv = .slice (some ⟨g, 0, none⟩) n c := by
    rcases HRow.out.2 with ⟨_, h2⟩ | ⟨g, cap, cur, h, _⟩
    · omega
    · exact ⟨g, cap, h⟩
  have hg : g < W.heap.size := (HRow.out.lt g rfl).2
  have hcap : n ≤ sc := by
    rcases HRow.out.2 with ⟨h, _⟩ | ⟨g', cap, cur, h, _, _, h4, _⟩
    · simp at h
    · simp at h; omega
  have HC : Hid (∀ j (h : j < ps.length), W.cell? ⟨g, j * 2, none⟩ = some (.pointer (some ⟨ps[j].x, 0, none⟩)) ∧ W.cell? ⟨g, j * 2 + 1, none⟩ = some (.pointer (some ⟨ps[j].m, 0, none⟩))) := fun j hj => by
    have hj2 : j < n := by rw [HNn.out]; exact hj
    obtain ⟨e1, e2⟩ := pair_at ps j hj
    exact ⟨(HRow.out.cellAt (j * 2) (by omega)).trans e1, (HRow.out.cellAt (j * 2 + 1) (by omega)).trans e2⟩
  have a1 : -9223372036854775808 ≤ a := ho.a0
  have a2 : a ≤ 9223372036854775807 := ho.a1
  have hlt := h.lt
  have k2 : (kd == 2) = false := by rw [beq_eq_false_iff_ne]; omega
  have k3 : (kd == 3) = false := by rw [beq_eq_false_iff_ne]; omega
  have k4 : (kd == 4) = false := by rw [beq_eq_false_iff_ne]; omega
  have k5 : (kd == 5) = false := by rw [beq_eq_false_iff_ne]; omega
  have k6 : (kd == 6) = false := by rw [beq_eq_false_iff_ne]; omega
  have k7 : (kd == 7) = false := by rw [beq_eq_false_iff_ne]; omega
  have k8 : (kd == 8) = false := by rw [beq_eq_false_iff_ne]; omega
  clear h hgd hnn ho hhs
  go_enter Tryz.func18, Tryz.ntmps18
  go_wp2_with fail
  refine Calls.mono HBg.out ?_
  rintro e W1 ⟨rfl, hb1⟩
  have hB1 : Below W.heap.size W W1 := ((Below.refl _ _).alloc (Nat.le_refl _) _).trans (hb1.mono (by simp))
  have c0 := (HI.out.below hB1).c0
  have hs1 : W.heap.size < W1.heap.size := by have := hb1.size; simp at this; omega
  have HE : Hid (∀ i, W1.cell? ⟨W.heap.size, i, none⟩ = (#[.int .i64 kd, .int .i64 a, .int .i64 b, .int .i64 c, .int .i64 nn, .string (mk s), .string (mk t), .slice la ln lc] : Array Value)[i]?) := fun i => (hb1.cell (p := ⟨W.heap.size, i, none⟩) (by simp)).trans (cell_at W _ 27 _ i rfl)
  have d1 : W1.cell? ⟨W.heap.size, 1, none⟩ = some (.int .i64 a) := (HE.out 1).trans rfl
  have hgW : g < W1.heap.size := by omega
  have hltW : b0 < W1.heap.size := by omega
  have HB1 : Hid (Below W.heap.size W W1) := hB1
  have HC1 : Hid (∀ j (h : j < ps.length), W1.cell? ⟨g, j * 2, none⟩ = some (.pointer (some ⟨ps[j].x, 0, none⟩)) ∧ W1.cell? ⟨g, j * 2 + 1, none⟩ = some (.pointer (some ⟨ps[j].m, 0, none⟩))) := fun j hj =>
    ⟨(hB1.cell (p := ⟨g, _, none⟩) hg).trans (HC.out j hj).1, (hB1.cell (p := ⟨g, _, none⟩) hg).trans (HC.out j hj).2⟩
  clear hb1 hB1
  go_wp2_with fail
  go_cut [7] (fun s wx => PickedAt W1 wx ps s)
  case first =>
    obtain ⟨fx, hfx⟩ : ∃ f : Nat → Nat, ∀ j (h : j < ps.length), f j = ps[j].x := ⟨fun j => (ps[j]?.map PW.x).getD 0, fun j h => by simp [h]⟩
    obtain ⟨fm, hfm⟩ : ∃ f : Nat → Nat, ∀ j (h : j < ps.length), f j = ps[j].m := ⟨fun j => (ps[j]?.map PW.m).getD 0, fun j h => by simp [h]⟩
    have KS : Hid (∀ w' : World, Below W1.heap.size W1 w' → w'.cell? ⟨b0, 0, none⟩ = some (.slice (some ⟨g, 0, none⟩) n sc) ∧ w'.cell? ⟨W.heap.size, 1, none⟩ = some (.int .i64 a) ∧ (∀ j, j < n → w'.cell? ⟨g, j * 2, none⟩ = some (.pointer (some ⟨fx j, 0, none⟩))) ∧ (∀ j, j < n → w'.cell? ⟨g, j * 2 + 1, none⟩ = some (.pointer (some ⟨fm j, 0, none⟩)))) := fun w' hb =>
      ⟨(hb.cell (p := ⟨b0, 0, none⟩) hltW).trans c0, (hb.cell (p := ⟨W.heap.size, 1, none⟩) hs1).trans d1, fun j hj => by rw [hfx j (by rw [← HNn.out]; exact hj)]; exact (hb.cell (p := ⟨g, _, none⟩) hgW).trans (HC1.out j _).1, fun j hj => by rw [hfm j (by rw [← HNn.out]; exact hj)]; exact (hb.cell (p := ⟨g, _, none⟩) hgW).trans (HC1.out j _).2⟩
    have HFX : Hid (∀ j (h : j < ps.length), f1 fx j = ps[j].x) := hfx
    have HFM : Hid (∀ j (h : j < ps.length), f1 fm j = ps[j].m) := hfm
    clear hfx hfm
    go_region_held3 (fun w' => w'.cell? ⟨b0, 0, none⟩ = some (.slice (some ⟨g, 0, none⟩) n sc) ∧ w'.cell? ⟨W.heap.size, 1, none⟩ = some (.int .i64 a) ∧ (∀ j, j < n → w'.cell? ⟨g, j * 2, none⟩ = some (.pointer (some ⟨fx j, 0, none⟩))) ∧ (∀ j, j < n → w'.cell? ⟨g, j * 2 + 1, none⟩ = some (.pointer (some ⟨fm j, 0, none⟩)))) ((refine KS.out _ ?_; first | exact (Below.refl _ _).drew | exact ((Below.refl _ _).alloc (Nat.le_refl _) _).drew | exact ((Below.refl _ _).drew.alloc (Nat.le_refl _) _))) ((go_at_call 22; refine (pick_any a n _ (by omega) (by omega) a1 a2).mono ?_; rintro e w' ⟨⟨j, hj, rfl⟩, rfl⟩))
    all_goals (try go_wp2_with fail)
    all_goals go_meet
    all_goals
      have h1 := HFX.out j (by rw [← HNn.out]; exact hj)
      have h2 := HFM.out j (by rw [← HNn.out]; exact hj)
      unfold f1 at h1 h2
      rw [h1, h2]
      exact picked_new W1 ps j (by rw [← HNn.out]; exact hj) _
  case rest =>
    obtain ⟨j, g7, hj, rfl, hg1, hg2, y0, y1, hB2⟩ := hcut
    obtain ⟨W2, rfl⟩ : ∃ W2 : World, W2 = wc := ⟨_, rfl⟩
    have hs2 : W1.heap.size ≤ W2.heap.size := hB2.size
    have HB2 : Hid (Below W.heap.size W W2) := HB1.out.trans (hB2.mono (Nat.le_of_lt hs1))
    have HE2 : Hid (∀ i, W2.cell? ⟨W.heap.size, i, none⟩ = (#[.int .i64 kd, .int .i64 a, .int .i64 b, .int .i64 c, .int .i64 nn, .string (mk s), .string (mk t), .slice la ln lc] : Array Value)[i]?) := fun i => (hB2.cell (p := ⟨W.heap.size, i, none⟩) hs1).trans (HE.out i)
    have HI2 : Hid (Inv W2 N b0 ka ps hs (.slice (some ⟨g, 0, none⟩) n sc) hv) := HI.out.below HB2.out
    have e0 : W2.cell? ⟨W.heap.size, 0, none⟩ = some (.int .i64 kd) := (HE2.out 0).trans rfl
    have e1 : W2.cell? ⟨W.heap.size, 1, none⟩ = some (.int .i64 a) := (HE2.out 1).trans rfl
    have e2 : W2.cell? ⟨W.heap.size, 2, none⟩ = some (.int .i64 b) := (HE2.out 2).trans rfl
    have e3 : W2.cell? ⟨W.heap.size, 3, none⟩ = some (.int .i64 c) := (HE2.out 3).trans rfl
    have e4 : W2.cell? ⟨W.heap.size, 4, none⟩ = some (.int .i64 nn) := (HE2.out 4).trans rfl
    have e5 : W2.cell? ⟨W.heap.size, 5, none⟩ = some (.string (mk s)) := (HE2.out 5).trans rfl
    have e6 : W2.cell? ⟨W.heap.size, 6, none⟩ = some (.string (mk t)) := (HE2.out 6).trans rfl
    have e7 : W2.cell? ⟨W.heap.size, 7, none⟩ = some (.slice la ln lc) := (HE2.out 7).trans rfl
    have HHa : Hid _ := handle_any (⟨kd, a, b, c, nn, s, t, la, ln, lc⟩ : OpV) HO.out HI2.out HHs.out
    clear hB2 d1 c0
    go_wp2_with fail
    refine Calls.mono HHa.out ?_
    rintro e W3 ⟨⟨p, l, rfl⟩, hb3⟩
    have HI3 : Hid (Inv W3 N b0 ka ps hs (.slice (some ⟨g, 0, none⟩) n sc) hv) := HI2.out.below hb3
    have HB3 : Hid (Below W.heap.size W W3) := HB2.out.trans (hb3.mono (by omega))
    have hs3 : W2.heap.size ≤ W3.heap.size := hb3.size
    have hs03 : W.heap.size < W3.heap.size := by omega
    have hg73 : g7 < W3.heap.size := by omega
    have z0 : W3.cell? ⟨g7, 0, none⟩ = some (.pointer (some ⟨ps[j].x, 0, none⟩)) := (hb3.cell (p := ⟨g7, 0, none⟩) hg2).trans y0
    have z1 : W3.cell? ⟨g7, 1, none⟩ = some (.pointer (some ⟨ps[j].m, 0, none⟩)) := (hb3.cell (p := ⟨g7, 1, none⟩) hg2).trans y1
    have x0 : W3.cell? ⟨W.heap.size, 0, none⟩ = some (.int .i64 kd) := (hb3.cell (p := ⟨W.heap.size, 0, none⟩) (by simp; omega)).trans e0
    have x1 : W3.cell? ⟨W.heap.size, 1, none⟩ = some (.int .i64 a) := (hb3.cell (p := ⟨W.heap.size, 1, none⟩) (by simp; omega)).trans e1
    have x2 : W3.cell? ⟨W.heap.size, 2, none⟩ = some (.int .i64 b) := (hb3.cell (p := ⟨W.heap.size, 2, none⟩) (by simp; omega)).trans e2
    have x3 : W3.cell? ⟨W.heap.size, 3, none⟩ = some (.int .i64 c) := (hb3.cell (p := ⟨W.heap.size, 3, none⟩) (by simp; omega)).trans e3
    have x4 : W3.cell? ⟨W.heap.size, 4, none⟩ = some (.int .i64 nn) := (hb3.cell (p := ⟨W.heap.size, 4, none⟩) (by simp; omega)).trans e4
    have x5 : W3.cell? ⟨W.heap.size, 5, none⟩ = some (.string (mk s)) := (hb3.cell (p := ⟨W.heap.size, 5, none⟩) (by simp; omega)).trans e5
    have x6 : W3.cell? ⟨W.heap.size, 6, none⟩ = some (.string (mk t)) := (hb3.cell (p := ⟨W.heap.size, 6, none⟩) (by simp; omega)).trans e6
    have x7 : W3.cell? ⟨W.heap.size, 7, none⟩ = some (.slice la ln lc) := (hb3.cell (p := ⟨W.heap.size, 7, none⟩) (by simp; omega)).trans e7
    clear hb3 e0 e1 e2 e3 e4 e5 e6 e7 y0 y1
    go_wp2_with fail
    refine (more_zero ⟨kd, a, b, c, nn, s, t, la, ln, lc⟩ b0 ps[j].x ps[j].m _ hk).mono ?_
    rintro e W5 ⟨rfl, hb5⟩
    have HB5 : Hid (Below W.heap.size W W5) := (HB3.out.alloc (by omega) _).trans (hb5.mono (by simp; omega))
    clear hb5
    go_wp2_with fail
    go_ret
    exact StepEnds.same HI.out HG.out HB5.out

end Go.Proofs.YthkbeaffkcfgiaaGreatDoor
