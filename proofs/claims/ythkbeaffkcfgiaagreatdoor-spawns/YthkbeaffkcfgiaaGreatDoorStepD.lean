import Derived.Test.YthkbeaffkcfgiaaGreatDoorStepA
namespace Go.Proofs.YthkbeaffkcfgiaaGreatDoor
open Go.RowKit

/-- append to a row of the call's own, and where it lies then, as one step of a region that draws. -/
theorem step_append_own_at {ops : Array Oper} {o : Oper} {a : Act} {w : World} {K : Act → World → Prop} {Q : Exit → Act → World → Prop} {E : Prop}
    (hg : o.guard = none) (s x : Operand) (t : TypeId) (hop : o.op = Op.call { callee := Callee.builtin Builtin.append, args := #[s, x], argTypes := #[t, t] }) (base : Nat) (e : TypeId) (i : TypeInfo) (z : Value) (size bytes : Nat)
    (ht : Tryz.prog.underlying t = some (.slice e)) (hi : Tryz.prog.info? e = some i) (hz : i.zero = some z) (hsize : i.size = size) (hby : i.bytes = bytes) (hzs : z.cells.size = size) (hsz : 0 < size)
    (v : Value) (n : Nat) (xs : List Value) (hs : a.eval s = v) (hown : w.ownsRow base e size v n xs)
    (ad : Addr) (m c : Nat) (news : List Value) (hx : a.eval x = .slice (some ad) m c) (hl : news.length = m * size) (hnews : ∀ j u, news[j]? = some u → w.cell? (ad.add j) = some u) (h1 : ∀ u ∈ news, u.oneCell' = true)
    (h63 : n + m ≤ maxLen) (hbytes : (n + m) * bytes ≤ 140737488355328) (hbase : base ≤ w.heap.size)
    (hK : ∀ v' w', w'.ownsRow base e size v' (n + m) (xs ++ news) → w.grownBy w' v.ownBlock → (v'.ownBlock = v.ownBlock ∨ v'.ownBlock = some w.heap.size) → K (a.put o.dst v') w') :
    if Region.wanted o (yielded ops a.tmps) = true then Oper.wp Tryz.prog o a w K Q else E := by
  have hw : Region.wanted o (yielded ops a.tmps) = true := by simp [Region.wanted, hg]
  rw [if_pos hw]
  obtain ⟨v', w', hr, h2, h3, _, h5⟩ := run_append_own_at (P := Tryz.prog) w base t o.type e i z size bytes ht hi hz hsize hby hzs hsz v n xs hown ad m c news hl hnews h1 h63 hbytes hbase
  unfold Oper.wp
  simp [execOp, hop, resolve, invoke, builtin, hs, hx, hr, Result.andThen]
  exact hK v' w' h2 h3 h5

theorem own_drew {w : World} {base : Nat} {e : TypeId} {size : Nat} {v : Value} {n : Nat} {xs : List Value} (h : w.ownsRow base e size v n xs) : w.drew.ownsRow base e size v n xs := own_turn h fun _ _ _ => rfl

theorem spawn_is {F G : Nat → Prop} (b : Nat) (i : Nat) (bg : Nat → Nat) (tk : Nat → Bool) (pi li : Int) (hpi : pi = (i : Int) + 1) (hli : li = (bg i : Int) + 1) (w : World) (hi : i < 20) (hp : ∃ nl, ProgAt w F G b nl bg tk) (hFl : ∀ k, F k → k < w.heap.size) (hFG : ∀ k, G k → ¬ F k) (hf : ∀ j, j < i → shutAt bg tk j) (ht : tk i = false) (hg : bg i < 3) :
    Calls Tryz.prog 24 #[.pointer (some ⟨b, 0, none⟩)] w fun e w' => e = .returned (.tuple #[.agg #[.int .i64 pi, .int .i64 li], .int .i64 0]) ∧ Turns w w' F ∧ ∃ nl, ProgAt w' (grow F w w') G b nl (upd bg i (bg i + 1)) (upd tk i true) := by
  rw [hpi, hli]
  obtain ⟨nl, hp⟩ := hp
  exact (spawn_at b nl i bg tk w hi hp hFl hFG hf ht hg).mono fun e w' h => ⟨h.1, h.2.1, nl, h.2.2⟩

theorem spawn_shut (b : Nat) (bg : Nat → Nat) (tk : Nat → Bool) (w : World) (hp : ∃ cp, PlacesAt w b bg tk cp) (hf : ∀ j, j < 20 → shutAt bg tk j) :
    Calls Tryz.prog 24 #[.pointer (some ⟨b, 0, none⟩)] w fun e w' => e = .returned (.tuple #[.agg #[.int .i64 0, .int .i64 0], .int .i64 2]) ∧ Below w.heap.size w w' := by
  obtain ⟨cp, hp⟩ := hp
  exact spawn_full b bg tk cp w hp hf

theorem rspawn_is {F : Nat → Prop} {m n : Nat} {bg : Nat → Nat} {tk : Nat → Bool} {la : Option Addr} {lc : Nat} {ls : List (Nat × Nat)} (I : Nat) (pi li : Int) (hpi : pi = (I : Int) + 1) (hli : li = (bg I : Int) + 1) (w : World) (hR : RefAt w F m n bg tk la lc ls) (h3 : ∀ j, bg j ≤ 3) (hI : I < 20) (hf : ∀ j, j < I → shutAt bg tk j) (ho : ¬ shutAt bg tk I) :
    Calls Tryz.prog 25 #[.pointer (some ⟨m, 0, none⟩)] w fun e w' => e = .returned (.tuple #[.agg #[.int .i64 pi, .int .i64 li], .int .i64 0]) ∧ w.grownBy w' (some m) ∧
      ∃ la' lc' ls', RefAt w' (grow F w w') m n (upd bg I (bg I + 1)) (upd tk I true) la' lc' ls' := by
  refine (rspawn_any I w hR h3 (by omega) hf (fun _ => ho)).mono ?_
  rintro e w' (⟨h, _⟩ | ⟨_, h1, h2⟩)
  · omega
  · rw [hpi, hli]; exact ⟨h1, h2⟩

theorem rspawn_full {F : Nat → Prop} {m n : Nat} {bg : Nat → Nat} {tk : Nat → Bool} {la : Option Addr} {lc : Nat} {ls : List (Nat × Nat)} (w : World) (hR : RefAt w F m n bg tk la lc ls) (h3 : ∀ j, bg j ≤ 3) (hf : ∀ j, j < 20 → shutAt bg tk j) :
    Calls Tryz.prog 25 #[.pointer (some ⟨m, 0, none⟩)] w fun e w' => e = .returned (.tuple #[.agg #[.int .i64 0, .int .i64 0], .int .i64 2]) ∧ Below w.heap.size w w' := by
  refine (rspawn_any 20 w hR h3 (by omega) hf (fun h => by omega)).mono ?_
  rintro e w' (⟨_, h1, h2⟩ | ⟨h, _⟩)
  · exact ⟨h1, h2⟩
  · omega

/-- A block that is younger than the row of handles lies as it did. -/
theorem told_cell {W8 W9 : World} {o : Obj} {row : Option Nat} {b i : Nat} (hg : (W8.alloc o).grownBy W9 row) (hb : b < W8.heap.size) (hr : row ≠ some b) : W9.cell? ⟨b, i, none⟩ = W8.cell? ⟨b, i, none⟩ :=
  World.cell?_of_block (a := ⟨b, i, none⟩) ((hg.block b (by simp; omega) (fun e => hr e.symm)).trans (Below.heap_alloc _ _ _ hb))

theorem told_frozen {W8 W9 : World} {o : Obj} {row : Option Nat} {b i : Nat} (hg : (W8.alloc o).grownBy W9 row) (hb : b < W8.heap.size) (hr : row ≠ some b) : W9.frozen? ⟨b, i, none⟩ = W8.frozen? ⟨b, i, none⟩ :=
  World.frozen?_of_block (a := ⟨b, i, none⟩) ((hg.block b (by simp; omega) (fun e => hr e.symm)).trans (Below.heap_alloc _ _ _ hb))

set_option maxHeartbeats 6400000 in
set_option maxRecDepth 20000 in
theorem step_spawn {W : World} {N b0 : Nat} {ka : Nat → Nat} {ps : List PW} {hs : List (Int × Int)} {wv hv : Value} (a b c nn : Int) (s t : List UInt8) (la : Option Addr) (ln lc : Nat) (ho : InRange (⟨2, a, b, c, nn, s, t, la, ln, lc⟩ : OpV)) (h : Inv W N b0 ka ps hs wv hv) (hgd : Good ps) (hhs : hs.length ≤ 1048576) (hps : ps.length ≤ 1048576) (hp0 : 0 < ps.length) :
    Calls Tryz.prog 18 #[.pointer (some ⟨b0, 0, none⟩), .agg #[.int .i64 2, .int .i64 a, .int .i64 b, .int .i64 c, .int .i64 nn, .string (mk s), .string (mk t), .slice la ln lc]] W fun e W' => StepEnds W N b0 ps hs e W' := by
  have HI : Hid (Inv W N b0 ka ps hs wv hv) := h
  have HG : Hid (Good ps) := hgd
  have HO : Hid (InRange (⟨2, a, b, c, nn, s, t, la, ln, lc⟩ : OpV)) := ho
  have HHs : Hid (hs.length ≤ 1048576) := hhs
  have HBg : Hid _ := begun_else b0 (W.alloc (.cells #[.int .i64 2, .int .i64 a, .int .i64 b, .int .i64 c, .int .i64 nn, .string (mk s), .string (mk t), .slice la ln lc] 27)) (⟨2, a, b, c, nn, s, t, la, ln, lc⟩ : OpV) (by show (2 : Int) ≠ 1; decide) (by show (2 : Int) ≠ 15; decide)
  obtain ⟨n, hnn⟩ : ∃ n, n = ps.length := ⟨_, rfl⟩
  have HNn : Hid (n = ps.length) := hnn
  have HRow : Hid (W.ownsRow N 45 2 wv n (pairCells ps)) := by rw [hnn]; exact h.rowW
  rw [← hnn] at hps hp0
  obtain ⟨g, sc, rfl⟩ : ∃ g c, wv = .slice (some ⟨g, 0, none⟩) n c := by
    rcases HRow.out.2 with ⟨_, h2⟩ | ⟨g, cap, cur, h, _⟩
    · omega
    · exact ⟨g, cap, h⟩
  have hg : g < W.heap.size := (HRow.out.lt g rfl).2
  have hcap : n ≤ sc := by
    rcases HRow.out.2 with ⟨h, _⟩ | ⟨g', cap, cur, h, _, _, h4, _⟩
    · simp at h
    · simp at h; omega
  have HC : Hid (∀ j (h : j < ps.length), W.cell? ⟨g, j * 2, none⟩ = some (.pointer (some ⟨ps[j].x, 0, none⟩)) ∧ W.cell? ⟨g, j * 2 + 1, none⟩ = some (.pointer (some ⟨ps[j].m, 0, none⟩))) := fun j hj => by
    have hj2 : j < n := by rw [HNn.out]; exact hj
    obtain ⟨e1, e2⟩ := pair_at ps j hj
    exact ⟨(HRow.out.cellAt (j * 2) (by omega)).trans e1, (HRow.out.cellAt (j * 2 + 1) (by omega)).trans e2⟩
  have a1 : -9223372036854775808 ≤ a := ho.a0
  have a2 : a ≤ 9223372036854775807 := ho.a1
  have hlt := h.lt
  clear h hgd hnn ho hhs
  have hEql := eql48
  go_enter Tryz.func18, Tryz.ntmps18
  go_wp2_with fail
  refine Calls.mono HBg.out ?_
  rintro e W1 ⟨rfl, hb1⟩
  have hB1 : Below W.heap.size W W1 := ((Below.refl _ _).alloc (Nat.le_refl _) _).trans (hb1.mono (by simp))
  have c0 := (HI.out.below hB1).c0
  have hs1 : W.heap.size < W1.heap.size := by have := hb1.size; simp at this; omega
  have HE : Hid (∀ i, W1.cell? ⟨W.heap.size, i, none⟩ = (#[.int .i64 2, .int .i64 a, .int .i64 b, .int .i64 c, .int .i64 nn, .string (mk s), .string (mk t), .slice la ln lc] : Array Value)[i]?) := fun i => (hb1.cell (p := ⟨W.heap.size, i, none⟩) (by simp)).trans (cell_at W _ 27 _ i rfl)
  have d1 : W1.cell? ⟨W.heap.size, 1, none⟩ = some (.int .i64 a) := (HE.out 1).trans rfl
  have hgW : g < W1.heap.size := by omega
  have hltW : b0 < W1.heap.size := by omega
  have HB1 : Hid (Below W.heap.size W W1) := hB1
  have HC1 : Hid (∀ j (h : j < ps.length), W1.cell? ⟨g, j * 2, none⟩ = some (.pointer (some ⟨ps[j].x, 0, none⟩)) ∧ W1.cell? ⟨g, j * 2 + 1, none⟩ = some (.pointer (some ⟨ps[j].m, 0, none⟩))) := fun j hj =>
    ⟨(hB1.cell (p := ⟨g, _, none⟩) hg).trans (HC.out j hj).1, (hB1.cell (p := ⟨g, _, none⟩) hg).trans (HC.out j hj).2⟩
  clear hb1 hB1
  go_wp2_with fail
  go_cut [7] (fun s wx => PickedAt W1 wx ps s)
  case first =>
    obtain ⟨fx, hfx⟩ : ∃ f : Nat → Nat, ∀ j (h : j < ps.length), f j = ps[j].x := ⟨fun j => (ps[j]?.map PW.x).getD 0, fun j h => by simp [h]⟩
    obtain ⟨fm, hfm⟩ : ∃ f : Nat → Nat, ∀ j (h : j < ps.length), f j = ps[j].m := ⟨fun j => (ps[j]?.map PW.m).getD 0, fun j h => by simp [h]⟩
    have KS : Hid (∀ w' : World, Below W1.heap.size W1 w' → w'.cell? ⟨b0, 0, none⟩ = some (.slice (some ⟨g, 0, none⟩) n sc) ∧ w'.cell? ⟨W.heap.size, 1, none⟩ = some (.int .i64 a) ∧ (∀ j, j < n → w'.cell? ⟨g, j * 2, none⟩ = some (.pointer (some ⟨fx j, 0, none⟩))) ∧ (∀ j, j < n → w'.cell? ⟨g, j * 2 + 1, none⟩ = some (.pointer (some ⟨fm j, 0, none⟩)))) := fun w' hb =>
      ⟨(hb.cell (p := ⟨b0, 0, none⟩) hltW).trans c0, (hb.cell (p := ⟨W.heap.size, 1, none⟩) hs1).trans d1, fun j hj => by rw [hfx j (by rw [← HNn.out]; exact hj)]; exact (hb.cell (p := ⟨g, _, none⟩) hgW).trans (HC1.out j _).1, fun j hj => by rw [hfm j (by rw [← HNn.out]; exact hj)]; exact (hb.cell (p := ⟨g, _, none⟩) hgW).trans (HC1.out j _).2⟩
    have HFX : Hid (∀ j (h : j < ps.length), f1 fx j = ps[j].x) := hfx
    have HFM : Hid (∀ j (h : j < ps.length), f1 fm j = ps[j].m) := hfm
    clear hfx hfm
    go_region_held3 (fun w' => w'.cell? ⟨b0, 0, none⟩ = some (.slice (some ⟨g, 0, none⟩) n sc) ∧ w'.cell? ⟨W.heap.size, 1, none⟩ = some (.int .i64 a) ∧ (∀ j, j < n → w'.cell? ⟨g, j * 2, none⟩ = some (.pointer (some ⟨fx j, 0, none⟩))) ∧ (∀ j, j < n → w'.cell? ⟨g, j * 2 + 1, none⟩ = some (.pointer (some ⟨fm j, 0, none⟩)))) ((refine KS.out _ ?_; first | exact (Below.refl _ _).drew | exact ((Below.refl _ _).alloc (Nat.le_refl _) _).drew | exact ((Below.refl _ _).drew.alloc (Nat.le_refl _) _))) ((go_at_call 22; refine (pick_any a n _ (by omega) (by omega) a1 a2).mono ?_; rintro e w' ⟨⟨j, hj, rfl⟩, rfl⟩))
    all_goals (try go_wp2_with fail)
    all_goals go_meet
    all_goals
      have h1 := HFX.out j (by rw [← HNn.out]; exact hj)
      have h2 := HFM.out j (by rw [← HNn.out]; exact hj)
      unfold f1 at h1 h2
      rw [h1, h2]
      exact picked_new W1 ps j (by rw [← HNn.out]; exact hj) _
  case rest =>
    obtain ⟨j, g7, hj, rfl, hg1, hg2, y0, y1, hB2⟩ := hcut
    obtain ⟨W2, rfl⟩ : ∃ W2 : World, W2 = wc := ⟨_, rfl⟩
    have hs2 : W1.heap.size ≤ W2.heap.size := hB2.size
    have HB2 : Hid (Below W.heap.size W W2) := HB1.out.trans (hB2.mono (Nat.le_of_lt hs1))
    have HE2 : Hid (∀ i, W2.cell? ⟨W.heap.size, i, none⟩ = (#[.int .i64 2, .int .i64 a, .int .i64 b, .int .i64 c, .int .i64 nn, .string (mk s), .string (mk t), .slice la ln lc] : Array Value)[i]?) := fun i => (hB2.cell (p := ⟨W.heap.size, i, none⟩) hs1).trans (HE.out i)
    have HI2 : Hid (Inv W2 N b0 ka ps hs (.slice (some ⟨g, 0, none⟩) n sc) hv) := HI.out.below HB2.out
    have e0 : W2.cell? ⟨W.heap.size, 0, none⟩ = some (.int .i64 2) := (HE2.out 0).trans rfl
    have e1 : W2.cell? ⟨W.heap.size, 1, none⟩ = some (.int .i64 a) := (HE2.out 1).trans rfl
    have e2 : W2.cell? ⟨W.heap.size, 2, none⟩ = some (.int .i64 b) := (HE2.out 2).trans rfl
    have e3 : W2.cell? ⟨W.heap.size, 3, none⟩ = some (.int .i64 c) := (HE2.out 3).trans rfl
    have e4 : W2.cell? ⟨W.heap.size, 4, none⟩ = some (.int .i64 nn) := (HE2.out 4).trans rfl
    have e5 : W2.cell? ⟨W.heap.size, 5, none⟩ = some (.string (mk s)) := (HE2.out 5).trans rfl
    have e6 : W2.cell? ⟨W.heap.size, 6, none⟩ = some (.string (mk t)) := (HE2.out 6).trans rfl
    have e7 : W2.cell? ⟨W.heap.size, 7, none⟩ = some (.slice la ln lc) := (HE2.out 7).trans rfl
    have HHa : Hid _ := handle_any (⟨2, a, b, c, nn, s, t, la, ln, lc⟩ : OpV) HO.out HI2.out HHs.out
    clear hB2 d1 c0
    go_wp2_with fail
    refine Calls.mono HHa.out ?_
    rintro e W3 ⟨⟨p, l, rfl⟩, hb3⟩
    have HI3 : Hid (Inv W3 N b0 ka ps hs (.slice (some ⟨g, 0, none⟩) n sc) hv) := HI2.out.below hb3
    have HB3 : Hid (Below W.heap.size W W3) := HB2.out.trans (hb3.mono (by omega))
    have hs3 : W2.heap.size ≤ W3.heap.size := hb3.size
    have hs03 : W.heap.size < W3.heap.size := by omega
    have hg73 : g7 < W3.heap.size := by omega
    have z0 : W3.cell? ⟨g7, 0, none⟩ = some (.pointer (some ⟨ps[j].x, 0, none⟩)) := (hb3.cell (p := ⟨g7, 0, none⟩) hg2).trans y0
    have z1 : W3.cell? ⟨g7, 1, none⟩ = some (.pointer (some ⟨ps[j].m, 0, none⟩)) := (hb3.cell (p := ⟨g7, 1, none⟩) hg2).trans y1
    have x0 : W3.cell? ⟨W.heap.size, 0, none⟩ = some (.int .i64 2) := (hb3.cell (p := ⟨W.heap.size, 0, none⟩) (by simp; omega)).trans e0
    clear hb3 e0 e1 e2 e3 e4 e5 e6 e7 y0 y1
    obtain ⟨I, hI20, hsh, hop⟩ := first_open (shutAt ps[j].bx ps[j].tx) 20
    have HSh : Hid (∀ i, i < I → shutAt ps[j].bx ps[j].tx i) := hsh
    have HOp : Hid (I < 20 → ¬ shutAt ps[j].bx ps[j].tx I) := hop
    clear hsh hop
    go_wp2_with fail
    obtain ⟨W4, hW4⟩ : ∃ W4, W4 = W3.alloc (.cells #[.int .i64 p, .int .i64 l] 48) := ⟨_, rfl⟩
    rw [← hW4]
    have hB34 : Below W3.heap.size W3 W4 := by rw [hW4]; exact (Below.refl _ _).alloc (Nat.le_refl _) _
    have hs4 : W3.heap.size < W4.heap.size := by rw [hW4]; simp
    have u1 : W4.cell? ⟨g7, 1, none⟩ = some (.pointer (some ⟨ps[j].m, 0, none⟩)) := (hB34.cell (p := ⟨g7, 1, none⟩) hg73).trans z1
    have HI4 : Hid (Inv W4 N b0 ka ps hs (.slice (some ⟨g, 0, none⟩) n sc) hv) := HI3.out.below hB34
    have HB4 : Hid (Below W.heap.size W W4) := HB3.out.trans (hB34.mono (Nat.le_of_lt hs03))
    have HPx : Hid (∃ nl, ProgAt W4 (Fx ka j N W.heap.size) (Gx ka W.heap.size) ps[j].x nl ps[j].bx ps[j].tx) := HI.out.progOf j hj HB4.out
    have hxW : ps[j].x < W.heap.size := (HI.out.each j hj).xlt
    have hmW : ps[j].m < W.heap.size := by obtain ⟨_, _, _, hh⟩ := (HI.out.each j hj).pm; exact hh.lt
    have H3 : Hid (∀ i, ps[j].bx i ≤ 3) := (HG.out ps[j] (List.getElem_mem hj)).2.2
    have HNW : Hid (N ≤ W.heap.size) := Nat.le_trans HI.out.nb (Nat.le_of_lt HI.out.lt)
    have HNx : Hid (N ≤ ps[j].x) := (HI.out.each j hj).nx
    have HNm : Hid (N ≤ ps[j].m) := (HI.out.each j hj).nm
    have HRh : Hid (∀ k, hv.ownBlock = some k → k < W.heap.size ∧ k ≠ b0) := fun k hk => ⟨(HI.out.rowH.lt k hk).2, fun e => by have h1 := HI.out.kH k hk; have h2 := HI.out.kb; rw [e] at h1; omega⟩
    have HHl : Hid (hs.length ≤ 1048576) := HHs.out
    clear hW4 hB34 z0 z1 x0
    by_cases hlt20 : I < 20
    · have HT : Hid (ps[j].tx I = false ∧ ps[j].bx I < 3) := by
        have h := HOp.out hlt20
        unfold shutAt at h
        have h1 : ¬ ps[j].tx I = true := fun e => h (Or.inl e)
        exact ⟨by simpa using h1, by have h2 : ¬ 3 ≤ ps[j].bx I := fun e => h (Or.inr e); omega⟩
      obtain ⟨pi, hpi⟩ : ∃ z : Int, z = (I : Int) + 1 := ⟨_, rfl⟩
      obtain ⟨li, hli⟩ : ∃ z : Int, z = (ps[j].bx I : Int) + 1 := ⟨_, rfl⟩
      have HPi : Hid (pi = (I : Int) + 1) := hpi
      have HLi : Hid (li = (ps[j].bx I : Int) + 1) := hli
      clear hpi hli
      have HS4 : Hid (W.heap.size ≤ W4.heap.size) := HB4.out.size
      refine (spawn_is (F := Fx ka j N W.heap.size) (G := Gx ka W.heap.size) ps[j].x I ps[j].bx ps[j].tx pi li HPi.out HLi.out W4 hlt20 HPx.out (fx_lt HS4.out) fx_gx HSh.out HT.out.1 HT.out.2).mono ?_
      rintro e W5 ⟨rfl, hg5, hp5⟩
      have HG5 : Hid (Turns W4 W5 (Fx ka j N W.heap.size)) := hg5
      have HP5 : Hid (∃ nl, ProgAt W5 (grow (Fx ka j N W.heap.size) W4 W5) (Gx ka W.heap.size) ps[j].x nl (upd ps[j].bx I (ps[j].bx I + 1)) (upd ps[j].tx I true)) := hp5
      have hs5 : W4.heap.size ≤ W5.heap.size := hg5.size
      have hg75 : g7 < W5.heap.size := by omega
      have r1 : W5.cell? ⟨g7, 1, none⟩ = some (.pointer (some ⟨ps[j].m, 0, none⟩)) := (World.cell?_of_block (a := ⟨g7, 1, none⟩) (hg5.block g7 (by omega) (fun e => by have := e.2.2; omega))).trans u1
      clear hg5 hp5 u1
      go_wp2_with fail
      obtain ⟨W6, hW6⟩ : ∃ W6, W6 = W5.alloc (.cells #[.int .i64 pi, .int .i64 li] 48) := ⟨_, rfl⟩
      rw [← hW6]
      have hs6 : W5.heap.size < W6.heap.size := by rw [hW6]; simp
      have HG6 : Hid (Turns W4 W6 (Fx ka j N W.heap.size)) := by rw [hW6]; exact HG5.out.alloc _
      have HP6 : Hid (∃ nl, ProgAt W6 (grow (Fx ka j N W.heap.size) W4 W6) (Gx ka W.heap.size) ps[j].x nl (upd ps[j].bx I (ps[j].bx I + 1)) (upd ps[j].tx I true)) := by
        obtain ⟨nl, hp⟩ := HP5.out
        have hB56 : Below W5.heap.size W5 W6 := by rw [hW6]; exact (Below.refl _ _).alloc (Nat.le_refl _) _
        exact ⟨nl, hp.turn hB56.size (fun k hk hkl => ⟨hB56.block k hkl, hk.imp id fun h => ⟨h.1, by omega⟩⟩) (fun k hk hkl => ⟨hB56.block k hkl, hk⟩)⟩
      have v0 : W6.cell? ⟨W5.heap.size, 0, none⟩ = some (.int .i64 pi) := by rw [hW6]; simp
      have v1 : W6.cell? ⟨W5.heap.size, 1, none⟩ = some (.int .i64 li) := by rw [hW6]; simp
      have hb5 : W.heap.size < W5.heap.size := by omega
      obtain ⟨ra, rc, rs, hR⟩ := HI.out.refOf HG.out j hj HB4.out HG6.out
      have HR : Hid (RefAt W6 (Gx ka W.heap.size) ps[j].m ps[j].n ps[j].bx ps[j].tx ra rc rs) := hR
      clear hW6 hR r1
      refine (rspawn_is I pi li HPi.out HLi.out W6 HR.out H3.out hlt20 HSh.out (HOp.out hlt20)).mono ?_
      rintro e W7 ⟨rfl, hg7', hr7⟩
      have HG7 : Hid (W6.grownBy W7 (some ps[j].m)) := hg7'
      have HR7 : Hid (∃ la' lc' ls', RefAt W7 (grow (Gx ka W.heap.size) W6 W7) ps[j].m ps[j].n (upd ps[j].bx I (ps[j].bx I + 1)) (upd ps[j].tx I true) la' lc' ls') := hr7
      have hs7 : W6.heap.size ≤ W7.heap.size := hg7'.size
      have t0 : W7.cell? ⟨W5.heap.size, 0, none⟩ = some (.int .i64 pi) := (grown_cell hg7' hs6 (by omega)).trans v0
      have t1 : W7.cell? ⟨W5.heap.size, 1, none⟩ = some (.int .i64 li) := (grown_cell hg7' hs6 (by omega)).trans v1
      have HI7 : Hid _ := HI4.out.setBoth HS4.out j hj _ _ HG6.out HP6.out HG7.out HR7.out
      have HB7 : Hid (Below N W W7) := Below.grown (below_turns (HB4.out.mono HNW.out) (by have := HNW.out; omega) HG6.out (fun k hk => hk.2.1)) HG7.out (by have := HNW.out; have := HG6.out.size; omega) (fun k hk => by simp at hk; have := HNm.out; omega)
      clear hg7' hr7 v0 v1
      go_wp2_with fail
      obtain ⟨W8, hW8⟩ : ∃ W8, W8 = W7.alloc (.cells #[.int .i64 pi, .int .i64 li] 48) := ⟨_, rfl⟩
      rw [← hW8]
      have hs8 : W7.heap.size < W8.heap.size := by rw [hW8]; simp
      have hB78 : Below W7.heap.size W7 W8 := by rw [hW8]; exact (Below.refl _ _).alloc (Nat.le_refl _) _
      have HI8 : Hid _ := HI7.out.below hB78
      have HB8 : Hid (Below N W W8) := by rw [hW8]; exact HB7.out.alloc (by have := HNW.out; omega) _
      have a0 : W8.cell? ⟨W5.heap.size, 0, none⟩ = some (.int .i64 pi) := (hB78.cell (p := ⟨W5.heap.size, 0, none⟩) (by simp; omega)).trans t0
      have a1' : W8.cell? ⟨W5.heap.size, 1, none⟩ = some (.int .i64 li) := (hB78.cell (p := ⟨W5.heap.size, 1, none⟩) (by simp; omega)).trans t1
      have b0' : W8.cell? ⟨W7.heap.size, 0, none⟩ = some (.int .i64 pi) := by rw [hW8]; simp
      have b1' : W8.cell? ⟨W7.heap.size, 1, none⟩ = some (.int .i64 li) := by rw [hW8]; simp
      have c1 := HI8.out.c1
      have f1 := HI8.out.f1
      have hlt8 : b0 < W8.heap.size := HI8.out.lt
      have hb05 : b0 < W5.heap.size := by omega
      obtain ⟨n2, hn2⟩ : ∃ n2, n2 = hs.length := ⟨_, rfl⟩
      have HN2 : Hid (n2 = hs.length) := hn2
      have hn2l : n2 ≤ 1048576 := by rw [hn2]; exact HHl.out
      have HRow8 : Hid (W8.ownsRow N 48 2 hv n2 (handCells hs)) := by rw [hn2]; exact HI8.out.rowH
      obtain ⟨ha, hc, rfl⟩ : ∃ a c, hv = .slice a n2 c := own_form HRow8.out
      obtain ⟨i0, hi, hz0, hz1, hz2⟩ := info_parts Tryz.info48
      have HBs : Hid (N ≤ W8.heap.size) := Nat.le_trans HNW.out (by omega)
      have HTold : Hid (∀ (W9 : World) (gg gc : Nat), (W8.alloc (.cells #[.int .i64 pi, .int .i64 li] 48)).grownBy W9 (Value.slice ha n2 hc).ownBlock → W9.ownsRow N 48 2 (.slice (some ⟨gg, 0, none⟩) (n2 + 1) gc) (n2 + 1) (handCells hs ++ [.int .i64 pi, .int .i64 li]) →
          ((Value.slice (some ⟨gg, 0, none⟩) (n2 + 1) gc).ownBlock = (Value.slice ha n2 hc).ownBlock ∨ (Value.slice (some ⟨gg, 0, none⟩) (n2 + 1) gc).ownBlock = some (W8.alloc (.cells #[.int .i64 pi, .int .i64 li] 48)).heap.size) →
          W9.cell? ⟨b0, 1, none⟩ = some (.slice ha n2 hc) ∧ W9.frozen? ⟨b0, 1, none⟩ = false ∧ W9.cell? ⟨W5.heap.size, 0, none⟩ = some (.int .i64 pi) ∧ W9.cell? ⟨W5.heap.size, 1, none⟩ = some (.int .i64 li) ∧ W9.cell? ⟨W7.heap.size, 0, none⟩ = some (.int .i64 pi) ∧ W9.cell? ⟨W7.heap.size, 1, none⟩ = some (.int .i64 li) ∧
            Hid (StepEnds W N b0 ps hs (.returned (.bool true)) (W9.setCell ⟨b0, 1, none⟩ (.slice (some ⟨gg, 0, none⟩) (n2 + 1) gc)))) := by
        intro W9 gg gc hg9 ho9 hat9
        have hr : ∀ b, W.heap.size ≤ b → (Value.slice ha n2 hc).ownBlock ≠ some b := fun b hb e => by have := (HRh.out b e).1; omega
        have hr0 : (Value.slice ha n2 hc).ownBlock ≠ some b0 := fun e => (HRh.out b0 e).2 rfl
        refine ⟨(told_cell hg9 hlt8 hr0).trans c1, (told_frozen hg9 hlt8 hr0).trans f1, (told_cell hg9 (by omega) (hr _ (by omega))).trans a0, (told_cell hg9 (by omega) (hr _ (by omega))).trans a1', (told_cell hg9 (by omega) (hr _ (by omega))).trans b0', (told_cell hg9 (by omega) (hr _ (by omega))).trans b1', ?_⟩
        refine ⟨rfl, _, _, _, _, _, HI8.out.addHand hg9 (by rw [← HN2.out]; exact ho9) hat9, good_set HG.out j _ ⟨rfl, rfl, ?_⟩, by simp, by simp, ?_⟩
        · intro i
          show upd ps[j].bx I (ps[j].bx I + 1) i ≤ 3
          unfold upd
          split
          · have := HT.out.2; omega
          · exact H3.out i
        · refine Below.setCell (Below.grown (HB8.out.alloc HBs.out _) hg9 (by simp; have := HBs.out; omega) (fun k hk => ?_)) HI.out.nb _
          exact (HI.out.rowH.lt k hk).1
      have HNew : Hid (∀ j' u, [Value.int .i64 pi, .int .i64 li][j']? = some u → (W8.alloc (.cells #[.int .i64 pi, .int .i64 li] 48)).cell? ((⟨W8.heap.size, 0, none⟩ : Addr).add j') = some u) := cell_two_new _ _ _ _
      have HRA : Hid ((W8.alloc (.cells #[.int .i64 pi, .int .i64 li] 48)).ownsRow N 48 2 (.slice ha n2 hc) n2 (handCells hs)) := HRow8.out.alloc _
      have HBs1 : Hid (N ≤ (W8.alloc (.cells #[.int .i64 pi, .int .i64 li] 48)).heap.size) := by show _ ≤ _; simp; have := HBs.out; omega
      clear hn2 t0 t1 a0 a1' hB78 hW8
      go_region_law (refine step_append_own_at rfl (.tmp 76) (.tmp 78) 30 rfl N 48 i0 (.agg #[.int .i64 0, .int .i64 0]) 2 16 Tryz.underlying30 hi hz0 hz1 hz2 rfl (by decide) (.slice ha n2 hc) n2 (handCells hs) (by simp [Act.eval]) (by first | exact HRA.out | exact own_drew HRA.out) ⟨W8.heap.size, 0, none⟩ 1 1 [.int .i64 pi, .int .i64 li] (by simp [Act.eval]) rfl HNew.out (fun x hx => by simp at hx; rcases hx with rfl | rfl <;> rfl) (by unfold maxLen; omega) (by omega) HBs1.out ?_; intro v' W9 hown9 hgrow9 hat9; go_must (obtain ⟨gg, gc, rfl⟩ := own_succ hown9); go_must (obtain ⟨k1, k2, m0, m1, m2, m3, HEnd⟩ := HTold.out W9 gg gc ⟨hgrow9.os, hgrow9.tape, hgrow9.output, hgrow9.size, hgrow9.block⟩ hown9 hat9); clear hown9 hgrow9 hat9)
      all_goals (try go_wp2_with fail)
      all_goals go_ret
      all_goals exact HEnd.out
    · obtain rfl : I = 20 := by omega
      refine (spawn_shut ps[j].x ps[j].bx ps[j].tx W4 (pl_of HPx.out) HSh.out).mono ?_
      rintro e W5 ⟨rfl, hb5⟩
      have HB5 : Hid (Below W4.heap.size W4 W5) := hb5
      have hs5 : W4.heap.size ≤ W5.heap.size := hb5.size
      have hg75 : g7 < W5.heap.size := by omega
      have r1 : W5.cell? ⟨g7, 1, none⟩ = some (.pointer (some ⟨ps[j].m, 0, none⟩)) := (hb5.cell (p := ⟨g7, 1, none⟩) (by simp; omega)).trans u1
      clear hb5 u1
      go_wp2_with fail
      obtain ⟨W6, hW6⟩ : ∃ W6, W6 = W5.alloc (.cells #[.int .i64 0, .int .i64 0] 48) := ⟨_, rfl⟩
      rw [← hW6]
      have hs6 : W5.heap.size < W6.heap.size := by rw [hW6]; simp
      have HB6 : Hid (Below W4.heap.size W4 W6) := by rw [hW6]; exact HB5.out.alloc hs5 _
      have v0 : W6.cell? ⟨W5.heap.size, 0, none⟩ = some (.int .i64 0) := by rw [hW6]; simp
      have v1 : W6.cell? ⟨W5.heap.size, 1, none⟩ = some (.int .i64 0) := by rw [hW6]; simp
      obtain ⟨ra, rc, rs, hR⟩ := HI.out.refOf HG.out j hj HB4.out (W5 := W6) (turns_none HB6.out)
      have HR : Hid (RefAt W6 (Gx ka W.heap.size) ps[j].m ps[j].n ps[j].bx ps[j].tx ra rc rs) := hR
      clear hW6 hR r1
      refine (rspawn_full W6 HR.out H3.out HSh.out).mono ?_
      rintro e W7 ⟨rfl, hb7⟩
      have HB7 : Hid (Below W4.heap.size W4 W7) := HB6.out.trans (hb7.mono (by omega))
      have hs7 : W6.heap.size ≤ W7.heap.size := hb7.size
      have t0 : W7.cell? ⟨W5.heap.size, 0, none⟩ = some (.int .i64 0) := (hb7.cell (p := ⟨W5.heap.size, 0, none⟩) hs6).trans v0
      have t1 : W7.cell? ⟨W5.heap.size, 1, none⟩ = some (.int .i64 0) := (hb7.cell (p := ⟨W5.heap.size, 1, none⟩) hs6).trans v1
      have h57 : W5.heap.size < W7.heap.size := by omega
      clear hb7 v0 v1
      go_wp2_with fail
      go_ret
      exact StepEnds.same HI.out HG.out (HB4.out.trans ((HB7.out.mono (by omega)).alloc (by omega) _))

end Go.Proofs.YthkbeaffkcfgiaaGreatDoor
