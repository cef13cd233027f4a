import Derived.Test.YthkbeaffkcfgiaaGreatDoorRef
namespace Go.Proofs.YthkbeaffkcfgiaaGreatDoor
open Go.RowKit

theorem Tryz.info55 : (Tryz.prog.info? 55).map (fun i => (i.zero, i.size, i.bytes)) = some (some (.pointer none), 1, 8) := by kernel_rfl

set_option maxHeartbeats 1600000 in
theorem rdespawn_no {F : Nat → Prop} {m n : Nat} {bg : Nat → Nat} {tk : Nat → Bool} {la : Option Addr} {lc : Nat} {ls : List (Nat × Nat)} (hp hl : Int) (w : World) (hR : RefAt w F m n bg tk la lc ls) (hN : ¬ Lv bg tk hp hl) :
    Calls Tryz.prog 27 #[.pointer (some ⟨m, 0, none⟩), .agg #[.int .i64 hp, .int .i64 hl]] w fun e w' => e = .returned (.int .i64 3) ∧ Below w.heap.size w w' := by
  have HR : Hid (RefAt w F m n bg tk la lc ls) := hR
  have HN : Hid (¬ Lv bg tk hp hl) := hN
  clear hR hN
  have hEql := eql48
  go_enter Tryz.func27, Tryz.ntmps27
  go_wp2_with fail
  refine (get_any hp hl _ (HR.out.below ((Below.refl _ _).alloc (Nat.le_refl _) _))).mono ?_
  rintro e w1 ⟨hg, hb1⟩
  rcases hg with ⟨h, _⟩ | ⟨_, rfl⟩
  · exact absurd h HN.out
  · have HB : Hid (Below w.heap.size w w1) := ((Below.refl _ _).alloc (Nat.le_refl _) _).trans (hb1.mono (by simp))
    clear hb1
    go_wp2_with fail
    go_ret
    exact ⟨rfl, HB.out⟩

theorem take_filter_succ (ls : List (Nat × Nat)) (j : Nat) (h : j < ls.length) (p : Nat × Nat → Bool) : (ls.take (j + 1)).filter p = (ls.take j).filter p ++ (if p ls[j] then [ls[j]] else []) := by
  rw [List.take_succ_eq_append_getElem h, List.filter_append]
  congr 1
  cases hp : p ls[j] <;> simp [hp]

theorem ptrs_append (a b : List (Nat × Nat)) : ptrs (a ++ b) = ptrs a ++ ptrs b := by simp [ptrs]
theorem ptrs_length (a : List (Nat × Nat)) : (ptrs a).length = a.length := by simp [ptrs]

theorem own_mono {w : World} {base base' : Nat} {e : TypeId} {size : Nat} {v : Value} {n : Nat} {xs : List Value} (h : w.ownsRow base e size v n xs) (hb : base' ≤ base) : w.ownsRow base' e size v n xs := by
  obtain ⟨h1, h2⟩ := h
  refine ⟨h1, ?_⟩
  rcases h2 with h2 | ⟨g, cap, cur, hv, hg, r⟩
  · exact Or.inl h2
  · exact Or.inr ⟨g, cap, cur, hv, Nat.le_trans hb hg, r⟩

theorem kept_block {C : Nat} {w5 w6 : World} {v : Value} {o : Obj} (hg : (w5.alloc o).grownBy w6 v.ownBlock) (hr : ∀ j, v.ownBlock = some j → C + 1 ≤ j) (hs : C < w5.heap.size) : w6.heap[C]? = w5.heap[C]? := by
  rw [hg.block C (by simp; omega) (fun h => by have := hr C h.symm; omega), Below.heap_alloc _ _ _ hs]

/-- The line of who lives, anew. -/
theorem RefAt.reline {w wr : World} {F : Nat → Prop} {m n : Nat} {bg : Nat → Nat} {tk tk' : Nat → Bool} {la sa : Option Addr} {lc sc : Nat} {ls ls' : List (Nat × Nat)} (h : RefAt w F m n bg tk la lc ls) (hb : Below w.heap.size w wr)
    (hrow : wr.ownsRow w.heap.size 55 1 (.slice sa ls'.length sc) ls'.length (ptrs ls')) (hlive : ls'.map Prod.fst = livePl tk') (hsub : ∀ z ∈ ls', z ∈ ls) :
    w.grownBy (wr.setCell ⟨m, 22, none⟩ (.slice sa ls'.length sc)) (some m) ∧ RefAt (wr.setCell ⟨m, 22, none⟩ (.slice sa ls'.length sc)) (grow F w (wr.setCell ⟨m, 22, none⟩ (.slice sa ls'.length sc))) m n bg tk' sa sc ls' := by
  have hm := h.lt
  have hsz : (wr.setCell ⟨m, 22, none⟩ (.slice sa ls'.length sc)).heap.size = wr.heap.size := by simp [World.setCell]
  have hg : w.grownBy (wr.setCell ⟨m, 22, none⟩ (.slice sa ls'.length sc)) (some m) := grownBy_tr (grownBy_below hb _) (grownBy_set _ _ _ _)
  have hl := (hb.cell (p := ⟨m, 22, none⟩) hm).trans h.line
  refine ⟨hg, ?_⟩
  refine { lt := by rw [hsz]; exact Nat.lt_of_lt_of_le hm hb.size, few := h.few, out := ?_, schema := ?_, lives := ?_, line := ?_, lineF := ?_, row := ?_, rowF := ?_, live := hlive, each := ?_ }
  · rintro (h1 | h1)
    · exact h.out h1
    · omega
  · obtain ⟨s1, s2, e⟩ := h.schema
    exact ⟨s1, s2, by rw [set_other _ (by omega)]; exact (hb.cell (p := ⟨m, 0, none⟩) hm).trans e⟩
  · intro p h1 h2
    obtain ⟨e1, e2⟩ := h.lives p h1 h2
    refine ⟨?_, ?_⟩
    · rw [set_other _ (by omega)]; exact (hb.cell (p := ⟨m, 1 + p, none⟩) hm).trans e1
    · rw [World.frozen?_setCell]; exact (hb.frozen (p := ⟨m, 1 + p, none⟩) hm).trans e2
  · exact set_same _ hl
  · rw [World.frozen?_setCell]; exact (hb.frozen (p := ⟨m, 22, none⟩) hm).trans h.lineF
  · exact own_mono (ownsRow_setCell_below (a := ⟨m, 22, none⟩) hrow hm _) (Nat.zero_le _)
  · intro k hk
    have := hrow.lt k hk
    exact Or.inr ⟨this.1, by rw [hsz]; exact this.2⟩
  · intro z hz
    refine (h.each z (hsub z hz)).turn hg.size fun k hk hkl => ⟨hg.block k hkl (fun e => ?_), Or.inl hk⟩
    obtain rfl : k = m := by simpa using e
    exact h.out hk

set_option maxHeartbeats 3200000 in
set_option maxRecDepth 20000 in
theorem rdespawn_yes {F : Nat → Prop} {m n : Nat} {bg : Nat → Nat} {tk : Nat → Bool} {la : Option Addr} {lc : Nat} {ls : List (Nat × Nat)} (i : Nat) (w : World) (hi : i < 20) (ht : tk i = true) (hR : RefAt w F m n bg tk la lc ls) :
    Calls Tryz.prog 27 #[.pointer (some ⟨m, 0, none⟩), .agg #[.int .i64 ((i : Int) + 1), .int .i64 (bg i : Int)]] w fun e w' => e = .returned (.int .i64 0) ∧ w.grownBy w' (some m) ∧ ∃ la' lc' ls', RefAt w' (grow F w w') m n bg (upd tk i false) la' lc' ls' := by
  have HR : Hid (RefAt w F m n bg tk la lc ls) := hR
  have HLv : Hid (Lv bg tk ((i : Int) + 1) (bg i : Int)) := ⟨i, hi, ht, rfl, rfl⟩
  have hline := hR.line
  have hm := hR.lt
  obtain ⟨hn1, hn6⟩ := hR.few
  have hlen : ls.length ≤ 20 := by have := congrArg List.length hR.live; rw [List.length_map] at this; rw [this]; exact live_le tk
  obtain ⟨k, hk⟩ : ∃ k, k = ls.length := ⟨_, rfl⟩
  have HK : Hid (k = ls.length) := hk
  have HRow : Hid (w.ownsRow 0 55 1 (.slice la k lc) k (ptrs ls)) := by rw [hk]; exact hR.row
  rw [← hk] at hline hlen
  have hlineF := hR.lineF
  clear hR hk ht
  obtain ⟨i0, hii, hz0, hz1, hz2⟩ := info_parts Tryz.info55
  have hEql := eql48
  go_enter Tryz.func27, Tryz.ntmps27
  go_wp2_with fail
  refine (get_any _ _ _ (HR.out.below ((Below.refl _ _).alloc (Nat.le_refl _) _))).mono ?_
  rintro e w1 ⟨hg, hb1⟩
  rcases hg with ⟨_, a, rfl⟩ | ⟨h, _⟩
  rotate_left
  · exact absurd HLv.out h
  have c0 : w1.cell? ⟨w.heap.size, 0, none⟩ = some (.int .i64 ((i : Int) + 1)) := by rw [hb1.cell (p := ⟨w.heap.size, 0, none⟩) (by simp)]; simp
  have c1 : w1.cell? ⟨w.heap.size, 1, none⟩ = some (.int .i64 (bg i : Int)) := by rw [hb1.cell (p := ⟨w.heap.size, 1, none⟩) (by simp)]; simp
  have hB1 : Below w.heap.size w w1 := ((Below.refl _ _).alloc (Nat.le_refl _) _).trans (hb1.mono (by simp))
  have hs1 : w.heap.size < w1.heap.size := by have := hb1.size; simp at this; omega
  have hline1 : w1.cell? ⟨m, 22, none⟩ = some (.slice la k lc) := (hB1.cell (p := ⟨m, 22, none⟩) hm).trans hline
  have HB1 : Hid (Below w.heap.size w w1) := hB1
  have HX : Hid (w1.cell? ⟨w.heap.size, 0, none⟩ = some (.int .i64 ((i : Int) + 1)) ∧ w1.cell? ⟨w.heap.size, 1, none⟩ = some (.int .i64 (bg i : Int))) := ⟨c0, c1⟩
  clear hb1 c0 c1 hB1
  go_wp2_with fail
  go_loopw [5, 20] (fun v t wr => ∃ (j q : Nat) (sa : Option Addr) (sc : Nat), j ≤ k ∧ q ≤ j ∧ t = .int .i64 j ∧ v = .slice sa q sc ∧ Hid (q = ((ls.take j).filter fun z => z.1 != i).length) ∧ wr.ownsRow (w.heap.size + 1) 55 1 (.slice sa q sc) q (ptrs ((ls.take j).filter fun z => z.1 != i)) ∧ Below w.heap.size w wr ∧ w.heap.size < wr.heap.size ∧ wr.cell? ⟨w.heap.size, 0, none⟩ = some (.int .i64 ((i : Int) + 1)) ∧ wr.cell? ⟨w.heap.size, 1, none⟩ = some (.int .i64 (bg i : Int)))
    (fun _ t _ => k - (intOf t).toNat)
  case atStart => exact ⟨0, 0, none, 0, by omega, by omega, rfl, rfl, rfl, World.ownsRow_nil _ _ _ _, HB1.out, hs1, HX.out.1, HX.out.2⟩
  case round =>
    obtain ⟨j, q, sa, sc, hj, hqj, rfl, rfl, HQ, hown, hb, hsr, c0, c1⟩ := hrel
    have HB : Hid (Below w.heap.size w wr) := hb
    have HO : Hid (wr.ownsRow (w.heap.size + 1) 55 1 (.slice sa q sc) q (ptrs ((ls.take j).filter fun z => z.1 != i))) := hown
    by_cases hlt : j < k
    · have hjl : j < ls.length := by rw [← HK.out]; exact hlt
      obtain ⟨g, rfl⟩ : ∃ g, la = some ⟨g, 0, none⟩ := by
        rcases HRow.out.2 with ⟨h, h2⟩ | ⟨g, cap, cur, h, _⟩
        · omega
        · simp at h; exact ⟨g, h.1⟩
      have hg : g < w.heap.size := (HRow.out.lt g rfl).2
      have hcap : k ≤ lc := by
        rcases HRow.out.2 with ⟨h, h2⟩ | ⟨g', cap, cur, h, _, _, h4, _⟩
        · simp at h
        · simp at h; omega
      have r0 : wr.cell? ⟨g, j, none⟩ = some (.pointer (some ⟨ls[j].2, 0, none⟩)) := by
        rw [hb.cell (p := ⟨g, j, none⟩) hg, HRow.out.cellAt j (by omega)]
        simp [ptrs, hjl]
      have HZ : Hid (ls[j] ∈ ls) := List.getElem_mem hjl
      have HT : Hid ((ls.take (j + 1)).filter (fun z => z.1 != i) = (ls.take j).filter (fun z => z.1 != i) ++ (if (ls[j].1 != i) then [ls[j]] else [])) := take_filter_succ ls j hjl _
      generalize ls[j] = z at r0 HZ HT
      obtain ⟨_, b2, b3, b4, gv, _, b6, b7, b8⟩ := HR.out.each z HZ.out
      obtain ⟨pl, bb⟩ := z
      simp only at r0 b2 b3 b4 b7
      have p0 : wr.cell? ⟨bb, 0, none⟩ = some (.int .i64 ((pl : Int) + 1)) := (hb.cell (p := ⟨bb, 0, none⟩) b2).trans b3
      have p1 : wr.cell? ⟨bb, 1, none⟩ = some (.int .i64 (bg pl : Int)) := (hb.cell (p := ⟨bb, 1, none⟩) b2).trans b4
      by_cases he : pl = i
      · subst he
        have HT1 : Hid ((ls.take (j + 1)).filter (fun z => z.1 != pl) = (ls.take j).filter (fun z => z.1 != pl)) := by
          show _ = _
          rw [HT.out]; simp
        have q1 : (((pl : Int) + 1 == (pl : Int) + 1) && ((bg pl : Int) == (bg pl : Int))) = true := by simp
        clear hb hown b3 b4 b7 b8
        go_wp2_with fail
        go_quiet (fail)
        go_wp2_with fail
        go_roundw
        case rel => exact ⟨j + 1, q, sa, sc, by omega, by omega, by go_num, rfl, by rw [HT1.out]; exact HQ, by rw [HT1.out]; exact HO.out, below_drewN HB.out _, by simpa using hsr, by simpa using c0, by simpa using c1⟩
        case measure => simp [intOf]; omega
      · have q1 : (((pl : Int) + 1 == (i : Int) + 1) && ((bg pl : Int) == (bg i : Int))) = false := by
          rw [Bool.and_eq_false_iff]
          exact Or.inl (by rw [beq_eq_false_iff_ne]; omega)
        have HT1 : Hid ((ls.take (j + 1)).filter (fun z => z.1 != i) = (ls.take j).filter (fun z => z.1 != i) ++ [(pl, bb)]) := by
          show _ = _
          rw [HT.out]; simp [he]
        have B7 : Hid (w.cell? ⟨bb, 3, none⟩ = some (.slice (some ⟨gv, 0, none⟩) n n)) := b7
        have B8 : Hid (∀ q, q < n → w.cell? ⟨gv, q, none⟩ = some (.slice none 0 0)) := b8
        clear hb b3 b4 b7 b8
        go_wp2_with fail
        go_quiet (fail)
        obtain ⟨wd, hwd⟩ : ∃ wd, wd = wr.drewN nq := ⟨_, rfl⟩
        rw [← hwd]
        have HBd : Hid (Below w.heap.size w wd) := by rw [hwd]; exact below_drewN HB.out _
        have HOd : Hid (wd.ownsRow (w.heap.size + 1) 55 1 (.slice sa q sc) q (ptrs ((ls.take j).filter fun z => z.1 != i))) := by rw [hwd]; exact HO.out
        have hsd : w.heap.size < wd.heap.size := by rw [hwd]; simpa using hsr
        have HC : Hid (wd.cell? ⟨w.heap.size, 0, none⟩ = some (.int .i64 ((i : Int) + 1)) ∧ wd.cell? ⟨w.heap.size, 1, none⟩ = some (.int .i64 (bg i : Int))) := by
          rw [hwd]; exact ⟨by simpa using c0, by simpa using c1⟩
        clear hwd hown p0 p1 c0 c1 r0 hsr
        go_wp2_with (at_builtin; refine wpList_append_own _ rfl _ _ 74 rfl (w.heap.size + 1) 55 i0 (.pointer none) 1 8 Tryz.underlying74 hii hz0 hz1 hz2 rfl (by decide) _ _ _ rfl (HOd.out.alloc _) ⟨wd.heap.size, 0, none⟩ 1 1 [.pointer (some ⟨bb, 0, none⟩)] rfl rfl (cell_one_new _ _ _) (fun x hx => by simp at hx; subst hx; rfl) (by unfold maxLen; omega) (by omega) (by simp; omega) ?_; intro v' w6 hown6 hgrow6 _; obtain ⟨gg, gc, rfl⟩ := own_succ hown6; have HO6 : Hid (w6.ownsRow (w.heap.size + 1) 55 1 (.slice (some ⟨gg, 0, none⟩) (q + 1) gc) (q + 1) (ptrs ((ls.take j).filter fun z => z.1 != i) ++ [.pointer (some ⟨bb, 0, none⟩)])) := hown6; have hB6 : Below w.heap.size w w6 := Below.grown (HBd.out.alloc (by omega) _) hgrow6 (by simp; omega) (fun j hj => by have := (HOd.out.lt j hj).1; omega); have hk6 : w6.heap[w.heap.size]? = wd.heap[w.heap.size]? := kept_block hgrow6 (fun j hj => (HOd.out.lt j hj).1) hsd; have hs6 : w.heap.size < w6.heap.size := (by have := hgrow6.size; simp at this; omega); have x0 : w6.cell? ⟨w.heap.size, 0, none⟩ = some (.int .i64 ((i : Int) + 1)) := (World.cell?_of_block (a := ⟨w.heap.size, 0, none⟩) hk6).trans HC.out.1; have x1 : w6.cell? ⟨w.heap.size, 1, none⟩ = some (.int .i64 (bg i : Int)) := (World.cell?_of_block (a := ⟨w.heap.size, 1, none⟩) hk6).trans HC.out.2; have p3 : w6.cell? ⟨bb, 3, none⟩ = some (.slice (some ⟨gv, 0, none⟩) n n) := (hB6.cell (p := ⟨bb, 3, none⟩) b2).trans B7.out; have P8 : Hid (∀ q, q < n → w6.cell? ⟨gv, q, none⟩ = some (.slice none 0 0)) := (fun q hq => (hB6.cell (p := ⟨gv, q, none⟩) b6).trans (B8.out q hq)); have HB6 : Hid (Below w.heap.size w w6) := hB6; clear hown6 hgrow6 hB6 hk6)
        go_loopw [39] (fun t wk => ∃ y : Nat, y ≤ n ∧ t = .int .i64 y ∧ w6 = wk) (fun t _ => n - (intOf t).toNat)
        case atStart => exact ⟨0, by omega, rfl, rfl⟩
        case round =>
          obtain ⟨y, hy, rfl, rfl⟩ := hrel
          by_cases hyn : y < n
          · have p8 := P8.out y hyn
            go_wp2_with fail
            go_loopw [45] (fun t wk => t = .int .i64 0 ∧ w6 = wk) (fun _ _ => 0)
            case atStart => exact ⟨rfl, rfl⟩
            case round =>
              obtain ⟨rfl, rfl⟩ := hrel
              go_wp2_with fail
              go_roundw
              case rel => exact ⟨y + 1, by omega, by go_num, by first | rfl | trivial⟩
              case measure => simp [intOf]; omega
          · go_wp2_with fail
            go_roundw
            case rel =>
              refine ⟨j + 1, q + 1, some ⟨gg, 0, none⟩, gc, by omega, by omega, by go_num, rfl, ?_, ?_, HB6.out, hs6, x0, x1⟩
              · show _ = _
                rw [HT1.out, List.length_append, ← HQ.out]; rfl
              · rw [HT1.out, ptrs_append]; exact HO6.out
            case measure => simp [intOf]; omega
    · have hjk : j = k := by omega
      have HFin : Hid (ls.take j = ls) := by
        show _ = _
        rw [hjk, HK.out, List.take_length]
      rw [HFin.out] at hown HQ
      have HRe : Hid _ := HR.out.reline (sa := sa) (sc := sc) (tk' := upd tk i false) (ls' := ls.filter fun z => z.1 != i) HB.out (by rw [← HQ.out]; exact own_mono hown (by omega)) (by
        rw [live_del, ← HR.out.live, List.filter_map]; rfl) (fun z hz => (List.mem_filter.1 hz).1)
      rw [← HQ.out] at HRe
      have l22 : wr.cell? ⟨m, 22, none⟩ = some (.slice la k lc) := (hb.cell (p := ⟨m, 22, none⟩) hm).trans hline
      have f22 : wr.frozen? ⟨m, 22, none⟩ = false := (hb.frozen (p := ⟨m, 22, none⟩) hm).trans hlineF
      clear hb hown hjk
      go_wp2_with fail
      go_ret
      exact ⟨rfl, HRe.out.1, _, _, _, HRe.out.2⟩

end Go.Proofs.YthkbeaffkcfgiaaGreatDoor
