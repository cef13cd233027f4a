import Derived.Test.YthkbeaffkcfgiabGreatDoorField
import Derived.Test.YthkbeaffkcfgiabGreatDoorEnter
namespace Go.Proofs.YthkbeaffkcfgiabGreatDoor
open Go.RowKit

theorem Tryz.info135 : (Tryz.prog.info? 135).map (fun i => (i.zero, i.size, i.bytes)) = some (some (.agg #[.string ⟨#[]⟩, .int .i64 0]), 2, 24) := by kernel_rfl

theorem own_succ {W : World} {base : Nat} {e : TypeId} {size : Nat} {v : Value} {k : Nat} {xs : List Value} (h : W.ownsRow base e size v (k + 1) xs) : ∃ g cap, v = .slice (some ⟨g, 0, none⟩) (k + 1) cap := by
  rcases h.2 with ⟨_, h⟩ | ⟨g, cap, cur, h, _⟩
  · omega
  · exact ⟨g, cap, h⟩

/-- Behind an append to the row in the variable at block C: what the round goes on with. -/
theorem row_step {C : Nat} {e : TypeId} {wa w5 w6 : World} {sa : Option Addr} {sn sc k : Nat} {v' c0 : Value} {xs ys : List Value} {o : Obj} (hown5 : w5.ownsRow (C + 1) e 2 (.slice sa sn sc) k xs) (hown6 : w6.ownsRow (C + 1) e 2 v' (k + 1) ys)
    (hg : (w5.alloc o).grownBy w6 (Value.slice sa sn sc).ownBlock) (g0 : w5.cell? ⟨C, 0, none⟩ = some c0) (g1 : w5.cell? ⟨C, 1, none⟩ = some (.slice sa sn sc)) (k0 : w5.frozen? ⟨C, 0, none⟩ = false) (k1 : w5.frozen? ⟨C, 1, none⟩ = false)
    (hs : C < w5.heap.size) (hB : Below C wa w5) :
    ∃ g c, v' = .slice (some ⟨g, 0, none⟩) (k + 1) c ∧ w6.cell? ⟨C, 0, none⟩ = some c0 ∧ w6.cell? ⟨C, 1, none⟩ = some (.slice sa sn sc) ∧ w6.frozen? ⟨C, 0, none⟩ = false ∧ w6.frozen? ⟨C, 1, none⟩ = false ∧ Below C wa w6 ∧ C < w6.heap.size := by
  have hrow : ∀ j, (Value.slice sa sn sc).ownBlock = some j → C + 1 ≤ j := fun j hj => (hown5.lt j hj).1
  have hblk : w6.heap[C]? = w5.heap[C]? := by
    rw [hg.block C (by simp; omega) (fun h => by have := hrow C h.symm; omega), Below.heap_alloc _ _ _ hs]
  obtain ⟨g, c, hv⟩ := own_succ hown6
  refine ⟨g, c, hv, ?_, ?_, ?_, ?_, ?_, ?_⟩
  · rw [World.cell?_of_block (a := ⟨C, 0, none⟩) hblk]; exact g0
  · rw [World.cell?_of_block (a := ⟨C, 1, none⟩) hblk]; exact g1
  · rw [World.frozen?_of_block (a := ⟨C, 0, none⟩) hblk]; exact k0
  · rw [World.frozen?_of_block (a := ⟨C, 1, none⟩) hblk]; exact k1
  · exact Below.grown (hB.alloc (by omega) o) hg (by simp; omega) (fun j hj => by have := hrow j hj; omega)
  · have := hg.size; simp at this; omega

/-- A field as it lies in memory. -/
def bz (f : List UInt8 × Nat) : ByteArray × Int := (mk f.1, (f.2 : Int))
theorem mem_bz (nm : List UInt8) (zl : List (List UInt8 × Nat)) : mk nm ∈ (zl.map bz).map Prod.fst ↔ nm ∈ zl.map Prod.fst := by
  simp only [List.map_map, List.mem_map, Function.comp_def, bz]
  constructor
  · rintro ⟨f, hf, e⟩; exact ⟨f, hf, mk_inj e⟩
  · rintro ⟨f, hf, e⟩; exact ⟨f, hf, by rw [e]⟩

/-- How readComp ends. -/
def CompEnds (line : List UInt8) (e : Ending) : Prop := (∃ c, compL line = some c ∧ ∃ sa n cc, e = .returned (.agg #[.string (mk c.1), .slice sa n cc])) ∨ (compL line = none ∧ e = .panicked wrong)

theorem cut_small (b : UInt8) : ∀ (s : List UInt8) (p : List UInt8), p ∈ cutL b s → p.length ≤ s.length
  | [], p, h => by simp [cutL] at h; simp [h]
  | c :: s, p, h => by
    unfold cutL at h
    split at h
    · rcases List.mem_cons.1 h with rfl | h
      · simp
      · have := cut_small b s p h; simp; omega
    · cases hc : cutL b s with
      | nil => exact absurd hc (cutL_ne b s)
      | cons q qs =>
        rw [hc] at h
        rcases List.mem_cons.1 h with rfl | h
        · have := cut_small b s q (by rw [hc]; simp); simp; omega
        · have := cut_small b s p (by rw [hc]; simp [h]); simp; omega

set_option maxHeartbeats 1600000 in
theorem readComp_any (line : List UInt8) (m : Int) (w : World) (hsz : line.length < 500) (hm : w.cell? ⟨3, 0, none⟩ = some (.int .i64 m)) :
    Calls Tryz.prog 195 #[.string (mk line)] w fun e w' => CompEnds line e ∧ Below w.heap.size w w' := by
  have h0 : 3 < w.heap.size := World.block_lt_of_cell? w ⟨3, 0, none⟩ hm
  obtain ⟨nm, ws, hps⟩ : ∃ nm ws, cutL 32 line = nm :: ws := by
    cases h : cutL 32 line with
    | nil => exact absurd h (cutL_ne _ _)
    | cons a b => exact ⟨a, b, rfl⟩
  have HS : Hid (∀ o : Obj, Calls Tryz.prog 194 #[.string (mk line), .string ⟨#[32]⟩] (w.alloc o) fun e w' => e = .returned (.slice (some ⟨w.heap.size + 1, 0, none⟩) (ws.length + 1) (ws.length + 1)) ∧ w' = (w.alloc o).alloc (.cells ((nm :: ws).map fun l => Value.string (mk l)).toArray 9)) := fun o => by
    have := split_any 32 (mk line) m (w.alloc o) (by rw [size_mk]; exact hsz) ((World.cell?_alloc_lt w o ⟨3, 0, none⟩ h0).trans hm)
    rw [data_mk, hps, World.size_alloc] at this
    exact this
  have HCo : Hid (compL line = compP nm ws) := by
    show _ = _
    unfold compL; rw [hps]
  have hbig : ws.length < 600 := by
    have := cut_count 32 line
    rw [hps] at this
    simp at this; omega
  have HSm : Hid (∀ p ∈ nm :: ws, p.length < 500) := fun p hp => by
    have := cut_small 32 line p (by rw [hps]; exact hp); omega
  have HM : Hid (w.cell? ⟨3, 0, none⟩ = some (.int .i64 m)) := hm
  clear hm hps
  by_cases hfew : ws.length ≤ 4
  · by_cases hname : nameL nm = true
    · have HNm : Hid (NameOk (mk nm)) := (nameL_ok _).1 (by rw [data_mk]; exact hname)
      have HNl : Hid (nameL nm = true) := hname
      clear hname
      obtain ⟨i0, hi, hz0, hz1, hz2⟩ := info_parts Tryz.info135
      by_cases hne : ws = []
      · subst hne
        go_enter Tryz.func195, Tryz.ntmps195
        go_wp2_with fail
        refine Calls.mono (HS.out _) ?_
        rintro e w1 ⟨rfl, rfl⟩
        go_wp2_with (go_at_call 193; refine (need_of _ _ ?_).mono ?_; (first | rfl | (simp; omega)); rintro e w' ⟨rfl, rfl⟩)
        refine (readName_ok (mk nm) _ HNm.out).mono ?_
        rintro e w2 ⟨rfl, hb2⟩
        have HB : Hid (Below w.heap.size w w2) := (below_two _ _ _).trans (hb2.mono (by simp; omega))
        have hsz2 : w.heap.size < w2.heap.size := by have := hb2.size; simp at this; omega
        have hc0 : w2.cell? ⟨w.heap.size, 0, none⟩ = some (.string ⟨#[]⟩) := by rw [hb2.cell (p := ⟨w.heap.size, 0, none⟩) (by simp; omega), World.cell?_alloc_lt _ _ _ (by simp)]; simp
        have hc1 : w2.cell? ⟨w.heap.size, 1, none⟩ = some (.slice none 0 0) := by rw [hb2.cell (p := ⟨w.heap.size, 1, none⟩) (by simp; omega), World.cell?_alloc_lt _ _ _ (by simp)]; simp
        have hf : ∀ o, w2.frozen? ⟨w.heap.size, o, none⟩ = false := fun o => by rw [hb2.frozen (p := ⟨w.heap.size, o, none⟩) (by simp; omega)]; simp
        clear hb2
        by_cases hE : nm = [101]
        · have HCn : Hid (compL line = none) := HCo.out.trans (compP_e hE)
          have hEl : ((mk nm).toList == [101]) = true := by rw [toList_mk, hE]; decide
          clear hE HCo
          go_wp2_with fail
          refine wp_loop_rounds 1 ?_
          rw [rounds_succ]
          go_wp2_with (go_at_call 193; refine (need_no _ _ ?_).mono ?_; (first | rfl | simp [hEl]); rintro e w' ⟨rfl, rfl⟩)
          exact ⟨rfl, Or.inr ⟨HCn.out, rfl⟩, HB.out.alloc HB.out.size _⟩
        · have HCn : Hid (compL line = some (nm, [])) := HCo.out.trans (compP_some (by simp) HNl.out rfl (fun h => hE h.1))
          have hEl : ((mk nm).toList == [101]) = false := by rw [toList_mk, beq_eq_false_iff_ne]; exact hE
          clear hE HCo
          go_wp2_with fail
          refine wp_loop_rounds 1 ?_
          rw [rounds_succ]
          go_wp2_with (go_at_call 193; refine (need_of _ _ ?_).mono ?_; (first | rfl | simp [hEl]); rintro e w' ⟨rfl, rfl⟩)
          refine bodyPost_ret (v := .agg #[.string (mk nm), .slice none 0 0]) ?_ rfl ⟨Or.inl ⟨_, HCn.out, none, 0, 0, rfl⟩, ?_⟩
          · have r0 : (((w2.setCell ⟨w.heap.size, 0, none⟩ (.string (mk nm))).setCell ⟨w.heap.size, 1, none⟩ (.slice none 0 0)).alloc (.cells #[.string (mk nm), .slice none 0 0] 138)).cell? ⟨w.heap.size, 0, none⟩ = some (.string (mk nm)) := by
              rw [World.cell?_alloc_lt _ _ _ (by simp; omega), set_other _ (by omega), set_same _ hc0]
            have r1 : (((w2.setCell ⟨w.heap.size, 0, none⟩ (.string (mk nm))).setCell ⟨w.heap.size, 1, none⟩ (.slice none 0 0)).alloc (.cells #[.string (mk nm), .slice none 0 0] 138)).cell? ⟨w.heap.size, 1, none⟩ = some (.slice none 0 0) := by
              rw [World.cell?_alloc_lt _ _ _ (by simp; omega), set_same (u := .slice none 0 0) _ (by rw [set_other _ (by omega)]; exact hc1)]
            simp [results, Tryz.results195, go_sem, r0, r1]
          · repeat (first | exact HB.out | refine Below.setCell ?_ (by simp) _ | refine Below.alloc ?_ (by simp; omega) _ | refine Below.drew ?_)
      · go_enter Tryz.func195, Tryz.ntmps195
        go_wp2_with fail
        refine Calls.mono (HS.out _) ?_
        rintro e w1 ⟨rfl, rfl⟩
        go_wp2_with (go_at_call 193; refine (need_of _ _ ?_).mono ?_; (first | rfl | (simp; omega)); rintro e w' ⟨rfl, rfl⟩)
        refine (readName_ok (mk nm) _ HNm.out).mono ?_
        rintro e w2 ⟨rfl, hb2⟩
        have HB : Hid (Below w.heap.size w w2) := (below_two _ _ _).trans (hb2.mono (by simp; omega))
        have hsz2 : w.heap.size + 1 < w2.heap.size := by have := hb2.size; simp at this; omega
        have hc0 : w2.cell? ⟨w.heap.size, 0, none⟩ = some (.string ⟨#[]⟩) := by rw [hb2.cell (p := ⟨w.heap.size, 0, none⟩) (by simp; omega), World.cell?_alloc_lt _ _ _ (by simp)]; simp
        have hc1 : w2.cell? ⟨w.heap.size, 1, none⟩ = some (.slice none 0 0) := by rw [hb2.cell (p := ⟨w.heap.size, 1, none⟩) (by simp; omega), World.cell?_alloc_lt _ _ _ (by simp)]; simp
        have hf : ∀ o, w2.frozen? ⟨w.heap.size, o, none⟩ = false := fun o => by rw [hb2.frozen (p := ⟨w.heap.size, o, none⟩) (by simp; omega)]; simp
        have HP : Hid (∀ k (h : k < ws.length), w2.cell? ⟨w.heap.size + 1, 1 + k, none⟩ = some (.string (mk ws[k]))) := fun k h => by
          rw [hb2.cell (p := ⟨w.heap.size + 1, 1 + k, none⟩) (by simp)]
          have := World.cell?_alloc_new (w.alloc (.cells #[.string ⟨#[]⟩, .slice none 0 0] 138)) ((nm :: ws).map fun l => Value.string (mk l)).toArray 9 (1 + k)
          rw [World.size_alloc] at this
          rw [show 1 + k = k + 1 from by omega] at this ⊢
          simp only [List.map_cons] at this
          rw [this]
          simp [h]
        have H0 : Hid (w2.cell? ⟨3, 0, none⟩ = some (.int .i64 m)) := (HB.out.cell (p := ⟨3, 0, none⟩) h0).trans HM.out
        have X0 : Hid (w2.cell? ⟨w.heap.size, 0, none⟩ = some (.string ⟨#[]⟩) ∧ w2.cell? ⟨w.heap.size, 1, none⟩ = some (.slice none 0 0) ∧ ∀ o, w2.frozen? ⟨w.heap.size, o, none⟩ = false) := ⟨hc0, hc1, hf⟩
        clear hb2 hc0 hc1 hf
        go_wp2_with fail
        go_loopw [22] (fun t wr => ∃ (k : Nat) (v : Value) (zl : List (List UInt8 × Nat)), k ≤ ws.length ∧ t = .int .i64 k ∧ Hid (fieldsL [] (ws.take k) = some zl) ∧ Hid (zl.length = k) ∧ wr.ownsRow (w2.heap.size + 1) 135 2 v k (fieldCells (zl.map bz)) ∧ wr.cell? ⟨w2.heap.size, 0, none⟩ = some (.string (mk nm)) ∧ wr.cell? ⟨w2.heap.size, 1, none⟩ = some v ∧ wr.frozen? ⟨w2.heap.size, 0, none⟩ = false ∧ wr.frozen? ⟨w2.heap.size, 1, none⟩ = false ∧ Below w2.heap.size w2 wr ∧ w2.heap.size < wr.heap.size)
          (fun t _ => ws.length - (intOf t).toNat)
        case atStart => exact ⟨0, .slice none 0 0, [], by omega, rfl, rfl, rfl, World.ownsRow_nil _ _ _ _, by simp, by simp, by simp, by simp, (Below.refl _ _).alloc (Nat.le_refl _) _, by simp⟩
        case round =>
          obtain ⟨k, v, zl, hk, rfl, HFs, HZl, hown, hC0, hC1, hF0, hF1, hbw, hlt0⟩ := hrel
          have HBW : Hid (Below w2.heap.size w2 wr) := hbw
          have HO : Hid (wr.ownsRow (w2.heap.size + 1) 135 2 v k (fieldCells (zl.map bz))) := hown
          by_cases hlt : k < ws.length
          · have hw : wr.cell? ⟨w.heap.size + 1, 1 + k, none⟩ = some (.string (mk ws[k])) := (hbw.cell (p := ⟨w.heap.size + 1, 1 + k, none⟩) hsz2).trans (HP.out k hlt)
            have HFd : Hid _ := readField_any ws[k] m wr (HSm.out _ (by simp)) ((hbw.cell (p := ⟨3, 0, none⟩) (by simp; omega)).trans H0.out)
            have HAp : Hid (∀ r, fieldsL [] ws = (fieldsL zl (ws[k] :: r)) → True) := fun _ _ => trivial
            have HWs : Hid (fieldsL [] ws = fieldsL zl (ws[k] :: ws.drop (k + 1))) := by
              show _ = _
              have e : ws = ws.take k ++ ws[k] :: ws.drop (k + 1) := by rw [← List.drop_eq_getElem_cons hlt, List.take_append_drop]
              conv => lhs; rw [e]
              rw [fieldsL_append, HFs.out]; rfl
            have HTk : Hid (ws.take (k + 1) = ws.take k ++ [ws[k]]) := List.take_succ_eq_append_getElem hlt
            clear hbw hown HAp
            generalize ws[k] = wd at hw HFd HWs HTk
            go_wp2_with fail
            refine Calls.mono HFd.out ?_
            rintro e w3 ⟨hends, hb3⟩
            have HB3 : Hid (Below wr.heap.size wr w3) := hb3
            rcases hends with ⟨f, hf, rfl⟩ | ⟨hf, rfl⟩
            · have d0 : w3.cell? ⟨w2.heap.size, 0, none⟩ = some (.string (mk nm)) := (hb3.cell (p := ⟨w2.heap.size, 0, none⟩) hlt0).trans hC0
              have d1 : w3.cell? ⟨w2.heap.size, 1, none⟩ = some v := (hb3.cell (p := ⟨w2.heap.size, 1, none⟩) hlt0).trans hC1
              have e0 : w3.frozen? ⟨w2.heap.size, 0, none⟩ = false := (hb3.frozen (p := ⟨w2.heap.size, 0, none⟩) hlt0).trans hF0
              have e1 : w3.frozen? ⟨w2.heap.size, 1, none⟩ = false := (hb3.frozen (p := ⟨w2.heap.size, 1, none⟩) hlt0).trans hF1
              have hs3 : w2.heap.size < w3.heap.size := Nat.lt_of_lt_of_le hlt0 hb3.size
              have HO3 : Hid (w3.ownsRow (w2.heap.size + 1) 135 2 v k (fieldCells (zl.map bz))) := HO.out.kept (grownBy_below hb3 none) (by cases v.ownBlock <;> simp)
              have HF : Hid (fieldR wd = some f) := hf
              clear hb3 hC0 hC1 hF0 hF1 hw hf
              obtain ⟨sa, sc, rfl⟩ := own_form HO.out
              have HFi : Hid _ := find104_any (mk nm) (mk f.1) (.slice sa k sc) (w2.heap.size + 1) (zl.map bz) (w3.alloc (.cells #[.string (mk f.1), .int .i64 (f.2 : Int)] 135)) (by rw [List.length_map, HZl.out]; omega) (by rw [List.length_map, HZl.out]; exact HO3.out.alloc _)
              go_wp2_with fail
              refine Calls.mono HFi.out ?_
              rintro e w5 ⟨⟨r, rfl, hr⟩, hb5⟩
              have b0 : w5.cell? ⟨w3.heap.size, 0, none⟩ = some (.string (mk f.1)) := by rw [hb5.cell (p := ⟨w3.heap.size, 0, none⟩) (by simp)]; simp
              have b1 : w5.cell? ⟨w3.heap.size, 1, none⟩ = some (.int .i64 (f.2 : Int)) := by rw [hb5.cell (p := ⟨w3.heap.size, 1, none⟩) (by simp)]; simp
              have HB5 : Hid (Below w3.heap.size w3 w5) := ((Below.refl _ _).alloc (Nat.le_refl _) _).trans (hb5.mono (by simp))
              have HB2 : Hid (Below w2.heap.size w2 w5) := (Below.trans HBW.out (HB3.out.mono (by omega))).trans (HB5.out.mono (by omega))
              rw [mem_bz] at hr
              by_cases hdup : f.1 ∈ zl.map Prod.fst
              · have hr0 : ¬ r < 0 := fun h => (hr.1 h) hdup
                have HCn : Hid (compL line = none) := HCo.out.trans (compP_none (by rw [HWs.out, fieldsL, HF.out]; simp only; rw [if_pos hdup]))
                clear hdup hr hb5
                go_wp2_with (go_at_call 193; refine (need_no _ _ ?_).mono ?_; (first | rfl | (simp; omega)); rintro e w' ⟨rfl, rfl⟩)
                exact ⟨rfl, Or.inr ⟨HCn.out, rfl⟩, HB.out.trans (HB2.out.mono (by omega))⟩
              · have hr0 : r < 0 := hr.2 hdup
                have HN1 : Hid (fieldsL [] (ws.take (k + 1)) = some (zl ++ [f])) := by
                  show _ = _
                  rw [HTk.out, fieldsL_append, HFs.out]
                  show fieldsL zl [wd] = _
                  rw [fieldsL, HF.out]; simp only; rw [if_neg hdup]; rfl
                have g0 : w5.cell? ⟨w2.heap.size, 0, none⟩ = some (.string (mk nm)) := (HB5.out.cell (p := ⟨w2.heap.size, 0, none⟩) hs3).trans d0
                have g1 : w5.cell? ⟨w2.heap.size, 1, none⟩ = some (.slice sa k sc) := (HB5.out.cell (p := ⟨w2.heap.size, 1, none⟩) hs3).trans d1
                have k0 : w5.frozen? ⟨w2.heap.size, 0, none⟩ = false := (HB5.out.frozen (p := ⟨w2.heap.size, 0, none⟩) hs3).trans e0
                have k1 : w5.frozen? ⟨w2.heap.size, 1, none⟩ = false := (HB5.out.frozen (p := ⟨w2.heap.size, 1, none⟩) hs3).trans e1
                have hs5 : w2.heap.size < w5.heap.size := Nat.lt_of_lt_of_le hs3 HB5.out.size
                have hown5 : w5.ownsRow (w2.heap.size + 1) 135 2 (.slice sa k sc) k (fieldCells (zl.map bz)) := HO3.out.kept (grownBy_below HB5.out none) (by cases (Value.slice sa k sc).ownBlock <;> simp)
                clear hb5 d0 d1 e0 e1 hdup hr
                go_wp2_with (first | (go_at_call 193; refine (need_of _ _ ?_).mono ?_; (first | rfl | (simp; omega)); rintro e w' ⟨rfl, rfl⟩) | (at_builtin; refine wpList_append_own _ rfl _ _ 136 rfl (w2.heap.size + 1) 135 i0 (.agg #[.string ⟨#[]⟩, .int .i64 0]) 2 24 Tryz.underlying136 hi hz0 hz1 hz2 rfl (by decide) _ _ _ rfl (hown5.alloc _) ⟨w5.heap.size, 0, none⟩ 1 1 [.string (mk f.1), .int .i64 (f.2 : Int)] rfl rfl (cell_two_new _ _ _ _) (fun x hx => by simp at hx; rcases hx with rfl | rfl <;> rfl) (by unfold maxLen; omega) (by omega) (by simp; omega) ?_; intro v' w6 hown6 hgrow6 _; obtain ⟨gg, gc, rfl, q0, q1, f0, f1, hB6, hs6⟩ := row_step hown5 hown6 hgrow6 g0 g1 k0 k1 hs5 HB2.out; have HO6 : Hid (w6.ownsRow (w2.heap.size + 1) 135 2 (.slice (some ⟨gg, 0, none⟩) (k + 1) gc) (k + 1) (fieldCells (zl.map bz) ++ [.string (mk f.1), .int .i64 (f.2 : Int)])) := hown6; have HB6 : Hid (Below w2.heap.size w2 w6) := hB6; clear hown5 hown6 hgrow6 g0 g1 k0 k1 hB6))
                go_roundw
                case rel =>
                  refine ⟨k + 1, .slice (some ⟨gg, 0, none⟩) (k + 1) gc, zl ++ [f], by omega, by go_num, HN1, ?_, ?_, ?_, ?_, ?_, ?_, ?_, ?_⟩
                  · show _ = _; rw [List.length_append, HZl.out]; rfl
                  · have e : fieldCells ((zl ++ [f]).map bz) = fieldCells (zl.map bz) ++ [.string (mk f.1), .int .i64 (f.2 : Int)] := by simp [fieldCells, bz]
                    rw [e]
                    exact ownsRow_setCell_below HO6.out (by simp) _
                  · rw [set_other _ (by omega)]; exact q0
                  · exact set_same _ q1
                  · simpa using f0
                  · simpa using f1
                  · exact HB6.out.setCell (by simp) _
                  · simpa using hs6
                case measure => simp [intOf]; omega
            · have HCn : Hid (compL line = none) := HCo.out.trans (compP_none (by rw [HWs.out, fieldsL, hf]))
              clear hf hb3
              go_wp2_with fail
              exact ⟨rfl, Or.inr ⟨HCn.out, rfl⟩, HB.out.trans ((Below.trans HBW.out (HB3.out.mono (by omega))).mono (by omega))⟩
          · obtain ⟨sa, sc, rfl⟩ := own_form hown
            have hkl : k = ws.length := by omega
            have HCn : Hid (compL line = some (nm, zl)) := HCo.out.trans (compP_some hfew HNl.out (by
              have := HFs.out; rw [hkl, List.take_length] at this; exact this) (fun h => by
                have h1 := HZl.out; rw [h.2] at h1; simp at h1
                exact hne (List.eq_nil_of_length_eq_zero (by omega))))
            have hk0 : (0 : Int) < (k : Int) := by
              have : ws.length ≠ 0 := fun h => hne (List.eq_nil_of_length_eq_zero h)
              omega
            have r0 : wr.cell? ⟨w.heap.size, 0, none⟩ = some (.string ⟨#[]⟩) := (hbw.cell (p := ⟨w.heap.size, 0, none⟩) (by simp; omega)).trans X0.out.1
            have r1 : wr.cell? ⟨w.heap.size, 1, none⟩ = some (.slice none 0 0) := (hbw.cell (p := ⟨w.heap.size, 1, none⟩) (by simp; omega)).trans X0.out.2.1
            have f0 : ∀ o, wr.frozen? ⟨w.heap.size, o, none⟩ = false := fun o => (hbw.frozen (p := ⟨w.heap.size, o, none⟩) (by simp; omega)).trans (X0.out.2.2 o)
            clear hown hbw hkl
            cases hEl : ((mk nm).toList == [101])
            all_goals
              go_wp2_with (go_at_call 193; refine (need_of _ _ ?_).mono ?_; (first | rfl | (simp; done) | (simp; omega)); rintro e w' ⟨rfl, rfl⟩)
              refine bodyPost_ret (v := .agg #[.string (mk nm), .slice sa k sc]) ?_ rfl ⟨Or.inl ⟨_, HCn.out, sa, k, sc, rfl⟩, ?_⟩
              · have t0 : ((wr.setCell ⟨w.heap.size, 0, none⟩ (.string (mk nm))).setCell ⟨w.heap.size, 1, none⟩ (.slice sa k sc)).cell? ⟨w.heap.size, 0, none⟩ = some (.string (mk nm)) := by
                  rw [set_other _ (by omega), set_same _ r0]
                have t1 : ((wr.setCell ⟨w.heap.size, 0, none⟩ (.string (mk nm))).setCell ⟨w.heap.size, 1, none⟩ (.slice sa k sc)).cell? ⟨w.heap.size, 1, none⟩ = some (.slice sa k sc) := by
                  rw [set_same (u := .slice none 0 0) _ (by rw [set_other _ (by omega)]; exact r1)]
                simp [results, Tryz.results195, go_sem, t0, t1]
              · exact ((HB.out.trans (Below.mono HBW.out (by omega))).setCell (by simp) _).setCell (by simp) _
    · have HNm : Hid (¬ NameOk (mk nm)) := fun h => hname (by have := (nameL_ok _).2 h; rw [data_mk] at this; exact this)
      have HCn : Hid (compL line = none) := by show _ = _; rw [HCo.out]; unfold compP; rw [if_neg (fun h => hname h.2)]
      have HZ : Hid ((mk nm).size ≤ 1000000000) := by show _ ≤ _; rw [size_mk]; have := HSm.out nm (by simp); omega
      clear HCo hname
      go_enter Tryz.func195, Tryz.ntmps195
      go_wp2_with fail
      refine Calls.mono (HS.out _) ?_
      rintro e w1 ⟨rfl, rfl⟩
      go_wp2_with (go_at_call 193; refine (need_of _ _ ?_).mono ?_; (first | rfl | (simp; omega)); rintro e w' ⟨rfl, rfl⟩)
      refine (readName_no (mk nm) _ HZ.out HNm.out).mono ?_
      rintro e w2 ⟨rfl, rfl⟩
      go_wp2_with fail
      exact ⟨rfl, Or.inr ⟨HCn.out, rfl⟩, below_two _ _ _⟩
  · have HCn : Hid (compL line = none) := by show _ = _; rw [HCo.out]; unfold compP; rw [if_neg (fun h => hfew h.1)]
    clear HCo
    go_enter Tryz.func195, Tryz.ntmps195
    go_wp2_with fail
    refine Calls.mono (HS.out _) ?_
    rintro e w1 ⟨rfl, rfl⟩
    go_wp2_with (go_at_call 193; refine (need_no _ _ ?_).mono ?_; (first | rfl | (simp; omega)); rintro e w' ⟨rfl, rfl⟩)
    exact ⟨rfl, Or.inr ⟨HCn.out, rfl⟩, below_two _ _ _⟩

end Go.Proofs.YthkbeaffkcfgiabGreatDoor
