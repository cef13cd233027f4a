import Derived.Test.YthkbeaffkcfgiabGreatDoorComp
import Derived.Test.YthkbeaffkcfgiabGreatDoorTabNew
namespace Go.Proofs.YthkbeaffkcfgiabGreatDoor
open Go.RowKit

theorem Tryz.info138 : (Tryz.prog.info? 138).map (fun i => (i.zero, i.size, i.bytes)) = some (some (.agg #[.string ⟨#[]⟩, .slice none 0 0]), 2, 40) := by kernel_rfl

/-- A layout of n components that has been made since: what its slice leads to. -/
def LaidAt (w w' : World) (sa : Option Addr) (n c : Nat) : Prop := ∃ g, sa = some ⟨g, 0, none⟩ ∧ w.heap.size ≤ g ∧ n ≤ c ∧ LayAt w' g n

/-- How readLayout ends. -/
def LayEnds (w : World) (text : List UInt8) (e : Ending) (w' : World) : Prop := (∃ cs, schemaL text = some cs ∧ ∃ sa n c, e = .returned (.slice sa n c) ∧ LaidAt w w' sa n c) ∨ (schemaL text = none ∧ e = .panicked wrong)

theorem laid_own {w w' : World} {base : Nat} {sa : Option Addr} {n c : Nat} {cs : List (ByteArray × (Option Addr × Nat × Nat))} (h : w'.ownsRow base 138 2 (.slice sa n c) n (compCells cs)) (hl : cs.length = n) (hn : 0 < n) (h6 : n ≤ 6) (hb : w.heap.size ≤ base) : LaidAt w w' sa n c := by
  rcases h.2 with ⟨_, h2⟩ | ⟨g, cap, cur, h1, h2, h3, h4, h5, h7, h8⟩
  · omega
  · simp at h1
    obtain ⟨rfl, rfl⟩ := h1
    refine ⟨g, rfl, by omega, h4, (Array.getElem?_eq_some_iff.1 h3).1, h6, fun j hj => ?_⟩
    obtain ⟨e1, e2⟩ := flat2_get (fun z : ByteArray × (Option Addr × Nat × Nat) => Value.string z.1) (fun z => Value.slice z.2.1 z.2.2.1 z.2.2.2) cs j (by omega)
    have hc : ∀ t u, (compCells cs)[t]? = some u → w'.cell? ⟨g, t, none⟩ = some u := fun t u hu => by
      rw [cell_row h3]
      rw [← h8, List.getElem?_take] at hu
      split at hu
      · simpa using hu
      · cases hu
    exact ⟨_, _, _, _, hc _ _ e1, hc _ _ e2⟩

theorem suffix_cases (text : List UInt8) : (Lib.hasSuffix text [10] = false ∧ schemaL text = none) ∨ (Lib.hasSuffix text [10] = true ∧ ∃ body, text = body ++ [10] ∧ Lib.trimSuffix text [10] = body) := by
  by_cases h : ∃ body, text = body ++ [10]
  · obtain ⟨body, rfl⟩ := h
    right
    have hs : Lib.hasSuffix (body ++ [10]) [10] = true := by
      unfold Lib.hasSuffix; rw [List.isSuffixOf_iff_suffix]; exact ⟨body, rfl⟩
    refine ⟨hs, body, rfl, ?_⟩
    unfold Lib.trimSuffix
    rw [if_pos hs]
    simp
  · left
    refine ⟨?_, schemaL_noEnd text fun body e => h ⟨body, e⟩⟩
    cases hs : Lib.hasSuffix text [10] with
    | false => rfl
    | true =>
      unfold Lib.hasSuffix at hs
      rw [List.isSuffixOf_iff_suffix] at hs
      obtain ⟨body, hb⟩ := hs
      exact absurd ⟨body, hb.symm⟩ h

theorem mem_names {cs : List (ByteArray × (Option Addr × Nat × Nat))} {cl : List (List UInt8 × List (List UInt8 × Nat))} (h : cs.map Prod.fst = cl.map fun c => mk c.1) (nm : List UInt8) : mk nm ∈ cs.map Prod.fst ↔ nm ∈ cl.map Prod.fst := by
  rw [h]
  simp only [List.mem_map]
  constructor
  · rintro ⟨c, hc, e⟩; exact ⟨c, hc, mk_inj e⟩
  · rintro ⟨c, hc, e⟩; exact ⟨c, hc, by rw [e]⟩

set_option maxHeartbeats 1600000 in
theorem readLayout_any (text : List UInt8) (m : Int) (w : World) (hsz : text.length ≤ 1000000000) (hm : w.cell? ⟨3, 0, none⟩ = some (.int .i64 m)) :
    Calls Tryz.prog 127 #[.string (mk text)] w fun e w' => LayEnds w text e w' ∧ Below w.heap.size w w' := by
  have h0 : 3 < w.heap.size := World.block_lt_of_cell? w ⟨3, 0, none⟩ hm
  have hts : (mk text).size = text.length := size_mk text
  by_cases h4 : text.length ≤ 400
  · have HCut : Hid (Calls Tryz.prog 182 #[.string (mk text), .string ⟨#[10]⟩] w fun e w' => e = .returned (.tuple #[.string (mk (Lib.trimSuffix text [10])), .bool (Lib.hasSuffix text [10])]) ∧ w = w') := by
      have := Tryz.strings_CutSuffix (mk text) ⟨#[10]⟩ w (by omega)
      rw [show (⟨#[10]⟩ : ByteArray).data.toList = [10] from rfl, data_mk] at this
      exact this.mono fun e w' h => ⟨h.1, h.2.symm⟩
    have hsz4 : (mk text).size ≤ 400 := by omega
    clear hts
    rcases suffix_cases text with ⟨hs, hn⟩ | ⟨hs, body, hb, ht⟩
    · rw [hs] at HCut
      have HN : Hid (schemaL text = none) := hn
      clear hn hs hm
      generalize mk (Lib.trimSuffix text [10]) = bd at HCut
      go_enter Tryz.func127, Tryz.ntmps127
      go_wp2_with (go_at_call 193; refine (need_of _ _ ?_).mono ?_; (first | rfl | (simp; omega)); rintro e w' ⟨rfl, rfl⟩)
      refine Calls.mono HCut.out ?_
      rintro e w1 ⟨rfl, rfl⟩
      go_wp2_with (go_at_call 193; refine (need_no _ _ ?_).mono ?_; (first | rfl | (simp; omega)); rintro e w' ⟨rfl, rfl⟩)
      exact ⟨rfl, Or.inr ⟨HN.out, rfl⟩, Below.refl _ _⟩
    · rw [hs, ht] at HCut
      have HSch : Hid (schemaL text = if (cutL 10 body).length ≤ 6 then compsL [] (cutL 10 body) else none) := by
        show _ = _
        rw [hb, schemaL_body]
        by_cases h6 : (cutL 10 body).length ≤ 6
        · rw [if_pos h6, if_pos ⟨by rw [← hb]; exact h4, h6⟩]
        · rw [if_neg h6, if_neg (fun h => h6 h.2)]
      have hbl : body.length < 500 := by rw [hb] at h4; simp at h4; omega
      obtain ⟨ls, hls⟩ : ∃ ls, ls = cutL 10 body := ⟨_, rfl⟩
      have HSp : Hid (Calls Tryz.prog 194 #[.string (mk body), .string ⟨#[10]⟩] w fun e w' => e = .returned (.slice (some ⟨w.heap.size, 0, none⟩) ls.length ls.length) ∧ w' = w.alloc (.cells (ls.map fun l => Value.string (mk l)).toArray 9)) := by
        have := split_any 10 (mk body) m w (by rw [size_mk]; exact hbl) hm
        rw [data_mk, ← hls] at this
        exact this
      have hl1 : 0 < ls.length := by rw [hls]; exact cutL_length 10 body
      have hlbig : ls.length < 600 := by have := cut_count 10 body; rw [← hls] at this; omega
      have HSm : Hid (∀ p ∈ ls, p.length < 500) := fun p hp => by
        rw [hls] at hp
        have := cut_small 10 body p hp; omega
      rw [← hls] at HSch
      have HM : Hid (w.cell? ⟨3, 0, none⟩ = some (.int .i64 m)) := hm
      clear hm hls hb ht hs
      by_cases hfew : ls.length ≤ 6
      · have HSc : Hid (schemaL text = compsL [] ls) := by show _ = _; rw [HSch.out, if_pos hfew]
        clear HSch
        obtain ⟨i0, hi, hz0, hz1, hz2⟩ := info_parts Tryz.info138
        go_enter Tryz.func127, Tryz.ntmps127
        go_wp2_with (go_at_call 193; refine (need_of _ _ ?_).mono ?_; (first | rfl | (simp; omega)); rintro e w' ⟨rfl, rfl⟩)
        refine Calls.mono HCut.out ?_
        rintro e w1 ⟨rfl, rfl⟩
        go_wp2_with (go_at_call 193; refine (need_of _ _ ?_).mono ?_; (first | rfl | (simp; omega)); rintro e w' ⟨rfl, rfl⟩)
        refine Calls.mono HSp.out ?_
        rintro e w1 ⟨rfl, rfl⟩
        go_wp2_with (first | (go_at_call 193; refine (need_of _ _ ?_).mono ?_; (first | rfl | (simp; omega)); rintro e w' ⟨rfl, rfl⟩) | (at_make; refine wpList_make_own _ rfl _ _ 103 rfl (w.heap.size + 1) 138 i0 (.agg #[.string ⟨#[]⟩, .slice none 0 0]) 2 Tryz.underlying103 hi hz0 hz1 .i64 .i64 _ ls.length rfl rfl rfl (by rw [hz2]; omega) (by unfold maxLen; omega) (by simp) ?_; intro w0 hown0 hgrow0))
        have HB0 : Hid (Below (w.heap.size + 1) (w.alloc (.cells (ls.map fun l => Value.string (mk l)).toArray 9)) w0) := ⟨hgrow0.os, hgrow0.tape, hgrow0.output, hgrow0.size, fun j hj => hgrow0.block j (by simp; omega) (by simp)⟩
        have HO0 : Hid (w0.ownsRow (w.heap.size + 1) 138 2 (.slice (some ⟨w.heap.size + 1, 0, none⟩) 0 ls.length) 0 (compCells [])) := by rw [World.size_alloc] at hown0; exact hown0
        have HP : Hid (∀ k (h : k < ls.length), (w.alloc (.cells (ls.map fun l => Value.string (mk l)).toArray 9)).cell? ⟨w.heap.size, k, none⟩ = some (.string (mk ls[k]))) := fun k h => by
          rw [World.cell?_alloc_new]; simp [h]
        have H0 : Hid ((w.alloc (.cells (ls.map fun l => Value.string (mk l)).toArray 9)).cell? ⟨3, 0, none⟩ = some (.int .i64 m)) := (World.cell?_alloc_lt _ _ _ h0).trans HM.out
        have HBS : Hid (Below w.heap.size w (w.alloc (.cells (ls.map fun l => Value.string (mk l)).toArray 9))) := (Below.refl _ _).alloc (Nat.le_refl _) _
        obtain ⟨wS, hwS⟩ : ∃ wS, wS = w.alloc (.cells (ls.map fun l => Value.string (mk l)).toArray 9) := ⟨_, rfl⟩
        rw [← hwS] at HB0 HP H0 HBS
        have hsS : wS.heap.size = w.heap.size + 1 := by rw [hwS]; simp
        have HsS : Hid (wS.heap.size = w.heap.size + 1) := hsS
        clear hown0 hgrow0 hsS hwS
        go_loopw [6, 32] (fun v t wr => ∃ (k : Nat) (cs : List (ByteArray × (Option Addr × Nat × Nat))) (cl : List (List UInt8 × List (List UInt8 × Nat))), k ≤ ls.length ∧ t = .int .i64 k ∧ Hid (compsL [] (ls.take k) = some cl) ∧ Hid (cs.map Prod.fst = cl.map fun c => mk c.1) ∧ Hid (cs.length = k) ∧ wr.ownsRow (w.heap.size + 1) 138 2 v k (compCells cs) ∧ Below (w.heap.size + 1) wS wr)
          (fun _ t _ => ls.length - (intOf t).toNat)
        case atStart => exact ⟨0, [], [], by omega, rfl, rfl, rfl, rfl, HO0.out, HB0.out⟩
        case round =>
          obtain ⟨k, cs, cl, hk, rfl, HCs, HNs, HCL, hown, hbw⟩ := hrel
          have HBW : Hid (Below (w.heap.size + 1) wS wr) := hbw
          have HO : Hid (wr.ownsRow (w.heap.size + 1) 138 2 u6 k (compCells cs)) := hown
          have hs0 : w.heap.size + 1 ≤ wr.heap.size := by have := hbw.size; rw [HsS.out] at this; exact this
          by_cases hlt : k < ls.length
          · have hw : wr.cell? ⟨w.heap.size, k, none⟩ = some (.string (mk ls[k])) := (hbw.cell (p := ⟨w.heap.size, k, none⟩) (by simp)).trans (HP.out k hlt)
            have HFd : Hid _ := readComp_any ls[k] m wr (HSm.out _ (List.getElem_mem hlt)) ((hbw.cell (p := ⟨3, 0, none⟩) (by simp; omega)).trans H0.out)
            have HWs : Hid (compsL [] ls = compsL cl (ls[k] :: ls.drop (k + 1))) := by
              show _ = _
              have e : ls = ls.take k ++ ls[k] :: ls.drop (k + 1) := by rw [← List.drop_eq_getElem_cons hlt, List.take_append_drop]
              conv => lhs; rw [e]
              rw [compsL_append, HCs.out]; rfl
            have HTk : Hid (ls.take (k + 1) = ls.take k ++ [ls[k]]) := List.take_succ_eq_append_getElem hlt
            clear hbw hown
            generalize ls[k] = wd at hw HFd HWs HTk
            go_wp2_with fail
            refine Calls.mono HFd.out ?_
            rintro e w3 ⟨hends, hb3⟩
            have HB3 : Hid (Below wr.heap.size wr w3) := hb3
            rcases hends with ⟨f, hf, sa, sn, sc, rfl⟩ | ⟨hf, rfl⟩
            · have HO3 : Hid (w3.ownsRow (w.heap.size + 1) 138 2 u6 k (compCells cs)) := HO.out.kept (grownBy_below hb3 none) (by cases u6.ownBlock <;> simp)
              have hs3 : w.heap.size + 1 ≤ w3.heap.size := Nat.le_trans hs0 hb3.size
              have HF : Hid (compL wd = some f) := hf
              clear hb3 hw hf
              have HFi : Hid _ := find99_any (mk f.1) u6 (w.heap.size + 1) cs (w3.alloc (.cells #[.string (mk f.1), .slice sa sn sc] 138)) (by rw [HCL.out]; omega) (by rw [HCL.out]; exact HO3.out.alloc _)
              go_wp2_with fail
              refine Calls.mono HFi.out ?_
              rintro e w5 ⟨⟨r, rfl, hr⟩, hb5⟩
              rw [mem_names HNs.out] at hr
              have b0 : w5.cell? ⟨w3.heap.size, 0, none⟩ = some (.string (mk f.1)) := by rw [hb5.cell (p := ⟨w3.heap.size, 0, none⟩) (by simp)]; simp
              have b1 : w5.cell? ⟨w3.heap.size, 1, none⟩ = some (.slice sa sn sc) := by rw [hb5.cell (p := ⟨w3.heap.size, 1, none⟩) (by simp)]; simp
              have HB5 : Hid (Below w3.heap.size w3 w5) := ((Below.refl _ _).alloc (Nat.le_refl _) _).trans (hb5.mono (by simp))
              have hs5 : w.heap.size + 1 ≤ w5.heap.size := Nat.le_trans hs3 HB5.out.size
              have HB2 : Hid (Below (w.heap.size + 1) wS w5) := (Below.trans HBW.out (Below.mono HB3.out (by omega))).trans (HB5.out.mono (by omega))
              by_cases hdup : f.1 ∈ cl.map Prod.fst
              · have hr0 : ¬ r < 0 := fun h => (hr.1 h) hdup
                have HCn : Hid (schemaL text = none) := HSc.out.trans (by rw [HWs.out, compsL, HF.out]; simp only; rw [if_pos hdup])
                clear hdup hr hb5
                go_wp2_with (go_at_call 193; refine (need_no _ _ ?_).mono ?_; (first | rfl | (simp; omega)); rintro e w' ⟨rfl, rfl⟩)
                exact ⟨rfl, Or.inr ⟨HCn.out, rfl⟩, HBS.out.trans (HB2.out.mono (by omega))⟩
              · have hr0 : r < 0 := hr.2 hdup
                have HN1 : Hid (compsL [] (ls.take (k + 1)) = some (cl ++ [f])) := by
                  show _ = _
                  rw [HTk.out, compsL_append, HCs.out]
                  show compsL cl [wd] = _
                  rw [compsL, HF.out]; simp only; rw [if_neg hdup]; rfl
                have hown5 : w5.ownsRow (w.heap.size + 1) 138 2 u6 k (compCells cs) := HO3.out.kept (grownBy_below HB5.out none) (by cases u6.ownBlock <;> simp)
                clear hb5 hdup hr
                go_wp2_with (first | (go_at_call 193; refine (need_of _ _ ?_).mono ?_; (first | rfl | (simp; omega)); rintro e w' ⟨rfl, rfl⟩) | (at_builtin; refine wpList_append_own _ rfl _ _ 103 rfl (w.heap.size + 1) 138 i0 (.agg #[.string ⟨#[]⟩, .slice none 0 0]) 2 40 Tryz.underlying103 hi hz0 hz1 hz2 rfl (by decide) _ _ _ rfl (hown5.alloc _) ⟨w5.heap.size, 0, none⟩ 1 1 [.string (mk f.1), .slice sa sn sc] rfl rfl (cell_two_new _ _ _ _) (fun x hx => by simp at hx; rcases hx with rfl | rfl <;> rfl) (by unfold maxLen; omega) (by omega) (by simp; omega) ?_; intro v' w6 hown6 hgrow6 _; have HO6 : Hid (w6.ownsRow (w.heap.size + 1) 138 2 v' (k + 1) (compCells cs ++ [.string (mk f.1), .slice sa sn sc])) := hown6; have HB6 : Hid (Below (w.heap.size + 1) wS w6) := Below.grown (HB2.out.alloc (by omega) _) hgrow6 (by simp; omega) (fun j hj => (hown5.lt j hj).1); clear hown5 hown6 hgrow6))
                go_roundw
                case rel =>
                  refine ⟨k + 1, cs ++ [(mk f.1, sa, sn, sc)], cl ++ [f], by omega, by go_num, HN1, ?_, ?_, ?_, HB6.out⟩
                  · show _ = _; rw [List.map_append, List.map_append, HNs.out]; rfl
                  · show _ = _; rw [List.length_append, HCL.out]; rfl
                  · have e : compCells (cs ++ [(mk f.1, sa, sn, sc)]) = compCells cs ++ [.string (mk f.1), .slice sa sn sc] := by simp [compCells]
                    rw [e]; exact HO6.out
                case measure => simp [intOf]; omega
            · have HCn : Hid (schemaL text = none) := HSc.out.trans (by rw [HWs.out, compsL, hf])
              clear hf hb3
              go_wp2_with fail
              exact ⟨rfl, Or.inr ⟨HCn.out, rfl⟩, HBS.out.trans ((Below.trans HBW.out (HB3.out.mono (by omega))).mono (by omega))⟩
          · obtain ⟨sa, sc, rfl⟩ := own_form hown
            have hkl : k = ls.length := by omega
            have HCn : Hid (schemaL text = some cl) := HSc.out.trans (by have := HCs.out; rw [hkl, List.take_length] at this; exact this)
            have HLd : Hid (LaidAt w wr sa k sc) := laid_own HO.out HCL.out (by omega) (by omega) (by omega)
            clear hown hbw hkl
            go_wp2
            go_ret
            exact ⟨Or.inl ⟨_, HCn.out, sa, k, sc, rfl, HLd.out⟩, HBS.out.trans (Below.mono HBW.out (by omega))⟩
      · have HSc : Hid (schemaL text = none) := by show _ = _; rw [HSch.out, if_neg hfew]
        clear HSch
        go_enter Tryz.func127, Tryz.ntmps127
        go_wp2_with (go_at_call 193; refine (need_of _ _ ?_).mono ?_; (first | rfl | (simp; omega)); rintro e w' ⟨rfl, rfl⟩)
        refine Calls.mono HCut.out ?_
        rintro e w1 ⟨rfl, rfl⟩
        go_wp2_with (go_at_call 193; refine (need_of _ _ ?_).mono ?_; (first | rfl | (simp; omega)); rintro e w' ⟨rfl, rfl⟩)
        refine Calls.mono HSp.out ?_
        rintro e w1 ⟨rfl, rfl⟩
        go_wp2_with (go_at_call 193; refine (need_no _ _ ?_).mono ?_; (first | rfl | (simp; omega)); rintro e w' ⟨rfl, rfl⟩)
        exact ⟨rfl, Or.inr ⟨HSc.out, rfl⟩, (Below.refl _ _).alloc (Nat.le_refl _) _⟩
  · have HN : Hid (schemaL text = none) := by show _ = _; unfold schemaL; rw [if_neg (fun h => h4 h.1)]
    clear hm
    have h4' : ¬ ((mk text).size : Int) ≤ 400 := by omega
    have hbg : (mk text).size ≤ 1000000000 := by omega
    clear hts
    go_enter Tryz.func127, Tryz.ntmps127
    go_wp2_with (go_at_call 193; refine (need_no _ _ ?_).mono ?_; (first | rfl | (simp; omega)); rintro e w' ⟨rfl, rfl⟩)
    exact ⟨rfl, Or.inr ⟨HN.out, rfl⟩, Below.refl _ _⟩

end Go.Proofs.YthkbeaffkcfgiabGreatDoor
