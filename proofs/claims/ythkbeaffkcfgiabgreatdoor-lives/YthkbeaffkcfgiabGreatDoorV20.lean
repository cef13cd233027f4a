import Derived.Deep.RegionLaw
import Derived.Deep.DeepCutAuto
import Derived.Test.YthkbeaffkcfgiabGreatDoorV19
set_option linter.unusedSimpArgs false
set_option linter.unusedVariables false
namespace Go.Proofs.YthkbeaffkcfgiabGreatDoor
open Go.RowKit

/-- Behind Spawn: nobody came, or one did (the place i; it lies in the box at hb). -/
def Came (w wc : World) (b c hb : Nat) (en : Int) (la : Option Addr) (nl lc : Nat) (ea : Option Addr) (ne ec : Nat) (bg : Nat → Nat) (tk : Nat → Bool) (ever live : List (Nat × Nat)) : Prop :=
  (en = 2 ∧ (∀ j, j < 20 → shutAt bg tk j) ∧ Mem w wc b c la nl lc ea ne ec bg tk ever live) ∨
  (en = 0 ∧ ∃ i, i < 20 ∧ tk i = false ∧ bg i < 3 ∧ wc.cell? ⟨hb, 0, none⟩ = some (.int .i64 ((i : Int) + 1)) ∧ wc.cell? ⟨hb, 1, none⟩ = some (.int .i64 ((bg i : Int) + 1)) ∧ hb < wc.heap.size ∧
    (∀ g, (Value.slice la nl lc).ownBlock = some g → g < hb) ∧ (∀ g, (Value.slice ea ne ec).ownBlock = some g → g < hb) ∧ Mem w wc b c la nl lc ea ne ec (upd bg i (bg i + 1)) (upd tk i true) ever live)

theorem box_kept {w w' : World} {hb o : Nat} {ob : Obj} {v x : Value} (h : w.cell? ⟨hb, o, none⟩ = some x) (hg : (w.alloc ob).grownBy w' v.ownBlock) (hv : ∀ g, v.ownBlock = some g → g < hb) : w'.cell? ⟨hb, o, none⟩ = some x := by
  have hl : hb < w.heap.size := World.block_lt_of_cell? w ⟨hb, o, none⟩ h
  refine hg.cell (a := ⟨hb, o, none⟩) ((World.cell?_alloc_lt _ _ _ hl).trans h) fun e => ?_
  have := hv hb e.symm
  omega

/-- How the count of rounds stands to the lists, behind Spawn. -/
def Step (en : Int) (k nl ne : Nat) : Prop := (en = 2 ∧ k + nl ≤ 2 * ne) ∨ (en = 0 ∧ k + 1 + nl ≤ 2 * ne)

set_option maxHeartbeats 1600000 in
set_option maxRecDepth 100000 in
theorem lives_any (order : ByteArray) (m : Int) (w : World) (_ho : order.size ≤ maxLen) (hm : w.cell? ⟨3, 0, none⟩ = some (.int .i64 m)) :
    Calls Tryz.prog 11 #[.string order] w fun e w' => e = .returned (.bool true) ∧ Below w.heap.size w w' := by
  unfold maxLen at _ho
  have HN : Hid _ := begin_ok m w hm
  clear hm
  go_enter Tryz.func11, Tryz.ntmps11
  go_wp2_with fail
  refine Calls.mono HN.out ?_
  rintro e w1 ⟨c, b, n0, rfl, hB, hwb, hbc, hcs, hbox, hpl⟩
  have H0 : Hid (Mem w w1 b c none 0 0 none 0 0 (fun _ => 0) (fun _ => false) [] []) := ⟨⟨_, _, n0, hpl, fun k hk => by subst hk; exact ⟨hwb, by omega, by omega, by simp [Value.ownBlock], by simp [Value.ownBlock]⟩, fun k hk => ⟨hk.2.2, by have := hk.2.1; omega, by simp [Value.ownBlock], by simp [Value.ownBlock]⟩⟩, hbox, hB, hwb, hbc, hcs, rfl, rfl, ⟨rfl, Or.inl ⟨rfl, rfl⟩⟩, ⟨rfl, Or.inl ⟨rfl, rfl⟩⟩, fun g h => by simp [Value.ownBlock] at h⟩
  clear hB hwb hbc hcs hbox hpl
  go_wp2_with fail
  go_loopw [5, 6, 7] (fun lv ev t wr => ∃ (k : Nat) (la : Option Addr) (nl lc : Nat) (ea : Option Addr) (ne ec : Nat) (bg : Nat → Nat) (tk : Nat → Bool) (ever live : List (Nat × Nat)), lv = .slice la nl lc ∧ ev = .slice ea ne ec ∧ t = .int .i64 k ∧ k + nl ≤ 2 * ne ∧ Inv bg tk ever live ∧ Mem w wr b c la nl lc ea ne ec bg tk ever live)
    (fun _ _ t _ => 200 - (intOf t).toNat)
  case atStart => exact ⟨0, none, 0, 0, none, 0, 0, _, _, [], [], rfl, rfl, rfl, by simp, Inv.start, H0.out⟩
  case round =>
    obtain ⟨k, la, nl, lc, ea, ne, ec, bg, tk, ever, live, rfl, rfl, rfl, hk, hI, hM⟩ := hrel
    have he60 : ne ≤ 60 := by rw [hM.elen]; exact hI.ever_le
    have hle : nl ≤ ne := by rw [hM.elen, hM.llen]; exact hI.live_le
    have HM : Hid (Mem w wr b c la nl lc ea ne ec bg tk ever live) := hM
    have HI : Hid (Inv bg tk ever live) := hI
    clear hM hI
    go_upto_region 9 with fail
    go_cut [8, 9] (fun s8 s9 wc => ∃ (hb : Nat) (en : Int), s8 = .pointer (some ⟨hb, 0, none⟩) ∧ s9 = .int .i64 en ∧ Came w wc b c hb en la nl lc ea ne ec bg tk ever live)
    case first =>
      have hbox := HM.out.box
      have hbs : b < wr.heap.size := Nat.lt_trans HM.out.bc HM.out.cs
      have hcs := HM.out.cs
      rcases open_or bg tk 20 with hf | ⟨i, hi, ht, hg, hf⟩
      · have HF : Hid (∀ j, j < 20 → shutAt bg tk j) := hf
        clear hf
        go_wp2_with (go_at_call 26; refine (HM.out.spawnFull HF.out).mono ?_; rintro e w2 ⟨rfl, hb2⟩; have HB2 : Hid (Below wr.heap.size wr w2) := hb2; clear hb2)
        go_meet
        case rel => exact ⟨w2.heap.size, 2, rfl, rfl, Or.inl ⟨rfl, HF.out, HM.out.below (HB2.out.alloc HB2.out.size _)⟩⟩
      · have HF : Hid (∀ j, j < i → shutAt bg tk j) := hf
        have HT : Hid (tk i = false) := ht
        clear hf ht
        go_wp2_with (go_at_call 26; refine (HM.out.spawnAt i hi HF.out HT.out hg).mono ?_; rintro e w2 ⟨rfl, hs2, hM2⟩; have HM2 : Hid (Mem w w2 b c la nl lc ea ne ec (upd bg i (bg i + 1)) (upd tk i true) ever live) := hM2; have HS2 : Hid (wr.heap.size ≤ w2.heap.size) := hs2; clear hM2 hs2)
        go_meet
        case rel =>
          have M2 := HM2.out.below ((Below.refl _ _).alloc (Nat.le_refl _) (.cells #[.int .i64 ((i : Int) + 1), .int .i64 ((bg i : Int) + 1)] 46))
          exact ⟨w2.heap.size, 0, rfl, rfl, Or.inr ⟨rfl, i, hi, HT.out, hg, by simp, by simp, by simp, fun g h => Nat.lt_of_lt_of_le (HM.out.lives.lt g h).2 HS2.out, fun g h => Nat.lt_of_lt_of_le (HM.out.evers.lt g h).2 HS2.out, M2⟩⟩
    case rest =>
      obtain ⟨hb, en, rfl, rfl, hC⟩ := hcut
      have HC : Hid (Came w wc b c hb en la nl lc ea ne ec bg tk ever live) := hC
      clear hC
      go_upto_if 37 with fail
      go_cut [5, 6] (fun lv ev wd => ∃ (la : Option Addr) (nl lc : Nat) (ea : Option Addr) (ne ec : Nat) (bg : Nat → Nat) (tk : Nat → Bool) (ever live : List (Nat × Nat)), lv = .slice la nl lc ∧ ev = .slice ea ne ec ∧ 0 < nl ∧ nl ≤ ne ∧ ne ≤ 60 ∧ Step en k nl ne ∧ Inv bg tk ever live ∧ Mem w wd b c la nl lc ea ne ec bg tk ever live)
      case first =>
        rcases HC.out with ⟨he, hf, hM⟩ | ⟨he, i, hi, ht, hg, h0, h1, hs, hll, hee, hM⟩
        · subst he
          have HM2 : Hid (Mem w wc b c la nl lc ea ne ec bg tk ever live) := hM
          have HF : Hid (∀ j, j < 20 → shutAt bg tk j) := hf
          have hfull : 60 ≤ ne + 2 * nl := by rw [hM.elen, hM.llen]; exact HI.out.full hf
          clear hM hf
          by_cases hn0 : nl = 0
          · subst hn0
            have hne : ne = 60 := by omega
            subst hne
            have hbox := HM2.out.box
            have hbs : b < wc.heap.size := Nat.lt_trans HM2.out.bc HM2.out.cs
            have hcs := HM2.out.cs
            go_wp2_with fail
            refine wp_loop_rounds 1 ?_
            rw [rounds_succ]
            go_wp2_with (go_at_call 26; refine (HM2.out.spawnFull HF.out).mono ?_; rintro e w2 ⟨rfl, hb2⟩; have HB2 : Hid (Below wc.heap.size wc w2) := hb2; clear hb2)
            go_ret
            exact ⟨rfl, HM2.out.old.trans ((HB2.out.alloc HB2.out.size _).mono HM2.out.old.size)⟩
          · have hl0 : ((nl : Int) == 0) = false := by simp; omega
            go_wp2_with fail
            all_goals go_meet
            all_goals exact ⟨la, nl, lc, ea, ne, ec, bg, tk, ever, live, rfl, rfl, by omega, hle, he60, Or.inl ⟨rfl, hk⟩, HI.out, HM2.out⟩
        · subst he
          have HM2 : Hid (Mem w wc b c la nl lc ea ne ec (upd bg i (bg i + 1)) (upd tk i true) ever live) := hM
          have HX : Hid ((∀ g, (Value.slice la nl lc).ownBlock = some g → g < hb) ∧ (∀ g, (Value.slice ea ne ec).ownBlock = some g → g < hb)) := ⟨hll, hee⟩
          have HT : Hid (tk i = false) := ht
          clear hll hee hM ht
          go_wp2_with fail
          go_loopw [63] (fun t wq => ∃ q : Nat, q ≤ ne ∧ t = .int .i64 q ∧ Below wc.heap.size wc wq) (fun t _ => ne - (intOf t).toNat)
          case atStart => exact ⟨0, by omega, rfl, Below.refl _ _⟩
          case round =>
            obtain ⟨q, hq, rfl, hw⟩ := hrel
            obtain ⟨wq, rfl⟩ : ∃ wq : World, wq = wr := ⟨_, rfl⟩
            have HW : Hid (Below wc.heap.size wc wq) := hw
            have d0 := (hw.cell (p := ⟨hb, 0, none⟩) hs).trans h0
            have d1 := (hw.cell (p := ⟨hb, 1, none⟩) hs).trans h1
            have hsq : hb < wq.heap.size := Nat.lt_of_lt_of_le hs hw.size
            clear hw
            by_cases hlt : q < ne
            · obtain ⟨ge, rfl⟩ := HM2.out.evers.some (by omega)
              have hqe : q < ever.length := by rw [← HM2.out.elen]; exact hlt
              have hge : ge < wq.heap.size := Nat.lt_of_lt_of_le (HM2.out.evers.lt ge rfl).2 HW.out.size
              have hE := (HM2.out.below HW.out).everAt hqe
              have hfr := HI.out.fresh i ever[q] (List.getElem_mem hqe)
              obtain ⟨c0, c1⟩ := hE
              generalize ever[q].1 = z1 at c0 hfr
              generalize ever[q].2 = z2 at c1 hfr
              by_cases hzi : z1 = i
              · subst hzi
                have hz2 : ¬ (z2 : Int) = (bg z1 : Int) + 1 := by omega
                clear hfr
                go_wp2_with fail
                go_roundw
                case rel => exact ⟨q + 1, by omega, by go_num, HW.out.alloc HW.out.size _⟩
                case measure => simp [intOf]; omega
              · have hz1 : ¬ (z1 : Int) = (i : Int) := by omega
                clear hfr hzi
                go_wp2_with fail
                go_roundw
                case rel => exact ⟨q + 1, by omega, by go_num, HW.out.alloc HW.out.size _⟩
                case measure => simp [intOf]; omega
            · have HMq : Hid (Mem w wq b c la nl lc ea ne ec (upd bg i (bg i + 1)) (upd tk i true) ever live) := HM2.out.below HW.out
              have HWs : Hid (c + 1 ≤ wq.heap.size) := HMq.out.cs
              have HMa : Hid (Mem w (wq.alloc (.cells #[.int .i64 ((i : Int) + 1), .int .i64 ((bg i : Int) + 1)] 46)) b c la nl lc ea ne ec (upd bg i (bg i + 1)) (upd tk i true) ever live) := HMq.out.below ((Below.refl _ _).alloc (Nat.le_refl _) _)
              have tok1 : True := trivial
              go_wp2_with (first
                | (at_builtin; have _t := tok1; refine wpList_append_part rfl (.tmp 71) (.tmp 73) rfl (c + 1) (.slice ea ne ec) ne (hCells ever) rfl HMa.out.evers ⟨wq.heap.size, 0, none⟩ 1 1 (hCells [(i, bg i + 1)]) rfl rfl (cell_two_new _ _ _ _) (hCells_one _) (by omega) (by simp; have := HWs.out; omega) ?_
                   intro v' w6 hown6 hgrow6 hnew6
                   have x0 := box_kept d0 hgrow6 HX.out.2
                   have x1 := box_kept d1 hgrow6 HX.out.2
                   obtain ⟨ea', ec', rfl, M6⟩ := HMa.out.everMore hown6 hgrow6 hnew6
                   have HM6 : Hid (Mem w w6 b c la nl lc ea' (ne + 1) ec' (upd bg i (bg i + 1)) (upd tk i true) (ever ++ [(i, bg i + 1)]) live) := M6
                   have hs6 : hb < w6.heap.size := World.block_lt_of_cell? w6 ⟨hb, 0, none⟩ x0
                   clear hown6 hgrow6 hnew6 M6 d0 d1 tok1)
                | (at_builtin; have _t := hs6; refine wpList_append_part rfl (.tmp 75) (.tmp 77) rfl (c + 1) (.slice la nl lc) nl (hCells live) rfl (HM6.out.below (w' := w6.alloc (.cells #[.int .i64 ((i : Int) + 1), .int .i64 ((bg i : Int) + 1)] 46)) ((Below.refl _ _).alloc (Nat.le_refl _) _)).lives ⟨w6.heap.size, 0, none⟩ 1 1 (hCells [(i, bg i + 1)]) rfl rfl (cell_two_new _ _ _ _) (hCells_one _) (by omega) (by simp; have := HM6.out.cs; omega) ?_
                   intro v' w8 hown8 hgrow8 hnew8
                   obtain ⟨la', lc', rfl, M8⟩ := (HM6.out.below (w' := w6.alloc (.cells #[.int .i64 ((i : Int) + 1), .int .i64 ((bg i : Int) + 1)] 46)) ((Below.refl _ _).alloc (Nat.le_refl _) _)).liveMore hown8 hgrow8 hnew8
                   have HM8 : Hid (Mem w w8 b c la' (nl + 1) lc' ea' (ne + 1) ec' (upd bg i (bg i + 1)) (upd tk i true) (ever ++ [(i, bg i + 1)]) (live ++ [(i, bg i + 1)])) := M8
                   clear hown8 hgrow8 hnew8 M8))
              go_meet
              case rel =>
                have I8 := HI.out.spawn i hi HT.out hg
                have hle8 := I8.ever_le
                rw [← HM8.out.elen] at hle8
                exact ⟨la', nl + 1, lc', ea', ne + 1, ec', _, _, _, _, rfl, rfl, by omega, by omega, hle8, Or.inr ⟨rfl, by omega⟩, I8, HM8.out⟩
      case rest =>
        clear HC HM HI hk he60 hle
        obtain ⟨la, nl, lc, ea, ne, ec, bg, tk, ever, live, rfl, rfl, hn0, hle, he60, hen, hI, hM⟩ := hcut
        have HM : Hid (Mem w wc b c la nl lc ea ne ec bg tk ever live) := hM
        have HI : Hid (Inv bg tk ever live) := hI
        have hk : k + nl ≤ 2 * ne := by
          rcases hen with ⟨_, h⟩ | ⟨_, h⟩ <;> omega
        have HE : Hid (Step en k nl ne) := hen
        clear hM hI hen
        go_upto_if 83 with fail
        go_cut [12] (fun s12 wd => ∃ cv : Nat, s12 = .int .i64 cv ∧ cv ≤ 255 ∧ wc = wd)
        case first =>
          by_cases hko : k < order.size
          · go_wp2_with fail
            go_meet
            case rel =>
              have hlt := order[k].toNat_lt
              have hw : wrap64 (order[k].toNat : Int) = (order[k].toNat : Int) := by simp only [wrap64]; omega
              exact ⟨order[k].toNat, by rw [hw], by omega, rfl⟩
          · go_wp2_with fail
            go_meet
            case rel => exact ⟨k, rfl, by omega, rfl⟩
        case rest =>
          obtain ⟨cv, rfl, hcv, rfl⟩ := hcut
          go_upto_region 25 with fail
          go_cut [94] (fun s94 wd => ∃ bb : Bool, s94 = .bool bb ∧ (bb = false → k + 1 + nl ≤ 2 * ne) ∧ wc = wd)
          case first =>
            rcases HE.out with ⟨he, h⟩ | ⟨he, h⟩
            · subst he
              go_wp2_with fail
              go_meet
              case rel => exact ⟨true, rfl, by simp, rfl⟩
            · subst he
              by_cases h3 : cv % 3 = 0
              · have hb3 : ((cv : Int) % 3 == 0) = true := by simp; omega
                go_wp2_with fail
                go_meet
                case rel => exact ⟨true, rfl, by simp, rfl⟩
              · have hb3 : ((cv : Int) % 3 == 0) = false := by simp; omega
                go_wp2_with fail
                go_meet
                case rel => exact ⟨false, rfl, fun _ => h, rfl⟩
          case rest =>
            obtain ⟨bb, rfl, hbb, rfl⟩ := hcut
            cases bb with
            | false =>
              have hk2 : k + 1 + nl ≤ 2 * ne := hbb rfl
              clear hbb
              go_wp2_with fail
              go_roundw
              case rel => exact ⟨k + 1, la, nl, lc, ea, ne, ec, bg, tk, ever, live, rfl, rfl, by go_num, by omega, HI.out, HM.out⟩
              case measure => simp [intOf]; omega
            | true =>
              clear hbb
              obtain ⟨g, rfl⟩ := HM.out.lives.some (by omega)
              obtain ⟨j, hj, hjl⟩ : ∃ j : Nat, (cv : Int) % (nl : Int) = (j : Int) ∧ j < nl := ⟨cv % nl, by simp, Nat.mod_lt _ (by omega)⟩
              have hjv : j < live.length := by rw [← HM.out.llen]; exact hjl
              have hbox2 := HM.out.box
              have hz := HI.out.liveOk live[j] (List.getElem_mem hjv)
              have hc2 := HM.out.liveAt hjv
              rw [hz.2.2] at hc2
              obtain ⟨hca, hcb⟩ := hc2
              obtain ⟨zi, hzi⟩ : ∃ zi, zi = live[j].1 := ⟨_, rfl⟩
              rw [← hzi] at hz hca hcb
              have hz1 := hz.1
              have HZT : Hid (tk zi = true) := hz.2.1
              have HZI : Hid (zi = live[j].1) := hzi
              have HJ : Hid ((cv : Int) % (nl : Int) = (j : Int)) := hj
              clear hz hzi hj
              go_wp2_with fail
              rw [HJ.out]
              have HMd : Hid (Mem w wc.drew b c (some ⟨g, 0, none⟩) nl lc ea ne ec bg tk ever live) := HM.out.below (Below.refl _ _).drew
              go_cut [108] (fun s108 wd => s108 = .bool false ∧ Mem w wd b c (some ⟨g, 0, none⟩) nl lc ea ne ec bg (upd tk zi false) ever live)
              case first =>
                go_region_with (go_at_call 27; refine (HMd.out.despawned zi hz1 HZT.out).mono ?_; rintro e w3 ⟨rfl, hM3⟩)
                all_goals (try go_wp2_with fail)
                all_goals go_meet
                all_goals exact ⟨rfl, hM3⟩
              case rest =>
                obtain ⟨rfl, hM3⟩ := hcut
                have HM3 : Hid (Mem w wc b c (some ⟨g, 0, none⟩) nl lc ea ne ec bg (upd tk zi false) ever live) := hM3
                clear hM3 hca hcb hbox2
                go_wp2_with fail
                have hcap : nl ≤ lc := by
                  rcases HM3.out.lives.2 with ⟨h, _⟩ | ⟨g', cap, cur, h, _, _, h4, _⟩
                  · simp at h
                  · simp at h; omega
                have hj1 : (j : Int) ≤ (lc : Int) := by omega
                have hj2 : (j : Int) + 1 ≤ (nl : Int) := by omega
                have hwj : IntKind.i64.wrap ((j : Int) + 1) = (j : Int) + 1 := by rw [IntKind.wrap_i64]; omega
                have hj3 : (0 : Int) ≤ (j : Int) + 1 := by omega
                obtain ⟨AD, hAD, hcells⟩ : ∃ AD : Addr, (if lc = j + 1 then some (⟨g, 0, none⟩ : Addr) else some ⟨g, (j + 1) * 2, none⟩) = some AD ∧ ∀ t u, (hCells (live.drop (j + 1)))[t]? = some u → wc.drew.cell? (AD.add t) = some u := by
                  by_cases h : lc = j + 1
                  · refine ⟨⟨g, 0, none⟩, by simp [h], fun t u hu => ?_⟩
                    have he : live.drop (j + 1) = [] := List.drop_eq_nil_of_le (by rw [← HM3.out.llen]; omega)
                    rw [he] at hu; simp [hCells] at hu
                  · refine ⟨⟨g, (j + 1) * 2, none⟩, by simp [h], fun t u hu => ?_⟩
                    rw [Addr.add_lit]
                    exact HM3.out.tail hjl t u hu
                have HCl : Hid (∀ t u, (hCells (live.drop (j + 1)))[t]? = some u → wc.drew.cell? (AD.add t) = some u) := hcells
                have HHd : Hid (ownsPart wc.drew (c + 1) (.slice (some ⟨g, 0, none⟩) j j) j (hCells (live.take j))) := HM3.out.head hjl
                have HLn : Hid ((hCells (live.drop (j + 1))).length = (nl - (j + 1)) * 2) := by
                  show _ = _
                  rw [hCells_length, List.length_drop, ← HM3.out.llen]
                have HBs : Hid (c + 1 ≤ wc.drew.heap.size) := HM3.out.cs
                clear hcells
                go_region_law (refine step_append_part rfl (.tmp 112) (.tmp 116) rfl (c + 1) (.slice (some ⟨g, 0, none⟩) j j) j (hCells (live.take j)) (by simp [Act.eval, Act.put]) HHd.out AD (nl - (j + 1)) (lc - (j + 1)) (hCells (live.drop (j + 1))) (by simp [Act.eval, Act.put]) HLn.out HCl.out (hCells_one _) (by omega) HBs.out ?_; intro v' w4 hown4 hgrow4 hnew4; obtain ⟨la', lc', rfl, M4⟩ := HM3.out.liveLess hjl hown4 ⟨hgrow4.os, hgrow4.tape, hgrow4.output, hgrow4.size, hgrow4.block⟩ hnew4; have HM4 : Hid (Mem w w4 b c la' (nl - 1) lc' ea ne ec bg (upd tk zi false) ever (live.take j ++ live.drop (j + 1))) := M4; clear M4 hown4 hgrow4 hnew4)
                go_wp2_with fail
                go_roundw
                case rel =>
                  have I4 : Inv bg (upd tk zi false) ever (live.take j ++ live.drop (j + 1)) := by
                    have hI := HI.out
                    have e : live = live.take j ++ live[j] :: live.drop (j + 1) := by rw [← List.drop_eq_getElem_cons hjv, List.take_append_drop]
                    rw [e] at hI
                    rw [HZI.out]
                    exact hI.despawn
                  exact ⟨k + 1, la', nl - 1, lc', ea, ne, ec, bg, upd tk zi false, ever, live.take j ++ live.drop (j + 1), rfl, rfl, by go_num, by omega, I4, HM4.out⟩
                case measure => simp [intOf]; omega

end Go.Proofs.YthkbeaffkcfgiabGreatDoor
