import Derived.Test.YtknfcmfnnjgkdabDoorComp
namespace Go.Proofs.YtknfcmfnnjgkdabDoor
open Go.RowKit

theorem Tryd.info63 : (Tryd.prog.info? 63).map (fun i => (i.zero, i.size, i.bytes)) = some (some (.agg #[.string ⟨#[]⟩, .slice none 0 0]), 2, 40) := by kernel_rfl

/-- A schema's text: its lines, each line's name. -/
structure SchemaOk (text body : ByteArray) (ls nms : List ByteArray) : Prop where
  small : text.size ≤ 400
  ended : Lib.hasSuffix text.data.toList [10] = true
  cutOff : (Lib.trimSuffix text.data.toList [10]) = body.data.toList
  bsmall : body.size < 500
  count : Lib.countB body ⟨#[10]⟩ + 1 = ls.length
  split : Lib.splitB ⟨#[10]⟩ 0 (Lib.countB body ⟨#[10]⟩) body = ls
  few : ls.length ≤ 6
  len : ls.length = nms.length
  comps : ∀ j (h : j < ls.length) (h' : j < nms.length), ∃ ws zs, CompOk ls[j] nms[j] ws zs
  apart : ∀ i j (hi : i < nms.length) (hj : j < nms.length), i < j → (nms[i].toList == nms[j].toList) = false

theorem readComp_ok (line nm : ByteArray) (m : Int) (w : World) (hm : w.cell? ⟨0, 0, none⟩ = some (.int .i64 m)) (ok : ∃ ws zs, CompOk line nm ws zs) :
    Calls Tryd.prog 19 #[.string line] w fun e w' => ∃ sa n c, e = .returned (.agg #[.string nm, .slice sa n c]) ∧ Below w.heap.size w w' := by
  obtain ⟨ws, zs, ok⟩ := ok
  by_cases h : ws = []
  · subst h
    have hz : zs = [] := List.eq_nil_of_length_eq_zero (by have := ok.len; simpa using this.symm)
    subst hz
    exact readComp_bare line nm m w hm ok
  · exact readComp_fields line nm ws zs m w hm ok h

set_option maxHeartbeats 1600000 in
theorem readLayout_ok (text body : ByteArray) (ls nms : List ByteArray) (m : Int) (w : World) (hm : w.cell? ⟨0, 0, none⟩ = some (.int .i64 m)) (ok : SchemaOk text body ls nms) :
    Calls Tryd.prog 15 #[.string text] w fun e w' => ∃ sa n c, e = .returned (.slice sa n c) ∧ Below w.heap.size w w' := by
  have h0 : 0 < w.heap.size := World.block_lt_of_cell? w ⟨0, 0, none⟩ hm
  have OK : Hid (SchemaOk text body ls nms) := ok
  have HM : Hid _ := hm
  have hts := ok.small
  have hfew := ok.few
  have HCut : Hid (Calls Tryd.prog 17 #[.string text, .string ⟨#[10]⟩] w fun e w' => e = .returned (.tuple #[.string body, .bool true]) ∧ w = w') := by
    have := Tryd.strings_CutSuffix text ⟨#[10]⟩ w (by omega)
    rw [show (⟨#[10]⟩ : ByteArray).data.toList = [10] from rfl, ok.cutOff, ok.ended] at this
    exact this.mono fun e w' h => ⟨by simpa using h.1, h.2.symm⟩
  have HSp : Hid (Calls Tryd.prog 18 #[.string body, .string ⟨#[10]⟩] w fun e w' => e = .returned (.slice (some ⟨w.heap.size, 0, none⟩) ls.length ls.length) ∧ w' = w.alloc (.cells (ls.map Value.string).toArray 9)) := by
    have := Tryd.strings_Split body ⟨#[10]⟩ m w (by have := ok.bsmall; omega) hm (by decide)
    rw [ok.split, ok.count] at this
    exact this
  clear ok hm
  obtain ⟨i0, hi, hz0, hz1, hz2⟩ := info_parts Tryd.info63
  go_enter Tryd.func15, Tryd.ntmps15
  go_wp2_with (go_at_call 16; refine (need_of _ _ ?_).mono ?_; (first | rfl | (simp; omega)); rintro e w' ⟨rfl, rfl⟩)
  refine Calls.mono HCut.out ?_
  rintro e w1 ⟨rfl, rfl⟩
  go_wp2_with (go_at_call 16; refine (need_of _ _ ?_).mono ?_; (first | rfl | (simp; omega)); rintro e w' ⟨rfl, rfl⟩)
  refine Calls.mono HSp.out ?_
  rintro e w1 ⟨rfl, rfl⟩
  go_wp2_with (first | (go_at_call 16; refine (need_of _ _ ?_).mono ?_; (first | rfl | (simp; omega)); rintro e w' ⟨rfl, rfl⟩) | (at_make; refine wpList_make_own _ rfl _ _ 43 rfl (w.heap.size + 1) 63 i0 (.agg #[.string ⟨#[]⟩, .slice none 0 0]) 2 Tryd.underlying43 hi hz0 hz1 .i64 .i64 _ ls.length rfl rfl rfl (by rw [hz2]; omega) (by unfold maxLen; omega) (by simp) ?_; intro w0 hown0 hgrow0))
  have HB0 : Hid (Below (w.heap.size + 1) (w.alloc (.cells (ls.map Value.string).toArray 9)) w0) := ⟨hgrow0.os, hgrow0.tape, hgrow0.output, hgrow0.size, fun j hj => hgrow0.block j (by simp; omega) (by simp)⟩
  have HO0 : Hid (w0.ownsRow (w.heap.size + 1) 63 2 (.slice (some ⟨w.heap.size + 1, 0, none⟩) 0 ls.length) 0 (compCells [])) := by rw [World.size_alloc] at hown0; exact hown0
  have HP : Hid (∀ k (h : k < ls.length), (w.alloc (.cells (ls.map Value.string).toArray 9)).cell? ⟨w.heap.size, k, none⟩ = some (.string ls[k])) := fun k h => by
    rw [World.cell?_alloc_new]; simp [h]
  have H0 : Hid ((w.alloc (.cells (ls.map Value.string).toArray 9)).cell? ⟨0, 0, none⟩ = some (.int .i64 m)) := (World.cell?_alloc_lt _ _ _ h0).trans HM.out
  have HBS : Hid (Below w.heap.size w (w.alloc (.cells (ls.map Value.string).toArray 9))) := (Below.refl _ _).alloc (Nat.le_refl _) _
  obtain ⟨wS, hwS⟩ : ∃ wS, wS = w.alloc (.cells (ls.map Value.string).toArray 9) := ⟨_, rfl⟩
  rw [← hwS] at HB0 HP H0 HBS
  have hsS : wS.heap.size = w.heap.size + 1 := by rw [hwS]; simp
  have HsS : Hid _ := hsS
  clear hown0 hgrow0 hsS hwS
  go_loopw [6, 32] (fun v t wr => ∃ (k : Nat) (cs : List (ByteArray × (Option Addr × Nat × Nat))), k ≤ ls.length ∧ t = .int .i64 k ∧ cs.map Prod.fst = nms.take k ∧ cs.length = k ∧ wr.ownsRow (w.heap.size + 1) 63 2 v k (compCells cs) ∧ Below (w.heap.size + 1) wS wr)
    (fun _ t _ => ls.length - (intOf t).toNat)
  case atStart => exact ⟨0, [], by omega, rfl, rfl, rfl, HO0.out, HB0.out⟩
  case round =>
    obtain ⟨k, cs, hk, rfl, hcs, hcl, hown, hbw⟩ := hrel
    have HBW : Hid (Below (w.heap.size + 1) wS wr) := hbw
    have HO : Hid (wr.ownsRow (w.heap.size + 1) 63 2 u6 k (compCells cs)) := hown
    have HCS : Hid (cs.map Prod.fst = nms.take k) := hcs
    have HCL : Hid (cs.length = k) := hcl
    have hs0 : w.heap.size + 1 ≤ wr.heap.size := by have := hbw.size; rw [HsS.out] at this; exact this
    by_cases hlt : k < ls.length
    · have hkn : k < nms.length := by rw [← OK.out.len]; exact hlt
      have hw : wr.cell? ⟨w.heap.size, k, none⟩ = some (.string ls[k]) := (hbw.cell (p := ⟨w.heap.size, k, none⟩) (by simp)).trans (HP.out k hlt)
      have HFd : Hid _ := readComp_ok ls[k] nms[k] m wr ((hbw.cell (p := ⟨0, 0, none⟩) (by simp)).trans H0.out) (OK.out.comps k hlt hkn)
      clear hbw hown hcs hcl
      generalize ls[k] = wd at hw HFd
      go_wp2_with fail
      refine Calls.mono HFd.out ?_
      rintro e w3 ⟨sa, sn, sc, rfl, hb3⟩
      have HB3 : Hid _ := hb3
      have HO3 : Hid (w3.ownsRow (w.heap.size + 1) 63 2 u6 k (compCells cs)) := HO.out.kept (grownBy_below hb3 none) (by cases u6.ownBlock <;> simp)
      have hs3 : w.heap.size + 1 ≤ w3.heap.size := Nat.le_trans hs0 hb3.size
      clear hb3 hw
      have HFi : Hid _ := find20_none nms[k] u6 (w.heap.size + 1) cs (w3.alloc (.cells #[.string nms[k], .slice sa sn sc] 63)) (by rw [HCL.out]; omega) (by rw [HCL.out]; exact HO3.out.alloc _)
        (fun j h => by
          have hj : j < k := by rw [← HCL.out]; exact h
          have e : cs[j].1 = nms[j]'(by omega) := by
            have h1 : (cs.map Prod.fst)[j]? = (nms.take k)[j]? := by rw [HCS.out]
            rw [List.getElem?_map, List.getElem?_eq_getElem h, List.getElem?_take, if_pos hj, List.getElem?_eq_getElem (by omega)] at h1
            simpa using h1
          rw [e]
          exact OK.out.apart j k (by omega) hkn hj)
      have HZ : Hid (nms.take (k + 1) = nms.take k ++ [nms[k]]) := List.take_succ_eq_append_getElem hkn
      generalize nms[k] = z at HFi HZ
      go_wp2_with fail
      refine Calls.mono HFi.out ?_
      rintro e w5 ⟨rfl, hb5⟩
      have b0 : w5.cell? ⟨w3.heap.size, 0, none⟩ = some (.string z) := by rw [hb5.cell (p := ⟨w3.heap.size, 0, none⟩) (by simp)]; simp
      have b1 : w5.cell? ⟨w3.heap.size, 1, none⟩ = some (.slice sa sn sc) := by rw [hb5.cell (p := ⟨w3.heap.size, 1, none⟩) (by simp)]; simp
      have HB5 : Hid (Below w3.heap.size w3 w5) := ((Below.refl _ _).alloc (Nat.le_refl _) _).trans (hb5.mono (by simp))
      have hs5 : w.heap.size + 1 ≤ w5.heap.size := Nat.le_trans hs3 HB5.out.size
      have hown5 : w5.ownsRow (w.heap.size + 1) 63 2 u6 k (compCells cs) := HO3.out.kept (grownBy_below HB5.out none) (by cases u6.ownBlock <;> simp)
      have HB2 : Hid (Below (w.heap.size + 1) wS w5) := (Below.trans HBW.out (Below.mono HB3.out (by omega))).trans (HB5.out.mono (by omega))
      clear hb5
      go_wp2_with (first | (go_at_call 16; refine (need_of _ _ ?_).mono ?_; (first | rfl | (simp; omega)); rintro e w' ⟨rfl, rfl⟩) | (at_builtin; refine wpList_append_own _ rfl _ _ 43 rfl (w.heap.size + 1) 63 i0 (.agg #[.string ⟨#[]⟩, .slice none 0 0]) 2 40 Tryd.underlying43 hi hz0 hz1 hz2 rfl (by decide) _ _ _ rfl (hown5.alloc _) ⟨w5.heap.size, 0, none⟩ 1 1 [.string z, .slice sa sn sc] rfl rfl (cell_two_new _ _ _ _) (fun x hx => by simp at hx; rcases hx with rfl | rfl <;> rfl) (by unfold maxLen; omega) (by omega) (by simp; omega) ?_; intro v' w6 hown6 hgrow6 _; have HO6 : Hid (w6.ownsRow (w.heap.size + 1) 63 2 v' (k + 1) (compCells cs ++ [.string z, .slice sa sn sc])) := hown6; have HB6 : Hid (Below (w.heap.size + 1) wS w6) := Below.grown (HB2.out.alloc (by omega) _) hgrow6 (by simp; omega) (fun j hj => (hown5.lt j hj).1); clear hown5 hown6 hgrow6))
      go_roundw
      case rel =>
        refine ⟨k + 1, cs ++ [(z, sa, sn, sc)], by omega, by go_num, ?_, ?_, ?_, HB6.out⟩
        · rw [HZ.out, ← HCS.out]; simp
        · have := HCL.out; simp [this]
        · have e : compCells (cs ++ [(z, sa, sn, sc)]) = compCells cs ++ [.string z, .slice sa sn sc] := by simp [compCells]
          rw [e]; exact HO6.out
      case measure => simp [intOf]; omega
    · obtain ⟨sa, sn, sc, rfl⟩ := own_form hown
      clear hown hbw hcs hcl
      go_wp2
      go_ret
      exact ⟨sa, sn, sc, rfl, HBS.out.trans (Below.mono HBW.out (by omega))⟩

end Go.Proofs.YtknfcmfnnjgkdabDoor
