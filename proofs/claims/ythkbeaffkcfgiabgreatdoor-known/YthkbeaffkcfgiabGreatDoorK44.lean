import Derived.Test.YthkbeaffkcfgiabGreatDoorK43
set_option linter.unusedSimpArgs false
set_option linter.unusedVariables false
namespace Go.Proofs.YthkbeaffkcfgiabGreatDoor
open Go.RowKit

/-- The world that a card meets. -/
theorem new_card (x : ByteArray) (ok : Bool) (w : World) (hG : Glob w) : Calls Tryz.prog 34 #[.string (mk lawSch)] (w.alloc (.cells #[.string x, .bool ok] 70)) fun e w2 => ∃ b g lc, e = .returned (.tuple #[.pointer (some ⟨b, 0, none⟩), .int .i64 0]) ∧ Hid (w.heap.size < b ∧ b < w2.heap.size ∧ WT w2 (ownB b) b g lc 1 lawL St.nought ∧ Glob w2 ∧ Below w.heap.size w w2 ∧ ∀ W, Below b w2 W → W.cell? ⟨w.heap.size, 0, none⟩ = some (.string x) ∧ W.cell? ⟨w.heap.size, 1, none⟩ = some (.bool ok)) := by
  have hb1 : Below w.heap.size w (w.alloc (.cells #[.string x, .bool ok] 70)) := (Below.refl _ _).alloc (Nat.le_refl _) _
  refine (new_law _ (hG.below hG.size hb1 hb1.size)).mono ?_
  rintro e w2 ⟨b, g, lc, rfl, h1, h2, h3⟩
  have h1' : w.heap.size < b := by simp at h1; omega
  have hs := h3.size
  refine ⟨b, g, lc, rfl, h1', h2.lt, h2, (hG.below hG.size hb1 hb1.size).below (by have := hG.size; simp; omega) h3 h3.size, hb1.trans (h3.mono (by simp)), fun W hW => ?_⟩
  have q : W.heap[w.heap.size]? = some (.cells #[.string x, .bool ok] 70 (0, 0)) := (hW.block _ h1').trans ((h3.block _ (by simp)).trans (heap_alloc_at rfl _))
  exact ⟨by rw [cell_row q]; rfl, by rw [cell_row q]; rfl⟩

set_option maxHeartbeats 1600000 in
set_option maxRecDepth 20000 in
/-- taken, of a text. -/
theorem taken_text (t : List UInt8) (ok : Bool) (w : World) (hG : Glob w) (hB : textB lawL t ok = true) (hl : t.length ≤ 1000) :
    Calls Tryz.prog 35 #[.agg #[.string (mk t), .bool ok], .bool false] w fun e w' => e = .returned (.bool true) ∧ Below w.heap.size w w' := by
  have HN : Hid _ := new_card (mk t) ok w hG
  have HGs : Hid (11 ≤ w.heap.size) := hG.size
  have HL : Hid (t.length ≤ 2 ^ 40) := Nat.le_trans hl (by decide)
  cases ok with
  | true =>
    obtain ⟨sc, hsc, hbt⟩ := textB_some hB
    have HSc : Hid (readTextL lawL t = some sc ∧ backT lawL sc t) := ⟨hsc, hbt⟩
    clear hsc hbt hB hl hG
    go_enter Tryz.func35, Tryz.ntmps35
    go_wp2_with fail
    refine Calls.mono HN.out ?_
    rintro e w2 ⟨b, g, lc, rfl, H2⟩
    have HLd : Hid (Calls Tryz.prog 21 #[.pointer (some ⟨b, 0, none⟩), .string (mk t)] w2 fun e w' => ∃ sa sn sk, e = .returned (.tuple #[.slice sa sn sk, .int .i64 0]) ∧ SettledAt w2 b g lc lawL sc (.slice sa sn sk) w') := by
      refine (load_new b g lc lawL t sc w2 HL.out H2.out.2.2.2.1 H2.out.2.2.1 HSc.out.1 HSc.out.2.1 HSc.out.2.2.1).mono ?_
      rintro e w' ⟨v, n, rfl, h1, h2⟩
      rw [h1]
      obtain ⟨a, c, q⟩ := own_form h2.1.choose_spec.2.2
      subst q
      exact ⟨a, _, c, rfl, h2⟩
    obtain ⟨x0, x1⟩ := H2.out.2.2.2.2.2 w2 (Below.refl _ _)
    have HSv : Hid (∀ v w3, SettledAt w2 b g lc lawL sc v w3 → Glob w3 ∧ Below b w2 w3 ∧ ∀ W, Below w3.heap.size w3 W → Calls Tryz.prog 17 #[.pointer (some ⟨b, 0, none⟩)] W (fun e w4 => e = .returned (.string (mk t)) ∧ Below W.heap.size W w4)) := fun v w3 h => by
      have h1 := settled_kept h H2.out.2.2.2.1 (by have := HGs.out; have := H2.out.1; omega) H2.out.2.1
      exact ⟨h1.1, h1.2, fun W hW => settled_saves h h1.1 HSc.out.2 W hW⟩
    generalize mk t = x at *
    go_wp2_with fail
    refine Calls.mono HLd.out ?_
    rintro e w3 ⟨sa, sn, sk, rfl, hS3⟩
    obtain ⟨hG3, hb3, hsv⟩ := HSv.out _ w3 hS3
    obtain ⟨y0, y1⟩ := H2.out.2.2.2.2.2 w3 hb3
    have HSv3 : Hid _ := hsv
    have HB3 : Hid (Below w.heap.size w w3) := H2.out.2.2.2.2.1.trans (hb3.mono (Nat.le_of_lt H2.out.1))
    have HK3 : Hid (∀ W, Below w3.heap.size w3 W → W.cell? ⟨w.heap.size, 0, none⟩ = some (.string x)) := fun W hW => (H2.out.2.2.2.2.2 W (hb3.trans (hW.mono (by have := hb3.size; have := H2.out.2.1; omega)))).1
    clear hb3 hsv hG3 hS3
    go_wp2_with fail
    go_region_with (go_at_call 17; refine (HSv3.out _ ((Below.refl _ _).drew)).mono ?_; rintro e w4 ⟨rfl, hb4⟩; have z0 := HK3.out w4 (((Below.refl _ _).drew).trans hb4); have HB4 : Hid (Below w.heap.size w w4) := HB3.out.trans ((((Below.refl _ _).drew).trans hb4).mono HB3.out.size); clear hb4)
    all_goals go_wp2_with fail
    all_goals go_ret
    all_goals exact ⟨rfl, HB4.out⟩
  | false =>
    have HNo : Hid (readTextL lawL t = none) := textB_none hB
    clear hB hl hG
    go_enter Tryz.func35, Tryz.ntmps35
    go_wp2_with fail
    refine Calls.mono HN.out ?_
    rintro e w2 ⟨b, g, lc, rfl, H2⟩
    have HLd : Hid (Calls Tryz.prog 21 #[.pointer (some ⟨b, 0, none⟩), .string (mk t)] w2 fun e w' => e = .returned (.tuple #[.slice none 0 0, .int .i64 10]) ∧ Below w2.heap.size w2 w') := load_bad b b g lc lawL t w2 HL.out H2.out.2.2.2.1 H2.out.2.2.1.lay H2.out.2.2.1.lcle H2.out.2.2.1.c0 HNo.out
    obtain ⟨x0, x1⟩ := H2.out.2.2.2.2.2 w2 (Below.refl _ _)
    generalize mk t = x at *
    go_wp2_with fail
    refine Calls.mono HLd.out ?_
    rintro e w3 ⟨rfl, hb3⟩
    obtain ⟨y0, y1⟩ := H2.out.2.2.2.2.2 w3 (hb3.mono (Nat.le_of_lt H2.out.2.1))
    have HW3 : Hid (WT w3 (ownB b) b g lc 1 lawL St.nought) := H2.out.2.2.1.below hb3
    have HG3 : Hid (Glob w3) := H2.out.2.2.2.1.below H2.out.2.2.2.1.size hb3 hb3.size
    have HS : Hid _ := empty_tells HW3.out HG3.out
    have HB3 : Hid (Below w.heap.size w w3) := H2.out.2.2.2.2.1.trans (hb3.mono H2.out.2.2.2.2.1.size)
    clear hb3
    go_wp2_with fail
    refine Calls.mono HS.out ?_
    rintro e w4 ⟨rfl, hb4⟩
    have HP : Hid _ := empty_packs (HW3.out.below hb4)
    have HB4 : Hid (Below w.heap.size w w4) := HB3.out.trans (hb4.mono HB3.out.size)
    clear hb4
    go_wp2_with fail
    refine Calls.mono HP.out ?_
    rintro e w5 ⟨rfl, hb5⟩
    have HB5 : Hid (Below w.heap.size w w5) := HB4.out.trans (hb5.mono HB4.out.size)
    clear hb5
    go_wp2_with fail
    go_ret
    exact ⟨rfl, HB5.out⟩
end Go.Proofs.YthkbeaffkcfgiabGreatDoor

namespace Go.Proofs.YthkbeaffkcfgiabGreatDoor
open Go.RowKit

set_option maxHeartbeats 1600000 in
set_option maxRecDepth 20000 in
/-- taken, of a pack. -/
theorem taken_pack (t : List UInt8) (ok : Bool) (w : World) (hG : Glob w) (hB : packB lawL t ok = true) (hl : t.length ≤ 1000) :
    Calls Tryz.prog 35 #[.agg #[.string (mk t), .bool ok], .bool true] w fun e w' => e = .returned (.bool true) ∧ Below w.heap.size w w' := by
  have HN : Hid _ := new_card (mk t) ok w hG
  have HGs : Hid (11 ≤ w.heap.size) := hG.size
  have HL : Hid (t.length ≤ 2 ^ 40) := Nat.le_trans hl (by decide)
  cases ok with
  | true =>
    obtain ⟨sc, hsc, hbt⟩ := packB_some hB
    have HSc : Hid (readBytesL lawL t = some sc ∧ backB lawL sc t) := ⟨hsc, hbt⟩
    clear hsc hbt hB hl hG
    go_enter Tryz.func35, Tryz.ntmps35
    go_wp2_with fail
    refine Calls.mono HN.out ?_
    rintro e w2 ⟨b, g, lc, rfl, H2⟩
    have HLd : Hid (Calls Tryz.prog 22 #[.pointer (some ⟨b, 0, none⟩), .string (mk t)] w2 fun e w' => ∃ sa sn sk, e = .returned (.tuple #[.slice sa sn sk, .int .i64 0]) ∧ SettledAt w2 b g lc lawL sc (.slice sa sn sk) w') := by
      refine (unpack_new b g lc lawL t sc w2 HL.out H2.out.2.2.1 HSc.out.1 HSc.out.2.1 HSc.out.2.2.1).mono ?_
      rintro e w' ⟨v, n, rfl, h1, h2⟩
      rw [h1]
      obtain ⟨a, c, q⟩ := own_form h2.1.choose_spec.2.2
      subst q
      exact ⟨a, _, c, rfl, h2⟩
    obtain ⟨x0, x1⟩ := H2.out.2.2.2.2.2 w2 (Below.refl _ _)
    have HSv : Hid (∀ v w3, SettledAt w2 b g lc lawL sc v w3 → Glob w3 ∧ Below b w2 w3 ∧ ∀ W, Below w3.heap.size w3 W → Calls Tryz.prog 18 #[.pointer (some ⟨b, 0, none⟩)] W (fun e w4 => e = .returned (.string (mk t)) ∧ Below W.heap.size W w4)) := fun v w3 h => by
      have h1 := settled_kept h H2.out.2.2.2.1 (by have := HGs.out; have := H2.out.1; omega) H2.out.2.1
      exact ⟨h1.1, h1.2, fun W hW => settled_packs h HSc.out.2 W hW⟩
    generalize mk t = x at *
    go_wp2_with fail
    refine Calls.mono HLd.out ?_
    rintro e w3 ⟨sa, sn, sk, rfl, hS3⟩
    obtain ⟨hG3, hb3, hsv⟩ := HSv.out _ w3 hS3
    obtain ⟨y0, y1⟩ := H2.out.2.2.2.2.2 w3 hb3
    have HSv3 : Hid _ := hsv
    have HB3 : Hid (Below w.heap.size w w3) := H2.out.2.2.2.2.1.trans (hb3.mono (Nat.le_of_lt H2.out.1))
    have HK3 : Hid (∀ W, Below w3.heap.size w3 W → W.cell? ⟨w.heap.size, 0, none⟩ = some (.string x)) := fun W hW => (H2.out.2.2.2.2.2 W (hb3.trans (hW.mono (by have := hb3.size; have := H2.out.2.1; omega)))).1
    clear hb3 hsv hG3 hS3
    go_wp2_with fail
    go_region_with (go_at_call 18; refine (HSv3.out _ ((Below.refl _ _).drew)).mono ?_; rintro e w4 ⟨rfl, hb4⟩; have z0 := HK3.out w4 (((Below.refl _ _).drew).trans hb4); have HB4 : Hid (Below w.heap.size w w4) := HB3.out.trans ((((Below.refl _ _).drew).trans hb4).mono HB3.out.size); clear hb4)
    all_goals go_wp2_with fail
    all_goals go_ret
    all_goals exact ⟨rfl, HB4.out⟩
  | false =>
    have HNo : Hid (readBytesL lawL t = none) := packB_none hB
    clear hB hl hG
    go_enter Tryz.func35, Tryz.ntmps35
    go_wp2_with fail
    refine Calls.mono HN.out ?_
    rintro e w2 ⟨b, g, lc, rfl, H2⟩
    have HLd : Hid (Calls Tryz.prog 22 #[.pointer (some ⟨b, 0, none⟩), .string (mk t)] w2 fun e w' => e = .returned (.tuple #[.slice none 0 0, .int .i64 10]) ∧ Below w2.heap.size w2 w') := unpack_bad b b g lc lawL t w2 HL.out H2.out.2.2.1.lay H2.out.2.2.1.lcle H2.out.2.2.1.c0 HNo.out
    obtain ⟨x0, x1⟩ := H2.out.2.2.2.2.2 w2 (Below.refl _ _)
    generalize mk t = x at *
    go_wp2_with fail
    refine Calls.mono HLd.out ?_
    rintro e w3 ⟨rfl, hb3⟩
    obtain ⟨y0, y1⟩ := H2.out.2.2.2.2.2 w3 (hb3.mono (Nat.le_of_lt H2.out.2.1))
    have HW3 : Hid (WT w3 (ownB b) b g lc 1 lawL St.nought) := H2.out.2.2.1.below hb3
    have HG3 : Hid (Glob w3) := H2.out.2.2.2.1.below H2.out.2.2.2.1.size hb3 hb3.size
    have HS : Hid _ := empty_tells HW3.out HG3.out
    have HB3 : Hid (Below w.heap.size w w3) := H2.out.2.2.2.2.1.trans (hb3.mono H2.out.2.2.2.2.1.size)
    clear hb3
    go_wp2_with fail
    refine Calls.mono HS.out ?_
    rintro e w4 ⟨rfl, hb4⟩
    have HP : Hid _ := empty_packs (HW3.out.below hb4)
    have HB4 : Hid (Below w.heap.size w w4) := HB3.out.trans (hb4.mono HB3.out.size)
    clear hb4
    go_wp2_with fail
    refine Calls.mono HP.out ?_
    rintro e w5 ⟨rfl, hb5⟩
    have HB5 : Hid (Below w.heap.size w w5) := HB4.out.trans (hb5.mono HB4.out.size)
    clear hb5
    go_wp2_with fail
    go_ret
    exact ⟨rfl, HB5.out⟩
end Go.Proofs.YthkbeaffkcfgiabGreatDoor
