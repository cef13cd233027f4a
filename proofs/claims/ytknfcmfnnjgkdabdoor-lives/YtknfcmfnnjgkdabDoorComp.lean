import Derived.Test.YtknfcmfnnjgkdabDoorFind
import Derived.Test.YtknfcmfnnjgkdabDoorAlive
namespace Go.Proofs.YtknfcmfnnjgkdabDoor
open Go.RowKit

/-- A component's line: its name, its fields' words; each field's name and kind. -/
structure CompOk (line nm : ByteArray) (ws : List ByteArray) (zs : List (ByteArray × Int)) : Prop where
  name : NameOk nm
  notE : (nm.toList == [101]) = false
  small : line.size < 500
  len : ws.length = zs.length
  few : zs.length ≤ 4
  fields : ∀ j (h : j < ws.length) (h' : j < zs.length), FieldOk ws[j] zs[j].1 zs[j].2
  apart : ∀ i j (hi : i < zs.length) (hj : j < zs.length), i < j → (zs[i].1.toList == zs[j].1.toList) = false
  count : Lib.countB line ⟨#[32]⟩ = ws.length
  split : Lib.splitB ⟨#[32]⟩ 0 (Lib.countB line ⟨#[32]⟩) line = nm :: ws

theorem split_ok {line nm : ByteArray} {ws : List ByteArray} {zs : List (ByteArray × Int)} {m : Int} (ok : CompOk line nm ws zs) (W : World) (hW : W.cell? ⟨0, 0, none⟩ = some (.int .i64 m)) :
    Calls Tryd.prog 18 #[.string line, .string ⟨#[32]⟩] W fun e w' =>
      e = .returned (.slice (some ⟨W.heap.size, 0, none⟩) (ws.length + 1) (ws.length + 1)) ∧ w' = W.alloc (.cells ((nm :: ws).map Value.string).toArray 9) := by
  have := Tryd.strings_Split line ⟨#[32]⟩ m W (by have := ok.small; omega) hW (by decide)
  rw [ok.split, ok.count] at this
  exact this

set_option maxHeartbeats 1600000 in
theorem readComp_bare (line nm : ByteArray) (m : Int) (w : World) (hm : w.cell? ⟨0, 0, none⟩ = some (.int .i64 m)) (ok : CompOk line nm [] []) :
    Calls Tryd.prog 19 #[.string line] w fun e w' => ∃ sa n c, e = .returned (.agg #[.string nm, .slice sa n c]) ∧ Below w.heap.size w w' := by
  have h0 : 0 < w.heap.size := World.block_lt_of_cell? w ⟨0, 0, none⟩ hm
  have HS : Hid (∀ o : Obj, _) := fun o => split_ok (m := m) ok (w.alloc o) ((World.cell?_alloc_lt w o ⟨0, 0, none⟩ h0).trans hm)
  have OK : Hid _ := ok
  have hE := ok.notE
  clear ok hm
  go_enter Tryd.func19, Tryd.ntmps19
  go_wp2_with fail
  refine Calls.mono (HS.out _) ?_
  rintro e w1 ⟨rfl, rfl⟩
  go_wp2_with (go_at_call 16; refine (need_of _ _ ?_).mono ?_; (first | rfl | (simp; omega)); rintro e w' ⟨rfl, rfl⟩)
  refine (readName_ok nm _ OK.out.name).mono ?_
  rintro e w2 ⟨rfl, hb2⟩
  have HB : Hid (Below w.heap.size w w2) := (below_two _ _ _).trans (hb2.mono (by simp; omega))
  have hsz : w.heap.size < w2.heap.size := by have := hb2.size; simp at this; omega
  have hc0 : w2.cell? ⟨w.heap.size, 0, none⟩ = some (.string ⟨#[]⟩) := by rw [hb2.cell (p := ⟨w.heap.size, 0, none⟩) (by simp; omega), World.cell?_alloc_lt _ _ _ (by simp)]; simp
  have hc1 : w2.cell? ⟨w.heap.size, 1, none⟩ = some (.slice none 0 0) := by rw [hb2.cell (p := ⟨w.heap.size, 1, none⟩) (by simp; omega), World.cell?_alloc_lt _ _ _ (by simp)]; simp
  have hf : ∀ o, w2.frozen? ⟨w.heap.size, o, none⟩ = false := fun o => by rw [hb2.frozen (p := ⟨w.heap.size, o, none⟩) (by simp; omega)]; simp
  clear hb2
  go_wp2_with fail
  refine wp_loop_rounds 1 ?_
  rw [rounds_succ]
  go_wp2_with (go_at_call 16; refine (need_of _ _ ?_).mono ?_; (first | rfl | simp [hE]); rintro e w' ⟨rfl, rfl⟩)
  refine bodyPost_ret (v := .agg #[.string nm, .slice none 0 0]) ?_ rfl ⟨none, 0, 0, rfl, ?_⟩
  · have r0 : (((w2.setCell ⟨w.heap.size, 0, none⟩ (.string nm)).setCell ⟨w.heap.size, 1, none⟩ (.slice none 0 0)).alloc (.cells #[.string nm, .slice none 0 0] 63)).cell? ⟨w.heap.size, 0, none⟩ = some (.string nm) := by
      rw [World.cell?_alloc_lt _ _ _ (by simp; omega), set_other _ (by omega), set_same _ hc0]
    have r1 : (((w2.setCell ⟨w.heap.size, 0, none⟩ (.string nm)).setCell ⟨w.heap.size, 1, none⟩ (.slice none 0 0)).alloc (.cells #[.string nm, .slice none 0 0] 63)).cell? ⟨w.heap.size, 1, none⟩ = some (.slice none 0 0) := by
      rw [World.cell?_alloc_lt _ _ _ (by simp; omega), set_same (u := .slice none 0 0) _ (by rw [set_other _ (by omega)]; exact hc1)]
    simp [results, Tryd.results19, go_sem, r0, r1]
  · repeat (first | exact HB.out | refine Below.setCell ?_ (by simp) _ | refine Below.alloc ?_ (by simp; omega) _ | refine Below.drew ?_)

theorem Tryd.info70 : (Tryd.prog.info? 70).map (fun i => (i.zero, i.size, i.bytes)) = some (some (.agg #[.string ⟨#[]⟩, .int .i64 0]), 2, 24) := by kernel_rfl

theorem own_succ {W : World} {base : Nat} {e : TypeId} {size : Nat} {v : Value} {k : Nat} {xs : List Value} (h : W.ownsRow base e size v (k + 1) xs) : ∃ g cap, v = .slice (some ⟨g, 0, none⟩) (k + 1) cap := by
  rcases h.2 with ⟨_, h⟩ | ⟨g, cap, cur, h, _⟩
  · omega
  · exact ⟨g, cap, h⟩

theorem own_form {W : World} {base : Nat} {e : TypeId} {size : Nat} {v : Value} {k : Nat} {xs : List Value} (h : W.ownsRow base e size v k xs) : ∃ a n c, v = .slice a n c := by
  rcases h.2 with ⟨h, _⟩ | ⟨g, cap, cur, h, _⟩
  · exact ⟨_, _, _, h⟩
  · exact ⟨_, _, _, h⟩

/-- Behind an append to the row in the variable at block C: what the round goes on with. -/
theorem row_step {C : Nat} {e : TypeId} {wa w5 w6 : World} {sa : Option Addr} {sn sc k : Nat} {v' c0 : Value} {xs ys : List Value} {o : Obj} (hown5 : w5.ownsRow (C + 1) e 2 (.slice sa sn sc) k xs) (hown6 : w6.ownsRow (C + 1) e 2 v' (k + 1) ys)
    (hg : (w5.alloc o).grownBy w6 (Value.slice sa sn sc).ownBlock) (g0 : w5.cell? ⟨C, 0, none⟩ = some c0) (g1 : w5.cell? ⟨C, 1, none⟩ = some (.slice sa sn sc)) (k0 : w5.frozen? ⟨C, 0, none⟩ = false) (k1 : w5.frozen? ⟨C, 1, none⟩ = false)
    (hs : C < w5.heap.size) (hB : Below C wa w5) :
    ∃ g c, v' = .slice (some ⟨g, 0, none⟩) (k + 1) c ∧ w6.cell? ⟨C, 0, none⟩ = some c0 ∧ w6.cell? ⟨C, 1, none⟩ = some (.slice sa sn sc) ∧ w6.frozen? ⟨C, 0, none⟩ = false ∧ w6.frozen? ⟨C, 1, none⟩ = false ∧ Below C wa w6 ∧ C < w6.heap.size := by
  have hrow : ∀ j, (Value.slice sa sn sc).ownBlock = some j → C + 1 ≤ j := fun j hj => (hown5.lt j hj).1
  have hblk : w6.heap[C]? = w5.heap[C]? := by
    rw [hg.block C (by simp; omega) (fun h => by have := hrow C h.symm; omega), Below.heap_alloc _ _ _ hs]
  obtain ⟨g, c, hv⟩ := own_succ hown6
  refine ⟨g, c, hv, ?_, ?_, ?_, ?_, ?_, ?_⟩
  · rw [World.cell?_of_block (a := ⟨C, 0, none⟩) hblk]; exact g0
  · rw [World.cell?_of_block (a := ⟨C, 1, none⟩) hblk]; exact g1
  · rw [World.frozen?_of_block (a := ⟨C, 0, none⟩) hblk]; exact k0
  · rw [World.frozen?_of_block (a := ⟨C, 1, none⟩) hblk]; exact k1
  · exact Below.grown (hB.alloc (by omega) o) hg (by simp; omega) (fun j hj => by have := hrow j hj; omega)
  · have := hg.size; simp at this; omega

set_option maxHeartbeats 1600000 in
theorem readComp_fields (line nm : ByteArray) (ws : List ByteArray) (zs : List (ByteArray × Int)) (m : Int) (w : World) (hm : w.cell? ⟨0, 0, none⟩ = some (.int .i64 m)) (ok : CompOk line nm ws zs) (hne : ¬ ws = []) :
    Calls Tryd.prog 19 #[.string line] w fun e w' => ∃ sa n c, e = .returned (.agg #[.string nm, .slice sa n c]) ∧ Below w.heap.size w w' := by
  have h0 : 0 < w.heap.size := World.block_lt_of_cell? w ⟨0, 0, none⟩ hm
  have HS : Hid (∀ o : Obj, _) := fun o => split_ok (m := m) ok (w.alloc o) ((World.cell?_alloc_lt w o ⟨0, 0, none⟩ h0).trans hm)
  have OK : Hid _ := ok
  have hE := ok.notE
  have HM : Hid _ := hm
  have hfew : ws.length ≤ 4 := by rw [ok.len]; exact ok.few
  obtain ⟨i0, hi, hz0, hz1, hz2⟩ := info_parts Tryd.info70
  clear ok hm
  go_enter Tryd.func19, Tryd.ntmps19
  go_wp2_with fail
  refine Calls.mono (HS.out _) ?_
  rintro e w1 ⟨rfl, rfl⟩
  go_wp2_with (go_at_call 16; refine (need_of _ _ ?_).mono ?_; (first | rfl | (simp; omega)); rintro e w' ⟨rfl, rfl⟩)
  refine (readName_ok nm _ OK.out.name).mono ?_
  rintro e w2 ⟨rfl, hb2⟩
  have HB : Hid (Below w.heap.size w w2) := (below_two _ _ _).trans (hb2.mono (by simp; omega))
  have hsz : w.heap.size + 1 < w2.heap.size := by have := hb2.size; simp at this; omega
  have hc0 : w2.cell? ⟨w.heap.size, 0, none⟩ = some (.string ⟨#[]⟩) := by rw [hb2.cell (p := ⟨w.heap.size, 0, none⟩) (by simp; omega), World.cell?_alloc_lt _ _ _ (by simp)]; simp
  have hc1 : w2.cell? ⟨w.heap.size, 1, none⟩ = some (.slice none 0 0) := by rw [hb2.cell (p := ⟨w.heap.size, 1, none⟩) (by simp; omega), World.cell?_alloc_lt _ _ _ (by simp)]; simp
  have hf : ∀ o, w2.frozen? ⟨w.heap.size, o, none⟩ = false := fun o => by rw [hb2.frozen (p := ⟨w.heap.size, o, none⟩) (by simp; omega)]; simp
  have HP : Hid (∀ k (h : k < ws.length), w2.cell? ⟨w.heap.size + 1, 1 + k, none⟩ = some (.string ws[k])) := fun k h => by
    rw [hb2.cell (p := ⟨w.heap.size + 1, 1 + k, none⟩) (by simp)]
    have := World.cell?_alloc_new (w.alloc (.cells #[.string ⟨#[]⟩, .slice none 0 0] 63)) (Value.string nm :: ws.map Value.string).toArray 9 (1 + k)
    rw [World.size_alloc] at this
    rw [this, show 1 + k = k + 1 from by omega]
    simp [h]
  have H0 : Hid (w2.cell? ⟨0, 0, none⟩ = some (.int .i64 m)) := (HB.out.cell (p := ⟨0, 0, none⟩) h0).trans HM.out
  have X0 : Hid (w2.cell? ⟨w.heap.size, 0, none⟩ = some (.string ⟨#[]⟩) ∧ w2.cell? ⟨w.heap.size, 1, none⟩ = some (.slice none 0 0) ∧ ∀ o, w2.frozen? ⟨w.heap.size, o, none⟩ = false) := ⟨hc0, hc1, hf⟩
  clear hb2 hc0 hc1 hf
  go_wp2_with fail
  go_loopw [22] (fun t wr => ∃ (k : Nat) (v : Value), k ≤ ws.length ∧ t = .int .i64 k ∧ wr.ownsRow (w2.heap.size + 1) 70 2 v k (fieldCells (zs.take k)) ∧ wr.cell? ⟨w2.heap.size, 0, none⟩ = some (.string nm) ∧ wr.cell? ⟨w2.heap.size, 1, none⟩ = some v ∧ wr.frozen? ⟨w2.heap.size, 0, none⟩ = false ∧ wr.frozen? ⟨w2.heap.size, 1, none⟩ = false ∧ Below w2.heap.size w2 wr ∧ w2.heap.size < wr.heap.size)
    (fun t _ => ws.length - (intOf t).toNat)
  case atStart => exact ⟨0, .slice none 0 0, by omega, rfl, World.ownsRow_nil _ _ _ _, by simp, by simp, by simp, by simp, (Below.refl _ _).alloc (Nat.le_refl _) _, by simp⟩
  case round =>
    obtain ⟨k, v, hk, rfl, hown, hC0, hC1, hF0, hF1, hbw, hlt0⟩ := hrel
    have HBW : Hid _ := hbw
    have HO : Hid _ := hown
    by_cases hlt : k < ws.length
    · have hkz : k < zs.length := by rw [← OK.out.len]; exact hlt
      have hw : wr.cell? ⟨w.heap.size + 1, 1 + k, none⟩ = some (.string ws[k]) := (hbw.cell (p := ⟨w.heap.size + 1, 1 + k, none⟩) hsz).trans (HP.out k hlt)
      have HFd : Hid _ := readField_ok ws[k] zs[k].1 zs[k].2 m wr ((hbw.cell (p := ⟨0, 0, none⟩) (by simp; omega)).trans H0.out) (OK.out.fields k hlt hkz)
      clear hbw hown
      generalize ws[k] = wd at hw HFd
      go_wp2_with fail
      refine Calls.mono HFd.out ?_
      rintro e w3 ⟨rfl, hb3⟩
      have HB3 : Hid _ := hb3
      have d0 : w3.cell? ⟨w2.heap.size, 0, none⟩ = some (.string nm) := (hb3.cell (p := ⟨w2.heap.size, 0, none⟩) hlt0).trans hC0
      have d1 : w3.cell? ⟨w2.heap.size, 1, none⟩ = some v := (hb3.cell (p := ⟨w2.heap.size, 1, none⟩) hlt0).trans hC1
      have e0 : w3.frozen? ⟨w2.heap.size, 0, none⟩ = false := (hb3.frozen (p := ⟨w2.heap.size, 0, none⟩) hlt0).trans hF0
      have e1 : w3.frozen? ⟨w2.heap.size, 1, none⟩ = false := (hb3.frozen (p := ⟨w2.heap.size, 1, none⟩) hlt0).trans hF1
      have hs3 : w2.heap.size < w3.heap.size := Nat.lt_of_lt_of_le hlt0 hb3.size
      have HO3 : Hid (w3.ownsRow (w2.heap.size + 1) 70 2 v k (fieldCells (zs.take k))) := World.ownsRow.kept HO.out (grownBy_below hb3 none) (by cases v.ownBlock <;> simp)
      clear hb3 hC0 hC1 hF0 hF1 hw
      obtain ⟨sa, sn, sc, rfl⟩ := own_form HO.out
      have hlk : (zs.take k).length = k := by simp; omega
      have HFi : Hid _ := find25_none nm zs[k].1 (.slice sa sn sc) (w2.heap.size + 1) (zs.take k) (w3.alloc (.cells #[.string zs[k].1, .int .i64 zs[k].2] 70)) (by omega) (by rw [hlk]; exact World.ownsRow.alloc HO3.out _)
        (fun j h => by
          have hj : j < k := by omega
          rw [List.getElem_take]
          exact OK.out.apart j k (by omega) hkz hj)
      clear hlk
      have HZ : Hid (zs.take (k + 1) = zs.take k ++ [zs[k]]) := List.take_succ_eq_append_getElem hkz
      generalize zs[k] = z at HFi HZ
      go_wp2_with fail
      refine Calls.mono HFi.out ?_
      rintro e w5 ⟨rfl, hb5⟩
      have b0 : w5.cell? ⟨w3.heap.size, 0, none⟩ = some (.string z.1) := by rw [hb5.cell (p := ⟨w3.heap.size, 0, none⟩) (by simp)]; simp
      have b1 : w5.cell? ⟨w3.heap.size, 1, none⟩ = some (.int .i64 z.2) := by rw [hb5.cell (p := ⟨w3.heap.size, 1, none⟩) (by simp)]; simp
      have HB5 : Hid (Below w3.heap.size w3 w5) := ((Below.refl _ _).alloc (Nat.le_refl _) _).trans (hb5.mono (by simp))
      have g0 : w5.cell? ⟨w2.heap.size, 0, none⟩ = some (.string nm) := (HB5.out.cell (p := ⟨w2.heap.size, 0, none⟩) hs3).trans d0
      have g1 : w5.cell? ⟨w2.heap.size, 1, none⟩ = some (.slice sa sn sc) := (HB5.out.cell (p := ⟨w2.heap.size, 1, none⟩) hs3).trans d1
      have k0 : w5.frozen? ⟨w2.heap.size, 0, none⟩ = false := (HB5.out.frozen (p := ⟨w2.heap.size, 0, none⟩) hs3).trans e0
      have k1 : w5.frozen? ⟨w2.heap.size, 1, none⟩ = false := (HB5.out.frozen (p := ⟨w2.heap.size, 1, none⟩) hs3).trans e1
      have hs5 : w2.heap.size < w5.heap.size := Nat.lt_of_lt_of_le hs3 HB5.out.size
      have hown5 : w5.ownsRow (w2.heap.size + 1) 70 2 (.slice sa sn sc) k (fieldCells (zs.take k)) := World.ownsRow.kept HO3.out (grownBy_below HB5.out none) (by cases (Value.slice sa sn sc).ownBlock <;> simp)
      have HB2 : Hid (Below w2.heap.size w2 w5) := (Below.trans HBW.out (HB3.out.mono (by omega))).trans (HB5.out.mono (by omega))
      clear hb5 d0 d1 e0 e1
      go_wp2_with (first | (go_at_call 16; refine (need_of _ _ ?_).mono ?_; (first | rfl | (simp; omega)); rintro e w' ⟨rfl, rfl⟩) | (at_builtin; refine wpList_append_own _ rfl _ _ 61 rfl (w2.heap.size + 1) 70 i0 (.agg #[.string ⟨#[]⟩, .int .i64 0]) 2 24 Tryd.underlying61 hi hz0 hz1 hz2 rfl (by decide) _ _ _ rfl (hown5.alloc _) ⟨w5.heap.size, 0, none⟩ 1 1 [.string z.1, .int .i64 z.2] rfl rfl (cell_two_new _ _ _ _) (fun x hx => by simp at hx; rcases hx with rfl | rfl <;> rfl) (by unfold maxLen; omega) (by omega) (by simp; omega) ?_; intro v' w6 hown6 hgrow6 _; obtain ⟨gg, gc, rfl, q0, q1, f0, f1, hB6, hs6⟩ := row_step hown5 hown6 hgrow6 g0 g1 k0 k1 hs5 HB2.out; have HO6 : Hid (w6.ownsRow (w2.heap.size + 1) 70 2 (.slice (some ⟨gg, 0, none⟩) (k + 1) gc) (k + 1) (fieldCells (zs.take k) ++ [.string z.1, .int .i64 z.2])) := hown6; have HB6 : Hid (Below w2.heap.size w2 w6) := hB6; clear hown5 hown6 hgrow6 g0 g1 k0 k1 hB6))
      go_roundw
      case rel =>
        refine ⟨k + 1, .slice (some ⟨gg, 0, none⟩) (k + 1) gc, by omega, by go_num, ?_, ?_, ?_, ?_, ?_, ?_, ?_⟩
        · have e : fieldCells (zs.take (k + 1)) = fieldCells (zs.take k) ++ [.string z.1, .int .i64 z.2] := by rw [HZ.out]; simp [fieldCells]
          rw [e]
          exact ownsRow_setCell_below HO6.out (by simp) _
        · rw [set_other _ (by omega)]; exact q0
        · exact set_same _ q1
        · simpa using f0
        · simpa using f1
        · exact HB6.out.setCell (by simp) _
        · simpa using hs6
      case measure => simp [intOf]; omega
    · obtain ⟨sa, sn, sc, rfl⟩ := own_form hown
      have r0 : wr.cell? ⟨w.heap.size, 0, none⟩ = some (.string ⟨#[]⟩) := (hbw.cell (p := ⟨w.heap.size, 0, none⟩) (by simp; omega)).trans X0.out.1
      have r1 : wr.cell? ⟨w.heap.size, 1, none⟩ = some (.slice none 0 0) := (hbw.cell (p := ⟨w.heap.size, 1, none⟩) (by simp; omega)).trans X0.out.2.1
      have f0 : ∀ o, wr.frozen? ⟨w.heap.size, o, none⟩ = false := fun o => (hbw.frozen (p := ⟨w.heap.size, o, none⟩) (by simp; omega)).trans (X0.out.2.2 o)
      clear hown hbw
      go_wp2_with (go_at_call 16; refine (need_of _ _ ?_).mono ?_; (first | rfl | simp [hE]); rintro e w' ⟨rfl, rfl⟩)
      refine bodyPost_ret (v := .agg #[.string nm, .slice sa sn sc]) ?_ rfl ⟨sa, sn, sc, rfl, ?_⟩
      · have t0 : ((wr.setCell ⟨w.heap.size, 0, none⟩ (.string nm)).setCell ⟨w.heap.size, 1, none⟩ (.slice sa sn sc)).cell? ⟨w.heap.size, 0, none⟩ = some (.string nm) := by
          rw [set_other _ (by omega), set_same _ r0]
        have t1 : ((wr.setCell ⟨w.heap.size, 0, none⟩ (.string nm)).setCell ⟨w.heap.size, 1, none⟩ (.slice sa sn sc)).cell? ⟨w.heap.size, 1, none⟩ = some (.slice sa sn sc) := by
          rw [set_same (u := .slice none 0 0) _ (by rw [set_other _ (by omega)]; exact r1)]
        simp [results, Tryd.results19, go_sem, t0, t1]
      · exact ((HB.out.trans (Below.mono HBW.out (by omega))).setCell (by simp) _).setCell (by simp) _

end Go.Proofs.YtknfcmfnnjgkdabDoor
