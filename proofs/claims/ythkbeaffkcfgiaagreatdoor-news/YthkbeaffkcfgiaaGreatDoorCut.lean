import Derived.Test.YthkbeaffkcfgiaaGreatDoorNew
import Derived.RegionTactic
namespace Go.Proofs.YthkbeaffkcfgiaaGreatDoor
open Go.RowKit

theorem Tryz.info9 : (Tryz.prog.info? 9).map (fun i => (i.zero, i.size, i.bytes)) = some (some (.string ⟨#[]⟩), 1, 16) := by kernel_rfl

/-- Texts, in their cells. -/
def sCells (l : List (List UInt8)) : List Value := l.map fun x => Value.string (mk x)

theorem cutL_more (b c : UInt8) (h : c ≠ b) : ∀ s, ∃ a l, cutL b s = a ++ [l] ∧ cutL b (s ++ [c]) = a ++ [l ++ [c]]
  | [] => ⟨[], [], by simp [cutL], by simp [cutL, h]⟩
  | d :: s => by
    obtain ⟨a, l, h1, h2⟩ := cutL_more b c h s
    rw [List.cons_append, cutL, cutL, h1, h2]
    by_cases e : d = b
    · rw [if_pos e, if_pos e]; exact ⟨[] :: a, l, by simp, by simp⟩
    · rw [if_neg e, if_neg e]
      cases a with
      | nil => exact ⟨[], d :: l, by simp, by simp⟩
      | cons x xs => exact ⟨(d :: x) :: xs, l, by simp, by simp⟩

set_option maxHeartbeats 1600000 in
set_option maxRecDepth 20000 in
theorem cut_any (s : List UInt8) (by_ : UInt8) (w : World) (hs : s.length ≤ 400) :
    Calls Tryz.prog 83 #[.string (mk s), .int .u8 (by_.toNat : Int)] w fun e w' => ∃ v, e = .returned v ∧ w'.ownsRow w.heap.size 9 1 v (cutL by_ s).length (sCells (cutL by_ s)) ∧ Below w.heap.size w w' := by
  obtain ⟨i0, hi, hz0, hz1, hz2⟩ := info_parts Tryz.info9
  have hsz : (mk s).size = s.length := size_mk s
  have HSz : Hid ((mk s).size = s.length) := hsz
  have hsb : (mk s).size ≤ 400 := by omega
  clear hsz
  go_enter Tryz.func83, Tryz.ntmps83
  go_wp2
  go_loopw [5, 6] (fun v t wr => ∃ (k : Nat) (pc : List (List UInt8)) (g nn cp : Nat), k ≤ (mk s).size ∧ t = .int .i64 k ∧ v = .slice (some ⟨g, 0, none⟩) nn cp ∧ Hid (pc = cutL by_ (s.take k)) ∧ Hid (nn = pc.length) ∧ wr.ownsRow w.heap.size 9 1 (.slice (some ⟨g, 0, none⟩) nn cp) nn (sCells pc) ∧ Below w.heap.size w wr) (fun _ t _ => (mk s).size - (intOf t).toNat)
  case atStart =>
    refine ⟨0, [[]], w.heap.size, 1, 1, by omega, rfl, rfl, rfl, rfl, ?_, (Below.refl _ _).alloc (Nat.le_refl _) _⟩
    exact World.ownsRow_lit w #[.string ⟨#[]⟩] 1 (Nat.le_refl _) (by unfold maxLen; omega) rfl
  case round =>
    obtain ⟨k, pc, g, nn, cp, hk, rfl, rfl, HPc, HNn, hown, hbw⟩ := hrel
    have HBW : Hid (Below w.heap.size w wr) := hbw
    have hws : w.heap.size ≤ wr.heap.size := hbw.size
    have hlen : nn ≤ 401 := by
      have := cut_count by_ (s.take k); rw [List.length_take, ← HPc.out, ← HNn.out] at this; omega
    have hpos : 1 ≤ nn := by
      have := cutL_length by_ (s.take k); rw [← HPc.out, ← HNn.out] at this; exact this
    have HGB : Hid (w.heap.size ≤ g ∧ g < wr.heap.size) := hown.lt g rfl
    clear hbw
    by_cases hlt : k < (mk s).size
    · have hks : k < s.length := by rw [← HSz.out]; exact hlt
      have HT : Hid (s.take (k + 1) = s.take k ++ [s[k]]) := List.take_succ_eq_append_getElem hks
      have hget : (mk s)[k] = s[k] := by simp [mk, ByteArray.getElem_eq_getElem_data]
      by_cases hc : s[k] = by_
      · have hcb : (((mk s)[k].toNat : Int) == (by_.toNat : Int)) = true := by rw [hget, hc]; simp
        have HN : Hid (cutL by_ (s.take (k + 1)) = pc ++ [[]]) := by show _ = _; rw [HT.out, hc, cutL_snoc, HPc.out]
        clear hget hc HT
        go_wp2_with (at_builtin; refine wpList_append_own _ rfl _ _ 31 rfl w.heap.size 9 i0 (.string ⟨#[]⟩) 1 16 Tryz.underlying31 hi hz0 hz1 hz2 rfl (by decide) _ _ _ rfl (hown.alloc _) ⟨wr.heap.size, 0, none⟩ 1 1 [.string ⟨#[]⟩] rfl rfl (cell_one_new _ _ _) (fun x hx => by simp at hx; subst hx; rfl) (by unfold maxLen; omega) (by omega) (by simp; omega) ?_; intro v' w6 hown6 hgrow6 _; obtain ⟨g', cp', rfl⟩ := own_succ hown6; have HO6 : Hid (w6.ownsRow w.heap.size 9 1 (.slice (some ⟨g', 0, none⟩) (nn + 1) cp') (nn + 1) (sCells pc ++ [.string ⟨#[]⟩])) := hown6; have HB6 : Hid (Below w.heap.size w w6) := Below.grown (HBW.out.alloc hws _) hgrow6 (by simp; omega) (fun j hj => (hown.lt j hj).1); clear hown6 hgrow6 hown)
        go_roundw
        case rel =>
          refine ⟨k + 1, pc ++ [[]], g', nn + 1, cp', by omega, by go_num, rfl, HN.out.symm, ?_, ?_, HB6.out⟩
          · show _ = _; rw [List.length_append, ← HNn.out]; rfl
          · have e : sCells (pc ++ [[]]) = sCells pc ++ [.string ⟨#[]⟩] := by simp [sCells, mk]
            rw [e]; exact HO6.out
        case measure => simp [intOf]; omega
      · have hcb : (((mk s)[k].toNat : Int) == (by_.toNat : Int)) = false := by
          rw [hget, beq_eq_false_iff_ne]
          intro e
          exact hc (UInt8.toNat_inj.1 (by omega))
        obtain ⟨a, l, h1, h2⟩ := cutL_more by_ s[k] hc (s.take k)
        rw [← HPc.out] at h1
        have HN : Hid (cutL by_ (s.take (k + 1)) = a ++ [l ++ [s[k]]]) := by show _ = _; rw [HT.out, h2]
        have HPa : Hid (pc = a ++ [l]) := h1
        have hal : nn = a.length + 1 := by rw [HNn.out, h1]; simp
        have hcell : wr.cell? ⟨g, a.length, none⟩ = some (.string (mk l)) := by
          rw [hown.cellAt a.length (by omega), h1]; simp [sCells]
        have hfr : wr.frozen? ⟨g, a.length, none⟩ = false := hown.frozenAt a.length
        have hex : (mk s).extract k (k + 1) = mk [s[k]] := by
          have hd : ((mk s).extract k (k + 1)).data.toList = [s[k]] := by
            rw [Lib.extract_data, data_mk]
            rw [List.drop_eq_getElem_cons hks, show k + 1 - k = 1 from by omega]
            rfl
          rw [← mk_data ((mk s).extract k (k + 1)), hd]
        have hll : l.length ≤ 400 := by
          have := cut_small by_ (s.take k) l (by rw [← HPc.out, h1]; simp)
          rw [List.length_take] at this; omega
        have hcat : mk l ++ mk [s[k]] = mk (l ++ [s[k]]) := ByteArray.mk_append_mk l [s[k]]
        have hz1 : ((mk l).size : Int) ≤ 400 := by rw [size_mk]; omega
        have hz2' : ((mk [s[k]]).size : Int) = 1 := by rw [size_mk]; rfl
        have hwr : IntKind.i64.wrap (a.length : Int) = (a.length : Int) := by rw [IntKind.wrap_i64]; omega
        have HO : Hid (wr.ownsRow w.heap.size 9 1 (.slice (some ⟨g, 0, none⟩) nn cp) nn (sCells pc)) := hown
        subst hal
        clear hget hc HT h1 h2 hown
        go_wp2_with fail
        go_region
        go_wp2_with fail
        go_roundw
        case rel =>
          have hst := HO.out.stored a.length (.string (mk (l ++ [s[k]])))
          refine ⟨k + 1, a ++ [l ++ [s[k]]], g, a.length + 1, cp, by omega, by go_num, rfl, HN.out.symm, ?_, ?_, ?_⟩
          · show _ = _; simp
          · have e : sCells (a ++ [l ++ [s[k]]]) = (sCells pc).set a.length (.string (mk (l ++ [s[k]]))) := by
              rw [HPa.out]; simp [sCells]
            rw [e]; exact hst.1
          · exact (HBW.out.setCell (by exact HGB.out.1) _).drew
        case measure => simp [intOf]; omega
    · have HF : Hid (cutL by_ s = pc) := by
        show _ = _
        rw [HPc.out, List.take_of_length_le (by rw [← HSz.out]; omega)]
      have HO : Hid (wr.ownsRow w.heap.size 9 1 (.slice (some ⟨g, 0, none⟩) nn cp) nn (sCells pc)) := hown
      clear hown
      go_wp2
      go_ret
      refine ⟨_, rfl, ?_, HBW.out⟩
      rw [HF.out, ← HNn.out]; exact HO.out


theorem ret_bool {a b : Bool} (h : a = b) : Ending.returned (.bool a) = .returned (.bool b) := by rw [h]

set_option maxHeartbeats 800000 in
theorem letters_any (s : List UInt8) (w : World) (hs : s.length ≤ 1000) : Calls Tryz.prog 84 #[.string (mk s)] w fun e w' => e = .returned (.bool (nameL s)) ∧ w = w' := by
  have HSz : Hid ((mk s).size = s.length) := size_mk s
  have hsz : (mk s).size ≤ 1000 := by rw [HSz.out]; exact hs
  go_enter Tryz.func84, Tryz.ntmps84
  go_wp2
  go_loop [3] (fun t => ∃ k : Nat, k ≤ (mk s).size ∧ t = .int .i64 k ∧ Hid ((s.take k).all (fun c => decide (97 ≤ c.toNat) && decide (c.toNat ≤ 122)) = true)) (fun t => (mk s).size - (intOf t).toNat)
  case atStart => exact ⟨0, by omega, rfl, by show _ = _; simp⟩
  case round =>
    obtain ⟨k, hk, rfl, HA⟩ := hrel
    by_cases hlt : k < (mk s).size
    · have hks : k < s.length := by rw [← HSz.out]; exact hlt
      have hget : (mk s)[k] = s[k] := by simp [mk, ByteArray.getElem_eq_getElem_data]
      by_cases hc : 97 ≤ s[k].toNat ∧ s[k].toNat ≤ 122
      · have h1 : ¬ ((mk s)[k].toNat : Int) < 97 := by rw [hget]; omega
        have h2 : ¬ (122 : Int) < ((mk s)[k].toNat : Int) := by rw [hget]; omega
        have HA2 : Hid ((s.take (k + 1)).all (fun c => decide (97 ≤ c.toNat) && decide (c.toNat ≤ 122)) = true) := by
          show _ = _
          rw [List.take_succ_eq_append_getElem hks, List.all_append, HA.out]
          simp [hc.1, hc.2]
        clear hget hc HA
        go_wp2_with fail
        go_round
        case rel => exact ⟨k + 1, by omega, by go_num, HA2⟩
        case measure => simp [intOf]; omega
      · have HNo : Hid (nameL s = false) := by
          show _ = _
          unfold nameL
          have : s.all (fun c => decide (97 ≤ c.toNat) && decide (c.toNat ≤ 122)) = false := by
            rw [List.all_eq_false]
            refine ⟨s[k], List.getElem_mem hks, ?_⟩
            simp only [Bool.and_eq_true, decide_eq_true_eq]; exact hc
          rw [this]; simp
        by_cases h1 : 97 ≤ s[k].toNat
        · have h1' : ¬ ((mk s)[k].toNat : Int) < 97 := by rw [hget]; omega
          have h2 : (122 : Int) < ((mk s)[k].toNat : Int) := by rw [hget]; omega
          clear hget hc HA h1
          go_wp2_with fail
          go_ret
          exact ⟨ret_bool (a := false) HNo.out.symm, rfl⟩
        · have h1' : ((mk s)[k].toNat : Int) < 97 := by rw [hget]; omega
          clear hget hc HA h1
          go_wp2_with fail
          go_ret
          exact ⟨ret_bool (a := false) HNo.out.symm, rfl⟩
    · have HNy : Hid (nameL s = (decide (0 < s.length) && decide (s.length ≤ 8))) := by
        show _ = _
        have := HA.out
        rw [List.take_of_length_le (by rw [← HSz.out]; omega)] at this
        unfold nameL
        rw [this, Bool.and_true]; rfl
      clear HA
      by_cases h1 : 0 < (mk s).size
      · have h1' : (0 : Int) < ((mk s).size : Int) := by omega
        go_wp2_with fail
        go_ret
        have hfin : decide (((mk s).size : Int) ≤ 8) = nameL s := by
          rw [HNy.out, ← HSz.out]
          have : decide (0 < (mk s).size) = true := by simpa using h1
          rw [this, Bool.true_and, decide_eq_decide]
          omega
        exact ⟨ret_bool hfin, rfl⟩
      · have h1' : ¬ (0 : Int) < ((mk s).size : Int) := by omega
        go_wp2_with fail
        go_ret
        have hfin : false = nameL s := by
          rw [HNy.out, ← HSz.out]
          have : decide (0 < (mk s).size) = false := by simpa using h1
          rw [this, Bool.false_and]
        exact ⟨ret_bool hfin, rfl⟩

end Go.Proofs.YthkbeaffkcfgiaaGreatDoor
