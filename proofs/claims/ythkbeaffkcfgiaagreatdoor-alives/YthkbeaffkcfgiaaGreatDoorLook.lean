import Derived.Test.YthkbeaffkcfgiaaGreatDoorCut
namespace Go.Proofs.YthkbeaffkcfgiaaGreatDoor
open Go.RowKit

set_option maxHeartbeats 1600000 in
theorem look71_any (nm : ByteArray) (v : Value) (base : Nat) (zs : List (ByteArray × (Option Addr × Nat × Nat))) (w : World) (hl : zs.length ≤ 10) (hown : w.ownsRow base 107 2 v zs.length (compCells zs)) :
    Calls Tryz.prog 85 #[v, .string nm] w fun e w' => (∃ r : Int, e = .returned (.int .i64 r) ∧ (0 ≤ r ↔ nm ∈ zs.map Prod.fst)) ∧ Below w.heap.size w w' := by
  have HO : Hid (w.ownsRow base 107 2 v zs.length (compCells zs)) := hown
  obtain ⟨n, hn⟩ : ∃ n, n = zs.length := ⟨_, rfl⟩
  have HL : Hid (n = zs.length) := hn
  rw [← hn] at hl
  obtain ⟨a, cp, hv⟩ : ∃ a cp, v = .slice a n cp := by rw [hn]; exact own_form hown
  subst hv
  clear hown hn
  go_enter Tryz.func85, Tryz.ntmps85
  go_wp2
  go_loopw [9] (fun t wr => ∃ k : Nat, k ≤ n ∧ t = .int .i64 k ∧ Below w.heap.size w wr ∧ Hid (∀ j (h : j < zs.length), j < k → zs[j].1 ≠ nm)) (fun t _ => n - (intOf t).toNat)
  case atStart => exact ⟨0, by omega, rfl, Below.refl _ _, fun j _ h => by omega⟩
  case round =>
    obtain ⟨k, hk, rfl, hw, HA⟩ := hrel
    have HW : Hid (Below w.heap.size w wr) := hw
    clear hw
    by_cases hlt : k < n
    · have hkz : k < zs.length := by rw [← HL.out]; exact hlt
      obtain ⟨g, rfl⟩ : ∃ g, a = some ⟨g, 0, none⟩ := by
        rcases HO.out.2 with ⟨h, h2⟩ | ⟨g, cap, cur, h, _⟩
        · omega
        · simp at h; exact ⟨g, h.1⟩
      have hgl : g < w.heap.size := (HO.out.lt g rfl).2
      have hg2 : g < wr.heap.size := Nat.lt_of_lt_of_le hgl HW.out.size
      have hO2 := HO.out
      rw [← HL.out] at hO2
      have hf := flat2_get (fun z : ByteArray × (Option Addr × Nat × Nat) => Value.string z.1) (fun z => Value.slice z.2.1 z.2.2.1 z.2.2.2) zs k hkz
      have c0 : wr.cell? ⟨g, k * 2, none⟩ = some (.string zs[k].1) := (HW.out.cell (p := ⟨g, _, none⟩) hgl).trans (own_cells hO2 _ _ hf.1)
      have c1 : wr.cell? ⟨g, k * 2 + 1, none⟩ = some (.slice zs[k].2.1 zs[k].2.2.1 zs[k].2.2.2) := (HW.out.cell (p := ⟨g, _, none⟩) hgl).trans (own_cells hO2 _ _ hf.2)
      clear hf hO2
      by_cases hq : zs[k].1 = nm
      · have HMem : Hid (nm ∈ zs.map Prod.fst) := hq ▸ List.mem_map_of_mem (List.getElem_mem hkz)
        rw [hq] at c0
        have hqb : (nm.toList == nm.toList) = true := by simp
        clear hq HA
        generalize zs[k].2.1 = z2 at c1; generalize zs[k].2.2.1 = z3 at c1; generalize zs[k].2.2.2 = z4 at c1
        go_wp2_with fail
        go_ret
        exact ⟨⟨k, rfl, ⟨fun _ => HMem.out, fun _ => by omega⟩⟩, HW.out.alloc HW.out.size _⟩
      · have HA2 : Hid (∀ j (h : j < zs.length), j < k + 1 → zs[j].1 ≠ nm) := fun j h hj => by
          by_cases e : j = k
          · subst e; exact hq
          · exact HA.out j h (by omega)
        have hqb : (zs[k].1.toList == nm.toList) = false := bytes_ne hq
        clear hq HA
        generalize zs[k].1 = z1 at c0 hqb
        generalize zs[k].2.1 = z2 at c1; generalize zs[k].2.2.1 = z3 at c1; generalize zs[k].2.2.2 = z4 at c1
        go_wp2_with fail
        go_roundw
        case rel => exact ⟨k + 1, by omega, by go_num, HW.out.alloc HW.out.size _, HA2⟩
        case measure => simp [intOf]; omega
    · have HNo : Hid (nm ∉ zs.map Prod.fst) := fun h => by
        obtain ⟨z, hz, e⟩ := List.mem_map.1 h
        obtain ⟨j, hj, rfl⟩ := List.getElem_of_mem hz
        exact HA.out j hj (by rw [← HL.out] at hj; omega) e
      clear HA
      go_wp2_with fail
      go_ret
      exact ⟨⟨-1, rfl, ⟨fun h => by omega, fun h => absurd h HNo.out⟩⟩, HW.out⟩

set_option maxHeartbeats 1600000 in
theorem look49_any (cn nm : ByteArray) (v : Value) (base : Nat) (zs : List (ByteArray × Int)) (w : World) (hl : zs.length ≤ 10) (hown : w.ownsRow base 109 2 v zs.length (fieldCells zs)) :
    Calls Tryz.prog 62 #[.agg #[.string cn, v], .string nm] w fun e w' => (∃ r : Int, e = .returned (.int .i64 r) ∧ (0 ≤ r ↔ nm ∈ zs.map Prod.fst)) ∧ Below w.heap.size w w' := by
  have HO : Hid (w.ownsRow base 109 2 v zs.length (fieldCells zs)) := hown
  obtain ⟨n, hn⟩ : ∃ n, n = zs.length := ⟨_, rfl⟩
  have HL : Hid (n = zs.length) := hn
  rw [← hn] at hl
  obtain ⟨a, cp, hv⟩ : ∃ a cp, v = .slice a n cp := by rw [hn]; exact own_form hown
  subst hv
  clear hown hn
  go_enter Tryz.func62, Tryz.ntmps62
  go_wp2
  go_loopw [10] (fun t wr => ∃ k : Nat, k ≤ n ∧ t = .int .i64 k ∧ Below w.heap.size w wr ∧ Hid (∀ j (h : j < zs.length), j < k → zs[j].1 ≠ nm)) (fun t _ => n - (intOf t).toNat)
  case atStart => exact ⟨0, by omega, rfl, (Below.refl _ _).alloc (Nat.le_refl _) _, fun j _ h => by omega⟩
  case round =>
    obtain ⟨k, hk, rfl, hw, HA⟩ := hrel
    have HW : Hid (Below w.heap.size w wr) := hw
    clear hw
    by_cases hlt : k < n
    · have hkz : k < zs.length := by rw [← HL.out]; exact hlt
      obtain ⟨g, rfl⟩ : ∃ g, a = some ⟨g, 0, none⟩ := by
        rcases HO.out.2 with ⟨h, h2⟩ | ⟨g, cap, cur, h, _⟩
        · omega
        · simp at h; exact ⟨g, h.1⟩
      have hgl : g < w.heap.size := (HO.out.lt g rfl).2
      have hg2 : g < wr.heap.size := Nat.lt_of_lt_of_le hgl HW.out.size
      have hO2 := HO.out
      rw [← HL.out] at hO2
      have hf := flat2_get (fun z : ByteArray × Int => Value.string z.1) (fun z => Value.int .i64 z.2) zs k hkz
      have c0 : wr.cell? ⟨g, k * 2, none⟩ = some (.string zs[k].1) := (HW.out.cell (p := ⟨g, _, none⟩) hgl).trans (own_cells hO2 _ _ hf.1)
      have c1 : wr.cell? ⟨g, k * 2 + 1, none⟩ = some (.int .i64 zs[k].2) := (HW.out.cell (p := ⟨g, _, none⟩) hgl).trans (own_cells hO2 _ _ hf.2)
      clear hf hO2
      by_cases hq : zs[k].1 = nm
      · have HMem : Hid (nm ∈ zs.map Prod.fst) := hq ▸ List.mem_map_of_mem (List.getElem_mem hkz)
        rw [hq] at c0
        have hqb : (nm.toList == nm.toList) = true := by simp
        clear hq HA
        generalize zs[k].2 = z2 at c1
        go_wp2_with fail
        go_ret
        exact ⟨⟨k, rfl, ⟨fun _ => HMem.out, fun _ => by omega⟩⟩, HW.out.alloc HW.out.size _⟩
      · have HA2 : Hid (∀ j (h : j < zs.length), j < k + 1 → zs[j].1 ≠ nm) := fun j h hj => by
          by_cases e : j = k
          · subst e; exact hq
          · exact HA.out j h (by omega)
        have hqb : (zs[k].1.toList == nm.toList) = false := bytes_ne hq
        clear hq HA
        generalize zs[k].1 = z1 at c0 hqb
        generalize zs[k].2 = z2 at c1
        go_wp2_with fail
        go_roundw
        case rel => exact ⟨k + 1, by omega, by go_num, HW.out.alloc HW.out.size _, HA2⟩
        case measure => simp [intOf]; omega
    · have HNo : Hid (nm ∉ zs.map Prod.fst) := fun h => by
        obtain ⟨z, hz, e⟩ := List.mem_map.1 h
        obtain ⟨j, hj, rfl⟩ := List.getElem_of_mem hz
        exact HA.out j hj (by rw [← HL.out] at hj; omega) e
      clear HA
      go_wp2_with fail
      go_ret
      exact ⟨⟨-1, rfl, ⟨fun h => by omega, fun h => absurd h HNo.out⟩⟩, HW.out⟩

end Go.Proofs.YthkbeaffkcfgiaaGreatDoor
