import Derived.Test.YthkbeaffkcfgiabGreatDoorV06
set_option linter.unusedSimpArgs false
set_option linter.unusedVariables false
namespace Go.Proofs.YthkbeaffkcfgiabGreatDoor
open Go.RowKit

set_option maxHeartbeats 400000 in
theorem same115_yes (a nm : ByteArray) (k : Int) (B : Nat) (w : World) (hB : B < w.heap.size) (hc : w.cell? ⟨B, 0, none⟩ = some (.string nm)) (hne : (a.toList == nm.toList) = true) :
    Calls Tryz.prog 198 #[.agg #[.string a, .int .i64 k], .pointer (some ⟨B, 0, none⟩)] w fun e w' => e = .returned (.bool true) ∧ Below w.heap.size w w' := by
  have hn : B ≠ w.heap.size := by omega
  go_enter Tryz.func198, Tryz.ntmps198
  go_wp2
  go_ret
  exact ⟨by simp_all, (Below.refl _ _).alloc (Nat.le_refl _) _⟩

set_option maxHeartbeats 800000 in
theorem index114_some (b n c : Nat) (zs : List (ByteArray × Int)) (nm : ByteArray) (B : Nat) (w : World) (hn : n = zs.length) (hn2 : n ≤ 10) (hb : b < w.heap.size) (hB : B < w.heap.size) (hc : w.cell? ⟨B, 0, none⟩ = some (.string nm))
    (hz : ∀ j (h : j < zs.length), w.cell? ⟨b, j * 2, none⟩ = some (.string zs[j].1) ∧ w.cell? ⟨b, j * 2 + 1, none⟩ = some (.int .i64 zs[j].2)) (hex : ∃ j, ∃ h : j < zs.length, (zs[j].1.toList == nm.toList) = true) :
    Calls Tryz.prog 197 #[.slice (some ⟨b, 0, none⟩) n c, .func (.func 198) #[] #[.pointer (some ⟨B, 0, none⟩)]] w fun e w' => (∃ r : Nat, r < 20 ∧ e = .returned (.int .i64 r)) ∧ Below w.heap.size w w' := by
  have HZ : Hid _ := hz
  have HX : Hid (∃ j, ∃ h : j < zs.length, (zs[j].1.toList == nm.toList) = true) := hex
  have HC : Hid (w.cell? ⟨B, 0, none⟩ = some (.string nm)) := hc
  have HL : Hid (n = zs.length) := hn
  clear hz hex hc hn
  go_enter Tryz.func197, Tryz.ntmps197
  go_wp2
  go_loopw [8] (fun t wr => ∃ k : Nat, k ≤ n ∧ t = .int .i64 k ∧ Below w.heap.size w wr ∧ Hid (∀ j (h : j < zs.length), j < k → (zs[j].1.toList == nm.toList) = false)) (fun t _ => n - (intOf t).toNat)
  case atStart => exact ⟨0, by omega, rfl, Below.refl _ _, fun j _ h => by omega⟩
  case round =>
    obtain ⟨k, hk, rfl, hw, HA⟩ := hrel
    have HW : Hid (Below w.heap.size w wr) := hw
    clear hw
    by_cases hlt : k < n
    · have hkz : k < zs.length := by rw [← HL.out]; exact hlt
      have c0 : wr.cell? ⟨b, k * 2, none⟩ = some (.string zs[k].1) := (HW.out.cell (p := ⟨b, _, none⟩) hb).trans (HZ.out k hkz).1
      have c1 : wr.cell? ⟨b, k * 2 + 1, none⟩ = some (.int .i64 zs[k].2) := (HW.out.cell (p := ⟨b, _, none⟩) hb).trans (HZ.out k hkz).2
      cases hq : (zs[k].1.toList == nm.toList) with
      | true =>
        have HCL : Hid _ := same115_yes zs[k].1 nm zs[k].2 B wr (Nat.lt_of_lt_of_le hB HW.out.size) ((HW.out.cell (p := ⟨B, _, none⟩) hB).trans HC.out) hq
        clear hq
        generalize zs[k] = z at c0 c1 HCL
        go_wp2_with fail
        refine Calls.mono HCL.out ?_
        rintro e w1 ⟨rfl, hb1⟩
        have HB1 : Hid (Below w.heap.size w w1) := HW.out.trans (hb1.mono HW.out.size)
        clear hb1 c0 c1
        go_wp2
        go_ret
        exact ⟨⟨k, by omega, rfl⟩, HB1.out⟩
      | false =>
        have HCL : Hid _ := same115_no zs[k].1 nm zs[k].2 B wr (Nat.lt_of_lt_of_le hB HW.out.size) ((HW.out.cell (p := ⟨B, _, none⟩) hB).trans HC.out) hq
        have HQ : Hid ((zs[k].1.toList == nm.toList) = false) := hq
        clear hq
        have HA2 : Hid (∀ j (h : j < zs.length), j < k + 1 → (zs[j].1.toList == nm.toList) = false) := fun j h hj => by
          by_cases e : j = k
          · subst e; exact HQ.out
          · exact HA.out j h (by omega)
        clear HA HQ
        generalize zs[k] = z at c0 c1 HCL
        go_wp2_with fail
        refine Calls.mono HCL.out ?_
        rintro e w1 ⟨rfl, hb1⟩
        have HB1 : Hid (Below w.heap.size w w1) := HW.out.trans (hb1.mono HW.out.size)
        clear hb1 c0 c1
        go_wp2
        go_roundw
        case rel => exact ⟨k + 1, by omega, by go_num, HB1.out, HA2⟩
        case measure => simp [intOf]; omega
    · obtain ⟨j, h, hj⟩ := HX.out
      have := HA.out j h (by rw [← HL.out] at h; omega)
      rw [this] at hj
      cases hj

set_option maxHeartbeats 400000 in
theorem same106_yes (a nm : ByteArray) (sa : Option Addr) (n c : Nat) (B : Nat) (w : World) (hB : B < w.heap.size) (hc : w.cell? ⟨B, 0, none⟩ = some (.string nm)) (hne : (a.toList == nm.toList) = true) :
    Calls Tryz.prog 153 #[.agg #[.string a, .slice sa n c], .pointer (some ⟨B, 0, none⟩)] w fun e w' => e = .returned (.bool true) ∧ Below w.heap.size w w' := by
  have hn : B ≠ w.heap.size := by omega
  go_enter Tryz.func153, Tryz.ntmps153
  go_wp2
  go_ret
  exact ⟨by simp_all, (Below.refl _ _).alloc (Nat.le_refl _) _⟩

set_option maxHeartbeats 800000 in
theorem index105_some (b n c : Nat) (zs : List (ByteArray × (Option Addr × Nat × Nat))) (nm : ByteArray) (B : Nat) (w : World) (hn : n = zs.length) (hn2 : n ≤ 10) (hb : b < w.heap.size) (hB : B < w.heap.size) (hc : w.cell? ⟨B, 0, none⟩ = some (.string nm))
    (hz : ∀ j (h : j < zs.length), w.cell? ⟨b, j * 2, none⟩ = some (.string zs[j].1) ∧ w.cell? ⟨b, j * 2 + 1, none⟩ = some (.slice zs[j].2.1 zs[j].2.2.1 zs[j].2.2.2)) (hex : ∃ j, ∃ h : j < zs.length, (zs[j].1.toList == nm.toList) = true) :
    Calls Tryz.prog 152 #[.slice (some ⟨b, 0, none⟩) n c, .func (.func 153) #[] #[.pointer (some ⟨B, 0, none⟩)]] w fun e w' => (∃ r : Nat, r < 20 ∧ e = .returned (.int .i64 r)) ∧ Below w.heap.size w w' := by
  have HZ : Hid _ := hz
  have HX : Hid (∃ j, ∃ h : j < zs.length, (zs[j].1.toList == nm.toList) = true) := hex
  have HC : Hid (w.cell? ⟨B, 0, none⟩ = some (.string nm)) := hc
  have HL : Hid (n = zs.length) := hn
  clear hz hex hc hn
  go_enter Tryz.func152, Tryz.ntmps152
  go_wp2
  go_loopw [8] (fun t wr => ∃ k : Nat, k ≤ n ∧ t = .int .i64 k ∧ Below w.heap.size w wr ∧ Hid (∀ j (h : j < zs.length), j < k → (zs[j].1.toList == nm.toList) = false)) (fun t _ => n - (intOf t).toNat)
  case atStart => exact ⟨0, by omega, rfl, Below.refl _ _, fun j _ h => by omega⟩
  case round =>
    obtain ⟨k, hk, rfl, hw, HA⟩ := hrel
    have HW : Hid (Below w.heap.size w wr) := hw
    clear hw
    by_cases hlt : k < n
    · have hkz : k < zs.length := by rw [← HL.out]; exact hlt
      have c0 : wr.cell? ⟨b, k * 2, none⟩ = some (.string zs[k].1) := (HW.out.cell (p := ⟨b, _, none⟩) hb).trans (HZ.out k hkz).1
      have c1 : wr.cell? ⟨b, k * 2 + 1, none⟩ = some (.slice zs[k].2.1 zs[k].2.2.1 zs[k].2.2.2) := (HW.out.cell (p := ⟨b, _, none⟩) hb).trans (HZ.out k hkz).2
      cases hq : (zs[k].1.toList == nm.toList) with
      | true =>
        have HCL : Hid _ := same106_yes zs[k].1 nm zs[k].2.1 zs[k].2.2.1 zs[k].2.2.2 B wr (Nat.lt_of_lt_of_le hB HW.out.size) ((HW.out.cell (p := ⟨B, _, none⟩) hB).trans HC.out) hq
        clear hq
        generalize zs[k] = z at c0 c1 HCL
        go_wp2_with fail
        refine Calls.mono HCL.out ?_
        rintro e w1 ⟨rfl, hb1⟩
        have HB1 : Hid (Below w.heap.size w w1) := HW.out.trans (hb1.mono HW.out.size)
        clear hb1 c0 c1
        go_wp2
        go_ret
        exact ⟨⟨k, by omega, rfl⟩, HB1.out⟩
      | false =>
        have HCL : Hid _ := same106_no zs[k].1 nm zs[k].2.1 zs[k].2.2.1 zs[k].2.2.2 B wr (Nat.lt_of_lt_of_le hB HW.out.size) ((HW.out.cell (p := ⟨B, _, none⟩) hB).trans HC.out) hq
        have HQ : Hid ((zs[k].1.toList == nm.toList) = false) := hq
        clear hq
        have HA2 : Hid (∀ j (h : j < zs.length), j < k + 1 → (zs[j].1.toList == nm.toList) = false) := fun j h hj => by
          by_cases e : j = k
          · subst e; exact HQ.out
          · exact HA.out j h (by omega)
        clear HA HQ
        generalize zs[k] = z at c0 c1 HCL
        go_wp2_with fail
        refine Calls.mono HCL.out ?_
        rintro e w1 ⟨rfl, hb1⟩
        have HB1 : Hid (Below w.heap.size w w1) := HW.out.trans (hb1.mono HW.out.size)
        clear hb1 c0 c1
        go_wp2
        go_roundw
        case rel => exact ⟨k + 1, by omega, by go_num, HB1.out, HA2⟩
        case measure => simp [intOf]; omega
    · obtain ⟨j, h, hj⟩ := HX.out
      have := HA.out j h (by rw [← HL.out] at h; omega)
      rw [this] at hj
      cases hj

theorem bytes_ne {a b : ByteArray} (h : a ≠ b) : (a.toList == b.toList) = false := by
  rw [beq_eq_false_iff_ne]
  intro e
  rw [_root_.Go.ByteArray.toList_eq, _root_.Go.ByteArray.toList_eq] at e
  exact h (by cases a; cases b; simp at e; rw [e])
theorem bytes_same (a : ByteArray) : (a.toList == a.toList) = true := by simp

set_option maxHeartbeats 800000 in
theorem find104_any (cn nm : ByteArray) (v : Value) (base : Nat) (zs : List (ByteArray × Int)) (w : World) (hl : zs.length ≤ 10) (hown : w.ownsRow base 135 2 v zs.length (fieldCells zs)) :
    Calls Tryz.prog 129 #[.agg #[.string cn, v], .string nm] w fun e w' => (∃ r : Int, e = .returned (.int .i64 r) ∧ (r < 0 ↔ nm ∉ zs.map Prod.fst)) ∧ Below w.heap.size w w' := by
  by_cases hm : nm ∈ zs.map Prod.fst
  · obtain ⟨z, hz, rfl⟩ := List.mem_map.1 hm
    obtain ⟨j, hj, rfl⟩ := List.getElem_of_mem hz
    rcases hown.2 with ⟨rfl, h0⟩ | ⟨g, cap, cur, rfl, hg, hh, hcap, hmax, hsz, htake⟩
    · omega
    · have hgl : g < w.heap.size := (Array.getElem?_eq_some_iff.1 hh).1
      have key := index114_some g zs.length cap zs zs[j].1 (w.heap.size + 1) ((w.alloc (.cells #[.string cn, .slice (some ⟨g, 0, none⟩) zs.length cap] 138)).alloc (.cells #[.string zs[j].1] 9)) rfl hl (by simp; omega) (by simp) (by simp)
        (fun j h => by
          have hB := below_two w (.cells #[.string cn, .slice (some ⟨g, 0, none⟩) zs.length cap] 138) (.cells #[.string zs[j].1] 9)
          have hf := flat2_get (fun z : ByteArray × Int => Value.string z.1) (fun z => Value.int .i64 z.2) zs j h
          exact ⟨((below_two w _ _).cell (p := ⟨g, _, none⟩) hgl).trans (own_cells hown _ _ hf.1), ((below_two w _ _).cell (p := ⟨g, _, none⟩) hgl).trans (own_cells hown _ _ hf.2)⟩) ⟨j, hj, bytes_same _⟩
      have HK : Hid _ := key
      have HMm : Hid (zs[j].1 ∈ zs.map Prod.fst) := hm
      clear key hown hh htake hsz hm hz
      generalize zs[j].1 = nm at HK HMm
      go_enter Tryz.func129, Tryz.ntmps129
      go_wp2_with fail
      refine Calls.mono HK.out ?_
      rintro e w1 ⟨⟨r, hr, rfl⟩, hb⟩
      go_wp2
      go_ret
      exact ⟨⟨r, rfl, ⟨fun h => by omega, fun h => absurd HMm.out h⟩⟩, (below_two _ _ _).trans (hb.mono (by simp; omega))⟩
  · refine (find104_none cn nm v base zs w hl hown fun j h => bytes_ne fun e => hm (e ▸ List.mem_map_of_mem (List.getElem_mem h))).mono fun e w' ⟨he, hb⟩ => ⟨⟨-1, he, ⟨fun _ => hm, fun _ => by omega⟩⟩, hb⟩

set_option maxHeartbeats 800000 in
theorem find99_any (nm : ByteArray) (v : Value) (base : Nat) (zs : List (ByteArray × (Option Addr × Nat × Nat))) (w : World) (hl : zs.length ≤ 10) (hown : w.ownsRow base 138 2 v zs.length (compCells zs)) :
    Calls Tryz.prog 102 #[v, .string nm] w fun e w' => (∃ r : Int, e = .returned (.int .i64 r) ∧ (r < 0 ↔ nm ∉ zs.map Prod.fst)) ∧ Below w.heap.size w w' := by
  by_cases hm : nm ∈ zs.map Prod.fst
  · obtain ⟨z, hz, rfl⟩ := List.mem_map.1 hm
    obtain ⟨j, hj, rfl⟩ := List.getElem_of_mem hz
    rcases hown.2 with ⟨rfl, h0⟩ | ⟨g, cap, cur, rfl, hg, hh, hcap, hmax, hsz, htake⟩
    · omega
    · have hgl : g < w.heap.size := (Array.getElem?_eq_some_iff.1 hh).1
      have key := index105_some g zs.length cap zs zs[j].1 w.heap.size (w.alloc (.cells #[.string zs[j].1] 9)) rfl hl (by simp; omega) (by simp) (by simp)
        (fun j h => by
          have hf := flat2_get (fun z : ByteArray × (Option Addr × Nat × Nat) => Value.string z.1) (fun z => Value.slice z.2.1 z.2.2.1 z.2.2.2) zs j h
          exact ⟨(((Below.refl _ w).alloc (Nat.le_refl _) _).cell (p := ⟨g, _, none⟩) hgl).trans (own_cells hown _ _ hf.1), (((Below.refl _ w).alloc (Nat.le_refl _) _).cell (p := ⟨g, _, none⟩) hgl).trans (own_cells hown _ _ hf.2)⟩) ⟨j, hj, bytes_same _⟩
      have HK : Hid _ := key
      have HMm : Hid (zs[j].1 ∈ zs.map Prod.fst) := hm
      clear key hown hh htake hsz hm hz
      generalize zs[j].1 = nm at HK HMm
      go_enter Tryz.func102, Tryz.ntmps102
      go_wp2_with fail
      refine Calls.mono HK.out ?_
      rintro e w1 ⟨⟨r, hr, rfl⟩, hb⟩
      go_wp2
      go_ret
      exact ⟨⟨r, rfl, ⟨fun h => by omega, fun h => absurd HMm.out h⟩⟩, ((Below.refl _ _).alloc (Nat.le_refl _) _).trans (hb.mono (by simp))⟩
  · refine (find99_none nm v base zs w hl hown fun j h => bytes_ne fun e => hm (e ▸ List.mem_map_of_mem (List.getElem_mem h))).mono fun e w' ⟨he, hb⟩ => ⟨⟨-1, he, ⟨fun _ => hm, fun _ => by omega⟩⟩, hb⟩

end Go.Proofs.YthkbeaffkcfgiabGreatDoor
