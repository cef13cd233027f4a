import Derived.Test.YthkbeaffkcfgiabGreatDoorV04
set_option linter.unusedSimpArgs false
set_option linter.unusedVariables false
namespace Go.Proofs.YthkbeaffkcfgiabGreatDoor
open Go.RowKit

set_option maxHeartbeats 400000 in
theorem same115_no (a nm : ByteArray) (k : Int) (B : Nat) (w : World) (hB : B < w.heap.size) (hc : w.cell? ⟨B, 0, none⟩ = some (.string nm)) (hne : (a.toList == nm.toList) = false) :
    Calls Tryz.prog 198 #[.agg #[.string a, .int .i64 k], .pointer (some ⟨B, 0, none⟩)] w fun e w' => e = .returned (.bool false) ∧ Below w.heap.size w w' := by
  have hn : B ≠ w.heap.size := by omega
  go_enter Tryz.func198, Tryz.ntmps198
  go_wp2
  go_ret
  exact ⟨by simp_all, (Below.refl _ _).alloc (Nat.le_refl _) _⟩

set_option maxHeartbeats 400000 in
theorem same106_no (a nm : ByteArray) (sa : Option Addr) (n c : Nat) (B : Nat) (w : World) (hB : B < w.heap.size) (hc : w.cell? ⟨B, 0, none⟩ = some (.string nm)) (hne : (a.toList == nm.toList) = false) :
    Calls Tryz.prog 153 #[.agg #[.string a, .slice sa n c], .pointer (some ⟨B, 0, none⟩)] w fun e w' => e = .returned (.bool false) ∧ Below w.heap.size w w' := by
  have hn : B ≠ w.heap.size := by omega
  go_enter Tryz.func153, Tryz.ntmps153
  go_wp2
  go_ret
  exact ⟨by simp_all, (Below.refl _ _).alloc (Nat.le_refl _) _⟩

set_option maxHeartbeats 800000 in
theorem index35_none (b n c : Nat) (zs : List (ByteArray × Int)) (nm : ByteArray) (B : Nat) (w : World) (hn : n = zs.length) (hn2 : n ≤ 10) (hb : b < w.heap.size) (hB : B < w.heap.size) (hc : w.cell? ⟨B, 0, none⟩ = some (.string nm))
    (hz : ∀ j (h : j < zs.length), w.cell? ⟨b, j * 2, none⟩ = some (.string zs[j].1) ∧ w.cell? ⟨b, j * 2 + 1, none⟩ = some (.int .i64 zs[j].2)) (hne : ∀ j (h : j < zs.length), (zs[j].1.toList == nm.toList) = false) :
    Calls Tryz.prog 197 #[.slice (some ⟨b, 0, none⟩) n c, .func (.func 198) #[] #[.pointer (some ⟨B, 0, none⟩)]] w fun e w' => e = .returned (.int .i64 (-1)) ∧ Below w.heap.size w w' := by
  have HZ : Hid _ := hz
  have HN : Hid _ := hne
  have HC : Hid _ := hc
  have HL : Hid _ := hn
  clear hz hne hc hn
  go_enter Tryz.func197, Tryz.ntmps197
  go_wp2
  go_loopw [8] (fun t wr => ∃ k : Nat, k ≤ n ∧ t = .int .i64 k ∧ Below w.heap.size w wr) (fun t _ => n - (intOf t).toNat)
  case atStart => exact ⟨0, by omega, rfl, Below.refl _ _⟩
  case round =>
    obtain ⟨k, hk, rfl, hw⟩ := hrel
    have HW : Hid _ := hw
    clear hw
    by_cases hlt : k < n
    · have hkz : k < zs.length := by rw [← HL.out]; exact hlt
      have c0 : wr.cell? ⟨b, k * 2, none⟩ = some (.string zs[k].1) := (HW.out.cell (p := ⟨b, _, none⟩) hb).trans (HZ.out k hkz).1
      have c1 : wr.cell? ⟨b, k * 2 + 1, none⟩ = some (.int .i64 zs[k].2) := (HW.out.cell (p := ⟨b, _, none⟩) hb).trans (HZ.out k hkz).2
      have hcl := same115_no zs[k].1 nm zs[k].2 B wr (Nat.lt_of_lt_of_le hB HW.out.size) ((HW.out.cell (p := ⟨B, _, none⟩) hB).trans HC.out) (HN.out k hkz)
      have HCL : Hid _ := hcl
      clear hcl
      generalize zs[k] = z at c0 c1 HCL
      go_wp2_with fail
      refine Calls.mono HCL.out ?_
      rintro e w1 ⟨rfl, hb1⟩
      have HB1 : Hid (Below w.heap.size w w1) := HW.out.trans (hb1.mono HW.out.size)
      clear hb1 c0 c1
      go_wp2
      go_roundw
      case rel => exact ⟨k + 1, by omega, by go_num, HB1.out⟩
      case measure => simp [intOf]; omega
    · go_wp2
      go_ret
      exact ⟨rfl, HW.out⟩

set_option maxHeartbeats 800000 in
theorem index26_none (b n c : Nat) (zs : List (ByteArray × (Option Addr × Nat × Nat))) (nm : ByteArray) (B : Nat) (w : World) (hn : n = zs.length) (hn2 : n ≤ 10) (hb : b < w.heap.size) (hB : B < w.heap.size) (hc : w.cell? ⟨B, 0, none⟩ = some (.string nm))
    (hz : ∀ j (h : j < zs.length), w.cell? ⟨b, j * 2, none⟩ = some (.string zs[j].1) ∧ w.cell? ⟨b, j * 2 + 1, none⟩ = some (.slice zs[j].2.1 zs[j].2.2.1 zs[j].2.2.2)) (hne : ∀ j (h : j < zs.length), (zs[j].1.toList == nm.toList) = false) :
    Calls Tryz.prog 152 #[.slice (some ⟨b, 0, none⟩) n c, .func (.func 153) #[] #[.pointer (some ⟨B, 0, none⟩)]] w fun e w' => e = .returned (.int .i64 (-1)) ∧ Below w.heap.size w w' := by
  have HZ : Hid _ := hz
  have HN : Hid _ := hne
  have HC : Hid _ := hc
  have HL : Hid _ := hn
  clear hz hne hc hn
  go_enter Tryz.func152, Tryz.ntmps152
  go_wp2
  go_loopw [8] (fun t wr => ∃ k : Nat, k ≤ n ∧ t = .int .i64 k ∧ Below w.heap.size w wr) (fun t _ => n - (intOf t).toNat)
  case atStart => exact ⟨0, by omega, rfl, Below.refl _ _⟩
  case round =>
    obtain ⟨k, hk, rfl, hw⟩ := hrel
    have HW : Hid _ := hw
    clear hw
    by_cases hlt : k < n
    · have hkz : k < zs.length := by rw [← HL.out]; exact hlt
      have c0 : wr.cell? ⟨b, k * 2, none⟩ = some (.string zs[k].1) := (HW.out.cell (p := ⟨b, _, none⟩) hb).trans (HZ.out k hkz).1
      have c1 : wr.cell? ⟨b, k * 2 + 1, none⟩ = some (.slice zs[k].2.1 zs[k].2.2.1 zs[k].2.2.2) := (HW.out.cell (p := ⟨b, _, none⟩) hb).trans (HZ.out k hkz).2
      have hcl := same106_no zs[k].1 nm zs[k].2.1 zs[k].2.2.1 zs[k].2.2.2 B wr (Nat.lt_of_lt_of_le hB HW.out.size) ((HW.out.cell (p := ⟨B, _, none⟩) hB).trans HC.out) (HN.out k hkz)
      have HCL : Hid _ := hcl
      clear hcl
      generalize zs[k] = z at c0 c1 HCL
      go_wp2_with fail
      refine Calls.mono HCL.out ?_
      rintro e w1 ⟨rfl, hb1⟩
      have HB1 : Hid (Below w.heap.size w w1) := HW.out.trans (hb1.mono HW.out.size)
      clear hb1 c0 c1
      go_wp2
      go_roundw
      case rel => exact ⟨k + 1, by omega, by go_num, HB1.out⟩
      case measure => simp [intOf]; omega
    · go_wp2
      go_ret
      exact ⟨rfl, HW.out⟩

set_option maxHeartbeats 400000 in
theorem index35_nil (nm : Value) (w : World) : Calls Tryz.prog 197 #[.slice none 0 0, .func (.func 198) #[] #[nm]] w fun e w' => e = .returned (.int .i64 (-1)) ∧ Below w.heap.size w w' := by
  go_enter Tryz.func197, Tryz.ntmps197
  go_wp2
  refine wp_loop_rounds 1 ?_
  rw [rounds_succ]
  go_wp2
  go_ret
  exact ⟨rfl, Below.refl _ _⟩

set_option maxHeartbeats 400000 in
theorem index26_empty (a : Option Addr) (c : Nat) (nm : Value) (w : World) : Calls Tryz.prog 152 #[.slice a 0 c, .func (.func 153) #[] #[nm]] w fun e w' => e = .returned (.int .i64 (-1)) ∧ Below w.heap.size w w' := by
  go_enter Tryz.func152, Tryz.ntmps152
  go_wp2
  refine wp_loop_rounds 1 ?_
  rw [rounds_succ]
  go_wp2
  go_ret
  exact ⟨rfl, Below.refl _ _⟩

/-- Fields, in their cells. -/
def fieldCells (zs : List (ByteArray × Int)) : List Value := zs.flatMap fun z => [.string z.1, .int .i64 z.2]
/-- Components, in their cells. -/
def compCells (zs : List (ByteArray × (Option Addr × Nat × Nat))) : List Value := zs.flatMap fun z => [.string z.1, .slice z.2.1 z.2.2.1 z.2.2.2]

theorem flat2_get {α : Type} (f g : α → Value) : ∀ (zs : List α) (j : Nat) (h : j < zs.length), (zs.flatMap fun z => [f z, g z])[j * 2]? = some (f zs[j]) ∧ (zs.flatMap fun z => [f z, g z])[j * 2 + 1]? = some (g zs[j])
  | z :: zs, 0, _ => by simp
  | z :: zs, j + 1, h => by
    have := flat2_get f g zs j (by simpa using h)
    rw [show (j + 1) * 2 = j * 2 + 2 from by omega]
    simpa using this
  | [], _, h => by simp at h

theorem flat2_length {α : Type} (f g : α → Value) (zs : List α) : (zs.flatMap fun z => [f z, g z]).length = zs.length * 2 := by
  induction zs with
  | nil => rfl
  | cons z zs ih => simp [ih]; omega

theorem below_two (w : World) (o1 o2 : Obj) : Below w.heap.size w ((w.alloc o1).alloc o2) := ((Below.refl _ _).alloc (Nat.le_refl _) _).alloc (by simp) _

theorem own_cells {w : World} {base g n cap : Nat} {e : TypeId} {xs : List Value} (hown : w.ownsRow base e 2 (.slice (some ⟨g, 0, none⟩) n cap) n xs) (j : Nat) (v : Value) (h : xs[j]? = some v) : w.cell? ⟨g, j, none⟩ = some v := by
  have := hown.cells (g := g) rfl j v h
  have e : (⟨g, 0, none⟩ : Addr).add j = ⟨g, j, none⟩ := by unfold Addr.add; split <;> simp_all
  rw [e] at this
  exact this

set_option maxHeartbeats 800000 in
theorem find104_none (cn nm : ByteArray) (v : Value) (base : Nat) (zs : List (ByteArray × Int)) (w : World) (hl : zs.length ≤ 10) (hown : w.ownsRow base 135 2 v zs.length (fieldCells zs)) (hne : ∀ j (h : j < zs.length), (zs[j].1.toList == nm.toList) = false) :
    Calls Tryz.prog 129 #[.agg #[.string cn, v], .string nm] w fun e w' => e = .returned (.int .i64 (-1)) ∧ Below w.heap.size w w' := by
  rcases hown.2 with ⟨rfl, hz⟩ | ⟨g, cap, cur, rfl, hg, hh, hcap, hmax, hsz, htake⟩
  · clear hne hown
    go_enter Tryz.func129, Tryz.ntmps129
    go_wp2_with fail
    refine (index35_nil _ _).mono ?_
    rintro e w1 ⟨rfl, hb⟩
    go_wp2
    go_ret
    exact ⟨rfl, (below_two _ _ _).trans (hb.mono (by simp; omega))⟩
  · have hgl : g < w.heap.size := (Array.getElem?_eq_some_iff.1 hh).1
    have key := index35_none g zs.length cap zs nm (w.heap.size + 1) ((w.alloc (.cells #[.string cn, .slice (some ⟨g, 0, none⟩) zs.length cap] 138)).alloc (.cells #[.string nm] 9)) rfl hl (by simp; omega) (by simp) (by
        simp)
      (fun j h => by
        have hB := below_two w (.cells #[.string cn, .slice (some ⟨g, 0, none⟩) zs.length cap] 138) (.cells #[.string nm] 9)
        have hf := flat2_get (fun z : ByteArray × Int => Value.string z.1) (fun z => Value.int .i64 z.2) zs j h
        exact ⟨(hB.cell (p := ⟨g, _, none⟩) hgl).trans (own_cells hown _ _ hf.1), (hB.cell (p := ⟨g, _, none⟩) hgl).trans (own_cells hown _ _ hf.2)⟩) hne
    have HK : Hid _ := key
    clear key hne hown hh htake hsz
    go_enter Tryz.func129, Tryz.ntmps129
    go_wp2_with fail
    refine Calls.mono HK.out ?_
    rintro e w1 ⟨rfl, hb⟩
    go_wp2
    go_ret
    exact ⟨rfl, (below_two _ _ _).trans (hb.mono (by simp; omega))⟩

set_option maxHeartbeats 800000 in
theorem find99_none (nm : ByteArray) (v : Value) (base : Nat) (zs : List (ByteArray × (Option Addr × Nat × Nat))) (w : World) (hl : zs.length ≤ 10) (hown : w.ownsRow base 138 2 v zs.length (compCells zs)) (hne : ∀ j (h : j < zs.length), (zs[j].1.toList == nm.toList) = false) :
    Calls Tryz.prog 102 #[v, .string nm] w fun e w' => e = .returned (.int .i64 (-1)) ∧ Below w.heap.size w w' := by
  rcases hown.2 with ⟨rfl, hz⟩ | ⟨g, cap, cur, rfl, hg, hh, hcap, hmax, hsz, htake⟩
  · clear hne hown
    go_enter Tryz.func102, Tryz.ntmps102
    go_wp2_with fail
    refine (index26_empty none 0 _ _).mono ?_
    rintro e w1 ⟨rfl, hb⟩
    go_wp2
    go_ret
    exact ⟨rfl, ((Below.refl _ _).alloc (Nat.le_refl _) _).trans (hb.mono (by simp))⟩
  · have hgl : g < w.heap.size := (Array.getElem?_eq_some_iff.1 hh).1
    have key := index26_none g zs.length cap zs nm w.heap.size (w.alloc (.cells #[.string nm] 9)) rfl hl (by simp; omega) (by simp) (by simp)
      (fun j h => by
        have hB : Below w.heap.size w (w.alloc (.cells #[.string nm] 9)) := (Below.refl _ _).alloc (Nat.le_refl _) _
        have hf := flat2_get (fun z : ByteArray × (Option Addr × Nat × Nat) => Value.string z.1) (fun z => Value.slice z.2.1 z.2.2.1 z.2.2.2) zs j h
        exact ⟨(hB.cell (p := ⟨g, _, none⟩) hgl).trans (own_cells hown _ _ hf.1), (hB.cell (p := ⟨g, _, none⟩) hgl).trans (own_cells hown _ _ hf.2)⟩) hne
    have HK : Hid _ := key
    clear key hne hown hh htake hsz
    go_enter Tryz.func102, Tryz.ntmps102
    go_wp2_with fail
    refine Calls.mono HK.out ?_
    rintro e w1 ⟨rfl, hb⟩
    go_wp2
    go_ret
    exact ⟨rfl, ((Below.refl _ _).alloc (Nat.le_refl _) _).trans (hb.mono (by simp))⟩

end Go.Proofs.YthkbeaffkcfgiabGreatDoor
