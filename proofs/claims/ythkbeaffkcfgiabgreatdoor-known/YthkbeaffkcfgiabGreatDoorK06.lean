import Derived.Deep.DeepCutAuto
import Derived.Test.YthkbeaffkcfgiabGreatDoorK01
import Derived.Test.YthkbeaffkcfgiabGreatDoorK05
import Derived.Test.YthkbeaffkcfgiabGreatDoorK02
import Derived.Test.YthkbeaffkcfgiabGreatDoorK03
set_option linter.unusedSimpArgs false
set_option linter.unusedVariables false
namespace Go.Proofs.YthkbeaffkcfgiabGreatDoor
open Go.RowKit

set_option maxHeartbeats 400000 in
theorem need_yes (w : World) : Calls Tryz.prog 193 #[.bool true] w fun e w' => e = .returned (.tuple #[]) ∧ w' = w := by
  go_enter Tryz.func193, Tryz.ntmps193
  go_wp2
  go_end0
  exact ⟨rfl, rfl⟩

theorem need_of (x : Bool) (w : World) (hx : x = true) : Calls Tryz.prog 193 #[.bool x] w fun e w' => e = .returned (.tuple #[]) ∧ w = w' := by
  subst hx; exact (need_yes w).mono fun _ _ h => ⟨h.1, h.2.symm⟩

/-- A name: one to eight letters. -/
def NameOk (s : ByteArray) : Prop := 1 ≤ s.size ∧ s.size ≤ 8 ∧ ∀ (i : Nat) (h : i < s.size), 97 ≤ s[i].toNat ∧ s[i].toNat ≤ 122

theorem clone_any (s : ByteArray) (w : World) (hs : s.size ≤ 8) : Calls Tryz.prog 277 #[.string s] w fun e w' => e = .returned (.string s) ∧ Below w.heap.size w w' := by
  go_enter Tryz.func277, Tryz.ntmps277
  go_wp2_with (go_at_call 294; refine (Tryz.stringslite_Clone s _ (by omega)).mono ?_; rintro e w' ⟨rfl, hb⟩)
  go_ret
  exact ⟨rfl, hb⟩

set_option maxHeartbeats 400000 in
theorem readName_ok (s : ByteArray) (w : World) (hn : NameOk s) : Calls Tryz.prog 246 #[.string s] w fun e w' => e = .returned (.string s) ∧ Below w.heap.size w w' := by
  obtain ⟨h1, h2, h3⟩ := hn
  have H3 : Hid (∀ (i : Nat) (h : i < s.size), 97 ≤ s[i].toNat ∧ s[i].toNat ≤ 122) := h3
  clear h3
  go_enter Tryz.func246, Tryz.ntmps246
  go_wp2_with (go_at_call 193; refine (need_of _ _ ?_).mono ?_; (first | rfl | (simp; omega)); rintro e w' ⟨rfl, rfl⟩)
  go_loop [15] (fun t => ∃ k : Nat, k ≤ s.size ∧ t = .int .i64 k) (fun t => s.size - (intOf t).toNat)
  case atStart => exact ⟨0, by omega, rfl⟩
  case round =>
    obtain ⟨k, hk, rfl⟩ := hrel
    by_cases hlt : k < s.size
    · have hc := H3.out k hlt
      have hc1 : (97 : Int) ≤ (s[k].toNat : Int) := by omega
      have hc2 : (s[k].toNat : Int) ≤ 122 := by omega
      clear hc
      go_wp2_with (go_at_call 193; refine (need_of _ _ ?_).mono ?_; (first | rfl | (simp; omega)); rintro e w' ⟨rfl, rfl⟩)
      go_round
      case rel => exact ⟨k + 1, by omega, by go_num⟩
      case measure => simp [intOf]; omega
    · go_wp2_with (go_at_call 277; refine (clone_any s _ (by omega)).mono ?_; rintro e w' ⟨rfl, hb⟩)
      go_ret
      exact ⟨rfl, hb⟩

/-- A kind's word, and its number. -/
def KindOk (s : ByteArray) (k : Int) : Prop :=
  (s = ⟨#[105, 110, 116]⟩ ∧ k = 1) ∨ (s = ⟨#[98, 111, 111, 108]⟩ ∧ k = 2) ∨ (s = ⟨#[116, 101, 120, 116]⟩ ∧ k = 3) ∨ (s = ⟨#[114, 101, 102]⟩ ∧ k = 4) ∨ (s = ⟨#[108, 105, 115, 116]⟩ ∧ k = 5)

set_option maxHeartbeats 800000 in
theorem readKind_ok (s : ByteArray) (k : Int) (w : World) (hk : KindOk s k) : Calls Tryz.prog 279 #[.string s] w fun e w' => e = .returned (.int .i64 k) ∧ w' = w := by
  rcases hk with ⟨rfl, rfl⟩ | ⟨rfl, rfl⟩ | ⟨rfl, rfl⟩ | ⟨rfl, rfl⟩ | ⟨rfl, rfl⟩
  all_goals
    go_enter Tryz.func279, Tryz.ntmps279
    go_wp2
    go_ret
    exact ⟨rfl, rfl⟩

/-- A field's word, its name, its kind. -/
def FieldOk (word nm : ByteArray) (k : Int) : Prop :=
  NameOk nm ∧ word.size < 500 ∧ ∃ kd, KindOk kd k ∧ (Lib.cut word.data.toList [58]).1 = nm.data.toList ∧ (Lib.cut word.data.toList [58]).2.1 = kd.data.toList

set_option maxHeartbeats 800000 in
theorem readField_ok (word nm : ByteArray) (k m : Int) (w : World) (hm : w.cell? ⟨3, 0, none⟩ = some (.int .i64 m)) (hf : FieldOk word nm k) :
    Calls Tryz.prog 247 #[.string word] w fun e w' => e = .returned (.agg #[.string nm, .int .i64 k]) ∧ Below w.heap.size w w' := by
  obtain ⟨hn, hsz, kd, hk, e1, e2⟩ := hf
  have h0 : 3 < w.heap.size := World.block_lt_of_cell? w ⟨3, 0, none⟩ hm
  have hcut : ∀ W : World, W.cell? ⟨3, 0, none⟩ = some (.int .i64 m) → Calls Tryz.prog 278 #[.string word, .string ⟨#[58]⟩] W fun e w' => e = .returned (.tuple #[.string nm, .string kd, .bool (Lib.cut word.data.toList [58]).2.2]) ∧ ∃ n, w' = W.drewN n := by
    intro W hW
    have := Tryz.strings_Cut word ⟨#[58]⟩ m W (by omega) hW
    have e3 : (⟨#[58]⟩ : ByteArray).data.toList = [58] := rfl
    rw [e3, e1, e2] at this
    simpa using this
  generalize (Lib.cut word.data.toList [58]).2.2 = fd at hcut
  have HC : Hid _ := hcut
  clear hcut e1 e2
  have hm' : ∀ o : Obj, (w.alloc o).cell? ⟨3, 0, none⟩ = some (.int .i64 m) := fun o => (World.cell?_alloc_lt w o ⟨3, 0, none⟩ h0).trans hm
  have HM : Hid _ := hm'
  clear hm' hm
  go_enter Tryz.func247, Tryz.ntmps247
  go_wp2_with fail
  refine (HC.out _ (HM.out _)).mono ?_
  rintro e w1 ⟨rfl, n1, rfl⟩
  go_wp2_with fail
  refine (readName_ok nm _ hn).mono ?_
  rintro e w2 ⟨rfl, hb⟩
  go_wp2_with fail
  refine (readKind_ok kd k _ hk).mono ?_
  rintro e w3 ⟨rfl, rfl⟩
  have hc0 : w3.cell? ⟨w.heap.size, 0, none⟩ = some (.string ⟨#[]⟩) := by rw [hb.cell (p := ⟨w.heap.size, 0, none⟩) (by simp)]; simp
  have hc1 : w3.cell? ⟨w.heap.size, 1, none⟩ = some (.int .i64 0) := by rw [hb.cell (p := ⟨w.heap.size, 1, none⟩) (by simp)]; simp
  have hf0 : w3.frozen? ⟨w.heap.size, 0, none⟩ = false := by rw [hb.frozen (p := ⟨w.heap.size, 0, none⟩) (by simp)]; simp
  have hf1 : w3.frozen? ⟨w.heap.size, 1, none⟩ = false := by rw [hb.frozen (p := ⟨w.heap.size, 1, none⟩) (by simp)]; simp
  have HB : Hid (Below w.heap.size w w3) := (below_drewN ((Below.refl _ _).alloc (Nat.le_refl _) _) _).trans (hb.mono (by simp))
  clear hb
  go_wp2
  refine bodyPost_ret (v := .agg #[.string nm, .int .i64 k]) ?_ rfl ⟨rfl, ?_⟩
  · simp [results, Tryz.results247, go_sem, hc0, hc1]
  · exact (HB.out.setCell (by simp) _).setCell (by simp) _

end Go.Proofs.YthkbeaffkcfgiabGreatDoor

namespace Go.Proofs.YthkbeaffkcfgiabGreatDoor
open Go.RowKit

set_option maxHeartbeats 400000 in
theorem same115_no (a nm : ByteArray) (k : Int) (B : Nat) (w : World) (hB : B < w.heap.size) (hc : w.cell? ⟨B, 0, none⟩ = some (.string nm)) (hne : (a.toList == nm.toList) = false) :
    Calls Tryz.prog 198 #[.agg #[.string a, .int .i64 k], .pointer (some ⟨B, 0, none⟩)] w fun e w' => e = .returned (.bool false) ∧ Below w.heap.size w w' := by
  have hn : B ≠ w.heap.size := by omega
  go_enter Tryz.func198, Tryz.ntmps198
  go_wp2
  go_ret
  exact ⟨by simp_all, (Below.refl _ _).alloc (Nat.le_refl _) _⟩

set_option maxHeartbeats 400000 in
theorem same106_no (a nm : ByteArray) (sa : Option Addr) (n c : Nat) (B : Nat) (w : World) (hB : B < w.heap.size) (hc : w.cell? ⟨B, 0, none⟩ = some (.string nm)) (hne : (a.toList == nm.toList) = false) :
    Calls Tryz.prog 153 #[.agg #[.string a, .slice sa n c], .pointer (some ⟨B, 0, none⟩)] w fun e w' => e = .returned (.bool false) ∧ Below w.heap.size w w' := by
  have hn : B ≠ w.heap.size := by omega
  go_enter Tryz.func153, Tryz.ntmps153
  go_wp2
  go_ret
  exact ⟨by simp_all, (Below.refl _ _).alloc (Nat.le_refl _) _⟩

set_option maxHeartbeats 800000 in
theorem index35_none (b n c : Nat) (zs : List (ByteArray × Int)) (nm : ByteArray) (B : Nat) (w : World) (hn : n = zs.length) (hn2 : n ≤ 10) (hb : b < w.heap.size) (hB : B < w.heap.size) (hc : w.cell? ⟨B, 0, none⟩ = some (.string nm))
    (hz : ∀ j (h : j < zs.length), w.cell? ⟨b, j * 2, none⟩ = some (.string zs[j].1) ∧ w.cell? ⟨b, j * 2 + 1, none⟩ = some (.int .i64 zs[j].2)) (hne : ∀ j (h : j < zs.length), (zs[j].1.toList == nm.toList) = false) :
    Calls Tryz.prog 197 #[.slice (some ⟨b, 0, none⟩) n c, .func (.func 198) #[] #[.pointer (some ⟨B, 0, none⟩)]] w fun e w' => e = .returned (.int .i64 (-1)) ∧ Below w.heap.size w w' := by
  have HZ : Hid _ := hz
  have HN : Hid _ := hne
  have HC : Hid _ := hc
  have HL : Hid _ := hn
  clear hz hne hc hn
  go_enter Tryz.func197, Tryz.ntmps197
  go_wp2
  go_loopw [8] (fun t wr => ∃ k : Nat, k ≤ n ∧ t = .int .i64 k ∧ Below w.heap.size w wr) (fun t _ => n - (intOf t).toNat)
  case atStart => exact ⟨0, by omega, rfl, Below.refl _ _⟩
  case round =>
    obtain ⟨k, hk, rfl, hw⟩ := hrel
    have HW : Hid _ := hw
    clear hw
    by_cases hlt : k < n
    · have hkz : k < zs.length := by rw [← HL.out]; exact hlt
      have c0 : wr.cell? ⟨b, k * 2, none⟩ = some (.string zs[k].1) := (HW.out.cell (p := ⟨b, _, none⟩) hb).trans (HZ.out k hkz).1
      have c1 : wr.cell? ⟨b, k * 2 + 1, none⟩ = some (.int .i64 zs[k].2) := (HW.out.cell (p := ⟨b, _, none⟩) hb).trans (HZ.out k hkz).2
      have hcl := same115_no zs[k].1 nm zs[k].2 B wr (Nat.lt_of_lt_of_le hB HW.out.size) ((HW.out.cell (p := ⟨B, _, none⟩) hB).trans HC.out) (HN.out k hkz)
      have HCL : Hid _ := hcl
      clear hcl
      generalize zs[k] = z at c0 c1 HCL
      go_wp2_with fail
      refine Calls.mono HCL.out ?_
      rintro e w1 ⟨rfl, hb1⟩
      have HB1 : Hid (Below w.heap.size w w1) := HW.out.trans (hb1.mono HW.out.size)
      clear hb1 c0 c1
      go_wp2
      go_roundw
      case rel => exact ⟨k + 1, by omega, by go_num, HB1.out⟩
      case measure => simp [intOf]; omega
    · go_wp2
      go_ret
      exact ⟨rfl, HW.out⟩

set_option maxHeartbeats 800000 in
theorem index26_none (b n c : Nat) (zs : List (ByteArray × (Option Addr × Nat × Nat))) (nm : ByteArray) (B : Nat) (w : World) (hn : n = zs.length) (hn2 : n ≤ 10) (hb : b < w.heap.size) (hB : B < w.heap.size) (hc : w.cell? ⟨B, 0, none⟩ = some (.string nm))
    (hz : ∀ j (h : j < zs.length), w.cell? ⟨b, j * 2, none⟩ = some (.string zs[j].1) ∧ w.cell? ⟨b, j * 2 + 1, none⟩ = some (.slice zs[j].2.1 zs[j].2.2.1 zs[j].2.2.2)) (hne : ∀ j (h : j < zs.length), (zs[j].1.toList == nm.toList) = false) :
    Calls Tryz.prog 152 #[.slice (some ⟨b, 0, none⟩) n c, .func (.func 153) #[] #[.pointer (some ⟨B, 0, none⟩)]] w fun e w' => e = .returned (.int .i64 (-1)) ∧ Below w.heap.size w w' := by
  have HZ : Hid _ := hz
  have HN : Hid _ := hne
  have HC : Hid _ := hc
  have HL : Hid _ := hn
  clear hz hne hc hn
  go_enter Tryz.func152, Tryz.ntmps152
  go_wp2
  go_loopw [8] (fun t wr => ∃ k : Nat, k ≤ n ∧ t = .int .i64 k ∧ Below w.heap.size w wr) (fun t _ => n - (intOf t).toNat)
  case atStart => exact ⟨0, by omega, rfl, Below.refl _ _⟩
  case round =>
    obtain ⟨k, hk, rfl, hw⟩ := hrel
    have HW : Hid _ := hw
    clear hw
    by_cases hlt : k < n
    · have hkz : k < zs.length := by rw [← HL.out]; exact hlt
      have c0 : wr.cell? ⟨b, k * 2, none⟩ = some (.string zs[k].1) := (HW.out.cell (p := ⟨b, _, none⟩) hb).trans (HZ.out k hkz).1
      have c1 : wr.cell? ⟨b, k * 2 + 1, none⟩ = some (.slice zs[k].2.1 zs[k].2.2.1 zs[k].2.2.2) := (HW.out.cell (p := ⟨b, _, none⟩) hb).trans (HZ.out k hkz).2
      have hcl := same106_no zs[k].1 nm zs[k].2.1 zs[k].2.2.1 zs[k].2.2.2 B wr (Nat.lt_of_lt_of_le hB HW.out.size) ((HW.out.cell (p := ⟨B, _, none⟩) hB).trans HC.out) (HN.out k hkz)
      have HCL : Hid _ := hcl
      clear hcl
      generalize zs[k] = z at c0 c1 HCL
      go_wp2_with fail
      refine Calls.mono HCL.out ?_
      rintro e w1 ⟨rfl, hb1⟩
      have HB1 : Hid (Below w.heap.size w w1) := HW.out.trans (hb1.mono HW.out.size)
      clear hb1 c0 c1
      go_wp2
      go_roundw
      case rel => exact ⟨k + 1, by omega, by go_num, HB1.out⟩
      case measure => simp [intOf]; omega
    · go_wp2
      go_ret
      exact ⟨rfl, HW.out⟩

set_option maxHeartbeats 400000 in
theorem index35_nil (nm : Value) (w : World) : Calls Tryz.prog 197 #[.slice none 0 0, .func (.func 198) #[] #[nm]] w fun e w' => e = .returned (.int .i64 (-1)) ∧ Below w.heap.size w w' := by
  go_enter Tryz.func197, Tryz.ntmps197
  go_wp2
  refine wp_loop_rounds 1 ?_
  rw [rounds_succ]
  go_wp2
  go_ret
  exact ⟨rfl, Below.refl _ _⟩

set_option maxHeartbeats 400000 in
theorem index26_empty (a : Option Addr) (c : Nat) (nm : Value) (w : World) : Calls Tryz.prog 152 #[.slice a 0 c, .func (.func 153) #[] #[nm]] w fun e w' => e = .returned (.int .i64 (-1)) ∧ Below w.heap.size w w' := by
  go_enter Tryz.func152, Tryz.ntmps152
  go_wp2
  refine wp_loop_rounds 1 ?_
  rw [rounds_succ]
  go_wp2
  go_ret
  exact ⟨rfl, Below.refl _ _⟩

/-- Fields, in their cells. -/
def fieldCells (zs : List (ByteArray × Int)) : List Value := zs.flatMap fun z => [.string z.1, .int .i64 z.2]
/-- Components, in their cells. -/
def compCells (zs : List (ByteArray × (Option Addr × Nat × Nat))) : List Value := zs.flatMap fun z => [.string z.1, .slice z.2.1 z.2.2.1 z.2.2.2]

theorem flat2_get {α : Type} (f g : α → Value) : ∀ (zs : List α) (j : Nat) (h : j < zs.length), (zs.flatMap fun z => [f z, g z])[j * 2]? = some (f zs[j]) ∧ (zs.flatMap fun z => [f z, g z])[j * 2 + 1]? = some (g zs[j])
  | z :: zs, 0, _ => by simp
  | z :: zs, j + 1, h => by
    have := flat2_get f g zs j (by simpa using h)
    rw [show (j + 1) * 2 = j * 2 + 2 from by omega]
    simpa using this
  | [], _, h => by simp at h

theorem below_two (w : World) (o1 o2 : Obj) : Below w.heap.size w ((w.alloc o1).alloc o2) := ((Below.refl _ _).alloc (Nat.le_refl _) _).alloc (by simp) _

theorem own_cells {w : World} {base g n cap : Nat} {e : TypeId} {xs : List Value} (hown : w.ownsRow base e 2 (.slice (some ⟨g, 0, none⟩) n cap) n xs) (j : Nat) (v : Value) (h : xs[j]? = some v) : w.cell? ⟨g, j, none⟩ = some v := by
  have := hown.cells (g := g) rfl j v h
  have e : (⟨g, 0, none⟩ : Addr).add j = ⟨g, j, none⟩ := by unfold Addr.add; split <;> simp_all
  rw [e] at this
  exact this

set_option maxHeartbeats 800000 in
theorem find104_none (cn nm : ByteArray) (v : Value) (base : Nat) (zs : List (ByteArray × Int)) (w : World) (hl : zs.length ≤ 10) (hown : w.ownsRow base 135 2 v zs.length (fieldCells zs)) (hne : ∀ j (h : j < zs.length), (zs[j].1.toList == nm.toList) = false) :
    Calls Tryz.prog 129 #[.agg #[.string cn, v], .string nm] w fun e w' => e = .returned (.int .i64 (-1)) ∧ Below w.heap.size w w' := by
  rcases hown.2 with ⟨rfl, hz⟩ | ⟨g, cap, cur, rfl, hg, hh, hcap, hmax, hsz, htake⟩
  · clear hne hown
    go_enter Tryz.func129, Tryz.ntmps129
    go_wp2_with fail
    refine (index35_nil _ _).mono ?_
    rintro e w1 ⟨rfl, hb⟩
    go_wp2
    go_ret
    exact ⟨rfl, (below_two _ _ _).trans (hb.mono (by simp; omega))⟩
  · have hgl : g < w.heap.size := (Array.getElem?_eq_some_iff.1 hh).1
    have key := index35_none g zs.length cap zs nm (w.heap.size + 1) ((w.alloc (.cells #[.string cn, .slice (some ⟨g, 0, none⟩) zs.length cap] 138)).alloc (.cells #[.string nm] 9)) rfl hl (by simp; omega) (by simp) (by
        simp)
      (fun j h => by
        have hB := below_two w (.cells #[.string cn, .slice (some ⟨g, 0, none⟩) zs.length cap] 138) (.cells #[.string nm] 9)
        have hf := flat2_get (fun z : ByteArray × Int => Value.string z.1) (fun z => Value.int .i64 z.2) zs j h
        exact ⟨(hB.cell (p := ⟨g, _, none⟩) hgl).trans (own_cells hown _ _ hf.1), (hB.cell (p := ⟨g, _, none⟩) hgl).trans (own_cells hown _ _ hf.2)⟩) hne
    have HK : Hid _ := key
    clear key hne hown hh htake hsz
    go_enter Tryz.func129, Tryz.ntmps129
    go_wp2_with fail
    refine Calls.mono HK.out ?_
    rintro e w1 ⟨rfl, hb⟩
    go_wp2
    go_ret
    exact ⟨rfl, (below_two _ _ _).trans (hb.mono (by simp; omega))⟩

set_option maxHeartbeats 800000 in
theorem find99_none (nm : ByteArray) (v : Value) (base : Nat) (zs : List (ByteArray × (Option Addr × Nat × Nat))) (w : World) (hl : zs.length ≤ 10) (hown : w.ownsRow base 138 2 v zs.length (compCells zs)) (hne : ∀ j (h : j < zs.length), (zs[j].1.toList == nm.toList) = false) :
    Calls Tryz.prog 102 #[v, .string nm] w fun e w' => e = .returned (.int .i64 (-1)) ∧ Below w.heap.size w w' := by
  rcases hown.2 with ⟨rfl, hz⟩ | ⟨g, cap, cur, rfl, hg, hh, hcap, hmax, hsz, htake⟩
  · clear hne hown
    go_enter Tryz.func102, Tryz.ntmps102
    go_wp2_with fail
    refine (index26_empty none 0 _ _).mono ?_
    rintro e w1 ⟨rfl, hb⟩
    go_wp2
    go_ret
    exact ⟨rfl, ((Below.refl _ _).alloc (Nat.le_refl _) _).trans (hb.mono (by simp))⟩
  · have hgl : g < w.heap.size := (Array.getElem?_eq_some_iff.1 hh).1
    have key := index26_none g zs.length cap zs nm w.heap.size (w.alloc (.cells #[.string nm] 9)) rfl hl (by simp; omega) (by simp) (by simp)
      (fun j h => by
        have hB : Below w.heap.size w (w.alloc (.cells #[.string nm] 9)) := (Below.refl _ _).alloc (Nat.le_refl _) _
        have hf := flat2_get (fun z : ByteArray × (Option Addr × Nat × Nat) => Value.string z.1) (fun z => Value.slice z.2.1 z.2.2.1 z.2.2.2) zs j h
        exact ⟨(hB.cell (p := ⟨g, _, none⟩) hgl).trans (own_cells hown _ _ hf.1), (hB.cell (p := ⟨g, _, none⟩) hgl).trans (own_cells hown _ _ hf.2)⟩) hne
    have HK : Hid _ := key
    clear key hne hown hh htake hsz
    go_enter Tryz.func102, Tryz.ntmps102
    go_wp2_with fail
    refine Calls.mono HK.out ?_
    rintro e w1 ⟨rfl, hb⟩
    go_wp2
    go_ret
    exact ⟨rfl, ((Below.refl _ _).alloc (Nat.le_refl _) _).trans (hb.mono (by simp))⟩

end Go.Proofs.YthkbeaffkcfgiabGreatDoor

namespace Go.Proofs.YthkbeaffkcfgiabGreatDoor
open Go.RowKit

/-- What the reader leaves by. -/
def wrong : List PanicEntry := [{ v := .iface 197 (.agg #[]), recovered := false }]

theorem need_no (x : Bool) (w : World) (hx : x = false) : Calls Tryz.prog 193 #[.bool x] w fun e w' => e = .panicked wrong ∧ w = w' := by
  subst hx
  go_enter Tryz.func193, Tryz.ntmps193
  go_wp2
  exact ⟨rfl, rfl, rfl⟩

theorem nameL_ok (s : ByteArray) : nameL s.data.toList = true ↔ NameOk s := by
  unfold nameL NameOk
  simp only [Bool.and_eq_true, decide_eq_true_eq, List.all_eq_true, Array.length_toList, ByteArray.size_data, and_assoc]
  constructor
  · rintro ⟨h1, h2, h3⟩
    exact ⟨h1, h2, fun i hi => h3 s[i] (Array.mem_toList_iff.2 (Array.getElem_mem hi))⟩
  · rintro ⟨h1, h2, h3⟩
    refine ⟨h1, h2, fun c hc => ?_⟩
    obtain ⟨i, hi, rfl⟩ := List.getElem_of_mem hc
    exact h3 i (by simpa using hi)

set_option maxHeartbeats 800000 in
theorem readName_no (s : ByteArray) (w : World) (hs : s.size ≤ 1000000000) (hn : ¬ NameOk s) : Calls Tryz.prog 246 #[.string s] w fun e w' => e = .panicked wrong ∧ w = w' := by
  by_cases h12 : 1 ≤ s.size ∧ s.size ≤ 8
  · obtain ⟨h1, h2⟩ := h12
    have HN : Hid (¬ ∀ (i : Nat) (h : i < s.size), 97 ≤ s[i].toNat ∧ s[i].toNat ≤ 122) := fun h => hn ⟨h1, h2, h⟩
    clear hn
    go_enter Tryz.func246, Tryz.ntmps246
    go_wp2_with (go_at_call 193; refine (need_of _ _ ?_).mono ?_; (first | rfl | (simp; omega)); rintro e w' ⟨rfl, rfl⟩)
    go_loop [15] (fun t => ∃ k : Nat, k ≤ s.size ∧ t = .int .i64 k ∧ Hid (∀ (i : Nat) (h : i < s.size), i < k → 97 ≤ s[i].toNat ∧ s[i].toNat ≤ 122)) (fun t => s.size - (intOf t).toNat)
    case atStart => exact ⟨0, by omega, rfl, fun i _ h => by omega⟩
    case round =>
      obtain ⟨k, hk, rfl, hall⟩ := hrel
      by_cases hlt : k < s.size
      · by_cases hc : 97 ≤ s[k].toNat ∧ s[k].toNat ≤ 122
        · have hc1 : (97 : Int) ≤ (s[k].toNat : Int) := by omega
          have hc2 : (s[k].toNat : Int) ≤ 122 := by omega
          have HCC : Hid (97 ≤ s[k].toNat ∧ s[k].toNat ≤ 122) := hc
          clear hc
          go_wp2_with (go_at_call 193; refine (need_of _ _ ?_).mono ?_; (first | rfl | (simp; omega)); rintro e w' ⟨rfl, rfl⟩)
          go_round
          case rel => exact ⟨k + 1, by omega, by go_num, fun i h hi => by
            by_cases e : i = k
            · subst e; exact HCC.out
            · exact hall.out i h (by omega)⟩
          case measure => simp [intOf]; omega
        · by_cases hc1 : 97 ≤ s[k].toNat
          · have hd1 : (97 : Int) ≤ (s[k].toNat : Int) := by omega
            have hd2 : ¬ (s[k].toNat : Int) ≤ 122 := by omega
            clear hc hc1
            go_wp2_with (go_at_call 193; refine (need_no _ _ ?_).mono ?_; (first | rfl | (simp; omega)); rintro e w' ⟨rfl, rfl⟩)
            exact ⟨rfl, rfl, rfl⟩
          · have hd1 : ¬ (97 : Int) ≤ (s[k].toNat : Int) := by omega
            clear hc hc1
            go_wp2_with (go_at_call 193; refine (need_no _ _ ?_).mono ?_; (first | rfl | (simp; omega)); rintro e w' ⟨rfl, rfl⟩)
            exact ⟨rfl, rfl, rfl⟩
      · exact absurd (fun i h => hall.out i h (by omega)) HN.out
  · clear hn
    by_cases h1 : 1 ≤ s.size
    · have h2 : ¬ (s.size : Int) ≤ 8 := by omega
      have h1' : (1 : Int) ≤ (s.size : Int) := by omega
      clear h12
      go_enter Tryz.func246, Tryz.ntmps246
      go_wp2_with (go_at_call 193; refine (need_no _ _ ?_).mono ?_; (first | rfl | (simp; omega)); rintro e w' ⟨rfl, rfl⟩)
      exact ⟨rfl, rfl, rfl⟩
    · have h1' : ¬ (1 : Int) ≤ (s.size : Int) := by omega
      clear h12
      go_enter Tryz.func246, Tryz.ntmps246
      go_wp2_with (go_at_call 193; refine (need_no _ _ ?_).mono ?_; (first | rfl | (simp; omega)); rintro e w' ⟨rfl, rfl⟩)
      exact ⟨rfl, rfl, rfl⟩

end Go.Proofs.YthkbeaffkcfgiabGreatDoor

namespace Go.Proofs.YthkbeaffkcfgiabGreatDoor
open Go.RowKit

set_option maxHeartbeats 400000 in
theorem same115_yes (a nm : ByteArray) (k : Int) (B : Nat) (w : World) (hB : B < w.heap.size) (hc : w.cell? ⟨B, 0, none⟩ = some (.string nm)) (hne : (a.toList == nm.toList) = true) :
    Calls Tryz.prog 198 #[.agg #[.string a, .int .i64 k], .pointer (some ⟨B, 0, none⟩)] w fun e w' => e = .returned (.bool true) ∧ Below w.heap.size w w' := by
  have hn : B ≠ w.heap.size := by omega
  go_enter Tryz.func198, Tryz.ntmps198
  go_wp2
  go_ret
  exact ⟨by simp_all, (Below.refl _ _).alloc (Nat.le_refl _) _⟩

set_option maxHeartbeats 800000 in
theorem index114_some (b n c : Nat) (zs : List (ByteArray × Int)) (nm : ByteArray) (B : Nat) (w : World) (hn : n = zs.length) (hn2 : n ≤ 10) (hb : b < w.heap.size) (hB : B < w.heap.size) (hc : w.cell? ⟨B, 0, none⟩ = some (.string nm))
    (hz : ∀ j (h : j < zs.length), w.cell? ⟨b, j * 2, none⟩ = some (.string zs[j].1) ∧ w.cell? ⟨b, j * 2 + 1, none⟩ = some (.int .i64 zs[j].2)) (hex : ∃ j, ∃ h : j < zs.length, (zs[j].1.toList == nm.toList) = true) :
    Calls Tryz.prog 197 #[.slice (some ⟨b, 0, none⟩) n c, .func (.func 198) #[] #[.pointer (some ⟨B, 0, none⟩)]] w fun e w' => (∃ r : Nat, r < 20 ∧ e = .returned (.int .i64 r)) ∧ Below w.heap.size w w' := by
  have HZ : Hid _ := hz
  have HX : Hid (∃ j, ∃ h : j < zs.length, (zs[j].1.toList == nm.toList) = true) := hex
  have HC : Hid (w.cell? ⟨B, 0, none⟩ = some (.string nm)) := hc
  have HL : Hid (n = zs.length) := hn
  clear hz hex hc hn
  go_enter Tryz.func197, Tryz.ntmps197
  go_wp2
  go_loopw [8] (fun t wr => ∃ k : Nat, k ≤ n ∧ t = .int .i64 k ∧ Below w.heap.size w wr ∧ Hid (∀ j (h : j < zs.length), j < k → (zs[j].1.toList == nm.toList) = false)) (fun t _ => n - (intOf t).toNat)
  case atStart => exact ⟨0, by omega, rfl, Below.refl _ _, fun j _ h => by omega⟩
  case round =>
    obtain ⟨k, hk, rfl, hw, HA⟩ := hrel
    have HW : Hid (Below w.heap.size w wr) := hw
    clear hw
    by_cases hlt : k < n
    · have hkz : k < zs.length := by rw [← HL.out]; exact hlt
      have c0 : wr.cell? ⟨b, k * 2, none⟩ = some (.string zs[k].1) := (HW.out.cell (p := ⟨b, _, none⟩) hb).trans (HZ.out k hkz).1
      have c1 : wr.cell? ⟨b, k * 2 + 1, none⟩ = some (.int .i64 zs[k].2) := (HW.out.cell (p := ⟨b, _, none⟩) hb).trans (HZ.out k hkz).2
      cases hq : (zs[k].1.toList == nm.toList) with
      | true =>
        have HCL : Hid _ := same115_yes zs[k].1 nm zs[k].2 B wr (Nat.lt_of_lt_of_le hB HW.out.size) ((HW.out.cell (p := ⟨B, _, none⟩) hB).trans HC.out) hq
        clear hq
        generalize zs[k] = z at c0 c1 HCL
        go_wp2_with fail
        refine Calls.mono HCL.out ?_
        rintro e w1 ⟨rfl, hb1⟩
        have HB1 : Hid (Below w.heap.size w w1) := HW.out.trans (hb1.mono HW.out.size)
        clear hb1 c0 c1
        go_wp2
        go_ret
        exact ⟨⟨k, by omega, rfl⟩, HB1.out⟩
      | false =>
        have HCL : Hid _ := same115_no zs[k].1 nm zs[k].2 B wr (Nat.lt_of_lt_of_le hB HW.out.size) ((HW.out.cell (p := ⟨B, _, none⟩) hB).trans HC.out) hq
        have HQ : Hid ((zs[k].1.toList == nm.toList) = false) := hq
        clear hq
        have HA2 : Hid (∀ j (h : j < zs.length), j < k + 1 → (zs[j].1.toList == nm.toList) = false) := fun j h hj => by
          by_cases e : j = k
          · subst e; exact HQ.out
          · exact HA.out j h (by omega)
        clear HA HQ
        generalize zs[k] = z at c0 c1 HCL
        go_wp2_with fail
        refine Calls.mono HCL.out ?_
        rintro e w1 ⟨rfl, hb1⟩
        have HB1 : Hid (Below w.heap.size w w1) := HW.out.trans (hb1.mono HW.out.size)
        clear hb1 c0 c1
        go_wp2
        go_roundw
        case rel => exact ⟨k + 1, by omega, by go_num, HB1.out, HA2⟩
        case measure => simp [intOf]; omega
    · obtain ⟨j, h, hj⟩ := HX.out
      have := HA.out j h (by rw [← HL.out] at h; omega)
      rw [this] at hj
      cases hj

set_option maxHeartbeats 400000 in
theorem same106_yes (a nm : ByteArray) (sa : Option Addr) (n c : Nat) (B : Nat) (w : World) (hB : B < w.heap.size) (hc : w.cell? ⟨B, 0, none⟩ = some (.string nm)) (hne : (a.toList == nm.toList) = true) :
    Calls Tryz.prog 153 #[.agg #[.string a, .slice sa n c], .pointer (some ⟨B, 0, none⟩)] w fun e w' => e = .returned (.bool true) ∧ Below w.heap.size w w' := by
  have hn : B ≠ w.heap.size := by omega
  go_enter Tryz.func153, Tryz.ntmps153
  go_wp2
  go_ret
  exact ⟨by simp_all, (Below.refl _ _).alloc (Nat.le_refl _) _⟩

set_option maxHeartbeats 800000 in
theorem index105_some (b n c : Nat) (zs : List (ByteArray × (Option Addr × Nat × Nat))) (nm : ByteArray) (B : Nat) (w : World) (hn : n = zs.length) (hn2 : n ≤ 10) (hb : b < w.heap.size) (hB : B < w.heap.size) (hc : w.cell? ⟨B, 0, none⟩ = some (.string nm))
    (hz : ∀ j (h : j < zs.length), w.cell? ⟨b, j * 2, none⟩ = some (.string zs[j].1) ∧ w.cell? ⟨b, j * 2 + 1, none⟩ = some (.slice zs[j].2.1 zs[j].2.2.1 zs[j].2.2.2)) (hex : ∃ j, ∃ h : j < zs.length, (zs[j].1.toList == nm.toList) = true) :
    Calls Tryz.prog 152 #[.slice (some ⟨b, 0, none⟩) n c, .func (.func 153) #[] #[.pointer (some ⟨B, 0, none⟩)]] w fun e w' => (∃ r : Nat, r < 20 ∧ e = .returned (.int .i64 r)) ∧ Below w.heap.size w w' := by
  have HZ : Hid _ := hz
  have HX : Hid (∃ j, ∃ h : j < zs.length, (zs[j].1.toList == nm.toList) = true) := hex
  have HC : Hid (w.cell? ⟨B, 0, none⟩ = some (.string nm)) := hc
  have HL : Hid (n = zs.length) := hn
  clear hz hex hc hn
  go_enter Tryz.func152, Tryz.ntmps152
  go_wp2
  go_loopw [8] (fun t wr => ∃ k : Nat, k ≤ n ∧ t = .int .i64 k ∧ Below w.heap.size w wr ∧ Hid (∀ j (h : j < zs.length), j < k → (zs[j].1.toList == nm.toList) = false)) (fun t _ => n - (intOf t).toNat)
  case atStart => exact ⟨0, by omega, rfl, Below.refl _ _, fun j _ h => by omega⟩
  case round =>
    obtain ⟨k, hk, rfl, hw, HA⟩ := hrel
    have HW : Hid (Below w.heap.size w wr) := hw
    clear hw
    by_cases hlt : k < n
    · have hkz : k < zs.length := by rw [← HL.out]; exact hlt
      have c0 : wr.cell? ⟨b, k * 2, none⟩ = some (.string zs[k].1) := (HW.out.cell (p := ⟨b, _, none⟩) hb).trans (HZ.out k hkz).1
      have c1 : wr.cell? ⟨b, k * 2 + 1, none⟩ = some (.slice zs[k].2.1 zs[k].2.2.1 zs[k].2.2.2) := (HW.out.cell (p := ⟨b, _, none⟩) hb).trans (HZ.out k hkz).2
      cases hq : (zs[k].1.toList == nm.toList) with
      | true =>
        have HCL : Hid _ := same106_yes zs[k].1 nm zs[k].2.1 zs[k].2.2.1 zs[k].2.2.2 B wr (Nat.lt_of_lt_of_le hB HW.out.size) ((HW.out.cell (p := ⟨B, _, none⟩) hB).trans HC.out) hq
        clear hq
        generalize zs[k] = z at c0 c1 HCL
        go_wp2_with fail
        refine Calls.mono HCL.out ?_
        rintro e w1 ⟨rfl, hb1⟩
        have HB1 : Hid (Below w.heap.size w w1) := HW.out.trans (hb1.mono HW.out.size)
        clear hb1 c0 c1
        go_wp2
        go_ret
        exact ⟨⟨k, by omega, rfl⟩, HB1.out⟩
      | false =>
        have HCL : Hid _ := same106_no zs[k].1 nm zs[k].2.1 zs[k].2.2.1 zs[k].2.2.2 B wr (Nat.lt_of_lt_of_le hB HW.out.size) ((HW.out.cell (p := ⟨B, _, none⟩) hB).trans HC.out) hq
        have HQ : Hid ((zs[k].1.toList == nm.toList) = false) := hq
        clear hq
        have HA2 : Hid (∀ j (h : j < zs.length), j < k + 1 → (zs[j].1.toList == nm.toList) = false) := fun j h hj => by
          by_cases e : j = k
          · subst e; exact HQ.out
          · exact HA.out j h (by omega)
        clear HA HQ
        generalize zs[k] = z at c0 c1 HCL
        go_wp2_with fail
        refine Calls.mono HCL.out ?_
        rintro e w1 ⟨rfl, hb1⟩
        have HB1 : Hid (Below w.heap.size w w1) := HW.out.trans (hb1.mono HW.out.size)
        clear hb1 c0 c1
        go_wp2
        go_roundw
        case rel => exact ⟨k + 1, by omega, by go_num, HB1.out, HA2⟩
        case measure => simp [intOf]; omega
    · obtain ⟨j, h, hj⟩ := HX.out
      have := HA.out j h (by rw [← HL.out] at h; omega)
      rw [this] at hj
      cases hj

theorem bytes_ne {a b : ByteArray} (h : a ≠ b) : (a.toList == b.toList) = false := by
  rw [beq_eq_false_iff_ne]
  intro e
  rw [_root_.Go.ByteArray.toList_eq, _root_.Go.ByteArray.toList_eq] at e
  exact h (by cases a; cases b; simp at e; rw [e])
theorem bytes_same (a : ByteArray) : (a.toList == a.toList) = true := by simp

set_option maxHeartbeats 800000 in
theorem find104_any (cn nm : ByteArray) (v : Value) (base : Nat) (zs : List (ByteArray × Int)) (w : World) (hl : zs.length ≤ 10) (hown : w.ownsRow base 135 2 v zs.length (fieldCells zs)) :
    Calls Tryz.prog 129 #[.agg #[.string cn, v], .string nm] w fun e w' => (∃ r : Int, e = .returned (.int .i64 r) ∧ (r < 0 ↔ nm ∉ zs.map Prod.fst)) ∧ Below w.heap.size w w' := by
  by_cases hm : nm ∈ zs.map Prod.fst
  · obtain ⟨z, hz, rfl⟩ := List.mem_map.1 hm
    obtain ⟨j, hj, rfl⟩ := List.getElem_of_mem hz
    rcases hown.2 with ⟨rfl, h0⟩ | ⟨g, cap, cur, rfl, hg, hh, hcap, hmax, hsz, htake⟩
    · omega
    · have hgl : g < w.heap.size := (Array.getElem?_eq_some_iff.1 hh).1
      have key := index114_some g zs.length cap zs zs[j].1 (w.heap.size + 1) ((w.alloc (.cells #[.string cn, .slice (some ⟨g, 0, none⟩) zs.length cap] 138)).alloc (.cells #[.string zs[j].1] 9)) rfl hl (by simp; omega) (by simp) (by simp)
        (fun j h => by
          have hB := below_two w (.cells #[.string cn, .slice (some ⟨g, 0, none⟩) zs.length cap] 138) (.cells #[.string zs[j].1] 9)
          have hf := flat2_get (fun z : ByteArray × Int => Value.string z.1) (fun z => Value.int .i64 z.2) zs j h
          exact ⟨((below_two w _ _).cell (p := ⟨g, _, none⟩) hgl).trans (own_cells hown _ _ hf.1), ((below_two w _ _).cell (p := ⟨g, _, none⟩) hgl).trans (own_cells hown _ _ hf.2)⟩) ⟨j, hj, bytes_same _⟩
      have HK : Hid _ := key
      have HMm : Hid (zs[j].1 ∈ zs.map Prod.fst) := hm
      clear key hown hh htake hsz hm hz
      generalize zs[j].1 = nm at HK HMm
      go_enter Tryz.func129, Tryz.ntmps129
      go_wp2_with fail
      refine Calls.mono HK.out ?_
      rintro e w1 ⟨⟨r, hr, rfl⟩, hb⟩
      go_wp2
      go_ret
      exact ⟨⟨r, rfl, ⟨fun h => by omega, fun h => absurd HMm.out h⟩⟩, (below_two _ _ _).trans (hb.mono (by simp; omega))⟩
  · refine (find104_none cn nm v base zs w hl hown fun j h => bytes_ne fun e => hm (e ▸ List.mem_map_of_mem (List.getElem_mem h))).mono fun e w' ⟨he, hb⟩ => ⟨⟨-1, he, ⟨fun _ => hm, fun _ => by omega⟩⟩, hb⟩

set_option maxHeartbeats 800000 in
theorem find99_any (nm : ByteArray) (v : Value) (base : Nat) (zs : List (ByteArray × (Option Addr × Nat × Nat))) (w : World) (hl : zs.length ≤ 10) (hown : w.ownsRow base 138 2 v zs.length (compCells zs)) :
    Calls Tryz.prog 102 #[v, .string nm] w fun e w' => (∃ r : Int, e = .returned (.int .i64 r) ∧ (r < 0 ↔ nm ∉ zs.map Prod.fst)) ∧ Below w.heap.size w w' := by
  by_cases hm : nm ∈ zs.map Prod.fst
  · obtain ⟨z, hz, rfl⟩ := List.mem_map.1 hm
    obtain ⟨j, hj, rfl⟩ := List.getElem_of_mem hz
    rcases hown.2 with ⟨rfl, h0⟩ | ⟨g, cap, cur, rfl, hg, hh, hcap, hmax, hsz, htake⟩
    · omega
    · have hgl : g < w.heap.size := (Array.getElem?_eq_some_iff.1 hh).1
      have key := index105_some g zs.length cap zs zs[j].1 w.heap.size (w.alloc (.cells #[.string zs[j].1] 9)) rfl hl (by simp; omega) (by simp) (by simp)
        (fun j h => by
          have hf := flat2_get (fun z : ByteArray × (Option Addr × Nat × Nat) => Value.string z.1) (fun z => Value.slice z.2.1 z.2.2.1 z.2.2.2) zs j h
          exact ⟨(((Below.refl _ w).alloc (Nat.le_refl _) _).cell (p := ⟨g, _, none⟩) hgl).trans (own_cells hown _ _ hf.1), (((Below.refl _ w).alloc (Nat.le_refl _) _).cell (p := ⟨g, _, none⟩) hgl).trans (own_cells hown _ _ hf.2)⟩) ⟨j, hj, bytes_same _⟩
      have HK : Hid _ := key
      have HMm : Hid (zs[j].1 ∈ zs.map Prod.fst) := hm
      clear key hown hh htake hsz hm hz
      generalize zs[j].1 = nm at HK HMm
      go_enter Tryz.func102, Tryz.ntmps102
      go_wp2_with fail
      refine Calls.mono HK.out ?_
      rintro e w1 ⟨⟨r, hr, rfl⟩, hb⟩
      go_wp2
      go_ret
      exact ⟨⟨r, rfl, ⟨fun h => by omega, fun h => absurd HMm.out h⟩⟩, ((Below.refl _ _).alloc (Nat.le_refl _) _).trans (hb.mono (by simp))⟩
  · refine (find99_none nm v base zs w hl hown fun j h => bytes_ne fun e => hm (e ▸ List.mem_map_of_mem (List.getElem_mem h))).mono fun e w' ⟨he, hb⟩ => ⟨⟨-1, he, ⟨fun _ => hm, fun _ => by omega⟩⟩, hb⟩

end Go.Proofs.YthkbeaffkcfgiabGreatDoor
