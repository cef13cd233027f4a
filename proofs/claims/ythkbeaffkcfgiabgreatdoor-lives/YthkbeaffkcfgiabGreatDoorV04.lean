import Derived.Test.YthkbeaffkcfgiabGreatDoorV01
import Derived.Test.YthkbeaffkcfgiabGreatDoorV03
set_option linter.unusedSimpArgs false
set_option linter.unusedVariables false
namespace Go.Proofs.YthkbeaffkcfgiabGreatDoor
open Go.RowKit

set_option maxHeartbeats 400000 in
theorem need_yes (w : World) : Calls Tryz.prog 193 #[.bool true] w fun e w' => e = .returned (.tuple #[]) ∧ w' = w := by
  go_enter Tryz.func193, Tryz.ntmps193
  go_wp2
  go_end0
  exact ⟨rfl, rfl⟩

theorem need_of (x : Bool) (w : World) (hx : x = true) : Calls Tryz.prog 193 #[.bool x] w fun e w' => e = .returned (.tuple #[]) ∧ w = w' := by
  subst hx; exact (need_yes w).mono fun _ _ h => ⟨h.1, h.2.symm⟩

/-- A name: one to eight letters. -/
def NameOk (s : ByteArray) : Prop := 1 ≤ s.size ∧ s.size ≤ 8 ∧ ∀ (i : Nat) (h : i < s.size), 97 ≤ s[i].toNat ∧ s[i].toNat ≤ 122

theorem clone_any (s : ByteArray) (w : World) (hs : s.size ≤ 8) : Calls Tryz.prog 277 #[.string s] w fun e w' => e = .returned (.string s) ∧ Below w.heap.size w w' := by
  go_enter Tryz.func277, Tryz.ntmps277
  go_wp2_with (go_at_call 294; refine (Tryz.stringslite_Clone s _ (by omega)).mono ?_; rintro e w' ⟨rfl, hb⟩)
  go_ret
  exact ⟨rfl, hb⟩

set_option maxHeartbeats 400000 in
theorem readName_ok (s : ByteArray) (w : World) (hn : NameOk s) : Calls Tryz.prog 246 #[.string s] w fun e w' => e = .returned (.string s) ∧ Below w.heap.size w w' := by
  obtain ⟨h1, h2, h3⟩ := hn
  have H3 : Hid (∀ (i : Nat) (h : i < s.size), 97 ≤ s[i].toNat ∧ s[i].toNat ≤ 122) := h3
  clear h3
  go_enter Tryz.func246, Tryz.ntmps246
  go_wp2_with (go_at_call 193; refine (need_of _ _ ?_).mono ?_; (first | rfl | (simp; omega)); rintro e w' ⟨rfl, rfl⟩)
  go_loop [15] (fun t => ∃ k : Nat, k ≤ s.size ∧ t = .int .i64 k) (fun t => s.size - (intOf t).toNat)
  case atStart => exact ⟨0, by omega, rfl⟩
  case round =>
    obtain ⟨k, hk, rfl⟩ := hrel
    by_cases hlt : k < s.size
    · have hc := H3.out k hlt
      have hc1 : (97 : Int) ≤ (s[k].toNat : Int) := by omega
      have hc2 : (s[k].toNat : Int) ≤ 122 := by omega
      clear hc
      go_wp2_with (go_at_call 193; refine (need_of _ _ ?_).mono ?_; (first | rfl | (simp; omega)); rintro e w' ⟨rfl, rfl⟩)
      go_round
      case rel => exact ⟨k + 1, by omega, by go_num⟩
      case measure => simp [intOf]; omega
    · go_wp2_with (go_at_call 277; refine (clone_any s _ (by omega)).mono ?_; rintro e w' ⟨rfl, hb⟩)
      go_ret
      exact ⟨rfl, hb⟩

/-- A kind's word, and its number. -/
def KindOk (s : ByteArray) (k : Int) : Prop :=
  (s = ⟨#[105, 110, 116]⟩ ∧ k = 1) ∨ (s = ⟨#[98, 111, 111, 108]⟩ ∧ k = 2) ∨ (s = ⟨#[116, 101, 120, 116]⟩ ∧ k = 3) ∨ (s = ⟨#[114, 101, 102]⟩ ∧ k = 4) ∨ (s = ⟨#[108, 105, 115, 116]⟩ ∧ k = 5)

set_option maxHeartbeats 800000 in
theorem readKind_ok (s : ByteArray) (k : Int) (w : World) (hk : KindOk s k) : Calls Tryz.prog 279 #[.string s] w fun e w' => e = .returned (.int .i64 k) ∧ w' = w := by
  rcases hk with ⟨rfl, rfl⟩ | ⟨rfl, rfl⟩ | ⟨rfl, rfl⟩ | ⟨rfl, rfl⟩ | ⟨rfl, rfl⟩
  all_goals
    go_enter Tryz.func279, Tryz.ntmps279
    go_wp2
    go_ret
    exact ⟨rfl, rfl⟩

/-- A field's word, its name, its kind. -/
def FieldOk (word nm : ByteArray) (k : Int) : Prop :=
  NameOk nm ∧ word.size < 500 ∧ ∃ kd, KindOk kd k ∧ (Lib.cut word.data.toList [58]).1 = nm.data.toList ∧ (Lib.cut word.data.toList [58]).2.1 = kd.data.toList

set_option maxHeartbeats 800000 in
theorem readField_ok (word nm : ByteArray) (k m : Int) (w : World) (hm : w.cell? ⟨3, 0, none⟩ = some (.int .i64 m)) (hf : FieldOk word nm k) :
    Calls Tryz.prog 247 #[.string word] w fun e w' => e = .returned (.agg #[.string nm, .int .i64 k]) ∧ Below w.heap.size w w' := by
  obtain ⟨hn, hsz, kd, hk, e1, e2⟩ := hf
  have h0 : 3 < w.heap.size := World.block_lt_of_cell? w ⟨3, 0, none⟩ hm
  have hcut : ∀ W : World, W.cell? ⟨3, 0, none⟩ = some (.int .i64 m) → Calls Tryz.prog 278 #[.string word, .string ⟨#[58]⟩] W fun e w' => e = .returned (.tuple #[.string nm, .string kd, .bool (Lib.cut word.data.toList [58]).2.2]) ∧ ∃ n, w' = W.drewN n := by
    intro W hW
    have := Tryz.strings_Cut word ⟨#[58]⟩ m W (by omega) hW
    have e3 : (⟨#[58]⟩ : ByteArray).data.toList = [58] := rfl
    rw [e3, e1, e2] at this
    simpa using this
  generalize (Lib.cut word.data.toList [58]).2.2 = fd at hcut
  have HC : Hid _ := hcut
  clear hcut e1 e2
  have hm' : ∀ o : Obj, (w.alloc o).cell? ⟨3, 0, none⟩ = some (.int .i64 m) := fun o => (World.cell?_alloc_lt w o ⟨3, 0, none⟩ h0).trans hm
  have HM : Hid _ := hm'
  clear hm' hm
  go_enter Tryz.func247, Tryz.ntmps247
  go_wp2_with fail
  refine (HC.out _ (HM.out _)).mono ?_
  rintro e w1 ⟨rfl, n1, rfl⟩
  go_wp2_with fail
  refine (readName_ok nm _ hn).mono ?_
  rintro e w2 ⟨rfl, hb⟩
  go_wp2_with fail
  refine (readKind_ok kd k _ hk).mono ?_
  rintro e w3 ⟨rfl, rfl⟩
  have hc0 : w3.cell? ⟨w.heap.size, 0, none⟩ = some (.string ⟨#[]⟩) := by rw [hb.cell (p := ⟨w.heap.size, 0, none⟩) (by simp)]; simp
  have hc1 : w3.cell? ⟨w.heap.size, 1, none⟩ = some (.int .i64 0) := by rw [hb.cell (p := ⟨w.heap.size, 1, none⟩) (by simp)]; simp
  have hf0 : w3.frozen? ⟨w.heap.size, 0, none⟩ = false := by rw [hb.frozen (p := ⟨w.heap.size, 0, none⟩) (by simp)]; simp
  have hf1 : w3.frozen? ⟨w.heap.size, 1, none⟩ = false := by rw [hb.frozen (p := ⟨w.heap.size, 1, none⟩) (by simp)]; simp
  have HB : Hid (Below w.heap.size w w3) := (below_drewN ((Below.refl _ _).alloc (Nat.le_refl _) _) _).trans (hb.mono (by simp))
  clear hb
  go_wp2
  refine bodyPost_ret (v := .agg #[.string nm, .int .i64 k]) ?_ rfl ⟨rfl, ?_⟩
  · simp [results, Tryz.results247, go_sem, hc0, hc1]
  · exact (HB.out.setCell (by simp) _).setCell (by simp) _

end Go.Proofs.YthkbeaffkcfgiabGreatDoor
