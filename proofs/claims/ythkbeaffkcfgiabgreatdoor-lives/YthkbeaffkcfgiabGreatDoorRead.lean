import Derived.Test.YthkbeaffkcfgiabGreatDoorFind
import Derived.Test.YthkbeaffkcfgiabGreatDoorAlive
import Derived.Test.YthkbeaffkcfgiabGreatDoorSpec
import Derived.Deep.DeepCutAuto
namespace Go.Proofs.YthkbeaffkcfgiabGreatDoor
open Go.RowKit

/-- What the reader leaves by. -/
def wrong : List PanicEntry := [{ v := .iface 197 (.agg #[]), recovered := false }]

theorem need_no (x : Bool) (w : World) (hx : x = false) : Calls Tryz.prog 193 #[.bool x] w fun e w' => e = .panicked wrong ∧ w = w' := by
  subst hx
  go_enter Tryz.func193, Tryz.ntmps193
  go_wp2
  exact ⟨rfl, rfl, rfl⟩

/-- How a reader's call ends: with a value, or by leaving. -/
def Ends (r : Option Value) (e : Ending) : Prop := (∃ v, r = some v ∧ e = .returned v) ∨ (r = none ∧ e = .panicked wrong)

theorem nameL_ok (s : ByteArray) : nameL s.data.toList = true ↔ NameOk s := by
  unfold nameL NameOk
  simp only [Bool.and_eq_true, decide_eq_true_eq, List.all_eq_true, Array.length_toList, ByteArray.size_data, and_assoc]
  constructor
  · rintro ⟨h1, h2, h3⟩
    exact ⟨h1, h2, fun i hi => h3 s[i] (Array.mem_toList_iff.2 (Array.getElem_mem hi))⟩
  · rintro ⟨h1, h2, h3⟩
    refine ⟨h1, h2, fun c hc => ?_⟩
    obtain ⟨i, hi, rfl⟩ := List.getElem_of_mem hc
    exact h3 i (by simpa using hi)

set_option maxHeartbeats 800000 in
theorem readName_no (s : ByteArray) (w : World) (hs : s.size ≤ 1000000000) (hn : ¬ NameOk s) : Calls Tryz.prog 246 #[.string s] w fun e w' => e = .panicked wrong ∧ w = w' := by
  by_cases h12 : 1 ≤ s.size ∧ s.size ≤ 8
  · obtain ⟨h1, h2⟩ := h12
    have HN : Hid (¬ ∀ (i : Nat) (h : i < s.size), 97 ≤ s[i].toNat ∧ s[i].toNat ≤ 122) := fun h => hn ⟨h1, h2, h⟩
    clear hn
    go_enter Tryz.func246, Tryz.ntmps246
    go_wp2_with (go_at_call 193; refine (need_of _ _ ?_).mono ?_; (first | rfl | (simp; omega)); rintro e w' ⟨rfl, rfl⟩)
    go_loop [15] (fun t => ∃ k : Nat, k ≤ s.size ∧ t = .int .i64 k ∧ Hid (∀ (i : Nat) (h : i < s.size), i < k → 97 ≤ s[i].toNat ∧ s[i].toNat ≤ 122)) (fun t => s.size - (intOf t).toNat)
    case atStart => exact ⟨0, by omega, rfl, fun i _ h => by omega⟩
    case round =>
      obtain ⟨k, hk, rfl, hall⟩ := hrel
      by_cases hlt : k < s.size
      · by_cases hc : 97 ≤ s[k].toNat ∧ s[k].toNat ≤ 122
        · have hc1 : (97 : Int) ≤ (s[k].toNat : Int) := by omega
          have hc2 : (s[k].toNat : Int) ≤ 122 := by omega
          have HCC : Hid (97 ≤ s[k].toNat ∧ s[k].toNat ≤ 122) := hc
          clear hc
          go_wp2_with (go_at_call 193; refine (need_of _ _ ?_).mono ?_; (first | rfl | (simp; omega)); rintro e w' ⟨rfl, rfl⟩)
          go_round
          case rel => exact ⟨k + 1, by omega, by go_num, fun i h hi => by
            by_cases e : i = k
            · subst e; exact HCC.out
            · exact hall.out i h (by omega)⟩
          case measure => simp [intOf]; omega
        · by_cases hc1 : 97 ≤ s[k].toNat
          · have hd1 : (97 : Int) ≤ (s[k].toNat : Int) := by omega
            have hd2 : ¬ (s[k].toNat : Int) ≤ 122 := by omega
            clear hc hc1
            go_wp2_with (go_at_call 193; refine (need_no _ _ ?_).mono ?_; (first | rfl | (simp; omega)); rintro e w' ⟨rfl, rfl⟩)
            exact ⟨rfl, rfl, rfl⟩
          · have hd1 : ¬ (97 : Int) ≤ (s[k].toNat : Int) := by omega
            clear hc hc1
            go_wp2_with (go_at_call 193; refine (need_no _ _ ?_).mono ?_; (first | rfl | (simp; omega)); rintro e w' ⟨rfl, rfl⟩)
            exact ⟨rfl, rfl, rfl⟩
      · exact absurd (fun i h => hall.out i h (by omega)) HN.out
  · clear hn
    by_cases h1 : 1 ≤ s.size
    · have h2 : ¬ (s.size : Int) ≤ 8 := by omega
      have h1' : (1 : Int) ≤ (s.size : Int) := by omega
      clear h12
      go_enter Tryz.func246, Tryz.ntmps246
      go_wp2_with (go_at_call 193; refine (need_no _ _ ?_).mono ?_; (first | rfl | (simp; omega)); rintro e w' ⟨rfl, rfl⟩)
      exact ⟨rfl, rfl, rfl⟩
    · have h1' : ¬ (1 : Int) ≤ (s.size : Int) := by omega
      clear h12
      go_enter Tryz.func246, Tryz.ntmps246
      go_wp2_with (go_at_call 193; refine (need_no _ _ ?_).mono ?_; (first | rfl | (simp; omega)); rintro e w' ⟨rfl, rfl⟩)
      exact ⟨rfl, rfl, rfl⟩

end Go.Proofs.YthkbeaffkcfgiabGreatDoor
