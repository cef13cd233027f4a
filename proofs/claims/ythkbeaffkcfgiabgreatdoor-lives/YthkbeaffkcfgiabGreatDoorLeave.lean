import Derived.Test.YthkbeaffkcfgiabGreatDoorEnter
namespace Go.Proofs.YthkbeaffkcfgiabGreatDoor
open Go.RowKit

set_option maxHeartbeats 4000000 in
theorem leave_tab {F : Nat → Prop} (tb : Nat) (ents : List (Int × Int)) (p l : Int) (w : World) (hT : TabAt w F tb ents) (hl : ents.length ≤ 100) (hsort : ents.Pairwise fun a b => a.1 < b.1) (hin : ahead ents p < ents.length) :
    Calls Tryz.prog 122 #[.pointer (some ⟨tb, 0, none⟩), .agg #[.int .i64 p, .int .i64 l]] w fun e w' => e = .returned (.tuple #[]) ∧ Turns w w' F ∧ TabAt w' (grow F w w') tb (cutOut ents (ahead ents p) 1) := by
  have HT : Hid (TabAt w F tb ents) := hT
  have HO : Hid (ents.Pairwise fun a b => a.1 < b.1) := hsort
  have hlt := hT.lt
  obtain ⟨_, v, hb0, hown, hvb⟩ := hT
  have HO0 : Hid (w.ownsRow 0 46 2 v ents.length (eCells ents)) := hown
  have HV : Hid (∀ k, v.ownBlock = some k → F k ∧ k ≠ tb) := hvb
  have HB0 : Hid (w.heap[tb]? = some (.cells #[v, .slice none 0 0, .slice none 0 0, .slice none 0 0, .slice none 0 0, .slice none 0 0, .slice none 0 0] 204 (0, 0))) := hb0
  obtain ⟨r, hr⟩ : ∃ r, r = ahead ents p := ⟨_, rfl⟩
  have hrl : r < ents.length := by rw [hr]; exact hin
  have HR : Hid (ahead ents p = r) := hr.symm
  obtain ⟨n, hn⟩ : ∃ n, n = ents.length := ⟨_, rfl⟩
  have HN : Hid (n = ents.length) := hn
  have hr1000 : r < 100 := by omega
  clear hsort hown hvb hb0 hr hn hin
  go_enter Tryz.func122, Tryz.ntmps122
  go_wp2_with fail
  have hA : Below w.heap.size w (w.alloc (.cells #[.int .i64 p, .int .i64 l] 46)) := (Below.refl _ _).alloc (Nat.le_refl _) _
  refine (row_any tb v ents p l _ (by rw [cell_row ((hA.block tb hlt).trans HB0.out)]; rfl) ((own_ents HO0.out).below hA) hl HO.out).mono ?_
  rw [HR.out]
  rintro e w1 ⟨rfl, hb1⟩
  have HA1 : Hid (Below w.heap.size w w1) := hA.trans (hb1.mono (by simp))
  have hs1 : w.heap.size < w1.heap.size := by have := hb1.size; simp at this; omega
  clear hb1 hA
  have ct : w1.cell? ⟨tb, 0, none⟩ = some v := by rw [cell_row ((HA1.out.block tb hlt).trans HB0.out)]; rfl
  have cf : w1.frozen? ⟨tb, 0, none⟩ = false := frozen_row ((HA1.out.block tb hlt).trans HB0.out) 0
  have hlt1 : tb < w1.heap.size := by omega
  have hne1 : tb ≠ w1.heap.size := by omega
  obtain ⟨W2, hW2⟩ : ∃ W2, W2 = (w1.alloc (.cells #[.int .i64 r] 3)).drew := ⟨_, rfl⟩
  have hs2 : W2.heap.size = w1.heap.size + 1 := by rw [hW2]; simp
  have hB2 : Below w1.heap.size w1 W2 := by rw [hW2]; exact ((Below.refl _ _).alloc (Nat.le_refl _) _).drew
  have HI : Hid (Calls Tryz.prog 191 #[v, .int .i64 r, .int .i64 ((r : Int) + 1)] W2 fun e w' => ∃ a' c', e = .returned (.slice a' (n - 1) c') ∧ w'.cell? ⟨tb, 0, none⟩ = some v ∧ w'.frozen? ⟨tb, 0, none⟩ = false ∧
      Hid (w'.ownsRow 0 46 2 (.slice a' (n - 1) c') (n - 1) (cutOut (eCells ents) (r * 2) 2) ∧ W2.grownBy w' v.ownBlock ∧ (Value.slice a' (n - 1) c').ownBlock = v.ownBlock)) := by
    have ho := own_turn HO0.out fun k _ hk => (hB2.block k (Nat.lt_trans hk hs1)).trans (HA1.out.block k hk)
    rw [← HN.out] at ho
    refine (delete_own 0 v n r (eCells ents) W2 ho (by rw [HN.out]; exact hrl) (eCells_one ents)).mono ?_
    rintro e w' ⟨v', rfl, g1, g2, g3⟩
    obtain ⟨a', c', rfl⟩ := own_form g1
    have hblk : w'.heap[tb]? = w1.heap[tb]? := (g2.block tb (by omega) (fun e => (HV.out tb e.symm).2 rfl)).trans (hB2.block tb hlt1)
    exact ⟨a', c', rfl, (World.cell?_of_block (a := ⟨tb, 0, none⟩) hblk).trans ct, (World.frozen?_of_block (a := ⟨tb, 0, none⟩) hblk).trans cf, g1, g2, g3⟩
  rw [hW2] at HI
  have HEnd : Hid (∀ (w2 w3 : World) (a' : Option Addr) (c' : Nat), Hid (w2.ownsRow 0 46 2 (.slice a' (n - 1) c') (n - 1) (cutOut (eCells ents) (r * 2) 2) ∧ ((w1.alloc (.cells #[.int .i64 r] 3)).drew).grownBy w2 v.ownBlock ∧ (Value.slice a' (n - 1) c').ownBlock = v.ownBlock) →
      (∀ k, k < 6 → (w2.setCell ⟨tb, 0, none⟩ (.slice a' (n - 1) c')).cell? ⟨tb, 1 + k, none⟩ = some (.slice none 0 0)) ∧ (Below (w2.setCell ⟨tb, 0, none⟩ (.slice a' (n - 1) c')).heap.size (w2.setCell ⟨tb, 0, none⟩ (.slice a' (n - 1) c')) w3 → Turns w w3 F ∧ TabAt w3 (grow F w w3) tb (cutOut ents (ahead ents p) 1))) := by
    intro w2 w3 a' c' hF
    obtain ⟨g1, g2, g3⟩ := hF.out
    rw [← hW2] at g2
    have hblk : w2.heap[tb]? = w.heap[tb]? := ((g2.block tb (by omega) (fun e => (HV.out tb e.symm).2 rfl)).trans (hB2.block tb hlt1)).trans (HA1.out.block tb hlt)
    have hset : (w2.setCell ⟨tb, 0, none⟩ (.slice a' (n - 1) c')).heap[tb]? = some (.cells #[.slice a' (n - 1) c', .slice none 0 0, .slice none 0 0, .slice none 0 0, .slice none 0 0, .slice none 0 0, .slice none 0 0] 204 (0, 0)) := setCell_block _ (hblk.trans HB0.out)
    have hnt : ∀ k, (Value.slice a' (n - 1) c').ownBlock = some k → F k ∧ k ≠ tb := fun k hk => by
      rw [g3] at hk; exact HV.out k hk
    have hT : Turns w (w2.setCell ⟨tb, 0, none⟩ (.slice a' (n - 1) c')) F := by
      refine Turns.set ?_ tb 0 _ (fun _ => HT.out.imm)
      have t1 : Turns w W2 F := Turns.ofBelow F (HA1.out.trans (hB2.mono (Nat.le_of_lt hs1)))
      exact t1.trans' (Turns.ofGrown g2 fun k hk _ => (HV.out k hk).1)
    refine ⟨fun k hk => ?_, fun hb => ?_⟩
    · rw [cell_row hset]
      have : k = 0 ∨ k = 1 ∨ k = 2 ∨ k = 3 ∨ k = 4 ∨ k = 5 := by omega
      rcases this with rfl | rfl | rfl | rfl | rfl | rfl <;> rfl
    · have hT3 : Turns w w3 F := hT.trans' (Turns.ofBelow F hb)
      refine ⟨hT3, Or.inl HT.out.imm, _, (hb.block tb (by simp [World.setCell]; have := g2.size; omega)).trans hset, ?_, fun k hk => ⟨Or.inl (hnt k hk).1, (hnt k hk).2⟩⟩
      have hl : (cutOut ents (ahead ents p) 1).length = n - 1 := by rw [HR.out, HN.out]; simp [cutOut]; omega
      rw [hl, HR.out, ← eCells_cutOut _ _ hrl]
      have g4 : (w2.setCell ⟨tb, 0, none⟩ (.slice a' (n - 1) c')).ownsRow 0 46 2 (.slice a' (n - 1) c') (n - 1) (cutOut (eCells ents) (r * 2) 2) := own_turn g1 fun k hk _ => Below.heap_setCell _ _ _ _ (hnt k hk).2
      exact own_turn g4 fun k _ hkl => hb.block k hkl
  have hwr : IntKind.i64.wrap ((r : Int) + 1) = (r : Int) + 1 := by rw [IntKind.wrap_i64]; omega
  go_wp2_with fail
  go_region_with (go_at_call 191; refine HI.out.mono ?_; rintro e w2 ⟨a', c', rfl, ct2, cf2, HF⟩)
  all_goals (have HE := fun w3 => HEnd.out w2 w3 a' c' HF)
  all_goals (have HE2 : Hid _ := HE; clear HE)
  all_goals (have hmf : ∀ (fn : Fn) (first cap : Array Value) (w : World), (Instr.makeFunc fn first cap).run Tryz.prog w = .ok (.func fn first cap) w := fun _ _ _ _ => rfl)
  all_goals go_wp2_with (go_at_call 124; refine (each_none tb _ _ (HE2.out default).1).mono ?_; rintro e w3 ⟨rfl, hb3⟩)
  all_goals go_end0
  all_goals exact ⟨rfl, (HE2.out _).2 hb3⟩

set_option maxHeartbeats 800000 in
theorem empty_tab (tb : Nat) (a : Option Addr) (n c : Nat) (w : World) (hc : w.cell? ⟨tb, 0, none⟩ = some (.slice a n c)) :
    Calls Tryz.prog 123 #[.pointer (some ⟨tb, 0, none⟩)] w fun e w' => e = .returned (.bool ((n : Int) == 0)) ∧ w' = w := by
  go_enter Tryz.func123, Tryz.ntmps123
  go_wp2
  go_ret
  exact ⟨rfl, rfl⟩

set_option maxHeartbeats 800000 in
theorem forget_none (tb : Nat) (p l : Int) (w : World) (hb : tb < w.heap.size) (hc : ∀ k, k < 6 → w.cell? ⟨tb, 1 + k, none⟩ = some (.slice none 0 0)) :
    Calls Tryz.prog 62 #[.pointer (some ⟨tb, 0, none⟩), .agg #[.int .i64 p, .int .i64 l]] w fun e w' => e = .returned (.tuple #[]) ∧ Below w.heap.size w w' := by
  have hA : Hid (Below w.heap.size w (w.alloc (.cells #[.int .i64 p, .int .i64 l] 46))) := (Below.refl _ _).alloc (Nat.le_refl _) _
  have HC : Hid (∀ k, k < 6 → (w.alloc (.cells #[.int .i64 p, .int .i64 l] 46)).cell? ⟨tb, 1 + k, none⟩ = some (.slice none 0 0)) := fun k hk => (hA.out.cell (p := ⟨tb, _, none⟩) hb).trans (hc k hk)
  clear hc
  have hmf : ∀ (fn : Fn) (first cap : Array Value) (w : World), (Instr.makeFunc fn first cap).run Tryz.prog w = .ok (.func fn first cap) w := fun _ _ _ _ => rfl
  go_enter Tryz.func62, Tryz.ntmps62
  go_wp2_with (go_at_call 124; refine (each_none tb _ _ HC.out).mono ?_; rintro e w3 ⟨rfl, hb3⟩)
  go_end0
  exact ⟨rfl, hA.out.trans (hb3.mono (by simp))⟩

set_option maxHeartbeats 800000 in
theorem has_zero (k : Nat) (w : World) (hk : k < 6) : Calls Tryz.prog 66 #[.int .u64 0, .int .i64 k] w fun e w' => e = .returned (.bool false) ∧ w' = w := by
  have : k = 0 ∨ k = 1 ∨ k = 2 ∨ k = 3 ∨ k = 4 ∨ k = 5 := by omega
  rcases this with rfl | rfl | rfl | rfl | rfl | rfl
  all_goals (go_enter Tryz.func66, Tryz.ntmps66)
  all_goals go_wp2
  all_goals go_ret
  all_goals exact ⟨rfl, rfl⟩

end Go.Proofs.YthkbeaffkcfgiabGreatDoor
