import Derived.Test.YthkbeaffkcfgiabGreatDoorLayout
import Derived.Test.YthkbeaffkcfgiabGreatDoorDespawn
import Derived.Defers
import Derived.Recover
namespace Go.Proofs.YthkbeaffkcfgiabGreatDoor
open Go.RowKit

theorem catch_idle (p q : Value) (w : World) :
    CallsD Tryz.prog 126 #[p, q] .returning w fun e u' w' => e = .returned (.tuple #[]) ∧ u' = .returning ∧ w' = w := by
  refine callsD_of_wpS Tryz.func126 rfl fun c₀ cs hu => ?_
  apply wpS_seq
  apply wpS_region
  simp [wpOpsS, go_sem, recoverD, hu, Tryz.ntmps126, Exit.thenS]
  apply wpS_seq
  refine wpS_of_wp ?_
  go_wp2
  simp only [Exit.thenS]
  refine wpS_cond (t := false) (by simp [Act.eval]) ?_
  simp only [Bool.false_eq_true, if_false]
  refine wpS_of_wp (wp_skip ?_)
  cases c₀
  simp_all [bodyPostS, results, Tryz.results126]

set_option maxHeartbeats 800000 in
set_option maxRecDepth 20000 in
theorem catch_wrong (b1 b2 : Nat) (v0 : Option Addr) (n0 c0 : Nat) (b0 : Bool) (w : World) (hp : w.cell? ⟨b1, 0, none⟩ = some (.slice v0 n0 c0)) (hq : w.cell? ⟨b2, 0, none⟩ = some (.bool b0)) (fp : w.frozen? ⟨b1, 0, none⟩ = false) (fq : w.frozen? ⟨b2, 0, none⟩ = false) (hpq : b1 < b2) (hqs : b2 < w.heap.size) :
    CallsD Tryz.prog 126 #[.pointer (some ⟨b1, 0, none⟩), .pointer (some ⟨b2, 0, none⟩)] (.panicking wrong) w fun e u' w' => e = .returned (.tuple #[]) ∧ u' = .panicking [{ v := .iface 197 (.agg #[]), recovered := true }] ∧ w' = ((w.alloc (.cells #[] 197)).setCell ⟨b1, 0, none⟩ (.slice none 0 0)).setCell ⟨b2, 0, none⟩ (.bool false) := by
  unfold wrong
  have hta : ∀ W : World, Sem.run Tryz.prog (Instr.typeAssert (.iface 197 (.agg #[])) 20 197 true) W = .ok (.tuple #[.agg #[], .bool true]) W := fun _ => by kernel_rfl
  have hp2 : (w.alloc (.cells #[] 197)).cell? ⟨b1, 0, none⟩ = some (.slice v0 n0 c0) := (World.cell?_alloc_lt _ _ _ (by simp; omega)).trans hp
  have hq2 : (w.alloc (.cells #[] 197)).cell? ⟨b2, 0, none⟩ = some (.bool b0) := (World.cell?_alloc_lt _ _ _ hqs).trans hq
  have fp2 : (w.alloc (.cells #[] 197)).frozen? ⟨b1, 0, none⟩ = false := (World.frozen?_of_block (a := ⟨b1, 0, none⟩) (Below.heap_alloc w _ b1 (by omega))).trans fp
  have fq2 : (w.alloc (.cells #[] 197)).frozen? ⟨b2, 0, none⟩ = false := (World.frozen?_of_block (a := ⟨b2, 0, none⟩) (Below.heap_alloc w _ b2 (by omega))).trans fq
  have hne : ¬ b1 = b2 := by omega
  have hne2 : ¬ b2 = b1 := by omega
  refine callsD_of_wpS Tryz.func126 rfl fun c₀ cs hu => ?_
  apply wpS_seq
  apply wpS_region
  simp [wpOpsS, go_sem, recoverD, hu, Tryz.ntmps126, Exit.thenS]
  apply wpS_seq
  refine wpS_of_wp ?_
  go_wp2
  simp only [Exit.thenS]
  refine wpS_cond (t := true) (by simp [Act.eval]) ?_
  simp only [if_true]
  refine wpS_of_wp ?_
  go_wp2
  simp [bodyPostS, results, Tryz.results126]

set_option maxHeartbeats 1600000 in
theorem read_any (text : List UInt8) (m : Int) (w : World) (hsz : text.length ≤ 1000000000) (hm : w.cell? ⟨3, 0, none⟩ = some (.int .i64 m)) :
    Calls Tryz.prog 64 #[.string (mk text)] w fun e w' => ((∃ cs, schemaL text = some cs ∧ ∃ sa n c, e = .returned (.tuple #[.slice sa n c, .bool true]) ∧ LaidAt w w' sa n c) ∨ (schemaL text = none ∧ e = .returned (.tuple #[.slice none 0 0, .bool false]))) ∧ Below w.heap.size w w' := by
  have h0 : 3 < w.heap.size := World.block_lt_of_cell? w ⟨3, 0, none⟩ hm
  have HM : Hid (∀ o1 o2 : Obj, ((w.alloc o1).alloc o2).cell? ⟨3, 0, none⟩ = some (.int .i64 m)) := fun o1 o2 => ((below_two w o1 o2).cell (p := ⟨3, 0, none⟩) h0).trans hm
  clear hm
  have hmf : ∀ (fn : Fn) (first cap : Array Value) (w : World), (Instr.makeFunc fn first cap).run Tryz.prog w = .ok (.func fn first cap) w := fun _ _ _ _ => rfl
  go_enter_defers Tryz.func64, Tryz.ntmps64
  go_wp2_with fail
  refine (readLayout_any text m _ hsz (HM.out _ _)).mono ?_
  rintro e w1 ⟨hends, hb⟩
  have HB : Hid (Below w.heap.size w w1) := (below_two _ _ _).trans (hb.mono (by simp; omega))
  have c0 : w1.cell? ⟨w.heap.size, 0, none⟩ = some (.slice none 0 0) := by rw [hb.cell (p := ⟨w.heap.size, 0, none⟩) (by simp; omega), World.cell?_alloc_lt _ _ _ (by simp)]; simp
  have c1 : w1.cell? ⟨w.heap.size + 1, 0, none⟩ = some (.bool false) := by
    rw [hb.cell (p := ⟨w.heap.size + 1, 0, none⟩) (by simp)]
    have := World.cell?_alloc_new (w.alloc (.cells #[.slice none 0 0] 103)) #[.bool false] 4 0
    rw [World.size_alloc] at this
    rw [this]; rfl
  have f0 : w1.frozen? ⟨w.heap.size, 0, none⟩ = false := by rw [hb.frozen (p := ⟨w.heap.size, 0, none⟩) (by simp; omega)]; simp
  have f1 : w1.frozen? ⟨w.heap.size + 1, 0, none⟩ = false := by rw [hb.frozen (p := ⟨w.heap.size + 1, 0, none⟩) (by simp)]; simp
  have hs1 : w.heap.size + 1 < w1.heap.size := by have := hb.size; simp at this; omega
  clear hb
  rcases hends with ⟨cs, hcs, sa, sn, sc, rfl, hld⟩ | ⟨hcs, rfl⟩
  · have HS : Hid (schemaL text = some cs) := hcs
    have HLd : Hid (∀ u0 u1, LaidAt w ((w1.setCell ⟨w.heap.size, 0, none⟩ u0).setCell ⟨w.heap.size + 1, 0, none⟩ u1) sa sn sc) := fun u0 u1 => by
      obtain ⟨g, q1, q2, q3, q4⟩ := hld
      simp at q2
      exact ⟨g, q1, by omega, q3, q4.turn (by simp [World.setCell]) (by rw [Below.heap_setCell _ _ _ _ (by show g ≠ w.heap.size + 1; omega), Below.heap_setCell _ _ _ _ (by show g ≠ w.heap.size; omega)])⟩
    clear hcs hld
    go_wp2
    refine leaves_cons (f := 126) (args := #[.pointer (some ⟨w.heap.size, 0, none⟩), .pointer (some ⟨w.heap.size + 1, 0, none⟩)]) (by simp) (by simp [go_sem]) ?_
    refine (catch_idle _ _ _).mono ?_
    rintro e u' w'' ⟨rfl, rfl, rfl⟩
    simp only [Leaves, settle]
    refine ⟨.tuple #[.slice sa sn sc, .bool true], by simp [results, Tryz.results64, go_sem, c0, c1], Or.inl ⟨cs, HS.out, sa, sn, sc, rfl, HLd.out _ _⟩, (HB.out.setCell (by simp) _).setCell (by simp) _⟩
  · have HS : Hid (schemaL text = none) := hcs
    clear hcs
    go_wp2_with fail
    refine leaves_cons (f := 126) (args := #[.pointer (some ⟨w.heap.size, 0, none⟩), .pointer (some ⟨w.heap.size + 1, 0, none⟩)]) (by simp) (by simp [go_sem]) ?_
    refine (catch_wrong w.heap.size (w.heap.size + 1) none 0 0 false w1 c0 c1 f0 f1 (by omega) hs1).mono ?_
    rintro e u' w'' ⟨rfl, rfl, rfl⟩
    simp only [Leaves, settle, List.dropWhile_nil]
    have hl : w.heap.size < w1.heap.size := by omega
    have t0 : (((w1.alloc (.cells #[] 197)).setCell ⟨w.heap.size, 0, none⟩ (.slice none 0 0)).setCell ⟨w.heap.size + 1, 0, none⟩ (.bool false)).cell? ⟨w.heap.size, 0, none⟩ = some (.slice none 0 0) := by
      rw [set_other _ (by omega), set_same (u := .slice none 0 0) _ (by rw [World.cell?_alloc_lt _ _ _ hl]; exact c0)]
    have t1 : (((w1.alloc (.cells #[] 197)).setCell ⟨w.heap.size, 0, none⟩ (.slice none 0 0)).setCell ⟨w.heap.size + 1, 0, none⟩ (.bool false)).cell? ⟨w.heap.size + 1, 0, none⟩ = some (.bool false) := by
      rw [set_same (u := .bool false) _ (by rw [set_other _ (by omega), World.cell?_alloc_lt _ _ _ hs1]; exact c1)]
    refine ⟨.tuple #[.slice none 0 0, .bool false], by simp [results, Tryz.results64, go_sem, t0, t1], Or.inr ⟨HS.out, rfl⟩, ((HB.out.alloc HB.out.size _).setCell (by simp) _).setCell (by simp) _⟩

/-- How New ends. -/
def NewDone (w : World) (text : List UInt8) (e : Ending) (w' : World) : Prop :=
  (∃ cs, schemaL text = some cs ∧ ∃ b nl, e = .returned (.tuple #[.pointer (some ⟨b, 0, none⟩), .int .i64 0]) ∧ w.heap.size ≤ b ∧ b < w'.heap.size ∧ ProgAt w' (fun k => k = b) (fun k => w.heap.size ≤ k ∧ k < w'.heap.size ∧ k ≠ b) b nl (fun _ => 0) (fun _ => false)) ∨ (schemaL text = none ∧ e = .returned (.tuple #[.pointer none, .int .i64 1]))

set_option maxHeartbeats 1600000 in
theorem new_any (text : List UInt8) (m : Int) (w : World) (hsz : text.length ≤ 1000000000) (hm : w.cell? ⟨3, 0, none⟩ = some (.int .i64 m)) :
    Calls Tryz.prog 34 #[.string (mk text)] w fun e w' => NewDone w text e w' ∧ Below w.heap.size w w' := by
  have HR : Hid _ := read_any text m w hsz hm
  clear hm
  go_enter Tryz.func34, Tryz.ntmps34
  go_wp2_with fail
  refine Calls.mono HR.out ?_
  rintro e w1 ⟨hends, hb⟩
  have HB : Hid (Below w.heap.size w w1) := hb
  clear hb
  rcases hends with ⟨cs, hcs, sa, sn, sc, rfl, hld⟩ | ⟨hcs, rfl⟩
  · have HS : Hid (schemaL text = some cs) := hcs
    have HLd : Hid (LaidAt w w1 sa sn sc) := hld
    clear hcs hld
    go_wp2
    go_ret2
    obtain ⟨g, rfl, q2, q3, q4⟩ := HLd.out
    have hg1 := q4.1
    refine ⟨Or.inl ⟨cs, HS.out, w1.heap.size, sn, rfl, HB.out.size, by simp, rfl, ⟨_, _root_.Go.heap_alloc_new _ _, rfl⟩, ⟨fun _ => 0, ⟨by simp, fun i hi => ?_⟩, fun _ _ h => by cases h⟩, ⟨g, sc, by rw [cell_row (_root_.Go.heap_alloc_new _ _)]; rfl, q3, q4.turn (by simp) (Below.heap_alloc _ _ _ hg1), q2, by simp; omega, by omega⟩, Or.inl ⟨by rw [cell_row (_root_.Go.heap_alloc_new _ _)]; rfl, rfl⟩⟩, HB.out.alloc HB.out.size _⟩
    have hi' : i = 0 ∨ i = 1 ∨ i = 2 ∨ i = 3 ∨ i = 4 ∨ i = 5 ∨ i = 6 ∨ i = 7 ∨ i = 8 ∨ i = 9 ∨ i = 10 ∨ i = 11 ∨ i = 12 ∨ i = 13 ∨ i = 14 ∨ i = 15 ∨ i = 16 ∨ i = 17 ∨ i = 18 ∨ i = 19 := by omega
    rcases hi' with rfl | rfl | rfl | rfl | rfl | rfl | rfl | rfl | rfl | rfl | rfl | rfl | rfl | rfl | rfl | rfl | rfl | rfl | rfl | rfl <;> simp
  · have HS : Hid (schemaL text = none) := hcs
    clear hcs
    go_wp2
    go_ret2
    exact ⟨Or.inr ⟨HS.out, rfl⟩, HB.out⟩

end Go.Proofs.YthkbeaffkcfgiabGreatDoor
