import Derived.Laws.Rows
import Derived.Test.YthkbeaffkcfgiabGreatDoorK07
import Derived.Test.YthkbeaffkcfgiabGreatDoorK18
import Derived.Test.YthkbeaffkcfgiabGreatDoorK08
import Derived.Test.YthkbeaffkcfgiabGreatDoorK14
import Derived.Test.YthkbeaffkcfgiabGreatDoorK02
import Derived.Test.YthkbeaffkcfgiabGreatDoorK04
set_option linter.unusedSimpArgs false
set_option linter.unusedVariables false
namespace Go.Proofs.YthkbeaffkcfgiabGreatDoor
open Go.RowKit

set_option maxHeartbeats 1600000 in
/-- A column's Insert. -/
theorem insert_colI {F : Nat → Prop} (cb ct n r : Nat) (xs : List Value) (w : World) (hC : ColAt w F cb ct 3 1 n xs) (hr : r ≤ n) (hn : n ≤ 100) (hx1 : ∀ u ∈ xs, u.oneCell' = true) :
    Calls Tryz.prog 362 #[.pointer (some ⟨cb, 0, none⟩), .int .i64 r] w fun e w' => e = .returned (.tuple #[]) ∧ Turns w w' F ∧ ColAt w' (grow F w w') cb ct 3 1 (n + 1) (setIn xs r [.int .i64 0]) := by
  obtain ⟨h1, v, h2, h3, h4⟩ := hC
  have hc : cb < w.heap.size := (Array.getElem?_eq_some_iff.1 h2).1
  have c0 : w.cell? ⟨cb, 0, none⟩ = some v := by rw [cell_row h2]; rfl
  have H1 : Hid (F cb) := h1
  have H2 : Hid (w.heap[cb]? = some (.cells #[v] ct (0, 0))) := h2
  have H3 : Hid (w.ownsRow 0 3 1 v n xs) := h3
  have H4 : Hid (∀ k, v.ownBlock = some k → F k ∧ k ≠ cb) := h4
  have hne : cb ≠ w.heap.size := by omega
  obtain ⟨W1, hW1⟩ : ∃ W1, W1 = w.alloc (.cells #[.int .i64 0] 3) := ⟨_, rfl⟩
  have HI : Hid (Calls Tryz.prog 365 #[v, .int .i64 r, .slice (some ⟨w.heap.size, 0, none⟩) 1 1] W1 fun e w' => ∃ a' c', e = .returned (.slice a' (n + 1) c') ∧ w'.cell? ⟨cb, 0, none⟩ = some v ∧ w'.frozen? ⟨cb, 0, none⟩ = false ∧
      Hid (w'.ownsRow 0 3 1 (.slice a' (n + 1) c') (n + 1) (setIn xs r [.int .i64 0]) ∧ W1.grownBy w' v.ownBlock ∧ ((Value.slice a' (n + 1) c').ownBlock = v.ownBlock ∨ ∃ g, (Value.slice a' (n + 1) c').ownBlock = some g ∧ W1.heap.size ≤ g))) := by
    have hb1 : Below w.heap.size w W1 := by rw [hW1]; exact (Below.refl _ _).alloc (Nat.le_refl _) _
    have ho : W1.ownsRow 0 3 1 v n xs := own_turn h3 fun k _ hk => hb1.block k hk
    refine (insert_ownI 0 v n r xs w.heap.size (.int .i64 0) rfl W1 ho hr (by omega) (Nat.zero_le _) hx1 (fun e => by have := (h3.lt _ e).2; omega) (by rw [hW1]; exact heap_alloc_at rfl _)).mono ?_
    rintro e w' ⟨v', rfl, g1, g2, g3⟩
    obtain ⟨a', c', rfl⟩ := own_form g1
    have hblk : w'.heap[cb]? = w.heap[cb]? := (g2.block cb (by rw [hW1]; simp; omega) (fun e => (h4 cb e.symm).2 rfl)).trans (hb1.block cb hc)
    exact ⟨a', c', rfl, (World.cell?_of_block (a := ⟨cb, 0, none⟩) hblk).trans c0, (World.frozen?_of_block (a := ⟨cb, 0, none⟩) hblk).trans (frozen_row h2 0), g1, g2, g3⟩
  rw [hW1] at HI
  clear h1 h2 h3 h4 hx1
  go_enter Tryz.func362, Tryz.ntmps362
  go_wp2_with (go_at_call 365; refine HI.out.mono ?_; rintro e w2 ⟨a', c', rfl, d0, f0, HF⟩)
  go_end0
  rw [← hW1] at HF
  obtain ⟨g1, g2, g3⟩ := HF.out
  exact ⟨rfl, col_done H1.out H2.out H3.out H4.out (by rw [hW1]; exact (Below.refl _ _).alloc (Nat.le_refl _) _) g1 g2 g3⟩

end Go.Proofs.YthkbeaffkcfgiabGreatDoor

namespace Go.Proofs.YthkbeaffkcfgiabGreatDoor
open Go.RowKit

set_option maxHeartbeats 1600000 in
/-- A column's Insert. -/
theorem insert_colL {F : Nat → Prop} (cb ct n r : Nat) (xs : List Value) (w : World) (hC : ColAt w F cb ct 54 1 n xs) (hr : r ≤ n) (hn : n ≤ 100) (hx1 : ∀ u ∈ xs, u.oneCell' = true) :
    Calls Tryz.prog 400 #[.pointer (some ⟨cb, 0, none⟩), .int .i64 r] w fun e w' => e = .returned (.tuple #[]) ∧ Turns w w' F ∧ ColAt w' (grow F w w') cb ct 54 1 (n + 1) (setIn xs r [.slice none 0 0]) := by
  obtain ⟨h1, v, h2, h3, h4⟩ := hC
  have hc : cb < w.heap.size := (Array.getElem?_eq_some_iff.1 h2).1
  have c0 : w.cell? ⟨cb, 0, none⟩ = some v := by rw [cell_row h2]; rfl
  have H1 : Hid (F cb) := h1
  have H2 : Hid (w.heap[cb]? = some (.cells #[v] ct (0, 0))) := h2
  have H3 : Hid (w.ownsRow 0 54 1 v n xs) := h3
  have H4 : Hid (∀ k, v.ownBlock = some k → F k ∧ k ≠ cb) := h4
  have hne : cb ≠ w.heap.size := by omega
  obtain ⟨W1, hW1⟩ : ∃ W1, W1 = w.alloc (.cells #[.slice none 0 0] 54) := ⟨_, rfl⟩
  have HI : Hid (Calls Tryz.prog 404 #[v, .int .i64 r, .slice (some ⟨w.heap.size, 0, none⟩) 1 1] W1 fun e w' => ∃ a' c', e = .returned (.slice a' (n + 1) c') ∧ w'.cell? ⟨cb, 0, none⟩ = some v ∧ w'.frozen? ⟨cb, 0, none⟩ = false ∧
      Hid (w'.ownsRow 0 54 1 (.slice a' (n + 1) c') (n + 1) (setIn xs r [.slice none 0 0]) ∧ W1.grownBy w' v.ownBlock ∧ ((Value.slice a' (n + 1) c').ownBlock = v.ownBlock ∨ ∃ g, (Value.slice a' (n + 1) c').ownBlock = some g ∧ W1.heap.size ≤ g))) := by
    have hb1 : Below w.heap.size w W1 := by rw [hW1]; exact (Below.refl _ _).alloc (Nat.le_refl _) _
    have ho : W1.ownsRow 0 54 1 v n xs := own_turn h3 fun k _ hk => hb1.block k hk
    refine (insert_ownL 0 v n r xs w.heap.size (.slice none 0 0) rfl W1 ho hr (by omega) (Nat.zero_le _) hx1 (fun e => by have := (h3.lt _ e).2; omega) (by rw [hW1]; exact heap_alloc_at rfl _)).mono ?_
    rintro e w' ⟨v', rfl, g1, g2, g3⟩
    obtain ⟨a', c', rfl⟩ := own_form g1
    have hblk : w'.heap[cb]? = w.heap[cb]? := (g2.block cb (by rw [hW1]; simp; omega) (fun e => (h4 cb e.symm).2 rfl)).trans (hb1.block cb hc)
    exact ⟨a', c', rfl, (World.cell?_of_block (a := ⟨cb, 0, none⟩) hblk).trans c0, (World.frozen?_of_block (a := ⟨cb, 0, none⟩) hblk).trans (frozen_row h2 0), g1, g2, g3⟩
  rw [hW1] at HI
  clear h1 h2 h3 h4 hx1
  go_enter Tryz.func400, Tryz.ntmps400
  go_wp2_with (go_at_call 404; refine HI.out.mono ?_; rintro e w2 ⟨a', c', rfl, d0, f0, HF⟩)
  go_end0
  rw [← hW1] at HF
  obtain ⟨g1, g2, g3⟩ := HF.out
  exact ⟨rfl, col_done H1.out H2.out H3.out H4.out (by rw [hW1]; exact (Below.refl _ _).alloc (Nat.le_refl _) _) g1 g2 g3⟩

end Go.Proofs.YthkbeaffkcfgiabGreatDoor

namespace Go.Proofs.YthkbeaffkcfgiabGreatDoor
open Go.RowKit

set_option maxHeartbeats 1600000 in
/-- A column's Insert. -/
theorem insert_colS {F : Nat → Prop} (cb ct n r : Nat) (xs : List Value) (w : World) (hC : ColAt w F cb ct 9 1 n xs) (hr : r ≤ n) (hn : n ≤ 100) (hx1 : ∀ u ∈ xs, u.oneCell' = true) :
    Calls Tryz.prog 384 #[.pointer (some ⟨cb, 0, none⟩), .int .i64 r] w fun e w' => e = .returned (.tuple #[]) ∧ Turns w w' F ∧ ColAt w' (grow F w w') cb ct 9 1 (n + 1) (setIn xs r [.string ⟨#[]⟩]) := by
  obtain ⟨h1, v, h2, h3, h4⟩ := hC
  have hc : cb < w.heap.size := (Array.getElem?_eq_some_iff.1 h2).1
  have c0 : w.cell? ⟨cb, 0, none⟩ = some v := by rw [cell_row h2]; rfl
  have H1 : Hid (F cb) := h1
  have H2 : Hid (w.heap[cb]? = some (.cells #[v] ct (0, 0))) := h2
  have H3 : Hid (w.ownsRow 0 9 1 v n xs) := h3
  have H4 : Hid (∀ k, v.ownBlock = some k → F k ∧ k ≠ cb) := h4
  have hne : cb ≠ w.heap.size := by omega
  obtain ⟨W1, hW1⟩ : ∃ W1, W1 = w.alloc (.cells #[.string ⟨#[]⟩] 9) := ⟨_, rfl⟩
  have HI : Hid (Calls Tryz.prog 387 #[v, .int .i64 r, .slice (some ⟨w.heap.size, 0, none⟩) 1 1] W1 fun e w' => ∃ a' c', e = .returned (.slice a' (n + 1) c') ∧ w'.cell? ⟨cb, 0, none⟩ = some v ∧ w'.frozen? ⟨cb, 0, none⟩ = false ∧
      Hid (w'.ownsRow 0 9 1 (.slice a' (n + 1) c') (n + 1) (setIn xs r [.string ⟨#[]⟩]) ∧ W1.grownBy w' v.ownBlock ∧ ((Value.slice a' (n + 1) c').ownBlock = v.ownBlock ∨ ∃ g, (Value.slice a' (n + 1) c').ownBlock = some g ∧ W1.heap.size ≤ g))) := by
    have hb1 : Below w.heap.size w W1 := by rw [hW1]; exact (Below.refl _ _).alloc (Nat.le_refl _) _
    have ho : W1.ownsRow 0 9 1 v n xs := own_turn h3 fun k _ hk => hb1.block k hk
    refine (insert_ownS 0 v n r xs w.heap.size (.string ⟨#[]⟩) rfl W1 ho hr (by omega) (Nat.zero_le _) hx1 (fun e => by have := (h3.lt _ e).2; omega) (by rw [hW1]; exact heap_alloc_at rfl _)).mono ?_
    rintro e w' ⟨v', rfl, g1, g2, g3⟩
    obtain ⟨a', c', rfl⟩ := own_form g1
    have hblk : w'.heap[cb]? = w.heap[cb]? := (g2.block cb (by rw [hW1]; simp; omega) (fun e => (h4 cb e.symm).2 rfl)).trans (hb1.block cb hc)
    exact ⟨a', c', rfl, (World.cell?_of_block (a := ⟨cb, 0, none⟩) hblk).trans c0, (World.frozen?_of_block (a := ⟨cb, 0, none⟩) hblk).trans (frozen_row h2 0), g1, g2, g3⟩
  rw [hW1] at HI
  clear h1 h2 h3 h4 hx1
  go_enter Tryz.func384, Tryz.ntmps384
  go_wp2_with (go_at_call 387; refine HI.out.mono ?_; rintro e w2 ⟨a', c', rfl, d0, f0, HF⟩)
  go_end0
  rw [← hW1] at HF
  obtain ⟨g1, g2, g3⟩ := HF.out
  exact ⟨rfl, col_done H1.out H2.out H3.out H4.out (by rw [hW1]; exact (Below.refl _ _).alloc (Nat.le_refl _) _) g1 g2 g3⟩

end Go.Proofs.YthkbeaffkcfgiabGreatDoor

namespace Go.Proofs.YthkbeaffkcfgiabGreatDoor
open Go.RowKit

/-- The cells of a kind's first value. -/
def kZero (k : Nat) : List Value := if k = 1 then [.int .i64 0] else if k = 2 then [.bool false] else if k = 3 then [.string ⟨#[]⟩] else if k = 4 then hNews 0 0 else [.slice none 0 0]

/-- THE OPERATION 'r.name(x)' THROUGH AN INTERFACE, WHERE WHAT IS CALLED IS KNOWN. -/
theorem wpList_invoke {P : Program} {w : World} {ops : Array Oper} {rest : List Oper} {o : Oper} {a : Act} {Q : Exit → Act → World → Prop} (hgd : o.guard = none) (r x : Operand) (name : String) (t : TypeId)
    (ho : o.op = .call { callee := .invoke r name, args := #[x], argTypes := #[t] }) (v u : Value) (hr : a.eval r = v) (hx : a.eval x = u) (f : FuncId) (args : Array Value) (hm : (callMethod v name #[u]).run P w = .ok (.enter f args) w)
    (h : Calls P f args w fun e w' => ∃ v', e = .returned v' ∧ wpList P ops Q rest (a.put o.dst v') w') : wpList P ops Q (o :: rest) a w :=
  wpList_plain hgd fun K hK => by
    unfold Oper.wp
    have e : (execOp a.eval o).run P w = .ok (.enter f args) w := by
      simp only [execOp, ho, resolve, invoke, Sem.run_bind, Sem.run_pure, Result.andThen_ok, List.map_toArray, List.map_cons, List.map_nil, hr, hx]
      exact hm
    rw [e, Oper.upon_enter]
    refine h.mono ?_
    rintro e w' ⟨v', rfl, hk⟩
    exact hK _ _ hk

theorem callIns1 (cb : Nat) (u : Value) (w : World) : (callMethod (colVal 1 cb) "Insert" #[u]).run Tryz.prog w = .ok (.enter 362 #[.pointer (some ⟨cb, 0, none⟩), u]) w := by kernel_rfl
theorem callIns2 (cb : Nat) (u : Value) (w : World) : (callMethod (colVal 2 cb) "Insert" #[u]).run Tryz.prog w = .ok (.enter 373 #[.pointer (some ⟨cb, 0, none⟩), u]) w := by kernel_rfl
theorem callIns3 (cb : Nat) (u : Value) (w : World) : (callMethod (colVal 3 cb) "Insert" #[u]).run Tryz.prog w = .ok (.enter 384 #[.pointer (some ⟨cb, 0, none⟩), u]) w := by kernel_rfl
theorem callIns4 (cb : Nat) (u : Value) (w : World) : (callMethod (colVal 4 cb) "Insert" #[u]).run Tryz.prog w = .ok (.enter 395 #[.pointer (some ⟨cb, 0, none⟩), u]) w := by kernel_rfl
theorem callIns5 (cb : Nat) (u : Value) (w : World) : (callMethod (colVal 5 cb) "Insert" #[u]).run Tryz.prog w = .ok (.enter 400 #[.pointer (some ⟨cb, 0, none⟩), u]) w := by kernel_rfl
set_option maxHeartbeats 1600000 in
theorem enter1_1 {F : Nat → Prop} (i j : Value) (cb rb n r : Nat) (xs : List Value) (w : World) (hr : w.cell? ⟨rb, 0, none⟩ = some (.int .i64 r)) (hC : ColAt w F cb (kStr 1) (kElt 1) (kSz 1) n xs) (hrn : r ≤ n) (hn : n ≤ 100) (hx1 : ∀ u ∈ xs, u.oneCell' = true) :
    Calls Tryz.prog 244 #[i, j, colVal 1 cb, .pointer (some ⟨rb, 0, none⟩)] w fun e w' => e = .returned (.tuple #[]) ∧ Turns w w' F ∧ ColAt w' (grow F w w') cb (kStr 1) (kElt 1) (kSz 1) (n + 1) (setIn xs (r * kSz 1) (kZero 1)) := by
  have HI : Hid (Calls Tryz.prog 362 #[.pointer (some ⟨cb, 0, none⟩), .int .i64 r] w fun e w' => e = .returned (.tuple #[]) ∧ Turns w w' F ∧ ColAt w' (grow F w w') cb (kStr 1) (kElt 1) (kSz 1) (n + 1) (setIn xs (r * kSz 1) (kZero 1))) := by
    have e : r * kSz 1 = r := Nat.mul_one r
    rw [e]
    exact insert_colI cb _ n r xs w hC hrn hn hx1
  clear hC
  go_enter Tryz.func244, Tryz.ntmps244
  go_wp2_with (refine wpList_invoke rfl _ _ "Insert" 3 rfl (colVal 1 cb) (.int .i64 r) rfl rfl 362 #[.pointer (some ⟨cb, 0, none⟩), .int .i64 r] (callIns1 cb (.int .i64 r) w) ?_; refine HI.out.mono ?_; rintro e w2 ⟨rfl, hT, hC2⟩; refine ⟨_, rfl, ?_⟩)
  go_end0
  exact ⟨rfl, hT, hC2⟩

set_option maxHeartbeats 1600000 in
theorem enter1_2 {F : Nat → Prop} (i j : Value) (cb rb n r : Nat) (xs : List Value) (w : World) (hr : w.cell? ⟨rb, 0, none⟩ = some (.int .i64 r)) (hC : ColAt w F cb (kStr 2) (kElt 2) (kSz 2) n xs) (hrn : r ≤ n) (hn : n ≤ 100) (hx1 : ∀ u ∈ xs, u.oneCell' = true) :
    Calls Tryz.prog 244 #[i, j, colVal 2 cb, .pointer (some ⟨rb, 0, none⟩)] w fun e w' => e = .returned (.tuple #[]) ∧ Turns w w' F ∧ ColAt w' (grow F w w') cb (kStr 2) (kElt 2) (kSz 2) (n + 1) (setIn xs (r * kSz 2) (kZero 2)) := by
  have HI : Hid (Calls Tryz.prog 373 #[.pointer (some ⟨cb, 0, none⟩), .int .i64 r] w fun e w' => e = .returned (.tuple #[]) ∧ Turns w w' F ∧ ColAt w' (grow F w w') cb (kStr 2) (kElt 2) (kSz 2) (n + 1) (setIn xs (r * kSz 2) (kZero 2))) := by
    have e : r * kSz 2 = r := Nat.mul_one r
    rw [e]
    exact insert_colB cb _ n r xs w hC hrn hn hx1
  clear hC
  go_enter Tryz.func244, Tryz.ntmps244
  go_wp2_with (refine wpList_invoke rfl _ _ "Insert" 3 rfl (colVal 2 cb) (.int .i64 r) rfl rfl 373 #[.pointer (some ⟨cb, 0, none⟩), .int .i64 r] (callIns2 cb (.int .i64 r) w) ?_; refine HI.out.mono ?_; rintro e w2 ⟨rfl, hT, hC2⟩; refine ⟨_, rfl, ?_⟩)
  go_end0
  exact ⟨rfl, hT, hC2⟩

set_option maxHeartbeats 1600000 in
theorem enter1_3 {F : Nat → Prop} (i j : Value) (cb rb n r : Nat) (xs : List Value) (w : World) (hr : w.cell? ⟨rb, 0, none⟩ = some (.int .i64 r)) (hC : ColAt w F cb (kStr 3) (kElt 3) (kSz 3) n xs) (hrn : r ≤ n) (hn : n ≤ 100) (hx1 : ∀ u ∈ xs, u.oneCell' = true) :
    Calls Tryz.prog 244 #[i, j, colVal 3 cb, .pointer (some ⟨rb, 0, none⟩)] w fun e w' => e = .returned (.tuple #[]) ∧ Turns w w' F ∧ ColAt w' (grow F w w') cb (kStr 3) (kElt 3) (kSz 3) (n + 1) (setIn xs (r * kSz 3) (kZero 3)) := by
  have HI : Hid (Calls Tryz.prog 384 #[.pointer (some ⟨cb, 0, none⟩), .int .i64 r] w fun e w' => e = .returned (.tuple #[]) ∧ Turns w w' F ∧ ColAt w' (grow F w w') cb (kStr 3) (kElt 3) (kSz 3) (n + 1) (setIn xs (r * kSz 3) (kZero 3))) := by
    have e : r * kSz 3 = r := Nat.mul_one r
    rw [e]
    exact insert_colS cb _ n r xs w hC hrn hn hx1
  clear hC
  go_enter Tryz.func244, Tryz.ntmps244
  go_wp2_with (refine wpList_invoke rfl _ _ "Insert" 3 rfl (colVal 3 cb) (.int .i64 r) rfl rfl 384 #[.pointer (some ⟨cb, 0, none⟩), .int .i64 r] (callIns3 cb (.int .i64 r) w) ?_; refine HI.out.mono ?_; rintro e w2 ⟨rfl, hT, hC2⟩; refine ⟨_, rfl, ?_⟩)
  go_end0
  exact ⟨rfl, hT, hC2⟩

set_option maxHeartbeats 1600000 in
theorem enter1_4 {F : Nat → Prop} (i j : Value) (cb rb n r : Nat) (xs : List Value) (w : World) (hr : w.cell? ⟨rb, 0, none⟩ = some (.int .i64 r)) (hC : ColAt w F cb (kStr 4) (kElt 4) (kSz 4) n xs) (hrn : r ≤ n) (hn : n ≤ 100) (hx1 : ∀ u ∈ xs, u.oneCell' = true) :
    Calls Tryz.prog 244 #[i, j, colVal 4 cb, .pointer (some ⟨rb, 0, none⟩)] w fun e w' => e = .returned (.tuple #[]) ∧ Turns w w' F ∧ ColAt w' (grow F w w') cb (kStr 4) (kElt 4) (kSz 4) (n + 1) (setIn xs (r * kSz 4) (kZero 4)) := by
  have HI : Hid (Calls Tryz.prog 395 #[.pointer (some ⟨cb, 0, none⟩), .int .i64 r] w fun e w' => e = .returned (.tuple #[]) ∧ Turns w w' F ∧ ColAt w' (grow F w w') cb (kStr 4) (kElt 4) (kSz 4) (n + 1) (setIn xs (r * kSz 4) (kZero 4))) := by
    have e : r * kSz 4 = r * 2 := rfl
    rw [e]
    exact insert_colH cb _ n r xs w hC hrn hn hx1
  clear hC
  go_enter Tryz.func244, Tryz.ntmps244
  go_wp2_with (refine wpList_invoke rfl _ _ "Insert" 3 rfl (colVal 4 cb) (.int .i64 r) rfl rfl 395 #[.pointer (some ⟨cb, 0, none⟩), .int .i64 r] (callIns4 cb (.int .i64 r) w) ?_; refine HI.out.mono ?_; rintro e w2 ⟨rfl, hT, hC2⟩; refine ⟨_, rfl, ?_⟩)
  go_end0
  exact ⟨rfl, hT, hC2⟩

set_option maxHeartbeats 1600000 in
theorem enter1_5 {F : Nat → Prop} (i j : Value) (cb rb n r : Nat) (xs : List Value) (w : World) (hr : w.cell? ⟨rb, 0, none⟩ = some (.int .i64 r)) (hC : ColAt w F cb (kStr 5) (kElt 5) (kSz 5) n xs) (hrn : r ≤ n) (hn : n ≤ 100) (hx1 : ∀ u ∈ xs, u.oneCell' = true) :
    Calls Tryz.prog 244 #[i, j, colVal 5 cb, .pointer (some ⟨rb, 0, none⟩)] w fun e w' => e = .returned (.tuple #[]) ∧ Turns w w' F ∧ ColAt w' (grow F w w') cb (kStr 5) (kElt 5) (kSz 5) (n + 1) (setIn xs (r * kSz 5) (kZero 5)) := by
  have HI : Hid (Calls Tryz.prog 400 #[.pointer (some ⟨cb, 0, none⟩), .int .i64 r] w fun e w' => e = .returned (.tuple #[]) ∧ Turns w w' F ∧ ColAt w' (grow F w w') cb (kStr 5) (kElt 5) (kSz 5) (n + 1) (setIn xs (r * kSz 5) (kZero 5))) := by
    have e : r * kSz 5 = r := Nat.mul_one r
    rw [e]
    exact insert_colL cb _ n r xs w hC hrn hn hx1
  clear hC
  go_enter Tryz.func244, Tryz.ntmps244
  go_wp2_with (refine wpList_invoke rfl _ _ "Insert" 3 rfl (colVal 5 cb) (.int .i64 r) rfl rfl 400 #[.pointer (some ⟨cb, 0, none⟩), .int .i64 r] (callIns5 cb (.int .i64 r) w) ?_; refine HI.out.mono ?_; rintro e w2 ⟨rfl, hT, hC2⟩; refine ⟨_, rfl, ?_⟩)
  go_end0
  exact ⟨rfl, hT, hC2⟩

/-- What Enter does with a column, whatever its kind. -/
theorem enter1_any {F : Nat → Prop} (k : Nat) (h1 : 1 ≤ k) (h5 : k ≤ 5) (i j : Value) (cb rb n r : Nat) (xs : List Value) (w : World) (hr : w.cell? ⟨rb, 0, none⟩ = some (.int .i64 r)) (hC : ColAt w F cb (kStr k) (kElt k) (kSz k) n xs) (hrn : r ≤ n) (hn : n ≤ 100) (hx1 : ∀ u ∈ xs, u.oneCell' = true) :
    Calls Tryz.prog 244 #[i, j, colVal k cb, .pointer (some ⟨rb, 0, none⟩)] w fun e w' => e = .returned (.tuple #[]) ∧ Turns w w' F ∧ ColAt w' (grow F w w') cb (kStr k) (kElt k) (kSz k) (n + 1) (setIn xs (r * kSz k) (kZero k)) := by
  have h : k = 1 ∨ k = 2 ∨ k = 3 ∨ k = 4 ∨ k = 5 := by omega
  rcases h with rfl | rfl | rfl | rfl | rfl
  · exact enter1_1 i j cb rb n r xs w hr hC hrn hn hx1
  · exact enter1_2 i j cb rb n r xs w hr hC hrn hn hx1
  · exact enter1_3 i j cb rb n r xs w hr hC hrn hn hx1
  · exact enter1_4 i j cb rb n r xs w hr hC hrn hn hx1
  · exact enter1_5 i j cb rb n r xs w hr hC hrn hn hx1

end Go.Proofs.YthkbeaffkcfgiabGreatDoor

namespace Go.Proofs.YthkbeaffkcfgiabGreatDoor
open Go.RowKit

theorem Mix.turn {W W' : World} {own own' : Nat → Nat} {base s : Nat} {cks : List (List Nat)} {sl : Nat → Value} {cbs : Nat → List Nat} {n : Nat → Nat → Nat} {xs : Nat → Nat → List Value} (h : Mix W own base s cks sl cbs n xs)
    (hb : ∀ b, b < W.heap.size → base + 2 ≤ own b → W'.heap[b]? = W.heap[b]? ∧ own' b = own b) : Mix W' own' base s cks sl cbs n xs := by
  intro k hk
  have := h k hk
  split
  · rename_i hq
    rw [if_pos hq] at this
    refine this.turn fun b hb1 hb2 => hb b hb1 ?_
    rcases hb2 with h | ⟨f, _, h⟩
    · unfold lCols at h; omega
    · unfold lCol at h; omega
  · rename_i hq
    rw [if_neg hq] at this
    exact this

theorem mix_of {W : World} {own : Nat → Nat} {base s : Nat} {cks : List (List Nat)} {sl : Nat → Value} {n : Nat} {xs : Nat → Nat → List Value} (h : ∀ k, k < 6 → if hasC s cks k then ∃ cbs, ColsAt W own base k (sl k) (cks.getD k []) cbs (fun _ => n) (xs k) else sl k = .slice none 0 0) :
    ∃ cbs, Mix W own base s cks sl cbs (fun _ _ => n) xs := by
  have h' : ∀ k, ∃ cb, k < 6 → hasC s cks k = true → ColsAt W own base k (sl k) (cks.getD k []) cb (fun _ => n) (xs k) := fun k => by
    by_cases hk : k < 6
    · by_cases hq : hasC s cks k = true
      · have := h k hk
        rw [if_pos hq] at this
        obtain ⟨cb, hc⟩ := this
        exact ⟨cb, fun _ _ => hc⟩
      · exact ⟨[], fun _ h => absurd h hq⟩
    · exact ⟨[], fun h => absurd h hk⟩
  refine ⟨fun k => Classical.choose (h' k), fun k hk => ?_⟩
  have := h k hk
  split
  · rename_i hq
    exact Classical.choose_spec (h' k) hk hq
  · rename_i hq
    rw [if_neg hq] at this
    exact this

theorem runs123 (args : Array Value) (w : World) : (callFunc 244 args).run Tryz.prog w = .ok (.enter 244 args) w := by kernel_rfl

end Go.Proofs.YthkbeaffkcfgiabGreatDoor

namespace Go.Proofs.YthkbeaffkcfgiabGreatDoor
open Go.RowKit

end Go.Proofs.YthkbeaffkcfgiabGreatDoor

namespace Go.Proofs.YthkbeaffkcfgiabGreatDoor
open Go.RowKit

theorem entsA_succ (bg : Nat → Nat) (tk : Nat → Bool) (k : Nat) : entsA bg tk (k + 1) = entsA bg tk k ++ (if tk k then [((k : Int) + 1, (bg k : Int))] else []) := by
  unfold entsA
  rw [List.range_succ, List.filter_append, List.map_append]
  cases h : tk k <;> simp [h]
theorem entsA_all (bg : Nat → Nat) (tk : Nat → Bool) : entsA bg tk 20 = entsOf bg tk := rfl

set_option maxHeartbeats 1600000 in
set_option maxRecDepth 20000 in
/-- (*World).living: all entities by their places, in a row of its own. -/
theorem living_any (b : Nat) (bg : Nat → Nat) (tk : Nat → Bool) (cp : Nat → Nat) (w : World) (hp : PlacesAt w b bg tk cp) (hbg : ∀ i, i < 20 → bg i ≤ 3) :
    Calls Tryz.prog 95 #[.pointer (some ⟨b, 0, none⟩)] w fun e w' => ∃ sa sc, e = .returned (.slice sa (entsOf bg tk).length sc) ∧ w'.ownsRow w.heap.size 46 2 (.slice sa (entsOf bg tk).length sc) (entsOf bg tk).length (eCells (entsOf bg tk)) ∧ Below w.heap.size w w' := by
  obtain ⟨i0, hi0, hz0, hz1, hz2⟩ := info_parts Tryz.info46
  have HP : Hid (PlacesAt w b bg tk cp) := hp
  have HG : Hid (∀ i, i < 20 → bg i ≤ 3) := hbg
  clear hp hbg
  go_enter Tryz.func95, Tryz.ntmps95
  go_wp2
  go_loopw [3, 6] (fun v t wr => ∃ (k q : Nat) (sa : Option Addr) (sc : Nat), k ≤ 20 ∧ q ≤ k ∧ t = .int .i64 k ∧ v = .slice sa q sc ∧ Hid (q = (entsA bg tk k).length) ∧ wr.ownsRow w.heap.size 46 2 (.slice sa q sc) q (eCells (entsA bg tk k)) ∧ Below w.heap.size w wr)
    (fun _ t _ => 20 - (intOf t).toNat)
  case atStart => exact ⟨0, 0, none, 0, by omega, by omega, rfl, rfl, rfl, World.ownsRow_nil _ _ _ _, Below.refl _ _⟩
  case round =>
    obtain ⟨k, q, sa, sc, hk, hqk, rfl, rfl, HQ, hown, hb⟩ := hrel
    have HB : Hid (Below w.heap.size w wr) := hb
    have HO : Hid (wr.ownsRow w.heap.size 46 2 (.slice sa q sc) q (eCells (entsA bg tk k))) := hown
    have hws : w.heap.size ≤ wr.heap.size := hb.size
    by_cases hlt : k < 20
    · obtain ⟨a1, a2, _, _, _, _⟩ := (HP.out.below HB.out).2 k hlt
      have HS : Hid (entsA bg tk (k + 1) = entsA bg tk k ++ (if tk k then [((k : Int) + 1, (bg k : Int))] else [])) := entsA_succ bg tk k
      have hbk : bg k ≤ 3 := HG.out k hlt
      clear hb hown
      cases ht : tk k with
      | false =>
        rw [ht] at a2
        have HS1 : Hid (entsA bg tk (k + 1) = entsA bg tk k) := by
          show _ = _
          rw [HS.out, ht]; simp
        go_wp2_with fail
        go_roundw
        case rel => exact ⟨k + 1, q, sa, sc, by omega, by omega, by go_num, rfl, by rw [HS1.out]; exact HQ, by rw [HS1.out]; exact HO.out, HB.out⟩
        case measure => simp [intOf]; omega
      | true =>
        rw [ht] at a2
        have HS1 : Hid (entsA bg tk (k + 1) = entsA bg tk k ++ [((k : Int) + 1, (bg k : Int))]) := by
          show _ = _
          rw [HS.out, ht]; simp
        have HN : Hid (∀ j u, (hNews ((k : Int) + 1) (bg k : Int))[j]? = some u → (wr.alloc (.cells #[.int .i64 ((k : Int) + 1), .int .i64 (bg k : Int)] 46)).cell? ((⟨wr.heap.size, 0, none⟩ : Addr).add j) = some u) := fun j u hj => by
          rw [Addr.add_lit, Nat.zero_add]
          match j with
          | 0 => simp [hNews] at hj; rw [← hj]; simp
          | 1 => simp [hNews] at hj; rw [← hj]; simp
          | j + 2 => simp [hNews] at hj
        have HE : Hid (eCells (entsA bg tk (k + 1)) = eCells (entsA bg tk k) ++ hNews ((k : Int) + 1) (bg k : Int)) := by
          show _ = _
          rw [HS1.out, eCells_append]; simp [eCells]
        have HL : Hid (q + 1 = (entsA bg tk (k + 1)).length) := by
          show _ = _
          rw [HS1.out, List.length_append, ← HQ.out]; rfl
        go_wp2_with (at_builtin; refine wpList_append_own_at _ rfl _ _ 29 rfl w.heap.size 46 i0 _ 2 16 Tryz.underlying29 hi0 hz0 hz1 hz2 rfl (by decide) _ _ _ rfl (HO.out.alloc _) ⟨wr.heap.size, 0, none⟩ 1 1 (hNews ((k : Int) + 1) (bg k : Int)) rfl rfl HN.out (hNews_one _ _) (by unfold maxLen; omega) (by omega) (by simp; omega) ?_; intro v' w6 hown6 hgrow6 _ _; obtain ⟨sa', sc', rfl⟩ := own_form hown6; have HO6 : Hid (w6.ownsRow w.heap.size 46 2 (.slice sa' (q + 1) sc') (q + 1) (eCells (entsA bg tk k) ++ hNews ((k : Int) + 1) (bg k : Int))) := hown6; have HB6 : Hid (Below w.heap.size w w6) := Below.grown (HB.out.alloc hws _) hgrow6 (by simp; omega) (fun j hj => (HO.out.lt j hj).1); clear hown6 hgrow6)
        go_roundw
        case rel => exact ⟨k + 1, q + 1, sa', sc', by omega, by omega, by go_num, rfl, HL.out, by rw [HE.out]; exact HO6.out, HB6.out⟩
        case measure => simp [intOf]; omega
    · obtain rfl : k = 20 := by omega
      go_wp2_with fail
      go_ret
      rw [← entsA_all, ← HQ.out]
      exact ⟨sa, sc, rfl, HO.out, HB.out⟩

end Go.Proofs.YthkbeaffkcfgiabGreatDoor

namespace Go.Proofs.YthkbeaffkcfgiabGreatDoor
open Go.RowKit

/-- What a scene tells of a reference, by the place of the one that is referred to: its number in the list and 1, or 0. -/
def cntsL (ents : List (Int × Int)) : List Int := ents.zipIdx.foldl (fun c z => c.set z.1.1.toNat ((z.2 : Int) + 1)) (List.replicate 21 0)

theorem foldl_set_len (l : List ((Int × Int) × Nat)) : ∀ c : List Int, (l.foldl (fun c z => c.set z.1.1.toNat ((z.2 : Int) + 1)) c).length = c.length := by
  induction l with
  | nil => intro c; rfl
  | cons a l ih => intro c; rw [List.foldl_cons, ih, List.length_set]
theorem cntsL_len (ents : List (Int × Int)) : (cntsL ents).length = 21 := by
  unfold cntsL; rw [foldl_set_len]; simp
theorem cntsL_succ (ents : List (Int × Int)) (j : Nat) (h : j < ents.length) : cntsL (ents.take (j + 1)) = (cntsL (ents.take j)).set ents[j].1.toNat ((j : Int) + 1) := by
  unfold cntsL
  rw [List.take_succ_eq_append_getElem h, List.zipIdx_append, List.foldl_append, List.length_take, Nat.min_eq_left (Nat.le_of_lt h)]
  simp

/-- Its cells. -/
def cntCells (ents : List (Int × Int)) : List Value := (cntsL ents).map (Value.int .i64)

theorem Tryz.info160 : (Tryz.prog.info? 160).map (·.size) = some 21 := by kernel_rfl

set_option maxHeartbeats 1600000 in
set_option maxRecDepth 20000 in
/-- countRefs. -/
theorem counts_any (ga : Nat) (sc : Nat) (ents : List (Int × Int)) (w : World) (hc : ∀ j (h : j < ents.length), w.cell? ⟨ga, j * 2, none⟩ = some (.int .i64 ents[j].1) ∧ w.cell? ⟨ga, j * 2 + 1, none⟩ = some (.int .i64 ents[j].2)) (hga : ga < w.heap.size) (hsc : ents.length ≤ sc)
    (hl : ents.length ≤ 20) (hp : ∀ z ∈ ents, 1 ≤ z.1 ∧ z.1 ≤ 20) :
    Calls Tryz.prog 96 #[.slice (some ⟨ga, 0, none⟩) ents.length sc] w fun e w' => e = .returned (.agg (cntCells ents).toArray) ∧ Below w.heap.size w w' := by
  have HC : Hid (∀ j (h : j < ents.length), w.cell? ⟨ga, j * 2, none⟩ = some (.int .i64 ents[j].1) ∧ w.cell? ⟨ga, j * 2 + 1, none⟩ = some (.int .i64 ents[j].2)) := hc
  have HP : Hid (∀ z ∈ ents, 1 ≤ z.1 ∧ z.1 ≤ 20) := hp
  obtain ⟨n, hn⟩ : ∃ n, n = ents.length := ⟨_, rfl⟩
  rw [← hn] at hsc hl ⊢
  have HN : Hid (n = ents.length) := hn
  clear hc hp hn
  go_enter Tryz.func96, Tryz.ntmps96
  go_wp2
  go_loopw [8] (fun t wr => ∃ j : Nat, j ≤ n ∧ t = .int .i64 j ∧ w.heap.size + 1 < wr.heap.size ∧ wr.heap[w.heap.size + 1]? = some (.cells (cntCells (ents.take j)).toArray 160 (0, 0)) ∧ wr.heap[w.heap.size]? = some (.cells (cntCells []).toArray 160 (0, 0)) ∧ Below w.heap.size w wr) (fun t _ => n - (intOf t).toNat)
  case atStart => exact ⟨0, by omega, rfl, by simp, by rw [List.take_zero]; exact heap_alloc_at (by simp) _, by rw [Below.heap_alloc _ _ _ (by simp)]; exact heap_alloc_at rfl _, ((Below.refl _ _).alloc (Nat.le_refl _) _).alloc (by simp) _⟩
  case round =>
    obtain ⟨j, hj, rfl, hs, h1, h0, hb⟩ := hrel
    have HB : Hid (Below w.heap.size w wr) := hb
    have H1 : Hid (wr.heap[w.heap.size + 1]? = some (.cells (cntCells (ents.take j)).toArray 160 (0, 0))) := h1
    have H0 : Hid (wr.heap[w.heap.size]? = some (.cells (cntCells []).toArray 160 (0, 0))) := h0
    by_cases hlt : j < n
    · have hje : j < ents.length := by rw [← HN.out]; exact hlt
      obtain ⟨c0, c1⟩ := HC.out j hje
      obtain ⟨q0, q1⟩ := HP.out ents[j] (List.getElem_mem hje)
      have HS : Hid (cntsL (ents.take (j + 1)) = (cntsL (ents.take j)).set ents[j].1.toNat ((j : Int) + 1)) := cntsL_succ ents j hje
      have hcl : (cntCells (ents.take j)).length = 21 := by unfold cntCells; rw [List.length_map, cntsL_len]
      generalize ents[j] = z at c0 c1 q0 q1 HS
      obtain ⟨p, l⟩ := z
      simp only at c0 c1 q0 q1 HS
      obtain ⟨pn, rfl⟩ : ∃ pn : Nat, p = (pn : Int) := ⟨p.toNat, by omega⟩
      have hpn : pn ≤ 20 := by omega
      have d0 : wr.cell? ⟨ga, j * 2, none⟩ = some (.int .i64 (pn : Int)) := (hb.cell (p := ⟨ga, j * 2, none⟩) hga).trans c0
      have d1 : wr.cell? ⟨ga, j * 2 + 1, none⟩ = some (.int .i64 l) := (hb.cell (p := ⟨ga, j * 2 + 1, none⟩) hga).trans c1
      have e0 : ∃ u, wr.cell? ⟨w.heap.size + 1, pn, none⟩ = some u := by
        rw [cell_row h1]
        exact ⟨_, Array.getElem?_eq_getElem (by simp [hcl]; omega)⟩
      obtain ⟨u, e0⟩ := e0
      have e1 : wr.frozen? ⟨w.heap.size + 1, pn, none⟩ = false := frozen_row h1 _
      have hne : w.heap.size + 1 ≠ wr.heap.size := by omega
      clear h1 h0 hb c0 c1
      go_wp2_with fail
      have hz : (wr.setCell ⟨w.heap.size + 1, pn, none⟩ (.int .i64 ((j : Int) + 1))).heap.size = wr.heap.size := by simp [World.setCell]
      refine ⟨⟨j + 1, by omega, by go_num, by simp; omega, ?_, ?_, (HB.out.setCell (by simp) _).alloc (by rw [hz]; omega) _⟩, by simp [intOf]; omega⟩
      · rw [Below.heap_alloc _ _ _ (by rw [hz]; exact hs), setCell_block _ H1.out]
        unfold cntCells
        rw [HS.out, List.map_set]
        simp
      · rw [Below.heap_alloc _ _ _ (by rw [hz]; omega), Below.heap_setCell _ _ _ _ (by simp)]
        exact H0.out
    · obtain rfl : j = n := by omega
      have HT : Hid (ents.take j = ents) := by
        show _ = _
        rw [HN.out, List.take_length]
      rw [HT.out] at h1
      have H1' : Hid (wr.heap[w.heap.size + 1]? = some (.cells (cntCells ents).toArray 160 (0, 0))) := h1
      clear h1 h0 hb
      have hsz : (cntCells ents).length = 21 := by simp [cntCells, cntsL_len]
      have hso : ((cntCells ents).toArray.all (·.oneCell')) = true := by
        simp only [Array.all_eq_true_iff_forall_mem]
        intro v hv
        simp [cntCells] at hv
        obtain ⟨x, _, rfl⟩ := hv
        rfl
      go_wp2_with (first
        | refine wpList_load_row rfl 160 _ rfl _ rfl 160 _ _ _ H1'.out Tryz.underlying160 rfl (by rw [Tryz.info160]; simp [hsz]) ?_
        | refine wpList_store_row rfl 160 _ _ rfl _ _ rfl rfl 160 _ H0.out (by rw [Tryz.info160]; simp [hsz]) (by simp [cntCells, cntsL_len]) hso ?_)
      refine bodyPost_ret_by (v := .agg (cntCells ents).toArray) ?_ rfl ⟨rfl, ?_⟩
      · exact results_cell_row (p := 2) (ty := 160) rfl _ _ w.heap.size 160 _ (0, 0) _ rfl (setRow_heap _ _ _ _ _ _ H0.out) Tryz.underlying160 rfl (by rw [Tryz.info160]; simp [hsz])
      · exact ⟨HB.out.os, HB.out.tape, HB.out.output, by simpa [World.setRow] using HB.out.size, fun k hk => (setRow_other _ _ _ _ (by omega)).trans (HB.out.block k hk)⟩

end Go.Proofs.YthkbeaffkcfgiabGreatDoor
