import Derived.Test.YthkbeaffkcfgiabGreatDoorWorldA
namespace Go.Proofs.YthkbeaffkcfgiabGreatDoor
open Go.RowKit

/-- How an entity goes out of the table of those without components. -/
def LeaveEnds (w : World) (F : Nat → Prop) (b : Nat) (ents : List (Int × Int)) (p : Int) (e : Ending) (w' : World) : Prop :=
  e = .returned (.tuple #[]) ∧ Turns w w' F ∧ w'.heap[b]? = w.heap[b]? ∧ TablesAt w' (grow F w w') b (cutOut ents (ahead ents p) 1)

set_option maxHeartbeats 4000000 in
set_option maxRecDepth 100000 in
theorem leave_world {F : Nat → Prop} (b bm tb : Nat) (ents : List (Int × Int)) (p l : Int) (w : World) (arr : Array Value) (hF : F b) (hb0 : w.heap[b]? = some (.cells arr 111 (0, 0))) (h61 : w.cell? ⟨b, 61, none⟩ = some (.map (some bm))) (hbm : F bm) (hM : MapAt w bm (some tb)) (hT : TabAt w F tb ents)
    (hl : ents.length ≤ 100) (hsort : ents.Pairwise fun a b => a.1 < b.1) (hin : ahead ents p < ents.length) :
    Calls Tryz.prog 60 #[.pointer (some ⟨b, 0, none⟩), .agg #[.int .i64 p, .int .i64 l], .int .u64 0] w (LeaveEnds w F b ents p) := by
  have hlt : b < w.heap.size := (Array.getElem?_eq_some_iff.1 hb0).1
  have hmb : bm ≠ b := fun e => by
    subst e
    obtain ⟨es, clock, hh, _⟩ := hM
    rw [hb0] at hh; cases hh
  obtain ⟨V, hV⟩ : ∃ V, V = w.alloc (.cells #[.int .i64 p, .int .i64 l] 46) := ⟨_, rfl⟩
  have hA : Below w.heap.size w V := by rw [hV]; exact (Below.refl _ _).alloc (Nat.le_refl _) _
  have hM1 : MapAt V bm (some tb) := hM.turn (hA.block bm hM.lt)
  have hT1 := (tab_apart hT hb0).below hA
  have hlook : (Instr.lookup 109 (.map (some bm)) (.int .u64 0) false).run Tryz.prog V = .ok (.pointer (some ⟨tb, 0, none⟩)) V := hM1.look
  rw [hV] at hlook
  have HC : Hid (Calls Tryz.prog 122 #[.pointer (some ⟨tb, 0, none⟩), .agg #[.int .i64 p, .int .i64 l]] V fun e w' => e = .returned (.tuple #[]) ∧ ∃ a n c, w'.cell? ⟨tb, 0, none⟩ = some (.slice a n c) ∧ w'.cell? ⟨b, 61, none⟩ = some (.map (some bm)) ∧
      Hid (((n : Int) == 0) = false → LeaveEnds w F b ents p (.returned (.tuple #[])) w') ∧ Hid (((n : Int) == 0) = true → ∀ ty, ∃ w2, (Builtin.delete_ #[109, 105] ty #[.map (some bm), .int .u64 0]).run Tryz.prog w' = .ok (.tuple #[]) w2 ∧ LeaveEnds w F b ents p (.returned (.tuple #[])) w2)) := by
    refine (leave_tab tb ents p l V hT1 hl hsort hin).mono ?_
    rintro e w' ⟨rfl, ht, hTn⟩
    have hMl := hM.lt
    have hVs := hA.size
    have eb : w'.heap[b]? = w.heap[b]? := (ht.block b (by omega) (fun h => h.2.1 rfl)).trans (hA.block b hlt)
    have em : w'.heap[bm]? = V.heap[bm]? := ht.block bm (by omega) (fun h => by
      obtain ⟨_, _, cs, t, fz, hh⟩ := h
      obtain ⟨es, clock, h2, _⟩ := hM
      rw [h2] at hh; cases hh)
    have hT3 : Turns w w' F := (Turns.ofBelow F hA).trans' ⟨ht.os, ht.tape, ht.output, ht.size, fun k hk hn => ht.block k hk (fun h => hn h.1)⟩
    have hsz : w.heap.size ≤ w'.heap.size := hT3.size
    have hTn2 : TabAt w' (grow F w w') tb (cutOut ents (ahead ents p) 1) := hTn.turn fun k hk _ => ⟨rfl, by
      rcases hk with h | h
      · exact Or.inl h.1
      · exact Or.inr ⟨by omega, h.2⟩⟩
    obtain ⟨i1, v, i2, i3, i4⟩ := hTn2
    obtain ⟨a, c, rfl⟩ := own_form i3
    have hMw : MapAt w' bm (some tb) := hM1.turn em
    refine ⟨rfl, a, (cutOut ents (ahead ents p) 1).length, c, by rw [cell_row i2]; rfl, (World.cell?_of_block (a := ⟨b, 61, none⟩) eb).trans h61, fun _ => ⟨rfl, hT3, eb, Or.inr ⟨bm, (World.cell?_of_block (a := ⟨b, 61, none⟩) eb).trans h61, Or.inl hbm, Or.inr ⟨tb, hMw, i1, _, i2, i3, i4⟩⟩⟩, fun h0 ty => ?_⟩
    obtain ⟨w2, r, hM2, htn⟩ := hMw.drop ty
    have hgr := htn.grown
    have eb2 : w2.heap[b]? = w'.heap[b]? := hgr.block b (by omega) (fun e => hmb (by simpa using e.symm))
    have hnil : cutOut ents (ahead ents p) 1 = [] := by
      have : ((cutOut ents (ahead ents p) 1).length : Int) = 0 := by simpa using h0
      exact List.length_eq_zero_iff.1 (by omega)
    refine ⟨w2, r, rfl, hT3.trans' (Turns.ofGrown hgr fun k hk _ => by simp at hk; rw [← hk]; exact hbm), eb2.trans eb, Or.inr ⟨bm, (World.cell?_of_block (a := ⟨b, 61, none⟩) eb2).trans ((World.cell?_of_block (a := ⟨b, 61, none⟩) eb).trans h61), Or.inl hbm, Or.inl ⟨hM2, hnil⟩⟩⟩
  rw [hV] at HC
  clear hM1 hT1 hM hT hsort hin hA
  go_enter Tryz.func60, Tryz.ntmps60
  go_wp2_with fail
  refine HC.out.mono ?_
  rintro e w1 ⟨rfl, a, n, c, ct, cb, HNo, HYes⟩
  by_cases h0 : ((n : Int) == 0) = true
  · obtain ⟨w3, hdel, hE⟩ := HYes.out h0 0
    have HE : Hid (LeaveEnds w F b ents p (.returned (.tuple #[])) w3) := hE
    clear hE
    go_wp2_with (go_at_call 123; refine (empty_tab tb a n c _ ct).mono ?_; rw [h0]; rintro e w2 ⟨rfl, rfl⟩)
    go_end0
    exact HE.out
  · have h0' : ((n : Int) == 0) = false := by simpa using h0
    have HE : Hid (LeaveEnds w F b ents p (.returned (.tuple #[])) w1) := HNo.out h0'
    go_wp2_with (go_at_call 123; refine (empty_tab tb a n c _ ct).mono ?_; rw [h0']; rintro e w2 ⟨rfl, rfl⟩)
    go_end0
    exact HE.out

end Go.Proofs.YthkbeaffkcfgiabGreatDoor
