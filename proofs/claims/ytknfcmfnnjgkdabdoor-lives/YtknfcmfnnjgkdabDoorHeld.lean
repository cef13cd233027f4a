import Derived.Test.YtknfcmfnnjgkdabDoorPart
import Derived.Test.YtknfcmfnnjgkdabDoorSchema
namespace Go.Proofs.YtknfcmfnnjgkdabDoor
open Go.RowKit

/-- Handles, in their cells. -/
def hCells (l : List (Nat × Nat)) : List Value := l.flatMap fun z => [.int .i64 ((z.1 : Int) + 1), .int .i64 (z.2 : Int)]

theorem hCells_append (a b : List (Nat × Nat)) : hCells (a ++ b) = hCells a ++ hCells b := by simp [hCells]
theorem hCells_length (l : List (Nat × Nat)) : (hCells l).length = l.length * 2 := flat2_length _ _ l
theorem hCells_get (l : List (Nat × Nat)) (j : Nat) (h : j < l.length) : (hCells l)[j * 2]? = some (.int .i64 ((l[j].1 : Int) + 1)) ∧ (hCells l)[j * 2 + 1]? = some (.int .i64 (l[j].2 : Int)) :=
  flat2_get (fun z : Nat × Nat => Value.int .i64 ((z.1 : Int) + 1)) (fun z => Value.int .i64 (z.2 : Int)) l j h
theorem hCells_one (l : List (Nat × Nat)) : ∀ u ∈ hCells l, u.oneCell' = true := by
  intro u hu
  simp only [hCells, List.mem_flatMap, List.mem_cons, List.not_mem_nil, or_false] at hu
  obtain ⟨z, _, rfl | rfl⟩ := hu <;> rfl
theorem hCells_take (l : List (Nat × Nat)) (j : Nat) (h : j ≤ l.length) : (hCells l).take (j * 2) = hCells (l.take j) := by
  have e : hCells l = hCells (l.take j) ++ hCells (l.drop j) := by rw [← hCells_append, List.take_append_drop]
  rw [e]
  have : (hCells (l.take j)).length = j * 2 := by rw [hCells_length, List.length_take]; omega
  rw [← this]; exact List.take_left
theorem hCells_drop (l : List (Nat × Nat)) (j : Nat) (h : j ≤ l.length) (t : Nat) : (hCells (l.drop j))[t]? = (hCells l)[j * 2 + t]? := by
  have e : hCells l = hCells (l.take j) ++ hCells (l.drop j) := by rw [← hCells_append, List.take_append_drop]
  rw [e, List.getElem?_append_right (by rw [hCells_length, List.length_take]; omega), hCells_length, List.length_take]
  congr 1; omega

theorem ownsPart.form {w : World} {base : Nat} {v : Value} {n : Nat} {xs : List Value} (h : ownsPart w base v n xs) : ∃ a cp, v = .slice a n cp := by
  rcases h.2 with ⟨h1, h2⟩ | ⟨g, cap, cur, h1, _⟩
  · exact ⟨none, 0, by rw [h1, h2]⟩
  · exact ⟨_, _, h1⟩

theorem ownsPart.some {w : World} {base : Nat} {a : Option Addr} {n m cp : Nat} {xs : List Value} (h : ownsPart w base (.slice a n cp) m xs) (hn : 0 < n) : ∃ g, a = some ⟨g, 0, none⟩ := by
  rcases h.2 with ⟨h1, h2⟩ | ⟨g, cap, cur, h1, _⟩
  · simp at h1; omega
  · simp at h1; exact ⟨g, h1.1⟩

/-- What memory holds at the head of each round: the world's block b, the box c that leads to it, the two lists. -/
structure Mem (w0 wr : World) (b c : Nat) (la : Option Addr) (nl lc : Nat) (ea : Option Addr) (ne ec : Nat) (bg : Nat → Nat) (tk : Nat → Bool) (ever live : List (Nat × Nat)) : Prop where
  places : PlacesAt wr b bg tk
  box : wr.cell? ⟨c, 0, none⟩ = some (.pointer (some ⟨b, 0, none⟩))
  old : Below w0.heap.size w0 wr
  ob : w0.heap.size ≤ b
  bc : b < c
  cs : c < wr.heap.size
  llen : nl = live.length
  elen : ne = ever.length
  lives : ownsPart wr (c + 1) (.slice la nl lc) nl (hCells live)
  evers : ownsPart wr (c + 1) (.slice ea ne ec) ne (hCells ever)
  apart : ∀ g, (Value.slice la nl lc).ownBlock = some g → (Value.slice ea ne ec).ownBlock ≠ some g

section
variable {w0 wr w' : World} {b c : Nat} {la : Option Addr} {nl lc : Nat} {ea : Option Addr} {ne ec : Nat} {bg bg' : Nat → Nat} {tk tk' : Nat → Bool} {ever live : List (Nat × Nat)}

theorem keep_none {o row : Option Nat} (h : ∀ g, o = some g → row ≠ some g) : o = none ∨ o ≠ row := by
  cases o with
  | none => exact Or.inl rfl
  | some g => exact Or.inr fun e => h g rfl e.symm

theorem Mem.turn (M : Mem w0 wr b c la nl lc ea ne ec bg tk ever live) (hg : wr.grownBy w' (some b)) (hp : PlacesAt w' b bg' tk') : Mem w0 w' b c la nl lc ea ne ec bg' tk' ever live := {
  places := hp
  box := hg.cell M.box (by simp; have := M.bc; omega)
  old := M.old.trans ⟨hg.os, hg.tape, hg.output, hg.size, fun k hk => hg.block k (by have := M.old.size; omega) (by simp; have := M.ob; omega)⟩
  ob := M.ob
  bc := M.bc
  cs := Nat.lt_of_lt_of_le M.cs hg.size
  llen := M.llen
  elen := M.elen
  lives := M.lives.kept hg (keep_none fun g h e => by have := (M.lives.lt g h).1; simp at e; have := M.bc; omega)
  evers := M.evers.kept hg (keep_none fun g h e => by have := (M.evers.lt g h).1; simp at e; have := M.bc; omega)
  apart := M.apart }

theorem Mem.below (M : Mem w0 wr b c la nl lc ea ne ec bg tk ever live) (hB : Below wr.heap.size wr w') : Mem w0 w' b c la nl lc ea ne ec bg tk ever live := {
  places := M.places.below hB
  box := (hB.cell (p := ⟨c, 0, none⟩) M.cs).trans M.box
  old := M.old.trans (hB.mono M.old.size)
  ob := M.ob
  bc := M.bc
  cs := Nat.lt_of_lt_of_le M.cs hB.size
  llen := M.llen
  elen := M.elen
  lives := M.lives.below hB
  evers := M.evers.below hB
  apart := M.apart }

theorem Mem.everMore {v' : Value} {z : Nat × Nat} (M : Mem w0 wr b c la nl lc ea ne ec bg tk ever live) (hown : ownsPart w' (c + 1) v' (ne + 1) (hCells ever ++ hCells [z])) (hg : wr.grownBy w' (Value.slice ea ne ec).ownBlock)
    (hn : v'.ownBlock = (Value.slice ea ne ec).ownBlock ∨ v'.ownBlock = some wr.heap.size) : ∃ ea' ec', v' = .slice ea' (ne + 1) ec' ∧ Mem w0 w' b c la nl lc ea' (ne + 1) ec' bg tk (ever ++ [z]) live := by
  have hrow : ∀ g, (Value.slice ea ne ec).ownBlock = some g → c + 1 ≤ g := fun g h => (M.evers.lt g h).1
  have hrow' : ∀ k, k ≤ c → some k ≠ (Value.slice ea ne ec).ownBlock := fun k hk e => by have := hrow k e.symm; omega
  obtain ⟨ea', ec', rfl⟩ := hown.form
  refine ⟨ea', ec', rfl, ?_⟩
  exact {
    places := M.places.grown hg (hrow' b (Nat.le_of_lt M.bc))
    box := hg.cell M.box (hrow' c (Nat.le_refl _))
    old := M.old.trans ⟨hg.os, hg.tape, hg.output, hg.size, fun k hk => hg.block k (by have := M.old.size; omega) (hrow' k (by have := M.ob; have := M.bc; omega))⟩
    ob := M.ob
    bc := M.bc
    cs := Nat.lt_of_lt_of_le M.cs hg.size
    llen := M.llen
    elen := by have := M.elen; simp; omega
    lives := M.lives.kept hg (keep_none fun g h => M.apart g h)
    evers := by rw [hCells_append]; exact hown
    apart := fun g h e => by
      rcases hn with hn | hn
      · rw [hn] at e; exact M.apart g h e
      · rw [hn] at e; have := (M.lives.lt g h).2; simp at e; omega }

theorem Mem.liveMore {v' : Value} {z : Nat × Nat} (M : Mem w0 wr b c la nl lc ea ne ec bg tk ever live) (hown : ownsPart w' (c + 1) v' (nl + 1) (hCells live ++ hCells [z])) (hg : wr.grownBy w' (Value.slice la nl lc).ownBlock)
    (hn : v'.ownBlock = (Value.slice la nl lc).ownBlock ∨ v'.ownBlock = some wr.heap.size) : ∃ la' lc', v' = .slice la' (nl + 1) lc' ∧ Mem w0 w' b c la' (nl + 1) lc' ea ne ec bg tk ever (live ++ [z]) := by
  have hrow : ∀ g, (Value.slice la nl lc).ownBlock = some g → c + 1 ≤ g := fun g h => (M.lives.lt g h).1
  have hrow' : ∀ k, k ≤ c → some k ≠ (Value.slice la nl lc).ownBlock := fun k hk e => by have := hrow k e.symm; omega
  obtain ⟨la', lc', rfl⟩ := hown.form
  refine ⟨la', lc', rfl, ?_⟩
  exact {
    places := M.places.grown hg (hrow' b (Nat.le_of_lt M.bc))
    box := hg.cell M.box (hrow' c (Nat.le_refl _))
    old := M.old.trans ⟨hg.os, hg.tape, hg.output, hg.size, fun k hk => hg.block k (by have := M.old.size; omega) (hrow' k (by have := M.ob; have := M.bc; omega))⟩
    ob := M.ob
    bc := M.bc
    cs := Nat.lt_of_lt_of_le M.cs hg.size
    llen := by have := M.llen; simp; omega
    elen := M.elen
    lives := by rw [hCells_append]; exact hown
    evers := M.evers.kept hg (keep_none fun g h e => M.apart g e h)
    apart := fun g h e => by
      rcases hn with hn | hn
      · rw [hn] at h; exact M.apart g h e
      · rw [hn] at h; have := (M.evers.lt g e).2; simp at h; omega }

theorem Mem.liveLess {v' : Value} {g j : Nat} (M : Mem w0 wr b c (some ⟨g, 0, none⟩) nl lc ea ne ec bg tk ever live) (hj : j < nl) (hown : ownsPart w' (c + 1) v' (j + (nl - (j + 1))) (hCells (live.take j) ++ hCells (live.drop (j + 1)))) (hg : wr.grownBy w' (some g))
    (hn : v'.ownBlock = some g ∨ v'.ownBlock = some wr.heap.size) : ∃ la' lc', v' = .slice la' (nl - 1) lc' ∧ Mem w0 w' b c la' (nl - 1) lc' ea ne ec bg tk ever (live.take j ++ live.drop (j + 1)) := by
  have hgc : c + 1 ≤ g := (M.lives.lt g rfl).1
  have hrow' : ∀ k, k ≤ c → some k ≠ some g := fun k hk e => by simp at e; omega
  have e1 : j + (nl - (j + 1)) = nl - 1 := by omega
  rw [e1] at hown
  obtain ⟨la', lc', rfl⟩ := hown.form
  refine ⟨la', lc', rfl, ?_⟩
  exact {
    places := M.places.grown hg (hrow' b (Nat.le_of_lt M.bc))
    box := hg.cell M.box (hrow' c (Nat.le_refl _))
    old := M.old.trans ⟨hg.os, hg.tape, hg.output, hg.size, fun k hk => hg.block k (by have := M.old.size; omega) (hrow' k (by have := M.ob; have := M.bc; omega))⟩
    ob := M.ob
    bc := M.bc
    cs := Nat.lt_of_lt_of_le M.cs hg.size
    llen := by have := M.llen; simp; omega
    elen := M.elen
    lives := by rw [hCells_append]; exact hown
    evers := M.evers.kept hg (keep_none fun k h e => by simp at e; subst e; exact M.apart _ rfl h)
    apart := fun k h e => by
      rcases hn with hn | hn
      · rw [hn] at h; simp at h; subst h; exact M.apart _ rfl e
      · rw [hn] at h; have := (M.evers.lt k e).2; simp at h; omega }

/-- live[:j:j]: what it owns. -/
theorem Mem.head {g j : Nat} (M : Mem w0 wr b c (some ⟨g, 0, none⟩) nl lc ea ne ec bg tk ever live) (hj : j < nl) : ownsPart wr (c + 1) (.slice (some ⟨g, 0, none⟩) j j) j (hCells (live.take j)) := by
  have hl := M.llen
  rcases M.lives.2 with ⟨h1, h2⟩ | ⟨g', cap, cur, h1, h2, h3, h4, h5, h6, h7⟩
  · omega
  · simp at h1
    obtain ⟨rfl, rfl⟩ := h1
    refine ⟨by rw [hCells_length, List.length_take]; omega, Or.inr ⟨g, j, cur, rfl, h2, h3, Nat.le_refl _, by omega, by omega, ?_⟩⟩
    rw [← hCells_take live j (by omega), ← h7, List.take_take]
    congr 1; omega

/-- live's cells. -/
theorem Mem.liveAt {g j : Nat} (M : Mem w0 wr b c (some ⟨g, 0, none⟩) nl lc ea ne ec bg tk ever live) (hj : j < live.length) : wr.cell? ⟨g, j * 2, none⟩ = some (.int .i64 ((live[j].1 : Int) + 1)) ∧ wr.cell? ⟨g, j * 2 + 1, none⟩ = some (.int .i64 (live[j].2 : Int)) :=
  ⟨M.lives.cells (g := g) rfl _ _ (hCells_get live j hj).1, M.lives.cells (g := g) rfl _ _ (hCells_get live j hj).2⟩

theorem Mem.everAt {g j : Nat} (M : Mem w0 wr b c la nl lc (some ⟨g, 0, none⟩) ne ec bg tk ever live) (hj : j < ever.length) : wr.cell? ⟨g, j * 2, none⟩ = some (.int .i64 ((ever[j].1 : Int) + 1)) ∧ wr.cell? ⟨g, j * 2 + 1, none⟩ = some (.int .i64 (ever[j].2 : Int)) :=
  ⟨M.evers.cells (g := g) rfl _ _ (hCells_get ever j hj).1, M.evers.cells (g := g) rfl _ _ (hCells_get ever j hj).2⟩

/-- live[j+1:]'s cells. -/
theorem Mem.tail {g j : Nat} (M : Mem w0 wr b c (some ⟨g, 0, none⟩) nl lc ea ne ec bg tk ever live) (hj : j < nl) : ∀ t u, (hCells (live.drop (j + 1)))[t]? = some u → wr.cell? ⟨g, (j + 1) * 2 + t, none⟩ = some u := by
  intro t u h
  rw [hCells_drop live (j + 1) (by have := M.llen; omega)] at h
  exact M.lives.cells (g := g) rfl _ _ h
end

end Go.Proofs.YtknfcmfnnjgkdabDoor
