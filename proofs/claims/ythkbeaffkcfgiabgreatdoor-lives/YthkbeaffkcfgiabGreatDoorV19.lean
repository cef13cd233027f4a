import Derived.Test.YthkbeaffkcfgiabGreatDoorV17
import Derived.Test.YthkbeaffkcfgiabGreatDoorV18
set_option linter.unusedSimpArgs false
set_option linter.unusedVariables false
namespace Go.Proofs.YthkbeaffkcfgiabGreatDoor
open Go.RowKit

/-- Handles, in their cells. -/
def hCells (l : List (Nat × Nat)) : List Value := l.flatMap fun z => [.int .i64 ((z.1 : Int) + 1), .int .i64 (z.2 : Int)]

theorem hCells_append (a b : List (Nat × Nat)) : hCells (a ++ b) = hCells a ++ hCells b := by simp [hCells]
theorem hCells_length (l : List (Nat × Nat)) : (hCells l).length = l.length * 2 := flat2_length _ _ l
theorem hCells_get (l : List (Nat × Nat)) (j : Nat) (h : j < l.length) : (hCells l)[j * 2]? = some (.int .i64 ((l[j].1 : Int) + 1)) ∧ (hCells l)[j * 2 + 1]? = some (.int .i64 (l[j].2 : Int)) :=
  flat2_get (fun z : Nat × Nat => Value.int .i64 ((z.1 : Int) + 1)) (fun z => Value.int .i64 (z.2 : Int)) l j h
theorem hCells_one (l : List (Nat × Nat)) : ∀ u ∈ hCells l, u.oneCell' = true := by
  intro u hu
  simp only [hCells, List.mem_flatMap, List.mem_cons, List.not_mem_nil, or_false] at hu
  obtain ⟨z, _, rfl | rfl⟩ := hu <;> rfl
theorem hCells_take (l : List (Nat × Nat)) (j : Nat) (h : j ≤ l.length) : (hCells l).take (j * 2) = hCells (l.take j) := by
  have e : hCells l = hCells (l.take j) ++ hCells (l.drop j) := by rw [← hCells_append, List.take_append_drop]
  rw [e]
  have : (hCells (l.take j)).length = j * 2 := by rw [hCells_length, List.length_take]; omega
  rw [← this]; exact List.take_left
theorem hCells_drop (l : List (Nat × Nat)) (j : Nat) (h : j ≤ l.length) (t : Nat) : (hCells (l.drop j))[t]? = (hCells l)[j * 2 + t]? := by
  have e : hCells l = hCells (l.take j) ++ hCells (l.drop j) := by rw [← hCells_append, List.take_append_drop]
  rw [e, List.getElem?_append_right (by rw [hCells_length, List.length_take]; omega), hCells_length, List.length_take]
  congr 1; omega

theorem ownsPart.form {w : World} {base : Nat} {v : Value} {n : Nat} {xs : List Value} (h : ownsPart w base v n xs) : ∃ a cp, v = .slice a n cp := by
  rcases h.2 with ⟨h1, h2⟩ | ⟨g, cap, cur, h1, _⟩
  · exact ⟨none, 0, by rw [h1, h2]⟩
  · exact ⟨_, _, h1⟩

theorem ownsPart.some {w : World} {base : Nat} {a : Option Addr} {n m cp : Nat} {xs : List Value} (h : ownsPart w base (.slice a n cp) m xs) (hn : 0 < n) : ∃ g, a = some ⟨g, 0, none⟩ := by
  rcases h.2 with ⟨h1, h2⟩ | ⟨g, cap, cur, h1, _⟩
  · simp at h1; omega
  · simp at h1; exact ⟨g, h1.1⟩

theorem ownsPart.turn {w w' : World} {base : Nat} {v : Value} {n : Nat} {xs : List Value} (h : ownsPart w base v n xs) (hb : ∀ k, k < w.heap.size → v.ownBlock = Option.some k → w'.heap[k]? = w.heap[k]?) : ownsPart w' base v n xs := by
  refine ⟨h.1, ?_⟩
  rcases h.2 with hn | ⟨g, cap, cur, rfl, hb1, hgg, rest⟩
  · exact .inl hn
  · exact .inr ⟨g, cap, cur, rfl, hb1, (hb g (Array.getElem?_eq_some_iff.1 hgg).1 rfl).trans hgg, rest⟩

/-- The program's world's own blocks (F) and those it only reads (G) lie apart from the law's own. -/
def Own (w0 wr : World) (c : Nat) (v1 v2 : Value) (F G : Nat → Prop) : Prop :=
  (∀ k, F k → w0.heap.size ≤ k ∧ k < wr.heap.size ∧ k ≠ c ∧ v1.ownBlock ≠ some k ∧ v2.ownBlock ≠ some k) ∧ (∀ k, G k → ¬ F k ∧ k < wr.heap.size ∧ v1.ownBlock ≠ some k ∧ v2.ownBlock ≠ some k)

/-- What memory holds at the head of each round: the world's block b, the box c that leads to it, the two lists. -/
structure Mem (w0 wr : World) (b c : Nat) (la : Option Addr) (nl lc : Nat) (ea : Option Addr) (ne ec : Nat) (bg : Nat → Nat) (tk : Nat → Bool) (ever live : List (Nat × Nat)) : Prop where
  prog : ∃ F G n, ProgAt wr F G b n bg tk ∧ Own w0 wr c (.slice la nl lc) (.slice ea ne ec) F G
  box : wr.cell? ⟨c, 0, none⟩ = some (.pointer (some ⟨b, 0, none⟩))
  old : Below w0.heap.size w0 wr
  ob : w0.heap.size ≤ b
  bc : b < c
  cs : c < wr.heap.size
  llen : nl = live.length
  elen : ne = ever.length
  lives : ownsPart wr (c + 1) (.slice la nl lc) nl (hCells live)
  evers : ownsPart wr (c + 1) (.slice ea ne ec) ne (hCells ever)
  apart : ∀ g, (Value.slice la nl lc).ownBlock = some g → (Value.slice ea ne ec).ownBlock ≠ some g

section
variable {w0 wr w' : World} {b c : Nat} {la : Option Addr} {nl lc : Nat} {ea : Option Addr} {ne ec : Nat} {bg bg' : Nat → Nat} {tk tk' : Nat → Bool} {ever live : List (Nat × Nat)}

theorem keep_none {o row : Option Nat} (h : ∀ g, o = some g → row ≠ some g) : o = none ∨ o ≠ row := by
  cases o with
  | none => exact Or.inl rfl
  | some g => exact Or.inr fun e => h g rfl e.symm

theorem Mem.turn {F G : Nat → Prop} {n : Nat} (M : Mem w0 wr b c la nl lc ea ne ec bg tk ever live) (hO : Own w0 wr c (.slice la nl lc) (.slice ea ne ec) F G) (ht : Turns wr w' F) (hp : ProgAt w' (grow F wr w') G b n bg' tk') : Mem w0 w' b c la nl lc ea ne ec bg' tk' ever live := {
  prog := by
    have hs := ht.size
    have ho := M.old.size
    refine ⟨_, _, n, hp, fun k hk => ?_, fun k hk => ?_⟩
    · rcases hk with h | h
      · obtain ⟨h1, h2, h3, h4⟩ := hO.1 k h
        exact ⟨h1, by omega, h3, h4⟩
      · have := M.cs
        exact ⟨by omega, h.2, by omega, fun e => by have := (M.lives.lt k e).2; omega, fun e => by have := (M.evers.lt k e).2; omega⟩
    · obtain ⟨h1, h2, h3⟩ := hO.2 k hk
      exact ⟨fun h => by rcases h with h | h; exact h1 h; omega, by omega, h3⟩
  box := (World.cell?_of_block (a := ⟨c, 0, none⟩) (ht.block c M.cs (fun h => (hO.1 c h).2.2.1 rfl))).trans M.box
  old := M.old.trans ⟨ht.os, ht.tape, ht.output, by have := ht.size; have := M.old.size; omega, fun k hk => ht.block k (by have := M.old.size; omega) (fun h => by have := (hO.1 k h).1; omega)⟩
  ob := M.ob
  bc := M.bc
  cs := Nat.lt_of_lt_of_le M.cs ht.size
  llen := M.llen
  elen := M.elen
  lives := M.lives.turn fun k hk e => ht.block k hk (fun h => (hO.1 k h).2.2.2.1 e)
  evers := M.evers.turn fun k hk e => ht.block k hk (fun h => (hO.1 k h).2.2.2.2 e)
  apart := M.apart }

theorem Mem.below (M : Mem w0 wr b c la nl lc ea ne ec bg tk ever live) (hB : Below wr.heap.size wr w') : Mem w0 w' b c la nl lc ea ne ec bg tk ever live := {
  prog := by
    obtain ⟨F, G, n, hp, hO⟩ := M.prog
    have hs := hB.size
    refine ⟨F, G, n, hp.below hB, fun k hk => ?_, fun k hk => ?_⟩
    · obtain ⟨h1, h2, h3⟩ := hO.1 k hk
      exact ⟨h1, by omega, h3⟩
    · obtain ⟨h1, h2, h3⟩ := hO.2 k hk
      exact ⟨h1, by omega, h3⟩
  box := (hB.cell (p := ⟨c, 0, none⟩) M.cs).trans M.box
  old := M.old.trans (hB.mono M.old.size)
  ob := M.ob
  bc := M.bc
  cs := Nat.lt_of_lt_of_le M.cs hB.size
  llen := M.llen
  elen := M.elen
  lives := M.lives.below hB
  evers := M.evers.below hB
  apart := M.apart }

/-- The program's world where a list of the law's own has turned. -/
theorem Own.kept {w0 wr w' : World} {b c : Nat} {bg : Nat → Nat} {tk : Nat → Bool} {v1 v2 v1' v2' : Value} {row : Option Nat} (h : ∃ F G n, ProgAt wr F G b n bg tk ∧ Own w0 wr c v1 v2 F G) (hg : wr.grownBy w' row) (hr : row = v1.ownBlock ∨ row = v2.ownBlock)
    (h1 : v1'.ownBlock = v1.ownBlock ∨ v1'.ownBlock = some wr.heap.size) (h2 : v2'.ownBlock = v2.ownBlock ∨ v2'.ownBlock = some wr.heap.size) : ∃ F G n, ProgAt w' F G b n bg tk ∧ Own w0 w' c v1' v2' F G := by
  obtain ⟨F, G, n, hp, hO⟩ := h
  have hs := hg.size
  have hnr : ∀ k, v1.ownBlock ≠ some k → v2.ownBlock ≠ some k → some k ≠ row := fun k e1 e2 e => by
    rcases hr with hr | hr
    · exact e1 (by rw [← hr, e])
    · exact e2 (by rw [← hr, e])
  have hn1 : ∀ k, k < wr.heap.size → v1.ownBlock ≠ some k → v1'.ownBlock ≠ some k := fun k hk e1 e => by
    rcases h1 with h | h
    · exact e1 (by rw [← h, e])
    · rw [h] at e; simp at e; omega
  have hn2 : ∀ k, k < wr.heap.size → v2.ownBlock ≠ some k → v2'.ownBlock ≠ some k := fun k hk e1 e => by
    rcases h2 with h | h
    · exact e1 (by rw [← h, e])
    · rw [h] at e; simp at e; omega
  refine ⟨F, G, n, hp.turn hs (fun k hk hkl => ⟨hg.block k hkl (hnr k (hO.1 k hk).2.2.2.1 (hO.1 k hk).2.2.2.2), hk⟩) (fun k hk hkl => ⟨hg.block k hkl (hnr k (hO.2 k hk).2.2.1 (hO.2 k hk).2.2.2), hk⟩), fun k hk => ?_, fun k hk => ?_⟩
  · obtain ⟨q1, q2, q3, q4, q5⟩ := hO.1 k hk
    exact ⟨q1, by omega, q3, hn1 k q2 q4, hn2 k q2 q5⟩
  · obtain ⟨q1, q2, q4, q5⟩ := hO.2 k hk
    exact ⟨q1, by omega, hn1 k q2 q4, hn2 k q2 q5⟩

theorem Mem.everMore {v' : Value} {z : Nat × Nat} (M : Mem w0 wr b c la nl lc ea ne ec bg tk ever live) (hown : ownsPart w' (c + 1) v' (ne + 1) (hCells ever ++ hCells [z])) (hg : wr.grownBy w' (Value.slice ea ne ec).ownBlock)
    (hn : v'.ownBlock = (Value.slice ea ne ec).ownBlock ∨ v'.ownBlock = some wr.heap.size) : ∃ ea' ec', v' = .slice ea' (ne + 1) ec' ∧ Mem w0 w' b c la nl lc ea' (ne + 1) ec' bg tk (ever ++ [z]) live := by
  have hrow : ∀ g, (Value.slice ea ne ec).ownBlock = some g → c + 1 ≤ g := fun g h => (M.evers.lt g h).1
  have hrow' : ∀ k, k ≤ c → some k ≠ (Value.slice ea ne ec).ownBlock := fun k hk e => by have := hrow k e.symm; omega
  obtain ⟨ea', ec', rfl⟩ := hown.form
  refine ⟨ea', ec', rfl, ?_⟩
  exact {
    prog := Own.kept M.prog hg (Or.inr rfl) (Or.inl rfl) hn
    box := hg.cell M.box (hrow' c (Nat.le_refl _))
    old := M.old.trans ⟨hg.os, hg.tape, hg.output, hg.size, fun k hk => hg.block k (by have := M.old.size; omega) (hrow' k (by have := M.ob; have := M.bc; omega))⟩
    ob := M.ob
    bc := M.bc
    cs := Nat.lt_of_lt_of_le M.cs hg.size
    llen := M.llen
    elen := by have := M.elen; simp; omega
    lives := M.lives.kept hg (keep_none fun g h => M.apart g h)
    evers := by rw [hCells_append]; exact hown
    apart := fun g h e => by
      rcases hn with hn | hn
      · rw [hn] at e; exact M.apart g h e
      · rw [hn] at e; have := (M.lives.lt g h).2; simp at e; omega }

theorem Mem.liveMore {v' : Value} {z : Nat × Nat} (M : Mem w0 wr b c la nl lc ea ne ec bg tk ever live) (hown : ownsPart w' (c + 1) v' (nl + 1) (hCells live ++ hCells [z])) (hg : wr.grownBy w' (Value.slice la nl lc).ownBlock)
    (hn : v'.ownBlock = (Value.slice la nl lc).ownBlock ∨ v'.ownBlock = some wr.heap.size) : ∃ la' lc', v' = .slice la' (nl + 1) lc' ∧ Mem w0 w' b c la' (nl + 1) lc' ea ne ec bg tk ever (live ++ [z]) := by
  have hrow : ∀ g, (Value.slice la nl lc).ownBlock = some g → c + 1 ≤ g := fun g h => (M.lives.lt g h).1
  have hrow' : ∀ k, k ≤ c → some k ≠ (Value.slice la nl lc).ownBlock := fun k hk e => by have := hrow k e.symm; omega
  obtain ⟨la', lc', rfl⟩ := hown.form
  refine ⟨la', lc', rfl, ?_⟩
  exact {
    prog := Own.kept M.prog hg (Or.inl rfl) hn (Or.inl rfl)
    box := hg.cell M.box (hrow' c (Nat.le_refl _))
    old := M.old.trans ⟨hg.os, hg.tape, hg.output, hg.size, fun k hk => hg.block k (by have := M.old.size; omega) (hrow' k (by have := M.ob; have := M.bc; omega))⟩
    ob := M.ob
    bc := M.bc
    cs := Nat.lt_of_lt_of_le M.cs hg.size
    llen := by have := M.llen; simp; omega
    elen := M.elen
    lives := by rw [hCells_append]; exact hown
    evers := M.evers.kept hg (keep_none fun g h e => M.apart g e h)
    apart := fun g h e => by
      rcases hn with hn | hn
      · rw [hn] at h; exact M.apart g h e
      · rw [hn] at h; have := (M.evers.lt g e).2; simp at h; omega }

theorem Mem.liveLess {v' : Value} {g j : Nat} (M : Mem w0 wr b c (some ⟨g, 0, none⟩) nl lc ea ne ec bg tk ever live) (hj : j < nl) (hown : ownsPart w' (c + 1) v' (j + (nl - (j + 1))) (hCells (live.take j) ++ hCells (live.drop (j + 1)))) (hg : wr.grownBy w' (some g))
    (hn : v'.ownBlock = some g ∨ v'.ownBlock = some wr.heap.size) : ∃ la' lc', v' = .slice la' (nl - 1) lc' ∧ Mem w0 w' b c la' (nl - 1) lc' ea ne ec bg tk ever (live.take j ++ live.drop (j + 1)) := by
  have hgc : c + 1 ≤ g := (M.lives.lt g rfl).1
  have hrow' : ∀ k, k ≤ c → some k ≠ some g := fun k hk e => by simp at e; omega
  have e1 : j + (nl - (j + 1)) = nl - 1 := by omega
  rw [e1] at hown
  obtain ⟨la', lc', rfl⟩ := hown.form
  refine ⟨la', lc', rfl, ?_⟩
  exact {
    prog := Own.kept M.prog hg (Or.inl rfl) hn (Or.inl rfl)
    box := hg.cell M.box (hrow' c (Nat.le_refl _))
    old := M.old.trans ⟨hg.os, hg.tape, hg.output, hg.size, fun k hk => hg.block k (by have := M.old.size; omega) (hrow' k (by have := M.ob; have := M.bc; omega))⟩
    ob := M.ob
    bc := M.bc
    cs := Nat.lt_of_lt_of_le M.cs hg.size
    llen := by have := M.llen; simp; omega
    elen := M.elen
    lives := by rw [hCells_append]; exact hown
    evers := M.evers.kept hg (keep_none fun k h e => by simp at e; subst e; exact M.apart _ rfl h)
    apart := fun k h e => by
      rcases hn with hn | hn
      · rw [hn] at h; simp at h; subst h; exact M.apart _ rfl e
      · rw [hn] at h; have := (M.evers.lt k e).2; simp at h; omega }

/-- live[:j:j]: what it owns. -/
theorem Mem.head {g j : Nat} (M : Mem w0 wr b c (some ⟨g, 0, none⟩) nl lc ea ne ec bg tk ever live) (hj : j < nl) : ownsPart wr (c + 1) (.slice (some ⟨g, 0, none⟩) j j) j (hCells (live.take j)) := by
  have hl := M.llen
  rcases M.lives.2 with ⟨h1, h2⟩ | ⟨g', cap, cur, h1, h2, h3, h4, h5, h6, h7⟩
  · omega
  · simp at h1
    obtain ⟨rfl, rfl⟩ := h1
    refine ⟨by rw [hCells_length, List.length_take]; omega, Or.inr ⟨g, j, cur, rfl, h2, h3, Nat.le_refl _, by omega, by omega, ?_⟩⟩
    rw [← hCells_take live j (by omega), ← h7, List.take_take]
    congr 1; omega

/-- live's cells. -/
theorem Mem.liveAt {g j : Nat} (M : Mem w0 wr b c (some ⟨g, 0, none⟩) nl lc ea ne ec bg tk ever live) (hj : j < live.length) : wr.cell? ⟨g, j * 2, none⟩ = some (.int .i64 ((live[j].1 : Int) + 1)) ∧ wr.cell? ⟨g, j * 2 + 1, none⟩ = some (.int .i64 (live[j].2 : Int)) :=
  ⟨M.lives.cells (g := g) rfl _ _ (hCells_get live j hj).1, M.lives.cells (g := g) rfl _ _ (hCells_get live j hj).2⟩

theorem Mem.everAt {g j : Nat} (M : Mem w0 wr b c la nl lc (some ⟨g, 0, none⟩) ne ec bg tk ever live) (hj : j < ever.length) : wr.cell? ⟨g, j * 2, none⟩ = some (.int .i64 ((ever[j].1 : Int) + 1)) ∧ wr.cell? ⟨g, j * 2 + 1, none⟩ = some (.int .i64 (ever[j].2 : Int)) :=
  ⟨M.evers.cells (g := g) rfl _ _ (hCells_get ever j hj).1, M.evers.cells (g := g) rfl _ _ (hCells_get ever j hj).2⟩

/-- live[j+1:]'s cells. -/
theorem Mem.tail {g j : Nat} (M : Mem w0 wr b c (some ⟨g, 0, none⟩) nl lc ea ne ec bg tk ever live) (hj : j < nl) : ∀ t u, (hCells (live.drop (j + 1)))[t]? = some u → wr.cell? ⟨g, (j + 1) * 2 + t, none⟩ = some u := by
  intro t u h
  rw [hCells_drop live (j + 1) (by have := M.llen; omega)] at h
  exact M.lives.cells (g := g) rfl _ _ h
theorem Mem.spawnFull (M : Mem w0 wr b c la nl lc ea ne ec bg tk ever live) (hf : ∀ j, j < 20 → shutAt bg tk j) :
    Calls Tryz.prog 26 #[.pointer (some ⟨b, 0, none⟩)] wr fun e w' => e = .returned (.tuple #[.agg #[.int .i64 0, .int .i64 0], .int .i64 2]) ∧ Below wr.heap.size wr w' := by
  obtain ⟨F, G, n, hp, _⟩ := M.prog
  obtain ⟨cp, hpl, _⟩ := hp.places
  exact spawn_full b bg tk cp wr hpl hf

theorem Mem.spawnAt (M : Mem w0 wr b c la nl lc ea ne ec bg tk ever live) (i : Nat) (hi : i < 20) (hf : ∀ j, j < i → shutAt bg tk j) (ht : tk i = false) (hg : bg i < 3) :
    Calls Tryz.prog 26 #[.pointer (some ⟨b, 0, none⟩)] wr fun e w' => e = .returned (.tuple #[.agg #[.int .i64 ((i : Int) + 1), .int .i64 ((bg i : Int) + 1)], .int .i64 0]) ∧ wr.heap.size ≤ w'.heap.size ∧ Mem w0 w' b c la nl lc ea ne ec (upd bg i (bg i + 1)) (upd tk i true) ever live := by
  obtain ⟨F, G, n, hp, hO⟩ := M.prog
  refine (spawn_at b n i bg tk wr hi hp (fun k hk => (hO.1 k hk).2.1) (fun k hk => (hO.2 k hk).1) hf ht hg).mono ?_
  rintro e w' ⟨rfl, h1, h2⟩
  exact ⟨rfl, h1.size, M.turn hO h1 h2⟩

theorem Mem.despawned (M : Mem w0 wr b c la nl lc ea ne ec bg tk ever live) (i : Nat) (hi : i < 20) (ht : tk i = true) :
    Calls Tryz.prog 27 #[.pointer (some ⟨b, 0, none⟩), .agg #[.int .i64 ((i : Int) + 1), .int .i64 (bg i : Int)]] wr fun e w' => e = .returned (.int .i64 0) ∧ Mem w0 w' b c la nl lc ea ne ec bg (upd tk i false) ever live := by
  obtain ⟨F, G, n, hp, hO⟩ := M.prog
  refine (despawn_yes b n i bg tk wr hi hp (fun k hk => (hO.1 k hk).2.1) (fun k hk => (hO.2 k hk).1) ht).mono ?_
  rintro e w' ⟨rfl, h1, h2⟩
  exact ⟨rfl, M.turn hO h1 h2⟩
end

end Go.Proofs.YthkbeaffkcfgiabGreatDoor
