import Derived.Test.YthkbeaffkcfgiaaGreatDoorRdes
import Derived.BigRegion
import Derived.Deep.DeepMust
import Derived.Laws.AppendOwnNone
namespace Go.Proofs.YthkbeaffkcfgiaaGreatDoor
open Go.RowKit

/-- How Spawn ends where I is the first place at which a life may begin (20: none). -/
def RSpawnEnds (F : Nat → Prop) (m n : Nat) (bg : Nat → Nat) (tk : Nat → Bool) (I : Nat) (w : World) (e : Ending) (w' : World) : Prop :=
  (I = 20 ∧ e = .returned (.tuple #[.agg #[.int .i64 0, .int .i64 0], .int .i64 2]) ∧ Below w.heap.size w w') ∨
  (I < 20 ∧ e = .returned (.tuple #[.agg #[.int .i64 ((I : Int) + 1), .int .i64 ((bg I : Int) + 1)], .int .i64 0]) ∧ w.grownBy w' (some m) ∧
    ∃ la' lc' ls', RefAt w' (grow F w w') m n (upd bg I (bg I + 1)) (upd tk I true) la' lc' ls')

theorem Tryz.info4 : (Tryz.prog.info? 4).map (fun i => (i.zero, i.size, i.bytes)) = some (some (.bool false), 1, 1) := by kernel_rfl
theorem Tryz.info98 : (Tryz.prog.info? 98).map (fun i => (i.zero, i.size, i.bytes)) = some (some (.slice none 0 0), 1, 24) := by kernel_rfl

theorem made_nil (n y : Nat) (h : y < n) : (madeCells (Value.slice none 0 0).cells n)[y]? = some (.slice none 0 0) := by
  have e : (Value.slice none 0 0).cells = #[.slice none 0 0] := rfl
  rw [e]
  simp [madeCells, h, Nat.mod_one]

theorem make88 (n : Nat) (h : n ≤ 6) (W : World) : (Instr.makeSlice 82 (.int .i64 (n : Int)) (.int .i64 (n : Int))).run Tryz.prog W = .ok (.slice (some ⟨W.heap.size, 0, none⟩) n n) (W.alloc (.cells (madeCells (Value.slice none 0 0).cells n) 98)) := by
  obtain ⟨i9, hi, hz0, hz1, hz2⟩ := info_parts Tryz.info98
  have := run_make (P := Tryz.prog) W 82 98 i9 _ Tryz.underlying82 hi hz0 .i64 .i64 (n : Int) (n : Int) (by omega) (by omega) (by rw [hz2]; omega) (by omega)
  rw [hz1] at this
  simpa using this

theorem make87 (n : Nat) (h : n ≤ 6) (W : World) : (Instr.makeSlice 81 (.int .i64 (n : Int)) (.int .i64 (n : Int))).run Tryz.prog W = .ok (.slice (some ⟨W.heap.size, 0, none⟩) n n) (W.alloc (.cells (madeCells (Value.bool false).cells n) 4)) := by
  obtain ⟨i9, hi, hz0, hz1, hz2⟩ := info_parts Tryz.info4
  have := run_make (P := Tryz.prog) W 81 4 i9 _ Tryz.underlying81 hi hz0 .i64 .i64 (n : Int) (n : Int) (by omega) (by omega) (by rw [hz2]; omega) (by omega)
  rw [hz1] at this
  simpa using this

def BornAt (w2 wx : World) (s : Value) (n : Nat) (x0 x1 : Value) : Prop := ∃ bb gv, s = .pointer (some ⟨bb, 0, none⟩) ∧ w2.heap.size ≤ bb ∧ bb < wx.heap.size ∧ w2.heap.size ≤ gv ∧ gv < wx.heap.size ∧ wx.cell? ⟨bb, 0, none⟩ = some x0 ∧ wx.cell? ⟨bb, 1, none⟩ = some x1 ∧ wx.cell? ⟨bb, 3, none⟩ = some (.slice (some ⟨gv, 0, none⟩) n n) ∧ (∀ y, y < n → wx.cell? ⟨gv, y, none⟩ = some (.slice none 0 0)) ∧ Below w2.heap.size w2 wx

theorem cell_at (w : World) (c : Array Value) (t : TypeId) (b y : Nat) (h : b = w.heap.size) : (w.alloc (.cells c t)).cell? ⟨b, y, none⟩ = c[y]? := by
  subst h; exact World.cell?_alloc_new w c t y

theorem cell_past (w : World) (o : Obj) (b y : Nat) (h : b < w.heap.size) : (w.alloc o).cell? ⟨b, y, none⟩ = w.cell? ⟨b, y, none⟩ := World.cell?_alloc_old w o ⟨b, y, none⟩ (Nat.ne_of_lt h)

theorem three_new (w2 : World) (A B : Array Value) (ta tb : TypeId) (x0 x1 x2 : Value) (n t : Nat) (hV : ∀ y, y < n → B[y]? = some (.slice none 0 0)) :
    BornAt w2 (((w2.alloc (.cells A ta)).alloc (.cells B tb)).alloc (.cells #[x0, x1, x2, .slice (some ⟨w2.heap.size + 1, 0, none⟩) n n] t)).drew (.pointer (some ⟨w2.heap.size + 1 + 1, 0, none⟩)) n x0 x1 := by
  refine ⟨_, w2.heap.size + 1, rfl, by omega, by simp [World.drew], by omega, by simp [World.drew], ?_, ?_, ?_, ?_, ?_⟩
  · exact (cell_at _ _ _ _ _ (by simp)).trans (by simp)
  · exact (cell_at _ _ _ _ _ (by simp)).trans (by simp)
  · exact (cell_at _ _ _ _ _ (by simp)).trans (by simp)
  · intro y hy
    exact ((cell_past _ _ _ _ (by simp)).trans (cell_at _ _ _ _ _ (by simp))).trans (hV y hy)
  · exact (((((Below.refl _ _).alloc (Nat.le_refl _) _).alloc (by simp) _).alloc (by simp; omega) _)).drew

theorem three_new' (w2 : World) (A B : Array Value) (ta tb : TypeId) (x0 x1 x2 : Value) (n t : Nat) (hV : ∀ y, y < n → A[y]? = some (.slice none 0 0)) :
    BornAt w2 (((w2.alloc (.cells A ta)).alloc (.cells B tb)).alloc (.cells #[x0, x1, x2, .slice (some ⟨w2.heap.size, 0, none⟩) n n] t)).drew (.pointer (some ⟨w2.heap.size + 1 + 1, 0, none⟩)) n x0 x1 := by
  refine ⟨_, w2.heap.size, rfl, by omega, by simp [World.drew], by omega, by simp [World.drew]; omega, ?_, ?_, ?_, ?_, ?_⟩
  · exact (cell_at _ _ _ _ _ (by simp)).trans (by simp)
  · exact (cell_at _ _ _ _ _ (by simp)).trans (by simp)
  · exact (cell_at _ _ _ _ _ (by simp)).trans (by simp)
  · intro y hy
    exact ((cell_past _ _ _ _ (by simp; omega)).trans ((cell_past _ _ _ _ (by simp)).trans (cell_at _ _ _ _ _ rfl))).trans (hV y hy)
  · exact (((((Below.refl _ _).alloc (Nat.le_refl _) _).alloc (by simp) _).alloc (by simp; omega) _)).drew

/-- The document's world behind a Spawn at place i. -/
theorem RefAt.spawned {w W' : World} {F : Nat → Prop} {m n : Nat} {bg : Nat → Nat} {tk : Nat → Bool} {la : Option Addr} {lc : Nat} {ls : List (Nat × Nat)} (h : RefAt w F m n bg tk la lc ls) (i bb : Nat) (hi : i < 20) (ht : tk i = false) (la' : Option Addr) (lc' : Nat)
    (hg : w.grownBy W' (some m)) (hc : ∀ o, o ≠ 22 → o ≠ 1 + (i + 1) → W'.cell? ⟨m, o, none⟩ = w.cell? ⟨m, o, none⟩) (hcv : W'.cell? ⟨m, 1 + (i + 1), none⟩ = some (.int .i64 ((bg i : Int) + 1)))
    (hf : ∀ o, W'.frozen? ⟨m, o, none⟩ = w.frozen? ⟨m, o, none⟩) (hl : W'.cell? ⟨m, 22, none⟩ = some (.slice la' (ls.length + 1) lc'))
    (hr : W'.ownsRow w.heap.size 55 1 (.slice la' (ls.length + 1) lc') (ls.length + 1) (ptrs (ls.take (cnt tk i) ++ (i, bb) :: ls.drop (cnt tk i)))) (hb : Being W' (grow F w W') bb i (bg i + 1) n) :
    RefAt W' (grow F w W') m n (upd bg i (bg i + 1)) (upd tk i true) la' lc' (ls.take (cnt tk i) ++ (i, bb) :: ls.drop (cnt tk i)) := by
  have hm := h.lt
  have hcl : cnt tk i ≤ ls.length := by have := cnt_le tk i hi; rw [← h.live, List.length_map] at this; exact this
  have hlen : (ls.take (cnt tk i) ++ (i, bb) :: ls.drop (cnt tk i)).length = ls.length + 1 := by simp; omega
  refine { lt := Nat.lt_of_lt_of_le hm hg.size, few := h.few, out := ?_, schema := ?_, lives := ?_, line := by rw [hlen]; exact hl, lineF := (hf 22).trans h.lineF, row := by rw [hlen]; exact own_mono hr (Nat.zero_le _), rowF := ?_, live := ?_, each := ?_ }
  · rintro (h1 | h1)
    · exact h.out h1
    · omega
  · obtain ⟨s1, s2, e⟩ := h.schema
    exact ⟨s1, s2, (hc 0 (by omega) (by omega)).trans e⟩
  · intro p h1 h2
    obtain ⟨e1, e2⟩ := h.lives p h1 h2
    refine ⟨?_, (hf _).trans e2⟩
    by_cases e : p = i + 1
    · subst e
      rw [hcv]; simp [upd]
    · rw [hc _ (by omega) (by omega), e1]
      simp [upd, show p - 1 ≠ i by omega]
  · intro k hk
    rw [hlen] at hk
    have := hr.lt k hk
    exact Or.inr ⟨this.1, this.2⟩
  · rw [live_set tk i hi ht, List.map_append, List.map_cons, List.map_take, List.map_drop, h.live]
  · intro z hz
    rcases List.mem_append.1 hz with hz | hz
    · have hzl := List.mem_of_mem_take hz
      have hne : z.1 ≠ i := fun e => by
        have : z.1 ∈ livePl tk := by rw [← h.live]; exact List.mem_map_of_mem hzl
        rw [e, live_mem, ht] at this; cases this.2
      have : upd bg i (bg i + 1) z.1 = bg z.1 := by simp [upd, hne]
      rw [this]
      refine (h.each z hzl).turn hg.size fun k hk hkl => ⟨hg.block k hkl (fun e => ?_), Or.inl hk⟩
      obtain rfl : k = m := by simpa using e
      exact h.out hk
    · rcases List.mem_cons.1 hz with rfl | hz
      · have : upd bg i (bg i + 1) i = bg i + 1 := by simp [upd]
        simp only [this]; exact hb
      · have hzl := List.mem_of_mem_drop hz
        have hne : z.1 ≠ i := fun e => by
          have : z.1 ∈ livePl tk := by rw [← h.live]; exact List.mem_map_of_mem hzl
          rw [e, live_mem, ht] at this; cases this.2
        have : upd bg i (bg i + 1) z.1 = bg z.1 := by simp [upd, hne]
        rw [this]
        refine (h.each z hzl).turn hg.size fun k hk hkl => ⟨hg.block k hkl (fun e => ?_), Or.inl hk⟩
        obtain rfl : k = m := by simpa using e
        exact h.out hk

theorem RefAt.born {w w0 w2 w3 w6 : World} {F : Nat → Prop} {m n : Nat} {bg : Nat → Nat} {tk : Nat → Bool} {la : Option Addr} {lc : Nat} {ls : List (Nat × Nat)} (h : RefAt w F m n bg tk la lc ls) (i bb gv p : Nat) (hp : p = i + 1) (hi : i < 20) (ht : tk i = false) (la' : Option Addr) (lc' : Nat)
    (hB0 : Below w.heap.size w w0) (hs0 : w.heap.size < w0.heap.size) (hW2 : w2 = (w0.setCell ⟨m, 1 + p, none⟩ (.int .i64 ((bg i : Int) + 1))).drew) (hB3 : Below w2.heap.size w2 w3) (hB6 : Below w3.heap.size w3 w6)
    (hr : w6.ownsRow w3.heap.size 55 1 (.slice la' (ls.length + 1) lc') (ls.length + 1) (ptrs (ls.take (cnt tk i) ++ (i, bb) :: ls.drop (cnt tk i))))
    (b1 : w2.heap.size ≤ bb) (b2 : bb < w3.heap.size) (g1 : w2.heap.size ≤ gv) (g2 : gv < w3.heap.size) (y0 : w3.cell? ⟨bb, 0, none⟩ = some (.int .i64 (p : Int))) (y1 : w3.cell? ⟨bb, 1, none⟩ = some (.int .i64 ((bg i : Int) + 1))) (y3 : w3.cell? ⟨bb, 3, none⟩ = some (.slice (some ⟨gv, 0, none⟩) n n))
    (hy : ∀ y, y < n → w3.cell? ⟨gv, y, none⟩ = some (.slice none 0 0)) (u0 u1 : Value) :
    w.grownBy (((w6.setCell ⟨m, 22, none⟩ (.slice la' (ls.length + 1) lc')).setCell ⟨w.heap.size, 0, none⟩ u0).setCell ⟨w.heap.size, 1, none⟩ u1) (some m) ∧
    ∃ la2 lc2 ls2, RefAt (((w6.setCell ⟨m, 22, none⟩ (.slice la' (ls.length + 1) lc')).setCell ⟨w.heap.size, 0, none⟩ u0).setCell ⟨w.heap.size, 1, none⟩ u1) (grow F w (((w6.setCell ⟨m, 22, none⟩ (.slice la' (ls.length + 1) lc')).setCell ⟨w.heap.size, 0, none⟩ u0).setCell ⟨w.heap.size, 1, none⟩ u1)) m n (upd bg i (bg i + 1)) (upd tk i true) la2 lc2 ls2 := by
  have hm := h.lt
  have hz2 : w2.heap.size = w0.heap.size := by rw [hW2]; simp [World.setCell, World.drew]
  have hz3 := hB3.size
  have hz6 := hB6.size
  obtain ⟨W', hW'⟩ : ∃ W', W' = ((w6.setCell ⟨m, 22, none⟩ (.slice la' (ls.length + 1) lc')).setCell ⟨w.heap.size, 0, none⟩ u0).setCell ⟨w.heap.size, 1, none⟩ u1 := ⟨_, rfl⟩
  have hz : W'.heap.size = w6.heap.size := by rw [hW']; simp [World.setCell]
  have hblk6 : ∀ b, b ≠ m → b ≠ w.heap.size → W'.heap[b]? = w6.heap[b]? := fun b h1 h2 => by
    rw [hW', Below.heap_setCell _ _ _ _ h2, Below.heap_setCell _ _ _ _ h2, Below.heap_setCell _ _ _ _ h1]
  have hblk : ∀ b, b < w.heap.size → b ≠ m → W'.heap[b]? = w.heap[b]? := fun b h1 h2 => by
    rw [hblk6 b h2 (by omega), hB6.block b (by omega), hB3.block b (by omega), hW2]
    exact (Below.heap_setCell _ _ _ _ h2).trans (hB0.block b h1)
  have hg : w.grownBy W' (some m) := by
    refine ⟨?_, ?_, ?_, by omega, fun b h1 h2 => hblk b h1 (fun e => h2 (by rw [e]))⟩
    · rw [hW']; exact (hB6.os.trans (hB3.os.trans (by rw [hW2]; exact hB0.os)))
    · rw [hW']; exact (hB6.tape.trans (hB3.tape.trans (by rw [hW2]; exact hB0.tape)))
    · rw [hW']; exact (hB6.output.trans (hB3.output.trans (by rw [hW2]; exact hB0.output)))
  have c6 : ∀ o, w6.cell? ⟨m, o, none⟩ = w2.cell? ⟨m, o, none⟩ := fun o => (hB6.cell (p := ⟨m, o, none⟩) (by simp; omega)).trans (hB3.cell (p := ⟨m, o, none⟩) (by simp; omega))
  have cW : ∀ o, o ≠ 22 → W'.cell? ⟨m, o, none⟩ = w2.cell? ⟨m, o, none⟩ := fun o ho => by
    rw [hW', set_other _ (by omega), set_other _ (by omega), set_other _ (by omega)]; exact c6 o
  have hbb : ∀ o, W'.cell? ⟨bb, o, none⟩ = w3.cell? ⟨bb, o, none⟩ := fun o => by
    rw [World.cell?_of_block (w := w6) (a := ⟨bb, o, none⟩) (hblk6 bb (by omega) (by omega))]; exact hB6.cell (p := ⟨bb, o, none⟩) b2
  have hgv : ∀ o, W'.cell? ⟨gv, o, none⟩ = w3.cell? ⟨gv, o, none⟩ := fun o => by
    rw [World.cell?_of_block (w := w6) (a := ⟨gv, o, none⟩) (hblk6 gv (by omega) (by omega))]; exact hB6.cell (p := ⟨gv, o, none⟩) g2
  rw [← hW']
  refine ⟨hg, la', lc', _, h.spawned i bb hi ht la' lc' hg ?_ ?_ ?_ ?_ ?_ ?_⟩
  · intro o h1 h2
    rw [cW o h1, hW2]
    exact (set_other _ (by omega)).trans (hB0.cell (p := ⟨m, o, none⟩) hm)
  · rw [cW _ (by omega), hW2, ← hp]
    exact set_same _ ((hB0.cell (p := ⟨m, 1 + p, none⟩) hm).trans (h.lives p (by omega) (by omega)).1)
  · intro o
    rw [hW', World.frozen?_setCell, World.frozen?_setCell, World.frozen?_setCell, hB6.frozen (p := ⟨m, o, none⟩) (by simp; omega), hB3.frozen (p := ⟨m, o, none⟩) (by simp; omega), hW2]
    exact (World.frozen?_setCell _ _ _ _).trans (hB0.frozen (p := ⟨m, o, none⟩) hm)
  · rw [hW', set_other _ (by omega), set_other _ (by omega)]
    exact set_same _ ((c6 22).trans (by rw [hW2]; exact (set_other _ (by omega)).trans ((hB0.cell (p := ⟨m, 22, none⟩) hm).trans h.line)))
  · refine own_mono (own_turn hr fun b hb hbl => hblk6 b ?_ ?_) (by omega)
    · have := (hr.lt b hb).1; omega
    · have := (hr.lt b hb).1; omega
  · exact ⟨Or.inr ⟨by omega, by omega⟩, by omega, (hbb 0).trans (by rw [y0, hp]; rfl), (hbb 1).trans (by rw [y1]; rfl), gv, Or.inr ⟨by omega, by omega⟩, by omega, (hbb 3).trans y3, fun y hyn => (hgv y).trans (hy y hyn)⟩

/-- Who stands in the line at a: its block, its place. -/
theorem RefAt.stands {w : World} {F : Nat → Prop} {m n : Nat} {bg : Nat → Nat} {tk : Nat → Bool} {la : Option Addr} {lc : Nat} {ls : List (Nat × Nat)} (h : RefAt w F m n bg tk la lc ls) (a : Nat) (ha : a < ls.length) :
    ∃ (g bb pl : Nat), la = some ⟨g, 0, none⟩ ∧ g < w.heap.size ∧ ls.length ≤ lc ∧ bb < w.heap.size ∧ w.cell? ⟨g, a, none⟩ = some (.pointer (some ⟨bb, 0, none⟩)) ∧ w.cell? ⟨bb, 0, none⟩ = some (.int .i64 ((pl : Int) + 1)) ∧
      (∀ i, i < 20 → (pl < i ↔ a < cnt tk i)) ∧ (∀ i, i < 20 → tk i = true → a = cnt tk i → pl = i) ∧ (∀ i, tk i = false → pl ≠ i) := by
  have hb := h.each ls[a] (List.getElem_mem ha)
  have hl : a < (livePl tk).length := by rw [← h.live, List.length_map]; exact ha
  have hpl : ls[a].1 = (livePl tk)[a] := by
    have : (livePl tk)[a] = (ls.map Prod.fst)[a]'(by rw [List.length_map]; exact ha) := by simp only [h.live]
    rw [this, List.getElem_map]
  obtain ⟨g, hg⟩ : ∃ g, la = some ⟨g, 0, none⟩ := by
    rcases h.row.2 with ⟨_, h2⟩ | ⟨g, cap, cur, h1, _⟩
    · omega
    · simp at h1; exact ⟨g, h1.1⟩
  subst hg
  refine ⟨g, ls[a].2, ls[a].1, rfl, (h.row.lt g rfl).2, ?_, hb.lt, ?_, hb.place, ?_, ?_, ?_⟩
  · rcases h.row.2 with ⟨h1, _⟩ | ⟨g', cap, cur, h1, _, _, h4, _⟩
    · simp at h1
    · simp at h1; omega
  · rw [h.row.cellAt a (by omega)]
    simp [ptrs, ha]
  · intro i hi
    rw [hpl]; exact live_lt tk i hi a hl
  · intro i hi ht e
    subst e
    rw [hpl]; exact (live_at tk i hi ht).2
  · intro i ht
    rw [hpl]; exact live_not tk i a hl ht

set_option maxHeartbeats 3200000 in
set_option maxRecDepth 20000 in
theorem rspawn_any {F : Nat → Prop} {m n : Nat} {bg : Nat → Nat} {tk : Nat → Bool} {la : Option Addr} {lc : Nat} {ls : List (Nat × Nat)} (I : Nat) (w : World) (hR : RefAt w F m n bg tk la lc ls) (h3 : ∀ j, bg j ≤ 3) (hI : I ≤ 20) (hf : ∀ j, j < I → shutAt bg tk j) (ho : I < 20 → ¬ shutAt bg tk I) :
    Calls Tryz.prog 25 #[.pointer (some ⟨m, 0, none⟩)] w fun e w' => RSpawnEnds F m n bg tk I w e w' := by
  have HR : Hid (RefAt w F m n bg tk la lc ls) := hR
  have HF : Hid (∀ j, j < I → shutAt bg tk j) := hf
  have HOp : Hid (I < 20 → ¬ shutAt bg tk I) := ho
  have H3 : Hid (∀ j, bg j ≤ 3) := h3
  have hline := hR.line
  have hm := hR.lt
  have hlen : ls.length ≤ 20 := by have := congrArg List.length hR.live; rw [List.length_map] at this; rw [this]; exact live_le tk
  obtain ⟨k, hk⟩ : ∃ k, k = ls.length := ⟨_, rfl⟩
  have HK : Hid (k = ls.length) := hk
  rw [← hk] at hline hlen
  have HLv : Hid (∀ p, 1 ≤ p → p ≤ 20 → w.cell? ⟨m, 1 + p, none⟩ = some (.int .i64 (bg (p - 1) : Int))) := fun p h1 h2 => (hR.lives p h1 h2).1
  have HCk : Hid (∀ i, i < 20 → cnt tk i ≤ k) := fun i hi => by rw [hk]; have := cnt_le tk i hi; rw [← hR.live, List.length_map] at this; exact this
  clear hR hk hf h3 ho
  go_enter Tryz.func25, Tryz.ntmps25
  go_wp2_with fail
  obtain ⟨w0, hw0⟩ : ∃ w0, w0 = w.alloc (.cells #[.int .i64 0, .int .i64 0] 48) := ⟨_, rfl⟩
  rw [← hw0]
  have hB0 : Below w.heap.size w w0 := by rw [hw0]; exact (Below.refl _ _).alloc (Nat.le_refl _) _
  have x0 : w0.cell? ⟨w.heap.size, 0, none⟩ = some (.int .i64 0) := by rw [hw0]; simp
  have x1 : w0.cell? ⟨w.heap.size, 1, none⟩ = some (.int .i64 0) := by rw [hw0]; simp
  have f0 : w0.frozen? ⟨w.heap.size, 0, none⟩ = false := by rw [hw0]; simp
  have f1 : w0.frozen? ⟨w.heap.size, 1, none⟩ = false := by rw [hw0]; simp
  have l0 : w0.cell? ⟨m, 22, none⟩ = some (.slice la k lc) := (hB0.cell (p := ⟨m, 22, none⟩) hm).trans hline
  have HB0 : Hid (Below w.heap.size w w0) := hB0
  have HR0 : Hid (RefAt w0 F m n bg tk la lc ls) := HR.out.below hB0
  have HL0 : Hid (∀ p, 1 ≤ p → p ≤ 20 → w0.cell? ⟨m, 1 + p, none⟩ = some (.int .i64 (bg (p - 1) : Int))) := fun p h1 h2 => (HR0.out.lives p h1 h2).1
  have hs0 : w.heap.size < w0.heap.size := by rw [hw0]; simp
  clear hB0 hw0 hline
  go_loopw [4, 5] (fun t4 t5 wr => ∃ (at' p : Nat), 1 ≤ p ∧ p ≤ I + 1 ∧ t4 = .int .i64 at' ∧ t5 = .int .i64 p ∧ Hid (at' ≤ cnt tk (p - 1)) ∧ w0 = wr) (fun _ t _ => 21 - (intOf t).toNat)
  case atStart => exact ⟨0, 1, by omega, by omega, rfl, rfl, Nat.zero_le _, rfl⟩
  case round =>
    obtain ⟨at', p, hp1, hp2, rfl, rfl, HA, rfl⟩ := hrel
    by_cases hp : p ≤ 20
    · have hcv := HL0.out p hp1 hp
      obtain ⟨i, hpi⟩ : ∃ i, p = i + 1 := ⟨p - 1, by omega⟩
      have hi20 : i < 20 := by omega
      have HPi : Hid (p - 1 = i) := by show _ = _; omega
      have HPp : Hid (p = i + 1) := hpi
      rw [HPi.out] at hcv HA
      clear hpi
      go_wp2_with fail
      go_loopw [4] (fun t4 wk => ∃ a : Nat, t4 = .int .i64 a ∧ Hid (a ≤ cnt tk i) ∧ w0 = wk) (fun t _ => cnt tk i - (intOf t).toNat)
      case atStart => exact ⟨at', rfl, HA, rfl⟩
      case round =>
        obtain ⟨a, rfl, HAa, rfl⟩ := hrel
        go_upto_region 5 with fail
        go_cut [33] (fun s wx => ∃ bb : Bool, s = .bool bb ∧ Hid (bb = true ↔ a < cnt tk i) ∧ w0 = wx)
        case first =>
          by_cases hak : a < k
          · obtain ⟨g, bb, pl, rfl, hg, hcap, hbb, r0, p0, h1, h2, h4⟩ := HR0.out.stands a (by rw [← HK.out]; exact hak)
            have HI1 : Hid (pl < i ↔ a < cnt tk i) := h1 i hi20
            have HPl : Hid (((pl : Int) + 1 < (p : Int)) ↔ pl < i) := by show _ ↔ _; rw [HPp.out]; omega
            rw [← HK.out] at hcap
            clear h1 h2 h4
            go_wp2_with fail
            go_meet
            case rel => exact ⟨_, rfl, by show _ ↔ _; rw [decide_eq_true_iff, HPl.out, HI1.out], rfl⟩
          · have HNo : Hid (¬ a < cnt tk i) := fun h => hak (Nat.lt_of_lt_of_le h (HCk.out i hi20))
            go_wp2_with fail
            go_meet
            case rel => exact ⟨false, rfl, by show _ ↔ _; simp [HNo.out], rfl⟩
        case rest =>
          obtain ⟨bb, rfl, Hb, rfl⟩ := hcut
          cases bb with
          | true =>
            have HLt : Hid (a < cnt tk i) := Hb.out.1 rfl
            have ha20 : a ≤ 20 := by have := HLt.out; have := HCk.out i hi20; omega
            go_wp2_with fail
            go_roundw
            case rel => exact ⟨a + 1, by go_num, HLt.out, by first | rfl | trivial⟩
            case measure => have := HLt.out; simp [intOf]; omega
          | false =>
            have HEq : Hid (a = cnt tk i) := Nat.le_antisymm HAa.out (Nat.le_of_not_lt fun h => by have := Hb.out.2 h; cases this)
            have hak : a ≤ k := by have := HCk.out i hi20; rw [HEq.out]; exact this
            go_upto_region 7 with fail
            go_cut [66] (fun s wx => ∃ bb : Bool, s = .bool bb ∧ Hid (bb = true ↔ shutAt bg tk i) ∧ w0 = wx)
            case first =>
              by_cases h3 : bg i = 3
              · have hv : ((bg i : Int) == 3) = true := by simp; omega
                have HSh : Hid (shutAt bg tk i) := Or.inr (by omega)
                clear h3
                go_wp2_with fail
                go_meet
                case rel => exact ⟨true, rfl, by show _ ↔ _; simp [HSh.out], rfl⟩
              · have hv : ((bg i : Int) == 3) = false := by simp; omega
                have HSh : Hid (shutAt bg tk i ↔ tk i = true) := by
                  show _ ↔ _
                  unfold shutAt
                  have := H3.out i
                  constructor
                  · rintro (h | h)
                    · exact h
                    · omega
                  · exact Or.inl
                clear h3
                by_cases hak2 : a < k
                · obtain ⟨g, bb, pl, rfl, hg, hcap, hbb, r0, p0, h1, h2, h4⟩ := HR0.out.stands a (by rw [← HK.out]; exact hak2)
                  have HPl : Hid (((pl : Int) + 1 == (p : Int)) = true ↔ tk i = true) := by
                    show _ ↔ _
                    rw [HPp.out, beq_iff_eq]
                    constructor
                    · intro h
                      cases ht : tk i with
                      | true => rfl
                      | false => exact absurd (by omega) (h4 i ht)
                    · intro h
                      have := h2 i hi20 h HEq.out
                      omega
                  rw [← HK.out] at hcap
                  clear h1 h2 h4
                  go_wp2_with fail
                  go_meet
                  case rel => exact ⟨_, rfl, by show _ ↔ _; rw [HSh.out, ← HPl.out], rfl⟩
                · have HNo : Hid (¬ tk i = true) := fun h => by
                    obtain ⟨hj, _⟩ := live_at tk i hi20 h
                    have h5 := HR0.out.live
                    have h6 := congrArg List.length h5
                    rw [List.length_map] at h6
                    have := HEq.out
                    have := HK.out
                    omega
                  go_wp2_with fail
                  go_meet
                  case rel => exact ⟨false, rfl, by show _ ↔ _; rw [HSh.out]; simp [HNo.out], rfl⟩
            case rest =>
              obtain ⟨bb, rfl, HS, rfl⟩ := hcut
              cases bb with
              | true =>
                have HSh : Hid (shutAt bg tk i) := HS.out.1 rfl
                have hpI : p + 1 ≤ I + 1 := by
                  have h1 := HPp.out
                  have : i ≠ I := fun e => HOp.out (by omega) (e ▸ HSh.out)
                  omega
                go_wp2_with fail
                go_roundw
                case rel => exact ⟨a, p + 1, by omega, hpI, rfl, by go_num, by show _ ≤ _; rw [HEq.out, HPp.out]; exact cnt_mono tk i, by first | rfl | trivial⟩
                case measure => simp [intOf]; omega
              | false =>
                have HNs : Hid (¬ shutAt bg tk i) := fun h => by have := HS.out.2 h; cases this
                have hiI : i = I := by
                  have h1 := HPp.out
                  by_cases h : i < I
                  · exact absurd (HF.out i h) HNs.out
                  · omega
                subst hiI
                have hb3 : bg i < 3 := by
                  have := HNs.out; unfold shutAt at this; omega
                have HTk : Hid (tk i = false) := by
                  have h := HNs.out
                  unfold shutAt at h
                  show _ = _
                  cases ht : tk i with
                  | true => exact absurd (Or.inl ht) h
                  | false => rfl
                have hw64 : wrap64 ((bg i : Int) + 1) = (bg i : Int) + 1 := by simp only [wrap64]; omega
                have fp := (HR0.out.lives p hp1 hp).2
                have f22 := HR0.out.lineF
                obtain ⟨hn1, hn6⟩ := HR0.out.few
                obtain ⟨sa, sc, hsch⟩ := HR0.out.schema
                go_wp2_with fail
                go_cut [73] (fun _ wx => Hid (wx = (w0.setCell ⟨m, 1 + p, none⟩ (.int .i64 ((bg i : Int) + 1))).drew))
                case first =>
                  go_region
                  all_goals (try go_wp2_with fail)
                  all_goals go_meet
                  all_goals exact (rfl : _ = _)
                case rest =>
                  have HW2 : Hid (wc = (w0.setCell ⟨m, 1 + p, none⟩ (.int .i64 ((bg i : Int) + 1))).drew) := hcut
                  obtain ⟨w2, rfl⟩ : ∃ w2 : World, w2 = wc := ⟨_, rfl⟩
                  have u1 : w2.cell? ⟨m, 1 + p, none⟩ = some (.int .i64 ((bg i : Int) + 1)) := by rw [HW2.out]; exact set_same _ hcv
                  have u2 : w2.cell? ⟨m, 22, none⟩ = some (.slice la k lc) := by rw [HW2.out]; exact (set_other _ (by omega)).trans l0
                  have u3 : w2.cell? ⟨m, 0, none⟩ = some (.slice sa n sc) := by rw [HW2.out]; exact (set_other _ (by omega)).trans hsch
                  have u4 : w2.heap.size = w0.heap.size := by rw [HW2.out]; simp [World.setCell, World.drew]
                  have m7 := make87 n hn6
                  have m8 := make88 n hn6
                  obtain ⟨V8, hV8⟩ : ∃ V, V = madeCells (Value.slice none 0 0).cells n := ⟨_, rfl⟩
                  obtain ⟨V7, hV7⟩ : ∃ V, V = madeCells (Value.bool false).cells n := ⟨_, rfl⟩
                  rw [← hV8] at m8
                  rw [← hV7] at m7
                  have HV8 : Hid (∀ y, y < n → V8[y]? = some (.slice none 0 0)) := fun y hy => by rw [hV8]; exact made_nil n y hy
                  have hm2 : m < w2.heap.size := by omega
                  have U4 : Hid (w2.heap.size = w0.heap.size) := u4
                  clear hV7 hV8 hcut u4
                  go_wp2_with fail
                  go_cut [6] (fun s wx => BornAt w2 wx s n (.int .i64 (p : Int)) (.int .i64 ((bg i : Int) + 1)))
                  case first =>
                    go_region
                    all_goals (try go_wp2_with fail)
                    all_goals go_meet
                    all_goals first
                      | exact three_new w2 V7 V8 4 98 _ _ _ n 84 HV8.out
                      | exact three_new' w2 V8 V7 98 4 _ _ _ n 84 HV8.out
                  case rest =>
                    obtain ⟨bb, gv, rfl, hb1, hb2, hg1, hg2, y0, y1, y3, hy, hB3⟩ := hcut
                    have HY : Hid (∀ y, y < n → wc.cell? ⟨gv, y, none⟩ = some (.slice none 0 0)) := hy
                    have HB3 : Hid (Below w2.heap.size w2 wc) := hB3
                    have l3 : wc.cell? ⟨m, 22, none⟩ = some (.slice la k lc) := (hB3.cell (p := ⟨m, 22, none⟩) hm2).trans u2
                    have HRow3 : Hid (wc.ownsRow 0 55 1 (.slice la k lc) k (ptrs ls)) := by
                      have h := HR0.out.row
                      rw [← HK.out] at h
                      refine own_turn h fun b hb hbl => ?_
                      have hne : b ≠ m := fun e => HR0.out.out (by rw [← e]; exact HR0.out.rowF b (by rw [← HK.out]; exact hb))
                      rw [hB3.block b (by rw [U4.out]; exact hbl), HW2.out]
                      exact Below.heap_setCell _ _ _ _ hne
                    clear hy hB3
                    obtain ⟨w3, rfl⟩ : ∃ w3 : World, w3 = wc := ⟨_, rfl⟩
                    obtain ⟨i5, hi5, hz0, hz1, hz2⟩ := info_parts Tryz.info55
                    have hs23 : w2.heap.size ≤ w3.heap.size := HB3.out.size
                    go_upto_region 10 with fail
                    go_cut [7] (fun s wx => ∃ v1 c1, s = .slice v1 a c1 ∧ wx.ownsRow w3.heap.size 55 1 (.slice v1 a c1) a (ptrs (ls.take a)) ∧ Below w3.heap.size w3 wx)
                    case first =>
                      cases la with
                      | none =>
                        obtain ⟨rfl, rfl⟩ : lc = 0 ∧ k = 0 := by
                          rcases HRow3.out.2 with ⟨h, h2⟩ | ⟨g, cap, cur, h, _⟩
                          · simp at h; exact ⟨h.2, h2⟩
                          · simp at h
                        obtain rfl : a = 0 := by omega
                        go_wp2_with (at_builtin; refine wpList_append_own_none rfl _ _ 74 rfl w3.heap.size 55 i5 1 Tryz.underlying74 hi5 (.slice none 0 0) 0 [] rfl (World.ownsRow_nil _ _ _ _) rfl ?_)
                        go_meet
                        exact ⟨none, 0, rfl, World.ownsRow_nil _ _ _ _, Below.refl _ _⟩
                      | some A =>
                        obtain ⟨g, hA, hcap⟩ : ∃ g, A = ⟨g, 0, none⟩ ∧ k ≤ lc := by
                          rcases HRow3.out.2 with ⟨h, h2⟩ | ⟨g, cap, cur, h, _, _, h4, _⟩
                          · simp at h
                          · simp at h; exact ⟨g, h.1, by omega⟩
                        subst hA
                        have HLn : Hid ((ptrs (ls.take a)).length = a * 1) := by
                          show _ = _
                          rw [ptrs_length, List.length_take, ← HK.out]; omega
                        have HNw : Hid (∀ j u, (ptrs (ls.take a))[j]? = some u → w3.cell? ((⟨g, 0, none⟩ : Addr).add j) = some u) := fun j u hu => by
                          have hj : j < a := by
                            have := (List.getElem?_eq_some_iff.1 hu).1
                            have h2 := HLn.out
                            omega
                          have h3 := HRow3.out.cellAt j (by omega)
                          have e : (⟨g, 0, none⟩ : Addr).add j = ⟨g, j, none⟩ := by simp [Addr.add]; intro h; exact h.symm
                          rw [e, h3]
                          simp only [ptrs, List.map_take] at hu ⊢
                          rw [List.getElem?_take, if_pos hj] at hu
                          exact hu
                        have HOn : Hid (∀ u ∈ ptrs (ls.take a), u.oneCell' = true) := fun u hu => by
                          obtain ⟨z, _, rfl⟩ := List.mem_map.1 hu; rfl
                        go_wp2_with (at_builtin; refine wpList_append_own _ rfl _ _ 74 rfl w3.heap.size 55 i5 (.pointer none) 1 8 Tryz.underlying74 hi5 hz0 hz1 hz2 rfl (by decide) (.slice none 0 0) 0 [] rfl (World.ownsRow_nil _ _ _ _) ⟨g, 0, none⟩ a lc (ptrs (ls.take a)) rfl HLn.out HNw.out HOn.out (by unfold maxLen; omega) (by omega) (Nat.le_refl _) ?_; intro v' w4 hown4 hgrow4 _; obtain ⟨a4, c4, rfl⟩ := own_form hown4; have HO4 : Hid _ := hown4; have HB4 : Hid (Below w3.heap.size w3 w4) := ⟨hgrow4.os, hgrow4.tape, hgrow4.output, hgrow4.size, fun b hb => hgrow4.block b hb (by simp [Value.ownBlock])⟩; clear hown4 hgrow4)
                        go_meet
                        refine ⟨a4, c4, ?_, ?_, HB4.out⟩
                        · simp
                        · have := HO4.out
                          rw [Nat.zero_add, List.nil_append] at this
                          exact this
                    case rest =>
                      obtain ⟨v1, c1, rfl, hO4, hB4⟩ := hcut
                      obtain ⟨w4, rfl⟩ : ∃ w4 : World, w4 = wc := ⟨_, rfl⟩
                      have HO4 : Hid (w4.ownsRow w3.heap.size 55 1 (.slice v1 a c1) a (ptrs (ls.take a))) := hO4
                      have HB4 : Hid (Below w3.heap.size w3 w4) := hB4
                      have hs4 : w3.heap.size ≤ w4.heap.size := hB4.size
                      clear hO4 hB4
                      go_upto_region 12 with (at_builtin; refine wpList_append_own _ rfl _ _ 74 rfl w3.heap.size 55 i5 (.pointer none) 1 8 Tryz.underlying74 hi5 hz0 hz1 hz2 rfl (by decide) _ _ _ rfl (HO4.out.alloc _) ⟨w4.heap.size, 0, none⟩ 1 1 [.pointer (some ⟨bb, 0, none⟩)] rfl rfl (cell_one_new _ _ _) (fun x hx => by simp at hx; subst hx; rfl) (by unfold maxLen; omega) (by omega) (by simp; omega) ?_; intro v' w5 hown5 hgrow5 _; obtain ⟨g5, c5, rfl⟩ := own_succ hown5; have HO5 : Hid (w5.ownsRow w3.heap.size 55 1 (.slice (some ⟨g5, 0, none⟩) (a + 1) c5) (a + 1) (ptrs (ls.take a) ++ [.pointer (some ⟨bb, 0, none⟩)])) := hown5; have HB5 : Hid (Below w3.heap.size w3 w5) := Below.grown (HB4.out.alloc hs4 _) hgrow5 (by simp; omega) (fun j hj => (HO4.out.lt j hj).1); clear hown5 hgrow5)
                      have FX : Hid (∀ W : World, Below w3.heap.size w3 W → W.cell? ⟨m, 22, none⟩ = some (.slice la k lc) ∧ W.frozen? ⟨m, 22, none⟩ = false ∧ W.cell? ⟨bb, 0, none⟩ = some (.int .i64 (p : Int)) ∧ W.cell? ⟨bb, 1, none⟩ = some (.int .i64 ((bg i : Int) + 1)) ∧ W.cell? ⟨w.heap.size, 0, none⟩ = some (.int .i64 0) ∧ W.cell? ⟨w.heap.size, 1, none⟩ = some (.int .i64 0) ∧ W.frozen? ⟨w.heap.size, 0, none⟩ = false ∧ W.frozen? ⟨w.heap.size, 1, none⟩ = false) := fun W hW => by
                        have hz := U4.out
                        have t0 : ∀ o, W.cell? ⟨w.heap.size, o, none⟩ = w0.cell? ⟨w.heap.size, o, none⟩ := fun o => by
                          rw [hW.cell (p := ⟨w.heap.size, o, none⟩) (by simp; omega), HB3.out.cell (p := ⟨w.heap.size, o, none⟩) (by simp; omega), HW2.out]
                          exact set_other _ (by omega)
                        have t1 : ∀ o, W.frozen? ⟨w.heap.size, o, none⟩ = w0.frozen? ⟨w.heap.size, o, none⟩ := fun o => by
                          rw [hW.frozen (p := ⟨w.heap.size, o, none⟩) (by simp; omega), HB3.out.frozen (p := ⟨w.heap.size, o, none⟩) (by simp; omega), HW2.out]
                          exact World.frozen?_setCell _ _ _ _
                        refine ⟨(hW.cell (p := ⟨m, 22, none⟩) (by simp; omega)).trans l3, ?_, (hW.cell (p := ⟨bb, 0, none⟩) hb2).trans y0, (hW.cell (p := ⟨bb, 1, none⟩) hb2).trans y1, (t0 0).trans x0, (t0 1).trans x1, (t1 0).trans f0, (t1 1).trans f1⟩
                        rw [hW.frozen (p := ⟨m, 22, none⟩) (by simp; omega), HB3.out.frozen (p := ⟨m, 22, none⟩) hm2, HW2.out]
                        exact (World.frozen?_setCell _ _ _ _).trans f22
                      have HRow5 : Hid (w5.ownsRow 0 55 1 (.slice la k lc) k (ptrs ls)) := own_turn HRow3.out fun b _ hb => HB5.out.block b hb
                      obtain ⟨z0, z1, q0, q1, c0, c1, g0, g1⟩ := FX.out w5 HB5.out
                      have hs5 : w3.heap.size ≤ w5.heap.size := HB5.out.size
                      have hne1 : ¬ m = w.heap.size := by omega
                      have hne2 : ¬ m = bb := by omega
                      cases la with
                      | none =>
                        obtain ⟨rfl, rfl⟩ : lc = 0 ∧ k = 0 := by
                          rcases HRow3.out.2 with ⟨h, h2⟩ | ⟨g, cap, cur, h, _⟩
                          · simp at h; exact ⟨h.2, h2⟩
                          · simp at h
                        obtain rfl : a = 0 := by omega
                        go_wp2_with (at_builtin; refine wpList_append_own_none rfl _ _ 74 rfl w3.heap.size 55 i5 1 Tryz.underlying74 hi5 _ _ _ rfl HO5.out rfl ?_)
                        have hls : ls = [] := List.eq_nil_of_length_eq_zero HK.out.symm
                        have hc0 : cnt tk i = 0 := HEq.out.symm
                        have HBo : Hid _ := HR.out.born i bb gv p HPp.out hi20 HTk.out (some ⟨g5, 0, none⟩) c5 HB0.out hs0 HW2.out HB3.out HB5.out (by
                          have := HO5.out
                          subst hls
                          rw [hc0]
                          exact this) hb1 hb2 hg1 hg2 y0 y1 y3 HY.out (.int .i64 (p : Int)) (.int .i64 ((bg i : Int) + 1))
                        subst hls
                        refine bodyPost_ret (v := .tuple #[.agg #[.int .i64 (p : Int), .int .i64 ((bg i : Int) + 1)], .int .i64 0]) (by simp [results, Tryz.results25, go_sem, c0, c1]) rfl ?_
                        exact Or.inr ⟨hi20, by rw [HPp.out]; rfl, HBo.out⟩
                      | some A =>
                        obtain ⟨g, hA, hcap⟩ : ∃ g, A = ⟨g, 0, none⟩ ∧ k ≤ lc := by
                          rcases HRow3.out.2 with ⟨h, h2⟩ | ⟨g, cap, cur, h, _, _, h4, _⟩
                          · simp at h
                          · simp at h; exact ⟨g, h.1, by omega⟩
                        subst hA
                        obtain ⟨AD, hAD, hADe⟩ : ∃ AD : Addr, (if lc = a then some (⟨g, 0, none⟩ : Addr) else some ⟨g, a, none⟩) = some AD ∧ (k ≠ a → AD = ⟨g, a, none⟩) := by
                          by_cases h : lc = a
                          · exact ⟨⟨g, 0, none⟩, by simp [h], fun h2 => by omega⟩
                          · exact ⟨⟨g, a, none⟩, by simp [h], fun _ => rfl⟩
                        have HAD : Hid (k ≠ a → AD = ⟨g, a, none⟩) := hADe
                        have HLn : Hid ((ptrs (ls.drop a)).length = (k - a) * 1) := by
                          show _ = _
                          rw [ptrs_length, List.length_drop, ← HK.out]; omega
                        have HNw : Hid (∀ j u, (ptrs (ls.drop a))[j]? = some u → w5.cell? (AD.add j) = some u) := fun j u hu => by
                          have hj : j < k - a := by
                            have := (List.getElem?_eq_some_iff.1 hu).1
                            have h2 := HLn.out
                            omega
                          have h3 := HRow5.out.cellAt (a + j) (by omega)
                          rw [HAD.out (by omega)]
                          have e : (⟨g, a, none⟩ : Addr).add j = ⟨g, a + j, none⟩ := by simp [Addr.add]
                          rw [e, h3]
                          simp only [ptrs, List.map_drop] at hu ⊢
                          rw [List.getElem?_drop] at hu
                          exact hu
                        have HOn : Hid (∀ u ∈ ptrs (ls.drop a), u.oneCell' = true) := fun u hu => by
                          obtain ⟨z, _, rfl⟩ := List.mem_map.1 hu; rfl
                        clear hADe
                        go_wp2_with (at_builtin; go_must (refine wpList_append_own _ rfl _ _ 74 rfl w3.heap.size 55 i5 (.pointer none) 1 8 Tryz.underlying74 hi5 hz0 hz1 hz2 rfl (by decide) _ _ _ rfl HO5.out AD (k - a) (lc - a) (ptrs (ls.drop a)) rfl HLn.out HNw.out HOn.out (by unfold maxLen; omega) (by omega) (by omega) ?_); go_must (intro v' w6 hown6 hgrow6 _); go_must (obtain ⟨a6, c6, rfl⟩ := own_form hown6); go_must (have HO6 : Hid (w6.ownsRow w3.heap.size 55 1 (.slice a6 (a + 1 + (k - a)) c6) (a + 1 + (k - a)) (ptrs (ls.take a) ++ [.pointer (some ⟨bb, 0, none⟩)] ++ ptrs (ls.drop a))) := hown6); go_must (have HB6 : Hid (Below w3.heap.size w3 w6) := Below.grown HB5.out hgrow6 (by omega) (fun j hj => (HO5.out.lt j hj).1)); go_must (obtain ⟨z60, z61, q60, q61, c60, c61, g60, g61⟩ := FX.out w6 HB6.out); go_must (clear hown6 hgrow6))
                        have hkk : a + 1 + (k - a) = k + 1 := by omega
                        have HO7 : Hid (w6.ownsRow w3.heap.size 55 1 (.slice a6 (k + 1) c6) (k + 1) (ptrs (ls.take a) ++ [.pointer (some ⟨bb, 0, none⟩)] ++ ptrs (ls.drop a))) := by
                          have := HO6.out; rw [hkk] at this; exact this
                        rw [hkk]
                        have HBo : Hid _ := HR.out.born i bb gv p HPp.out hi20 HTk.out a6 c6 HB0.out hs0 HW2.out HB3.out HB6.out (by
                          have := HO7.out
                          rw [← HEq.out, ← HK.out, ptrs_append]
                          simpa [ptrs] using this) hb1 hb2 hg1 hg2 y0 y1 y3 HY.out (.int .i64 (p : Int)) (.int .i64 ((bg i : Int) + 1))
                        rw [← HK.out] at HBo
                        refine bodyPost_ret (v := .tuple #[.agg #[.int .i64 (p : Int), .int .i64 ((bg i : Int) + 1)], .int .i64 0]) (by simp [results, Tryz.results25, go_sem, c60, c61]) rfl ?_
                        exact Or.inr ⟨hi20, by rw [HPp.out]; rfl, HBo.out⟩
    · have hI20 : I = 20 := by omega
      have HI : Hid (I = 20) := hI20
      clear hI20
      go_wp2_with fail
      refine bodyPost_ret (v := .tuple #[.agg #[.int .i64 0, .int .i64 0], .int .i64 2]) (by simp [results, Tryz.results25, go_sem, x0, x1]) rfl ?_
      exact Or.inl ⟨HI.out, rfl, (HB0.out.setCell (by simp) _).setCell (by simp) _⟩

end Go.Proofs.YthkbeaffkcfgiaaGreatDoor
