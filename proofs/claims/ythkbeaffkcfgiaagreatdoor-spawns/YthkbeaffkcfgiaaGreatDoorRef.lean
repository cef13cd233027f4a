import Derived.Test.YthkbeaffkcfgiaaGreatDoorEq
namespace Go.Proofs.YthkbeaffkcfgiaaGreatDoor
open Go.RowKit

/-- An entity as the document's answer keeps it, at block b: its place, its life, n components that it has not. -/
structure Being (W : World) (F : Nat → Prop) (b pl life n : Nat) : Prop where
  imm : F b
  lt : b < W.heap.size
  place : W.cell? ⟨b, 0, none⟩ = some (.int .i64 ((pl : Int) + 1))
  life : W.cell? ⟨b, 1, none⟩ = some (.int .i64 (life : Int))
  vals : ∃ g, F g ∧ g < W.heap.size ∧ W.cell? ⟨b, 3, none⟩ = some (.slice (some ⟨g, 0, none⟩) n n) ∧ ∀ i, i < n → W.cell? ⟨g, i, none⟩ = some (.slice none 0 0)

theorem Being.turn {W W' : World} {F F' : Nat → Prop} {b pl life n : Nat} (h : Being W F b pl life n) (hs : W.heap.size ≤ W'.heap.size) (hF : ∀ k, F k → k < W.heap.size → W'.heap[k]? = W.heap[k]? ∧ F' k) : Being W' F' b pl life n := by
  obtain ⟨h1, h2, h3, h4, g, h5, h6, h7, h8⟩ := h
  have hb := (hF b h1 h2).1
  have hg := (hF g h5 h6).1
  exact ⟨(hF b h1 h2).2, Nat.lt_of_lt_of_le h2 hs, (World.cell?_of_block (a := ⟨b, _, none⟩) hb).trans h3, (World.cell?_of_block (a := ⟨b, _, none⟩) hb).trans h4,
    g, (hF g h5 h6).2, Nat.lt_of_lt_of_le h6 hs, (World.cell?_of_block (a := ⟨b, _, none⟩) hb).trans h7, fun i hi => (World.cell?_of_block (a := ⟨g, _, none⟩) hg).trans (h8 i hi)⟩

def ptrs (ls : List (Nat × Nat)) : List Value := ls.map fun z => .pointer (some ⟨z.2, 0, none⟩)

/-- The document's world at block m: its lives by places, and who lives: ls, each with its place and its block. -/
structure RefAt (W : World) (F : Nat → Prop) (m n : Nat) (bg : Nat → Nat) (tk : Nat → Bool) (la : Option Addr) (lc : Nat) (ls : List (Nat × Nat)) : Prop where
  lt : m < W.heap.size
  few : 1 ≤ n ∧ n ≤ 6
  out : ¬ F m
  schema : ∃ sa sc, W.cell? ⟨m, 0, none⟩ = some (.slice sa n sc)
  lives : ∀ p, 1 ≤ p → p ≤ 20 → W.cell? ⟨m, 1 + p, none⟩ = some (.int .i64 (bg (p - 1) : Int)) ∧ W.frozen? ⟨m, 1 + p, none⟩ = false
  line : W.cell? ⟨m, 22, none⟩ = some (.slice la ls.length lc)
  lineF : W.frozen? ⟨m, 22, none⟩ = false
  row : W.ownsRow 0 55 1 (.slice la ls.length lc) ls.length (ptrs ls)
  rowF : ∀ k, (Value.slice la ls.length lc).ownBlock = some k → F k
  live : ls.map Prod.fst = livePl tk
  each : ∀ z ∈ ls, Being W F z.2 z.1 (bg z.1) n

theorem RefAt.turn {W W' : World} {F F' : Nat → Prop} {m n : Nat} {bg : Nat → Nat} {tk : Nat → Bool} {la : Option Addr} {lc : Nat} {ls : List (Nat × Nat)} (h : RefAt W F m n bg tk la lc ls) (hs : W.heap.size ≤ W'.heap.size)
    (hm : W'.heap[m]? = W.heap[m]?) (hF : ∀ k, F k → k < W.heap.size → W'.heap[k]? = W.heap[k]? ∧ F' k) (ho : ¬ F' m) : RefAt W' F' m n bg tk la lc ls where
  lt := Nat.lt_of_lt_of_le h.lt hs
  few := h.few
  out := ho
  schema := by
    obtain ⟨sa, sc, e⟩ := h.schema
    exact ⟨sa, sc, (World.cell?_of_block (a := ⟨m, _, none⟩) hm).trans e⟩
  lives := fun p h1 h2 => ⟨(World.cell?_of_block (a := ⟨m, _, none⟩) hm).trans (h.lives p h1 h2).1, (World.frozen?_of_block (a := ⟨m, _, none⟩) hm).trans (h.lives p h1 h2).2⟩
  line := (World.cell?_of_block (a := ⟨m, _, none⟩) hm).trans h.line
  lineF := (World.frozen?_of_block (a := ⟨m, _, none⟩) hm).trans h.lineF
  row := own_turn h.row fun k hk hl => (hF k (h.rowF k hk) hl).1
  rowF := fun k hk => (hF k (h.rowF k hk) (h.row.lt k hk).2).2
  live := h.live
  each := fun z hz => (h.each z hz).turn hs hF

theorem RefAt.below {W W' : World} {F : Nat → Prop} {m n : Nat} {bg : Nat → Nat} {tk : Nat → Bool} {la : Option Addr} {lc : Nat} {ls : List (Nat × Nat)} (h : RefAt W F m n bg tk la lc ls) (hb : Below W.heap.size W W') : RefAt W' F m n bg tk la lc ls :=
  h.turn hb.size (hb.block m h.lt) (fun k hk hl => ⟨hb.block k hl, hk⟩) h.out

/-- How Get ends. -/
def GetEnds (bg : Nat → Nat) (tk : Nat → Bool) (hp hl : Int) (e : Ending) : Prop := (Lv bg tk hp hl ∧ ∃ a, e = .returned (.pointer (some a))) ∨ (¬ Lv bg tk hp hl ∧ e = .returned (.pointer none))

theorem ref_lv {bg : Nat → Nat} {tk : Nat → Bool} {ls : List (Nat × Nat)} (h : ls.map Prod.fst = livePl tk) (hp hl : Int) : Lv bg tk hp hl ↔ ∃ z ∈ ls, hp = (z.1 : Int) + 1 ∧ hl = (bg z.1 : Int) := by
  constructor
  · rintro ⟨i, h1, h2, h3, h4⟩
    have : i ∈ ls.map Prod.fst := by rw [h]; exact (live_mem tk i).2 ⟨h1, h2⟩
    obtain ⟨z, hz, rfl⟩ := List.mem_map.1 this
    exact ⟨z, hz, h3, h4⟩
  · rintro ⟨z, hz, h3, h4⟩
    have : z.1 ∈ livePl tk := by rw [← h]; exact List.mem_map_of_mem hz
    obtain ⟨h1, h2⟩ := (live_mem tk _).1 this
    exact ⟨z.1, h1, h2, h3, h4⟩

set_option maxHeartbeats 1600000 in
theorem get_any {F : Nat → Prop} {m n : Nat} {bg : Nat → Nat} {tk : Nat → Bool} {la : Option Addr} {lc : Nat} {ls : List (Nat × Nat)} (hp hl : Int) (w : World) (hR : RefAt w F m n bg tk la lc ls) :
    Calls Tryz.prog 29 #[.pointer (some ⟨m, 0, none⟩), .agg #[.int .i64 hp, .int .i64 hl]] w fun e w' => GetEnds bg tk hp hl e ∧ Below w.heap.size w w' := by
  have HR : Hid (RefAt w F m n bg tk la lc ls) := hR
  have HLv : Hid (Lv bg tk hp hl ↔ ∃ z ∈ ls, hp = (z.1 : Int) + 1 ∧ hl = (bg z.1 : Int)) := ref_lv hR.live hp hl
  have hline := hR.line
  have hm := hR.lt
  have hlen : ls.length ≤ 20 := by have := congrArg List.length hR.live; rw [List.length_map] at this; rw [this]; exact live_le tk
  obtain ⟨k, hk⟩ : ∃ k, k = ls.length := ⟨_, rfl⟩
  have HK : Hid (k = ls.length) := hk
  have HRow : Hid (w.ownsRow 0 55 1 (.slice la k lc) k (ptrs ls)) := by rw [hk]; exact hR.row
  rw [← hk] at hline hlen
  clear hR hk
  have hEql := eql48
  go_enter Tryz.func29, Tryz.ntmps29
  go_wp2_with fail
  go_loopw [12] (fun t wr => ∃ j : Nat, j ≤ k ∧ t = .int .i64 j ∧ Below w.heap.size w wr ∧ wr.cell? ⟨w.heap.size, 0, none⟩ = some (.int .i64 hp) ∧ wr.cell? ⟨w.heap.size, 1, none⟩ = some (.int .i64 hl) ∧ Hid (∀ q (h : q < ls.length), q < j → ¬ (hp = (ls[q].1 : Int) + 1 ∧ hl = (bg ls[q].1 : Int)))) (fun t _ => k - (intOf t).toNat)
  case atStart => exact ⟨0, by omega, rfl, (Below.refl _ _).alloc (Nat.le_refl _) _, by simp, by simp, fun q _ h => by omega⟩
  case round =>
    obtain ⟨j, hj, rfl, hb, c0, c1, HNo⟩ := hrel
    have HB : Hid (Below w.heap.size w wr) := hb
    by_cases hlt : j < k
    · have hjl : j < ls.length := by rw [← HK.out]; exact hlt
      obtain ⟨g, rfl⟩ : ∃ g, la = some ⟨g, 0, none⟩ := by
        rcases HRow.out.2 with ⟨h, h2⟩ | ⟨g, cap, cur, h, _⟩
        · omega
        · simp at h; exact ⟨g, h.1⟩
      have hg : g < w.heap.size := (HRow.out.lt g rfl).2
      have hcap : k ≤ lc := by
        rcases HRow.out.2 with ⟨h, h2⟩ | ⟨g', cap, cur, h, _, _, h4, _⟩
        · simp at h
        · simp at h; omega
      have r0 : wr.cell? ⟨g, j, none⟩ = some (.pointer (some ⟨ls[j].2, 0, none⟩)) := by
        rw [hb.cell (p := ⟨g, j, none⟩) hg, HRow.out.cellAt j (by omega)]
        simp [ptrs, hjl]
      obtain ⟨_, b2, b3, b4, _⟩ := HR.out.each ls[j] (List.getElem_mem hjl)
      have p0 : wr.cell? ⟨ls[j].2, 0, none⟩ = some (.int .i64 ((ls[j].1 : Int) + 1)) := (hb.cell (p := ⟨ls[j].2, 0, none⟩) b2).trans b3
      have p1 : wr.cell? ⟨ls[j].2, 1, none⟩ = some (.int .i64 (bg ls[j].1 : Int)) := (hb.cell (p := ⟨ls[j].2, 1, none⟩) b2).trans b4
      have HJ : Hid ((hp = (ls[j].1 : Int) + 1 ∧ hl = (bg ls[j].1 : Int)) → Lv bg tk hp hl) := fun h => HLv.out.2 ⟨ls[j], List.getElem_mem hjl, h⟩
      have HJ2 : Hid (¬ (hp = (ls[j].1 : Int) + 1 ∧ hl = (bg ls[j].1 : Int)) → ∀ q (h : q < ls.length), q < j + 1 → ¬ (hp = (ls[q].1 : Int) + 1 ∧ hl = (bg ls[q].1 : Int))) := fun hn q h h' => by
        by_cases e : q = j
        · subst e; exact hn
        · exact HNo.out q h (by omega)
      clear hb b2 b3 b4
      generalize ls[j].2 = bb at r0 p0 p1
      generalize ls[j].1 = pl at p0 p1 HJ HJ2
      generalize bg pl = lf at p0 p1 HJ HJ2
      go_wp2_with fail
      by_cases he : hp = (pl : Int) + 1 ∧ hl = (lf : Int)
      · have HV : Hid (Lv bg tk hp hl) := HJ.out he
        have q1 : (((pl : Int) + 1 == hp) && ((lf : Int) == hl)) = true := by simp [he.1, he.2]
        clear he
        go_quiet (fail)
        go_wp2_with fail
        go_ret
        exact ⟨Or.inl ⟨HV.out, _, rfl⟩, below_drewN HB.out _⟩
      · have HV : Hid _ := HJ2.out he
        have q1 : (((pl : Int) + 1 == hp) && ((lf : Int) == hl)) = false := by
          rw [Bool.and_eq_false_iff, beq_eq_false_iff_ne, beq_eq_false_iff_ne]
          by_cases h : hp = (pl : Int) + 1
          · exact Or.inr fun h' => he ⟨h, h'.symm⟩
          · exact Or.inl fun h' => h h'.symm
        clear he
        go_quiet (fail)
        go_wp2_with fail
        go_roundw
        case rel => exact ⟨j + 1, by omega, by go_num, below_drewN HB.out _, by simpa using c0, by simpa using c1, HV⟩
        case measure => simp [intOf]; omega
    · have HN : Hid (¬ Lv bg tk hp hl) := fun h => by
        obtain ⟨z, hz, h'⟩ := HLv.out.1 h
        obtain ⟨q, hq, rfl⟩ := List.getElem_of_mem hz
        exact HNo.out q hq (by have := HK.out; omega) h'
      clear hb
      go_wp2_with fail
      go_ret
      exact ⟨Or.inr ⟨HN.out, rfl⟩, HB.out⟩

end Go.Proofs.YthkbeaffkcfgiaaGreatDoor
