import Derived.Test.YthkbeaffkcfgiabGreatDoorK31
import Derived.Test.YthkbeaffkcfgiabGreatDoorK03
import Derived.Test.YthkbeaffkcfgiabGreatDoorK22
set_option linter.unusedSimpArgs false
set_option linter.unusedVariables false
namespace Go.Proofs.YthkbeaffkcfgiabGreatDoor
open Go.RowKit

/-- An entity's set is set. -/
theorem BScene.mark {W : World} {B g cap n : Nat} {sc : List Ent} {sls : Nat → Nat → Value} {lvs : Nat → Nat → List Value} {i c : Nat} (h : BScene W B g cap n sc sls lvs) (hi : i < n) (hc : c < 64) :
    BScene (W.setCell ⟨g, i * 7, none⟩ (.int .u64 c)) B g cap n (sc.set i ⟨c, (entAt sc i).vs⟩) sls lvs := by
  obtain ⟨cur, hb, q4, q5, q6, q7, q2⟩ := h.blk (by omega)
  have hl := h.len
  have his : i < sc.length := by omega
  have hset := setCell_block (o := i * 7) (.int .u64 c) hb
  have hkeep : ∀ (b : Nat) (cs : Array Value) (t : TypeId), W.heap[b]? = some (Obj.cells cs t (0, 0)) → t ≠ 164 → (W.setCell ⟨g, i * 7, none⟩ (.int .u64 c)).heap[b]? = W.heap[b]? := fun b cs t h1 h2 => heapSet (type_ne h1 hb h2)
  refine ⟨⟨?_, fun j hj => ?_⟩, by simp [hl], h.apart⟩
  · rw [List.length_set, hl]
    refine ⟨?_, Or.inr ⟨g, cap, _, rfl, q2, hset, q4, q5, by simp [q6], ?_⟩⟩
    · unfold sceneCells
      rw [flat_len _ 7 (fun _ => rfl), List.length_set, hl]
    · rw [Array.toList_setIfInBounds, List.take_set, q7]
      unfold sceneCells
      rw [List.length_set]
      refine flat_set (fun j => entCells (entAt sc j).c (sls j)) (fun j => entCells (entAt (sc.set i ⟨c, (entAt sc i).vs⟩) j).c (sls j)) 7 (fun _ => rfl) sc.length i 0 (Value.int .u64 c) his (by omega) ?_ (fun j hj => ?_)
      · show entCells _ _ = _
        rw [entAt_set _ _ _ _ his, if_pos rfl]; rfl
      · show entCells _ _ = _
        rw [entAt_set _ _ _ _ his, if_neg hj]
  · rw [List.length_set] at hj
    rw [entAt_set _ _ _ _ his]
    by_cases e : j = i
    · subst e
      rw [if_pos rfl]
      obtain ⟨e1, e2, e3⟩ := h.own.ents j his
      exact ⟨hc, e2, fun m hm => (e3 m hm).keepT fun b cs t _ hb2 hb3 => hkeep b cs t hb2 (by rcases hb3 with rfl | rfl <;> decide)⟩
    · rw [if_neg e]
      obtain ⟨e1, e2, e3⟩ := h.own.ents j hj
      exact ⟨e1, e2, fun m hm => (e3 m hm).keepT fun b cs t _ hb2 hb3 => hkeep b cs t hb2 (by rcases hb3 with rfl | rfl <;> decide)⟩

theorem BSt.mark {w wr : World} {b0 rb g cap n : Nat} {tail : List Value} {sc : List Ent} {sls : Nat → Nat → Value} {lvs : Nat → Nat → List Value} {r : List UInt8} {i c : Nat} (h : BSt w wr b0 rb g cap n tail sc sls lvs r) (hi : i < n) (hc : c < 64) :
    BSt w (wr.setCell ⟨g, i * 7, none⟩ (.int .u64 c)) b0 rb g cap n tail (sc.set i ⟨c, (entAt sc i).vs⟩) sls lvs r := by
  obtain ⟨cur, hb, _, _, _, _, hB⟩ := h.scene.blk (by omega)
  have hk : ∀ (a : Nat) (cs : Array Value) (t : TypeId), wr.heap[a]? = some (Obj.cells cs t (0, 0)) → t ≠ 164 → (wr.setCell ⟨g, i * 7, none⟩ (.int .u64 c)).heap[a]? = wr.heap[a]? := fun a cs t h1 h2 => heapSet (type_ne h1 hb h2)
  have hsz : (wr.setCell ⟨g, i * 7, none⟩ (.int .u64 c)).heap.size = wr.heap.size := by simp [World.setCell]
  refine ⟨h.scene.mark hi hc, h.rd.keep (hk _ _ _ h.rd (by decide)), ⟨h.below.os, h.below.tape, h.below.output, by rw [hsz]; exact h.below.size, fun a ha => ?_⟩, by rw [hsz]; exact h.more, fun a cs t h1 h2 h3 h4 => ?_⟩
  · rw [heapSet (by omega)]; exact h.below.block a ha
  · have := h.keep a cs t h1 h2 h3 h4
    exact (hk a cs t this h3).trans this

/-- An entity is told. -/
theorem told_set {w wr : World} {b0 rb g cap n : Nat} {tail : List Value} {sc : List Ent} {sls : Nat → Nat → Value} {lvs : Nat → Nat → List Value} {r : List UInt8} (h : BSt w wr b0 rb g cap n tail sc sls lvs r) (hrb : b0 ≤ rb) (o : Nat) (u : Value) :
    BSt w (wr.setCell ⟨rb, 1 + o, none⟩ u) b0 rb g cap n (tail.set o u) sc sls lvs r := by
  have hk : ∀ (a : Nat) (cs : Array Value) (t : TypeId), wr.heap[a]? = some (Obj.cells cs t (0, 0)) → t ≠ 276 → (wr.setCell ⟨rb, 1 + o, none⟩ u).heap[a]? = wr.heap[a]? := fun a cs t h1 h2 => heapSet (type_ne h1 h.rd h2)
  have hsz : (wr.setCell ⟨rb, 1 + o, none⟩ u).heap.size = wr.heap.size := by simp [World.setCell]
  refine ⟨⟨h.scene.own.keepT fun i cs t _ h1 h2 => hk i cs t h1 (by rcases h2 with rfl | rfl | rfl <;> decide), h.scene.len, h.scene.apart⟩, ?_, ⟨h.below.os, h.below.tape, h.below.output, by rw [hsz]; exact h.below.size, fun a ha => ?_⟩, by rw [hsz]; exact h.more, fun a cs t h1 h2 h3 h4 => ?_⟩
  · have := setCell_block (o := 1 + o) u h.rd
    have e : (Value.string (mk r) :: tail).toArray.setIfInBounds (1 + o) u = (Value.string (mk r) :: tail.set o u).toArray := by rw [Nat.add_comm 1 o]; simp
    rw [e] at this
    exact this
  · rw [heapSet (by omega)]; exact h.below.block a ha
  · have := h.keep a cs t h1 h2 h3 h4
    exact (hk a cs t this h2).trans this

/-- The cell of an entity's set. -/
theorem BScene.head {W : World} {B g cap n : Nat} {sc : List Ent} {sls : Nat → Nat → Value} {lvs : Nat → Nat → List Value} (h : BScene W B g cap n sc sls lvs) (i : Nat) (hi : i < n) : W.cell? ⟨g, i * 7, none⟩ = some (.int .u64 (entAt sc i).c) ∧ W.frozen? ⟨g, i * 7, none⟩ = false := by
  obtain ⟨cur, hb, _, _, _, _, _⟩ := h.blk (by omega)
  refine ⟨?_, frozen_row hb _⟩
  obtain ⟨g', cap', h1, _, _, _, h5⟩ := h.own.cell i (by have := h.len; omega)
  simp only [Value.slice.injEq, Option.some.injEq, Addr.mk.injEq] at h1
  obtain ⟨⟨rfl, _, _⟩, _, _⟩ := h1
  exact (h5 0 (by omega)).trans rfl

def markGo (c : Nat) : List Nat → List Bool → List Ent → Option (List Bool × List Ent)
  | [], td, sc => some (td, sc)
  | i :: is, td, sc => if td.getD i true then none else markGo c is (td.set i true) (sc.set i ⟨c, (entAt sc i).vs⟩)
def compsGo (c n : Nat) (who : List Nat) : Nat → List CompS → List Ent → List UInt8 → Option (List Ent × List UInt8)
  | _, [], sc, l => some (sc, l)
  | k, x :: xs, sc, l => if c.testBit k then
      match columnsGo k n who x.2 sc l with
      | none => none
      | some (sc', r) => compsGo c n who (k + 1) xs sc' r
    else compsGo c n who (k + 1) xs sc l
def blockL (L : List CompS) (c n : Nat) (td : List Bool) (sc : List Ent) (l : List UInt8) : Option (Nat × List Bool × List Ent × List UInt8) :=
  match countL 1 n l with
  | none => none
  | some (m, r) => match numbersGo n m.toNat 0 [] r with
    | none => none
    | some (who, r2) => match markGo c (who.map Int.toNat) td sc with
      | none => none
      | some (td', sc') => match compsGo c n (who.map Int.toNat) 0 L sc' r2 with
        | none => none
        | some (sc'', r3) => some (who.length, td', sc'', r3)

def tailB (g cap n : Nat) (td : List Bool) : List Value := .slice (some ⟨g, 0, none⟩) n cap :: td.map Value.bool

theorem push_lens {B : Nat} {sc : List Ent} (h : ∀ j k', ((entAt sc j).vs.getD k' []).length ≤ B) (i k : Nat) (x : SV) : ∀ j k', ((entAt (sc.set i (pushV k x (entAt sc i))) j).vs.getD k' []).length ≤ B + 1 := fun j k' => by
  have hj := h j k'
  by_cases hi : i < sc.length
  · rw [entAt_set sc i j _ hi]
    split
    · rename_i e
      subst e
      by_cases ek : k' = k
      · subst ek
        have h1 := pushV_len k' x (entAt sc j)
        omega
      · have ev : (pushV k x (entAt sc j)).vs.getD k' [] = (entAt sc j).vs.getD k' [] := by
          show ((entAt sc j).vs.set k _).getD k' [] = _
          rw [getD_set, if_neg (fun h => ek h.1)]
        rw [ev]; omega
    · omega
  · rw [List.set_eq_of_length_le (by omega)]; omega

theorem colGo_lens (k kd n : Nat) : ∀ (is : List Nat) (sc : List Ent) (l : List UInt8) {sc' : List Ent} {r : List UInt8} {B : Nat}, colGo k kd n is sc l = some (sc', r) → (∀ j k', ((entAt sc j).vs.getD k' []).length ≤ B) → ∀ j k', ((entAt sc' j).vs.getD k' []).length ≤ B + is.length
  | [], sc, l, sc', r, B, h, hB => by simp [colGo] at h; rw [← h.1]; simpa using hB
  | i :: is, sc, l, sc', r, B, h, hB => by
    rw [colGo] at h
    split at h
    · cases h
    · rename_i x q hb
      have h1 := colGo_lens k kd n is _ _ h (push_lens hB i k x)
      intro j k'
      have := h1 j k'
      simp only [List.length_cons]
      omega

theorem columnsGo_lens (k n : Nat) (who : List Nat) : ∀ (fl : List (List UInt8 × Nat)) (sc : List Ent) (l : List UInt8) {sc' : List Ent} {r : List UInt8} {B : Nat}, columnsGo k n who fl sc l = some (sc', r) → (∀ j k', ((entAt sc j).vs.getD k' []).length ≤ B) → (∀ j k', ((entAt sc' j).vs.getD k' []).length ≤ B + fl.length * who.length) ∧ r.length ≤ l.length
  | [], sc, l, sc', r, B, h, hB => by simp [columnsGo] at h; rw [← h.1, ← h.2]; simpa using hB
  | f :: fl, sc, l, sc', r, B, h, hB => by
    rw [columnsGo] at h
    split at h
    · cases h
    · rename_i sc1 r1 hb
      have h1 := columnsGo_lens k n who fl _ _ h (colGo_lens k f.2 n who sc l hb hB)
      have h2 := (colGo_len k f.2 n who sc l hb).1
      refine ⟨fun j k' => ?_, by omega⟩
      have := h1.1 j k'
      simp only [List.length_cons]
      rw [Nat.succ_mul]
      omega

theorem who_back (who : List Nat) : (who.map fun i : Nat => (i : Int)).map Int.toNat = who := by
  rw [List.map_map]
  exact (List.map_congr_left fun x _ => by simp).trans (List.map_id who)

theorem BSt.self {w wr : World} {b0 rb g cap n : Nat} {tail : List Value} {sc : List Ent} {sls : Nat → Nat → Value} {lvs : Nat → Nat → List Value} {r : List UInt8} (h : BSt w wr b0 rb g cap n tail sc sls lvs r) : BSt wr wr b0 rb g cap n tail sc sls lvs r :=
  ⟨h.scene, h.rd, Below.refl _ _, Nat.le_refl _, fun _ _ _ h1 _ _ _ => h1⟩

/-- How block ends. -/
def KEnds (w : World) (b0 rb g cap n : Nat) (r : Option (Nat × List Bool × List Ent × List UInt8)) (e : Ending) (w' : World) : Prop :=
  (∃ m td sc l sls lvs, r = some (m, td, sc, l) ∧ e = .returned (.int .i64 m) ∧ BSt w w' b0 rb g cap n (tailB g cap n td) sc sls lvs l) ∨ (r = none ∧ e = .panicked wrongS ∧ Below b0 w w')

set_option maxHeartbeats 6400000 in
set_option maxRecDepth 20000 in
theorem block_any (b0 rb g cap n : Nat) (td : List Bool) (L : List CompS) (gl lc c : Nat) (sc : List Ent) (sls : Nat → Nat → Value) (lvs : Nat → Nat → List Value) (l : List UInt8) (w : World)
    (hS : BSt w w b0 rb g cap n (tailB g cap n td) sc sls lvs l) (hb0 : b0 ≤ w.heap.size) (hrb : b0 ≤ rb) (hl : l.length ≤ 2 ^ 40) (hn1 : 1 ≤ n) (hn : n ≤ 20) (htd : td.length = 20) (hc : c < 64) (hL : LayN w b0 gl L) (hlc : L.length ≤ lc) (C : Nat) (hC : C ≤ 100000) (hv4 : ∀ i k, ((entAt sc i).vs.getD k []).length ≤ C) :
    Calls Tryz.prog 188 #[.pointer (some ⟨rb, 0, none⟩), .slice (some ⟨gl, 0, none⟩) L.length lc, .int .u64 c] w (KEnds w b0 rb g cap n (blockL L c n td sc l)) := by
  have HS0 : Hid (BSt w w b0 rb g cap n (tailB g cap n td) sc sls lvs l) := hS
  have HL0 : Hid (LayN w b0 gl L) := hL
  have HV4 : Hid (∀ i k, ((entAt sc i).vs.getD k []).length ≤ C) := hv4
  obtain ⟨p, hp⟩ : ∃ p, p = L.length := ⟨_, rfl⟩
  rw [← hp] at hlc ⊢
  have HP : Hid (p = L.length) := hp
  have hp6 : p ≤ 6 := by rw [hp]; exact hL.few
  have es : w.cell? ⟨rb, 1, none⟩ = some (.slice (some ⟨g, 0, none⟩) n cap) := by rw [cell_row hS.rd]; rfl
  have HCt : Hid (Calls Tryz.prog 187 #[.pointer (some ⟨rb, 0, none⟩), .int .i64 1, .int .i64 (n : Int)] w _) := count_any rb (tailB g cap n td) 1 n l w hS.rd hl
  clear hS hL hv4 hp
  go_enter Tryz.func188, Tryz.ntmps188
  go_wp2_with fail
  refine Calls.mono HCt.out ?_
  rintro e w1 (⟨v, l1, hv, rfl, ht1⟩ | ⟨hn0, rfl, ht1⟩)
  · obtain ⟨m, hd⟩ : ∃ m, countL 1 n l = some (m, l1) ∧ v = .int .i64 m := by
      cases hd : countL 1 n l with
      | none => rw [hd] at hv; cases hv
      | some y => rw [hd] at hv; simp [intP] at hv; exact ⟨y.1, by rw [← hv.2], hv.1.symm⟩
    obtain ⟨hd, rfl⟩ := hd
    obtain ⟨m0, m1, m2, m3⟩ := countL_range hd
    obtain ⟨mn, rfl⟩ : ∃ mn : Nat, m = (mn : Int) := ⟨m.toNat, by omega⟩
    have HS1 : Hid (BSt w w1 b0 rb g cap n (tailB g cap n td) sc sls lvs l1) := HS0.out.read hb0 hrb ht1
    have HNm : Hid (Calls Tryz.prog 240 #[.pointer (some ⟨rb, 0, none⟩), .int .i64 mn] w1 _) := numbers_any rb n mn (tailB g cap n td) l1 w1 ht1.rest (by omega) (some ⟨g, 0, none⟩) cap rfl hn (by omega)
    have HD : Hid (blockL L c n td sc l = match numbersGo n mn 0 [] l1 with
      | none => none
      | some (who, r2) => match markGo c (who.map Int.toNat) td sc with
        | none => none
        | some (td', sc') => match compsGo c n (who.map Int.toNat) 0 L sc' r2 with
          | none => none
          | some (sc'', r3) => some (who.length, td', sc'', r3)) := by
      show _ = _
      unfold blockL
      rw [hd]
      rfl
    clear hd ht1 HCt es hv
    go_wp2_with fail
    refine Calls.mono HNm.out ?_
    rintro e w2 (⟨xs, l2, wa, wc, hx, rfl, ht2, ho2⟩ | ⟨hn0, rfl, ht2⟩)
    · obtain ⟨x0, x1, x2⟩ := numbersGo_range n mn 0 [] l1 hx (by omega) (by simp)
      obtain ⟨who, rfl⟩ : ∃ who : List Nat, xs = who.map fun i : Nat => (i : Int) := ⟨xs.map Int.toNat, by
        rw [List.map_map]
        exact ((List.map_congr_left fun y hy => by have := x0 y hy; simp; omega).trans (List.map_id xs)).symm⟩
      have HS2 : Hid (BSt w w2 b0 rb g cap n (tailB g cap n td) sc sls lvs l2) := HS1.out.read hb0 hrb ht2
      have hs1 := HS1.out.more
      rw [List.length_map] at ho2 x2 ⊢
      obtain ⟨z, hz⟩ : ∃ z, z = who.length := ⟨_, rfl⟩
      have HZ : Hid (z = who.length) := hz
      have hz20 : z ≤ 20 := by simp at x2; omega
      rw [← hz] at ho2 ⊢
      have HO2 : Hid (w2.ownsRow b0 3 1 (.slice wa z wc) z ((who.map fun i : Nat => (i : Int)).map (Value.int .i64))) := own_base ho2 (by omega)
      have HWn : Hid (∀ i ∈ who, i < n) := fun i hi => by have := x0 (i : Int) (List.mem_map.2 ⟨i, hi, rfl⟩); omega
      have HD2 : Hid (blockL L c n td sc l = match markGo c who td sc with
        | none => none
        | some (td', sc') => match compsGo c n who 0 L sc' l2 with
          | none => none
          | some (sc'', r3) => some (who.length, td', sc'', r3)) := by
        show _ = _
        rw [HD.out, hx]
        simp only [who_back, List.length_map]
      clear hx ho2 x0 x2 hz HD HNm ht2 HS0 HS1
      have hl2 : l2.length ≤ 2 ^ 40 := by omega
      go_wp2_with fail
      go_loopw [23] (fun t wr => ∃ (q : Nat) (td1 : List Bool) (sc1 : List Ent), q ≤ z ∧ t = .int .i64 q ∧ td1.length = 20 ∧ Hid (markGo c who td sc = markGo c (who.drop q) td1 sc1) ∧ Hid (∀ i k, ((entAt sc1 i).vs.getD k []).length ≤ C) ∧ Hid (wr.ownsRow b0 3 1 (.slice wa z wc) z ((who.map fun i : Nat => (i : Int)).map (Value.int .i64))) ∧ Hid (BSt w wr b0 rb g cap n (tailB g cap n td1) sc1 sls lvs l2)) (fun t _ => z - (intOf t).toNat)
      case atStart => exact ⟨0, td, sc, by omega, rfl, htd, rfl, HV4, HO2, HS2⟩
      case round =>
        obtain ⟨q, td1, sc1, hq, rfl, ht20, HG, HQ, HO, HS⟩ := hrel
        by_cases hlt : q < z
        · have hqw : q < who.length := by rw [← HZ.out]; exact hlt
          have hdw : who.drop q = who[q] :: who.drop (q + 1) := List.drop_eq_getElem_cons hqw
          have hin := HWn.out who[q] (List.getElem_mem hqw)
          obtain ⟨gw, hwa, ew, hwc⟩ : ∃ gw, wa = some ⟨gw, 0, none⟩ ∧ wr.cell? ⟨gw, q, none⟩ = some (.int .i64 (who[q] : Int)) ∧ z ≤ wc := by
            rcases HO.out.2 with ⟨h1, h2⟩ | ⟨g', cap', cur, h1, h2, h3, h4, h5, h6, h7⟩
            · simp at h1; omega
            · simp at h1
              obtain ⟨rfl, rfl⟩ := h1
              refine ⟨g', rfl, ?_, h4⟩
              rw [HO.out.cellAt q (by omega)]
              simp [hqw]
          subst hwa
          have HG2 : Hid (markGo c who td sc = markGo c (who[q] :: who.drop (q + 1)) td1 sc1) := by show _ = _; rw [HG.out, hdw]
          clear hdw HG
          generalize who[q] = i at hin ew HG2
          have et : wr.cell? ⟨rb, 2 + i, none⟩ = some (.bool (td1.getD i true)) := by
            rw [cell_row HS.out.rd]
            have : i < td1.length := by omega
            rw [show 2 + i = i + 1 + 1 by omega]
            simp [tailB, List.getD, this]
          have ft : wr.frozen? ⟨rb, 2 + i, none⟩ = false := frozen_row HS.out.rd _
          cases hti : td1.getD i true with
          | true =>
            rw [hti] at et
            have HNo : Hid (Calls Tryz.prog 183 #[.bool false] wr _) := needS_no false wr rfl
            have HNe : Hid (blockL L c n td sc l = none) := by show _ = _; rw [HD2.out, HG2.out, markGo, if_pos hti]
            go_wp2_with fail
            refine Calls.mono HNo.out ?_
            rintro e w3 ⟨rfl, rfl⟩
            go_wp2_with fail
            exact ⟨rfl, Or.inr ⟨HNe.out, rfl, HS.out.below⟩⟩
          | false =>
            rw [hti] at et
            have HYe : Hid (Calls Tryz.prog 183 #[.bool true] wr _) := needS_yes true wr rfl
            have e2 : 1 + (1 + i) = 2 + i := by omega
            have hst := told_set HS.out hrb (1 + i) (.bool true)
            rw [e2, show (tailB g cap n td1).set (1 + i) (.bool true) = tailB g cap n (td1.set i true) by rw [Nat.add_comm 1 i]; simp [tailB, List.map_set]] at hst
            have f1 : (wr.setCell ⟨rb, 2 + i, none⟩ (.bool true)).cell? ⟨rb, 1, none⟩ = some (.slice (some ⟨g, 0, none⟩) n cap) := by rw [cell_row hst.rd]; rfl
            obtain ⟨f2, f3⟩ := hst.scene.head i hin
            have HM : Hid (BSt w ((wr.setCell ⟨rb, 2 + i, none⟩ (.bool true)).setCell ⟨g, i * 7, none⟩ (.int .u64 c)) b0 rb g cap n (tailB g cap n (td1.set i true)) (sc1.set i ⟨c, (entAt sc1 i).vs⟩) sls lvs l2) := hst.mark hin hc
            have HO3 : Hid (((wr.setCell ⟨rb, 2 + i, none⟩ (.bool true)).setCell ⟨g, i * 7, none⟩ (.int .u64 c)).ownsRow b0 3 1 (.slice (some ⟨gw, 0, none⟩) z wc) z ((who.map fun i : Nat => (i : Int)).map (Value.int .i64))) := own_keepT HO.out fun a cs _ h2 => by
              obtain ⟨cur, hb, _⟩ := hst.scene.blk (by omega)
              have h3 : (wr.setCell ⟨rb, 2 + i, none⟩ (.bool true)).heap[a]? = wr.heap[a]? := heapSet (type_ne h2 HS.out.rd (by decide))
              rw [heapSet (type_ne (h3.trans h2) hb (by decide)), h3]
            have HG3 : Hid (markGo c who td sc = markGo c (who.drop (q + 1)) (td1.set i true) (sc1.set i ⟨c, (entAt sc1 i).vs⟩)) := by show _ = _; rw [HG2.out, markGo, if_neg (by rw [hti]; decide)]
            have HQ3 : Hid (∀ j k, ((entAt (sc1.set i ⟨c, (entAt sc1 i).vs⟩) j).vs.getD k []).length ≤ C) := fun j k => by
              by_cases hi : i < sc1.length
              · rw [entAt_set _ _ _ _ hi]
                split
                · exact HQ.out i k
                · exact HQ.out j k
              · rw [List.set_eq_of_length_le (by omega)]; exact HQ.out j k
            clear hst hti HG2
            go_wp2_with fail
            refine Calls.mono HYe.out ?_
            rintro e w3 ⟨rfl, h⟩
            obtain rfl := h.symm
            go_wp2_with fail
            exact ⟨⟨q + 1, td1.set i true, _, by omega, by go_num, by simp [ht20], HG3, HQ3, HO3, HM⟩, by simp [intOf]; omega⟩
        · obtain rfl : q = z := by omega
          have HG2 : Hid (markGo c who td sc = some (td1, sc1)) := by show _ = _; rw [HG.out, List.drop_of_length_le (by rw [← HZ.out]; exact Nat.le_refl _), markGo]
          have HD3 : Hid (blockL L c n td sc l = match compsGo c n who 0 L sc1 l2 with
            | none => none
            | some (sc'', r3) => some (who.length, td1, sc'', r3)) := by show _ = _; rw [HD2.out, HG2.out]
          clear HG
          rename World => w3
          go_wp2_with fail
          go_loopw [51] (fun t wr => ∃ (j : Nat) (sc2 : List Ent) (sls2 : Nat → Nat → Value) (lvs2 : Nat → Nat → List Value) (r2 : List UInt8), j ≤ p ∧ t = .int .i64 j ∧ r2.length ≤ 2 ^ 40 ∧ Hid (compsGo c n who 0 L sc1 l2 = compsGo c n who j (L.drop j) sc2 r2) ∧ Hid (∀ i k, ((entAt sc2 i).vs.getD k []).length ≤ C + 80 * j) ∧ Hid (wr.ownsRow b0 3 1 (.slice wa q wc) q ((who.map fun i : Nat => (i : Int)).map (Value.int .i64))) ∧ Hid (BSt w wr b0 rb g cap n (tailB g cap n td1) sc2 sls2 lvs2 r2)) (fun t _ => p - (intOf t).toNat)
          case atStart => exact ⟨0, sc1, sls, lvs, l2, by omega, rfl, hl2, rfl, fun i k => by have := HQ.out i k; omega, HO, HS⟩
          case round =>
            obtain ⟨j, sc2, sls2, lvs2, r2, hj, rfl, hr2, HC, HQ5, HO5, HS5⟩ := hrel
            by_cases hlt5 : j < p
            · have hjl : j < L.length := by rw [← HP.out]; exact hlt5
              have HLr : Hid (LayN wr b0 gl L) := HL0.out.below HS5.out.more HS5.out.below.block
              obtain ⟨hco, e0, fs, e1, hfs, hfb⟩ := HLr.out.comp j hjl
              obtain ⟨fa, fc, hff⟩ := hfs.form
              have HC2 : Hid (compsGo c n who 0 L sc1 l2 = compsGo c n who j (L[j] :: L.drop (j + 1)) sc2 r2) := by show _ = _; rw [HC.out, List.drop_eq_getElem_cons hjl]
              have HCo : Hid (CompOk L[j]) := hco
              have HFs : Hid (FieldsN wr fs L[j].2) := hfs
              have HFb : Hid (∀ j, fs.ownBlock = some j → j < b0) := hfb
              clear hco hfs hfb HC
              generalize L[j] = x at e0 e1 HC2 HCo HFs hff
              subst hff
              obtain ⟨Wa, hWa⟩ : ∃ Wa, Wa = wr.alloc (.cells #[.string (mk x.1), .slice fa x.2.length fc] 138) := ⟨_, rfl⟩
              have hBa : Below wr.heap.size wr Wa := by rw [hWa]; exact (Below.refl _ _).alloc (Nat.le_refl _) _
              have hsa : b0 ≤ Wa.heap.size := Nat.le_trans (Nat.le_trans hb0 HS5.out.more) hBa.size
              have HSa : Hid (BSt w Wa b0 rb g cap n (tailB g cap n td1) sc2 sls2 lvs2 r2) := HS5.out.alloc hb0 hBa
              have HOa : Hid (Wa.ownsRow b0 3 1 (.slice wa q wc) q ((who.map fun i : Nat => (i : Int)).map (Value.int .i64))) := by rw [hWa]; exact HO5.out.alloc _
              have HHa : Hid (Calls Tryz.prog 66 #[.int .u64 c, .int .i64 j] Wa _) := has_any c j Wa hc (by omega)
              have HCl : Hid (Calls Tryz.prog 241 #[.pointer (some ⟨rb, 0, none⟩), .int .i64 j, .slice fa x.2.length fc, .slice wa q wc] Wa _) := columns_any b0 rb g cap n j (tailB g cap n td1) (.slice fa x.2.length fc) (.slice wa q wc) x.2 who sc2 sls2 lvs2 r2 Wa HSa.out.self hsa hrb hr2 (by omega) hn rfl (HFs.out.keep hBa.size fun k _ hk => hBa.block k hk) HFb.out HCo.out.2.1 (fun f hf => (HCo.out.2.2 f hf).2) (by rw [← HZ.out]; exact HOa.out) HWn.out (by rw [← HZ.out]; exact hz20) (C + 80 * j) (by omega) (fun i _ => HQ5.out i j)
              rw [hWa] at HHa HCl HSa HOa
              clear hBa hWa hsa Wa
              cases htb : c.testBit j with
              | false =>
                rw [htb] at HHa
                have HC3 : Hid (compsGo c n who 0 L sc1 l2 = compsGo c n who (j + 1) (L.drop (j + 1)) sc2 r2) := by show _ = _; rw [HC2.out, compsGo, if_neg (by rw [htb]; decide)]
                clear htb HCl
                go_wp2_with fail
                refine Calls.mono HHa.out ?_
                rintro e w4 ⟨rfl, rfl⟩
                go_wp2_with fail
                exact ⟨⟨j + 1, sc2, sls2, lvs2, r2, by omega, by go_num, hr2, HC3, fun i k => by have := HQ5.out i k; omega, HOa, HSa⟩, by simp [intOf]; omega⟩
              | true =>
                rw [htb] at HHa
                have HC3 : Hid (compsGo c n who 0 L sc1 l2 = match columnsGo j n who x.2 sc2 r2 with
                  | none => none
                  | some (sc', r) => compsGo c n who (j + 1) (L.drop (j + 1)) sc' r) := by show _ = _; rw [HC2.out, compsGo, if_pos htb]
                clear htb
                go_wp2_with fail
                refine Calls.mono HHa.out ?_
                rintro e w4 ⟨rfl, rfl⟩
                go_wp2_with fail
                refine Calls.mono HCl.out ?_
                rintro e w4 (⟨sc3, r3, sls3, lvs3, hgo, rfl, hbst⟩ | ⟨hno, rfl, hbel⟩)
                · have hlen := columnsGo_lens j n who x.2 sc2 r2 hgo HQ5.out
                  have h80 : x.2.length * who.length ≤ 4 * 20 := Nat.mul_le_mul HCo.out.2.1 (by rw [← HZ.out]; exact hz20)
                  have HC4 : Hid (compsGo c n who 0 L sc1 l2 = compsGo c n who (j + 1) (L.drop (j + 1)) sc3 r3) := by show _ = _; rw [HC3.out, hgo]
                  have HS4 : Hid (BSt w w4 b0 rb g cap n (tailB g cap n td1) sc3 sls3 lvs3 r3) := HSa.out.trans hbst
                  have HO4 : Hid (w4.ownsRow b0 3 1 (.slice wa q wc) q ((who.map fun i : Nat => (i : Int)).map (Value.int .i64))) := own_keepT HOa.out fun a cs _ h2 => (hbst.keep a cs 3 h2 (by decide) (by decide) (by decide)).trans h2.symm
                  have hr3 := hlen.2
                  have HQ4 : Hid (∀ i k, ((entAt sc3 i).vs.getD k []).length ≤ C + 80 * (j + 1)) := fun i k => by have := hlen.1 i k; omega
                  clear hgo hbst hlen h80
                  go_wp2_with fail
                  exact ⟨⟨j + 1, sc3, sls3, lvs3, r3, by omega, by go_num, by omega, HC4, HQ4, HO4, HS4⟩, by simp [intOf]; omega⟩
                · go_wp2_with fail
                  exact ⟨rfl, Or.inr ⟨by rw [HD3.out, HC3.out, hno], rfl, HSa.out.below.trans hbel⟩⟩
            · obtain rfl : j = p := by omega
              have HCe : Hid (compsGo c n who 0 L sc1 l2 = some (sc2, r2)) := by show _ = _; rw [HC.out, List.drop_of_length_le (by rw [← HP.out]; exact Nat.le_refl _), compsGo]
              go_wp2_with fail
              go_ret
              exact Or.inl ⟨q, td1, sc2, r2, sls2, lvs2, by rw [HD3.out, HCe.out, HZ.out], rfl, HS5.out⟩
    · go_wp2_with fail
      exact ⟨rfl, Or.inr ⟨by rw [HD.out, hn0], rfl, HS1.out.below.trans ⟨ht2.os, ht2.tape, ht2.output, ht2.size, fun j hj => ht2.block j (by have := HS1.out.more; omega) (by omega)⟩⟩⟩
  · go_wp2_with fail
    refine ⟨rfl, Or.inr ⟨?_, rfl, ⟨ht1.os, ht1.tape, ht1.output, ht1.size, fun j hj => ht1.block j (by omega) (by omega)⟩⟩⟩
    unfold blockL
    cases hd : countL 1 n l with
    | none => rfl
    | some y => rw [hd] at hn0; cases hn0

end Go.Proofs.YthkbeaffkcfgiabGreatDoor

namespace Go.Proofs.YthkbeaffkcfgiabGreatDoor
open Go.RowKit

theorem make99 (n : Nat) (h : n ≤ 20) (W : World) : (Instr.makeSlice 99 (.int .i64 (n : Int)) (.int .i64 (n : Int))).run Tryz.prog W = .ok (.slice (some ⟨W.heap.size, 0, none⟩) n n) (W.alloc (.cells (madeCells (Value.agg #[.int .u64 0, .slice none 0 0, .slice none 0 0, .slice none 0 0, .slice none 0 0, .slice none 0 0, .slice none 0 0]).cells (n * 7)) 164)) := by
  obtain ⟨i9, hi, hz0, hz1, hz2⟩ := info_parts Tryz.info164
  have := run_make (P := Tryz.prog) W 99 164 i9 _ Tryz.underlying99 hi hz0 .i64 .i64 (n : Int) (n : Int) (by omega) (by omega) (by rw [hz2]; omega) (by omega)
  rw [hz1] at this
  simpa using this

/-- The entities before they are told. -/
def blank (n : Nat) : List Ent := List.replicate n ⟨0, List.replicate 6 []⟩

theorem blank_at (n j : Nat) : (entAt (blank n) j).c = 0 ∧ ∀ k, (entAt (blank n) j).vs.getD k [] = [] := by
  have hr : ∀ k, (List.replicate 6 ([] : List SV)).getD k [] = [] := fun k => by
    rw [List.getD_eq_getElem?_getD, List.getElem?_replicate]
    split <;> rfl
  unfold entAt blank
  by_cases h : j < n
  · simp only [List.getD_eq_getElem?_getD, List.getElem?_replicate, h, if_true, Option.getD_some]
    exact ⟨trivial, fun k => by split <;> rfl⟩
  · simp only [List.getD_eq_getElem?_getD, List.getElem?_replicate, h, if_false, Option.getD_none]
    exact ⟨trivial, fun k => by simp⟩

theorem blank_cells (n : Nat) : (madeCells (Value.agg #[.int .u64 0, .slice none 0 0, .slice none 0 0, .slice none 0 0, .slice none 0 0, .slice none 0 0, .slice none 0 0]).cells (n * 7)).toList = sceneCells (blank n) (fun _ _ => .slice none 0 0) := by
  have hl : (blank n).length = n := by simp [blank]
  apply List.ext_getElem?
  intro t
  unfold sceneCells
  rw [hl]
  by_cases ht : t < n * 7
  · have hr := flat_get (fun j => entCells (entAt (blank n) j).c (fun _ => Value.slice none 0 0)) 7 (fun _ => rfl) n (t / 7) (t % 7) (by omega) (by omega)
    rw [show t / 7 * 7 + t % 7 = t by omega, (blank_at n (t / 7)).1] at hr
    rw [hr, Array.getElem?_toList]
    have e7 : (Value.agg #[.int .u64 0, .slice none 0 0, .slice none 0 0, .slice none 0 0, .slice none 0 0, .slice none 0 0, .slice none 0 0]).cells = #[.int .u64 0, .slice none 0 0, .slice none 0 0, .slice none 0 0, .slice none 0 0, .slice none 0 0, .slice none 0 0] := rfl
    rw [e7]
    unfold madeCells
    rw [Array.getElem?_map, Array.getElem?_range, if_pos ht]
    have h7 : t % 7 = 0 ∨ t % 7 = 1 ∨ t % 7 = 2 ∨ t % 7 = 3 ∨ t % 7 = 4 ∨ t % 7 = 5 ∨ t % 7 = 6 := by omega
    show some (_ : Value) = _
    rcases h7 with h | h | h | h | h | h | h <;> simp [h, entCells]
  · rw [List.getElem?_eq_none (by rw [Array.length_toList, size_madeCells]; omega), List.getElem?_eq_none (by rw [flat_len _ 7 (fun _ => rfl)]; omega)]

theorem LayN.mono {w : World} {b0 b1 g : Nat} {L : List CompS} (h : LayN w b0 g L) (h1 : b0 ≤ b1) (h2 : b1 ≤ w.heap.size) : LayN w b1 g L :=
  ⟨Nat.lt_of_lt_of_le h.lt h1, h2, h.few, fun j hj => by
    obtain ⟨a, b, fs, c, d, e⟩ := h.comp j hj
    exact ⟨a, b, fs, c, d, fun k hk => Nat.lt_of_lt_of_le (e k hk) h1⟩⟩

def blocksGo (L : List CompS) (n : Nat) : Nat → Int → Int → List Bool → List Ent → List UInt8 → Option (List Ent × List UInt8)
  | 0, left, _, _, sc, l => if left ≤ 0 then some (sc, l) else none
  | f + 1, left, least, td, sc, l => if left ≤ 0 then some (sc, l) else match countL least (2 ^ L.length - 1) l with
    | none => none
    | some (s, r) => match blockL L s.toNat n td sc r with
      | none => none
      | some (m, td', sc', r') => blocksGo L n f (left - m) (s + 1) td' sc' r'
def readBytesL (L : List CompS) (b : List UInt8) : Option (List Ent) :=
  if Lib.hasPrefix b [83, 67, 49] then
    match countL 0 20 (Lib.trimPrefix b [83, 67, 49]) with
    | none => none
    | some (n, r) => match blocksGo L n.toNat n.toNat n 0 (List.replicate 20 false) (blank n.toNat) r with
      | none => none
      | some (sc, r') => if r' = [] then some sc else none
  else none

theorem compsGo_lens (c n : Nat) (who : List Nat) (hw : who.length ≤ 20) : ∀ (k : Nat) (L : List CompS) (sc : List Ent) (l : List UInt8) {sc' : List Ent} {r : List UInt8} {B : Nat}, (∀ x ∈ L, x.2.length ≤ 4) → compsGo c n who k L sc l = some (sc', r) → (∀ j k', ((entAt sc j).vs.getD k' []).length ≤ B) → (∀ j k', ((entAt sc' j).vs.getD k' []).length ≤ B + 80 * L.length) ∧ r.length ≤ l.length
  | k, [], sc, l, sc', r, B, hL, h, hB => by simp [compsGo] at h; rw [← h.1, ← h.2]; simpa using hB
  | k, x :: xs, sc, l, sc', r, B, hL, h, hB => by
    rw [compsGo] at h
    split at h
    · split at h
      · cases h
      · rename_i sc1 r1 hb
        have h0 := columnsGo_lens k n who x.2 sc l hb hB
        have h80 : x.2.length * who.length ≤ 4 * 20 := Nat.mul_le_mul (hL x (by simp)) hw
        have h1 := compsGo_lens c n who hw (k + 1) xs sc1 r1 (B := B + 80) (fun y hy => hL y (by simp [hy])) h (fun j k' => by have := h0.1 j k'; omega)
        refine ⟨fun j k' => ?_, by have := h0.2; omega⟩
        have := h1.1 j k'
        simp only [List.length_cons]
        omega
    · have h1 := compsGo_lens c n who hw (k + 1) xs sc l (fun y hy => hL y (by simp [hy])) h hB
      refine ⟨fun j k' => ?_, h1.2⟩
      have := h1.1 j k'
      simp only [List.length_cons]
      omega

theorem markGo_lens (c : Nat) : ∀ (is : List Nat) (td : List Bool) (sc : List Ent) {td' : List Bool} {sc' : List Ent} {B : Nat}, markGo c is td sc = some (td', sc') → (∀ j k', ((entAt sc j).vs.getD k' []).length ≤ B) → (∀ j k', ((entAt sc' j).vs.getD k' []).length ≤ B) ∧ td'.length = td.length
  | [], td, sc, td', sc', B, h, hB => by simp [markGo] at h; rw [← h.1, ← h.2]; exact ⟨hB, rfl⟩
  | i :: is, td, sc, td', sc', B, h, hB => by
    rw [markGo] at h
    split at h
    · cases h
    · have h1 := markGo_lens c is _ _ h (B := B) (fun j k => by
        by_cases hi : i < sc.length
        · rw [entAt_set _ _ _ _ hi]
          split
          · exact hB i k
          · exact hB j k
        · rw [List.set_eq_of_length_le (by omega)]; exact hB j k)
      exact ⟨h1.1, by rw [h1.2]; simp⟩

theorem blockL_range {L : List CompS} {c n : Nat} {td td' : List Bool} {sc sc' : List Ent} {l r : List UInt8} {m B : Nat} (hn : n ≤ 20) (hL : ∀ x ∈ L, x.2.length ≤ 4) (hL6 : L.length ≤ 6) (h : blockL L c n td sc l = some (m, td', sc', r)) (hB : ∀ j k', ((entAt sc j).vs.getD k' []).length ≤ B) :
    1 ≤ m ∧ m ≤ 20 ∧ td'.length = td.length ∧ r.length ≤ l.length ∧ ∀ j k', ((entAt sc' j).vs.getD k' []).length ≤ B + 480 := by
  unfold blockL at h
  split at h
  · cases h
  · rename_i x r1 hc
    obtain ⟨c0, c1, c2, c3⟩ := countL_range hc
    split at h
    · cases h
    · rename_i who r2 hw
      obtain ⟨w0, w1, w2⟩ := numbersGo_range n _ _ _ _ hw (by omega) (by simp)
      split at h
      · cases h
      · rename_i td1 sc1 hm
        obtain ⟨m0, m1⟩ := markGo_lens c _ _ _ hm hB
        split at h
        · cases h
        · rename_i sc2 r3 hg
          simp at h
          obtain ⟨rfl, rfl, rfl, rfl⟩ := h
          simp at w2
          have h1 := compsGo_lens c n _ (by simp; omega) 0 L sc1 r2 hL hg m0
          refine ⟨by omega, by omega, m1, by have := h1.2; omega, fun j k' => ?_⟩
          have := h1.1 j k'
          omega

/-- The scene as it is made, and the reader that holds it. -/
def startW (w3 : World) (rb n : Nat) : World := (w3.setCell ⟨rb, 1, none⟩ (.slice (some ⟨w3.heap.size, 0, none⟩) n n)).alloc (.cells (madeCells #[.int .u64 0, .slice none 0 0, .slice none 0 0, .slice none 0 0, .slice none 0 0, .slice none 0 0, .slice none 0 0] (n * 7)) 164)

theorem start_bst (w3 : World) (b0 rb n : Nat) (l2 : List UInt8) (hn : n ≤ 20) (hb : b0 ≤ rb) (hR : RdAt w3 rb 276 (.slice none 0 0 :: List.replicate 20 (.bool false)) l2) :
    BSt (startW w3 rb n) (startW w3 rb n) b0 rb w3.heap.size n n (tailB w3.heap.size n n (List.replicate 20 false)) (blank n) (fun _ _ => .slice none 0 0) (fun _ _ => []) l2 ∧ Below rb w3 (startW w3 rb n) ∧ w3.heap.size < (startW w3 rb n).heap.size := by
  have hlt := hR.lt
  have hg : (startW w3 rb n).heap[w3.heap.size]? = some (.cells (madeCells #[.int .u64 0, .slice none 0 0, .slice none 0 0, .slice none 0 0, .slice none 0 0, .slice none 0 0, .slice none 0 0] (n * 7)) 164 (0, 0)) := heap_alloc_at (by simp [World.setCell]) _
  have hbl : (blank n).length = n := by simp [blank]
  have hsz : (startW w3 rb n).heap.size = w3.heap.size + 1 := by simp [startW, World.setCell]
  refine ⟨⟨⟨⟨?_, fun j hj => ?_⟩, hbl, fun i k j k' _ _ _ _ _ b hb => by simp [Value.ownBlock] at hb⟩, ?_, Below.refl _ _, Nat.le_refl _, fun _ _ _ h1 _ _ _ => h1⟩, ⟨rfl, rfl, rfl, by rw [hsz]; omega, fun j hj => ?_⟩, by omega⟩
  · rw [hbl]
    refine ⟨?_, Or.inr ⟨w3.heap.size, n, _, rfl, by omega, hg, Nat.le_refl _, by unfold maxLen; omega, by rw [size_madeCells], ?_⟩⟩
    · unfold sceneCells
      rw [flat_len _ 7 (fun _ => rfl), hbl]
    · rw [List.take_of_length_le (by rw [Array.length_toList, size_madeCells]; exact Nat.le_refl _)]
      exact blank_cells n
  · obtain ⟨h1, h2⟩ := blank_at n j
    rw [hbl] at hj
    refine ⟨by rw [h1]; omega, by simp [entAt, blank, List.getD, hj], fun k _ => ?_⟩
    rw [h2 k]
    exact ⟨rfl, World.ownsRow_nil _ _ _ _, fun j h => by simp at h⟩
  · exact (Below.heap_alloc _ _ _ (by simpa [World.setCell] using hlt)).trans (setCell_block (o := 1) (.slice (some ⟨w3.heap.size, 0, none⟩) n n) hR)
  · unfold startW
    rw [Below.heap_alloc _ _ _ (by simp [World.setCell]; omega), heapSet (by omega)]

set_option maxHeartbeats 6400000 in
set_option maxRecDepth 20000 in
theorem readBytes_any (b0 gl : Nat) (L : List CompS) (lc : Nat) (bytes : List UInt8) (w : World) (hl : bytes.length ≤ 2 ^ 40) (hL : LayN w b0 gl L) (hlc : L.length ≤ lc) :
    Calls Tryz.prog 118 #[.string (mk bytes), .slice (some ⟨gl, 0, none⟩) L.length lc] w (SEnds w (readBytesL L bytes)) := by
  have HL0 : Hid (LayN w w.heap.size gl L) := hL.mono hL.le (Nat.le_refl _)
  have HLs : Hid (∀ c ∈ L, c.2.length ≤ 4) := fun c hc => by
    obtain ⟨j, hj, rfl⟩ := List.getElem_of_mem hc
    exact (hL.comp j hj).1.2.1
  obtain ⟨p, hp⟩ : ∃ p, p = L.length := ⟨_, rfl⟩
  have hp6 : p ≤ 6 := by rw [hp]; exact hL.few
  rw [← hp] at hlc ⊢
  have HP : Hid (p = L.length) := hp
  obtain ⟨W1, hW1⟩ : ∃ W1, W1 = w.alloc (.cells #[.string (mk bytes), .slice none 0 0, .bool false, .bool false, .bool false, .bool false, .bool false, .bool false, .bool false, .bool false, .bool false, .bool false, .bool false, .bool false, .bool false, .bool false, .bool false, .bool false, .bool false, .bool false, .bool false, .bool false] 276) := ⟨_, rfl⟩
  have hB1 : Below w.heap.size w W1 := by rw [hW1]; exact (Below.refl _ _).alloc (Nat.le_refl _) _
  have hR1 : RdAt W1 w.heap.size 276 (.slice none 0 0 :: List.replicate 20 (.bool false)) bytes := by rw [hW1]; exact heap_alloc_at rfl _
  have HSk : Hid (Calls Tryz.prog 186 #[.pointer (some ⟨w.heap.size, 0, none⟩), .string (mk [83, 67, 49])] W1 fun e w' => ((Lib.hasPrefix bytes [83, 67, 49] = true ∧ e = .returned (.tuple #[])) ∨ (Lib.hasPrefix bytes [83, 67, 49] = false ∧ e = .panicked wrongS)) ∧ RdAt w' w.heap.size 276 (.slice none 0 0 :: List.replicate 20 (.bool false)) (Lib.trimPrefix bytes [83, 67, 49]) ∧ Below w.heap.size w w') := by
    refine (skip_any w.heap.size 276 _ bytes [83, 67, 49] W1 hR1).mono ?_
    rintro e w' ⟨h1, h2⟩
    exact ⟨h1, h2.rest, hB1.trans ⟨h2.turns.os, h2.turns.tape, h2.turns.output, h2.turns.size, fun j hj => h2.turns.block j (Nat.lt_of_lt_of_le hj hB1.size) (by omega)⟩⟩
  rw [hW1] at HSk
  clear hL hp hB1 hR1 hW1 W1
  go_enter Tryz.func118, Tryz.ntmps118
  go_wp2_with fail
  refine Calls.mono HSk.out ?_
  rintro e w2 ⟨⟨h1, rfl⟩ | ⟨h1, rfl⟩, hR2, hb2⟩
  · have HRb : Hid (readBytesL L bytes = match countL 0 20 (Lib.trimPrefix bytes [83, 67, 49]) with
      | none => none
      | some (n, r) => match blocksGo L n.toNat n.toNat n 0 (List.replicate 20 false) (blank n.toNat) r with
        | none => none
        | some (sc, r') => if r' = [] then some sc else none) := by show _ = _; unfold readBytesL; rw [if_pos h1]
    have hl1 := trim_len bytes [83, 67, 49]
    have HR2 : Hid (RdAt w2 w.heap.size 276 (.slice none 0 0 :: List.replicate 20 (.bool false)) (Lib.trimPrefix bytes [83, 67, 49])) := hR2
    have HB2 : Hid (Below w.heap.size w w2) := hb2
    clear h1 hR2 hb2 HSk
    generalize Lib.trimPrefix bytes [83, 67, 49] = l1 at HRb HR2 hl1
    have HCt : Hid (Calls Tryz.prog 187 #[.pointer (some ⟨w.heap.size, 0, none⟩), .int .i64 0, .int .i64 20] w2 _) := count_any w.heap.size _ 0 20 l1 w2 HR2.out (by omega)
    go_wp2_with fail
    refine Calls.mono HCt.out ?_
    rintro e w3 (⟨v, l2, hv, rfl, ht3⟩ | ⟨hn0, rfl, ht3⟩)
    · obtain ⟨m, hd⟩ : ∃ m, countL 0 20 l1 = some (m, l2) ∧ v = .int .i64 m := by
        cases hd : countL 0 20 l1 with
        | none => rw [hd] at hv; cases hv
        | some y => rw [hd] at hv; simp [intP] at hv; exact ⟨y.1, by rw [← hv.2], hv.1.symm⟩
      obtain ⟨hd, rfl⟩ := hd
      obtain ⟨m0, m1, m2, m3⟩ := countL_range hd
      obtain ⟨n, rfl⟩ : ∃ n : Nat, m = (n : Int) := ⟨m.toNat, by omega⟩
      have hn : n ≤ 20 := by omega
      have HRb2 : Hid (readBytesL L bytes = match blocksGo L n n n 0 (List.replicate 20 false) (blank n) l2 with
        | none => none
        | some (sc, r') => if r' = [] then some sc else none) := by show _ = _; rw [HRb.out, hd]; rfl
      have mk9 := make99 n hn w3
      have hs3 : w.heap.size < w3.heap.size := ht3.rest.lt
      have f3 : w3.frozen? ⟨w.heap.size, 1, none⟩ = false := frozen_row ht3.rest _
      have c3 : w3.cell? ⟨w.heap.size, 1, none⟩ = some (.slice none 0 0) := by rw [cell_row ht3.rest]; rfl
      have hne : w.heap.size ≠ w3.heap.size := by omega
      have HR3 : Hid (RdAt w3 w.heap.size 276 (.slice none 0 0 :: List.replicate 20 (.bool false)) l2) := ht3.rest
      have HB3 : Hid (Below w.heap.size w w3) := HB2.out.trans ⟨ht3.turns.os, ht3.turns.tape, ht3.turns.output, ht3.turns.size, fun j hj => ht3.turns.block j (by have := HB2.out.size; omega) (by omega)⟩
      obtain ⟨W4, hW4⟩ : ∃ W4, W4 = startW w3 w.heap.size n := ⟨_, rfl⟩
      obtain ⟨hst, hb4, hs4⟩ := start_bst w3 w.heap.size w.heap.size n l2 hn (Nat.le_refl _) HR3.out
      rw [← hW4] at hst hb4 hs4
      have HB4 : Hid (Below w.heap.size w W4) := HB3.out.trans hb4
      have HS4 : Hid (BSt W4 W4 w.heap.size w.heap.size w3.heap.size n n (tailB w3.heap.size n n (List.replicate 20 false)) (blank n) (fun _ _ => .slice none 0 0) (fun _ _ => []) l2) := hst
      have hW : w.heap.size ≤ W4.heap.size := by omega
      unfold startW at hW4
      clear hd hv ht3 HRb HCt HR2 HB2 hst hb4 hs4
      go_wp2_with fail
      rw [← hW4]
      clear hW4 mk9 f3 c3
      go_loopw [6, 7] (fun ls lf wr => ∃ (f : Nat) (left least : Int) (td1 : List Bool) (sc1 : List Ent) (sls1 : Nat → Nat → Value) (lvs1 : Nat → Nat → List Value) (r1 : List UInt8), lf = .int .i64 left ∧ ls = .int .i64 least ∧ left ≤ f ∧ f ≤ n ∧ -20 ≤ left ∧ 0 ≤ least ∧ least ≤ 64 ∧ td1.length = 20 ∧ r1.length ≤ 2 ^ 40 ∧ Hid (blocksGo L n n n 0 (List.replicate 20 false) (blank n) l2 = blocksGo L n f left least td1 sc1 r1) ∧ Hid (∀ i k, ((entAt sc1 i).vs.getD k []).length ≤ 480 * (n - f)) ∧ Hid (BSt W4 wr w.heap.size w.heap.size w3.heap.size n n (tailB w3.heap.size n n td1) sc1 sls1 lvs1 r1)) (fun _ lf _ => (intOf lf).toNat)
      case atStart => exact ⟨n, n, 0, _, _, _, _, l2, rfl, rfl, by omega, by omega, by omega, by omega, by omega, by simp, by omega, rfl, fun i k => by rw [(blank_at n i).2 k]; simp, HS4⟩
      case round =>
        obtain ⟨f, left, least, td1, sc1, sls1, lvs1, r1, rfl, rfl, hlf, hfn, hm20, hle0, hle, ht20, hr1, HG, HQ, HS⟩ := hrel
        have es : wr.cell? ⟨w.heap.size, 1, none⟩ = some (.slice (some ⟨w3.heap.size, 0, none⟩) n n) := by rw [cell_row HS.out.rd]; rfl
        by_cases hpos : 0 < left
        · obtain ⟨f', rfl⟩ : ∃ f', f = f' + 1 := ⟨f - 1, by omega⟩
          obtain ⟨y, hy⟩ : ∃ y : Int, y = (2 : Int) ^ p := ⟨_, rfl⟩
          have hy64 : 1 ≤ y ∧ y ≤ 64 := by
            rw [hy]
            have h : p = 0 ∨ p = 1 ∨ p = 2 ∨ p = 3 ∨ p = 4 ∨ p = 5 ∨ p = 6 := by omega
            rcases h with rfl | rfl | rfl | rfl | rfl | rfl | rfl <;> decide
          have HCt : Hid (Calls Tryz.prog 187 #[.pointer (some ⟨w.heap.size, 0, none⟩), .int .i64 least, .int .i64 (y - 1)] wr _) := count_any w.heap.size _ least (y - 1) r1 wr HS.out.rd hr1
          have HG2 : Hid (blocksGo L n n n 0 (List.replicate 20 false) (blank n) l2 = match countL least (y - 1) r1 with
            | none => none
            | some (s, r) => match blockL L s.toNat n td1 sc1 r with
              | none => none
              | some (m, td', sc', r') => blocksGo L n f' (left - m) (s + 1) td' sc' r') := by
            show _ = _
            rw [HG.out, blocksGo, if_neg (by omega), hy, HP.out]
          have HW2 : Hid (wrap64 (wrap64 ((2 : Int) ^ p) - 1) = y - 1) := by
            show _ = _
            rw [← hy]
            have a1 : wrap64 y = y := by unfold wrap64; clear hy; omega
            have a2 : wrap64 (y - 1) = y - 1 := by unfold wrap64; clear hy; omega
            rw [a1, a2]
          clear hy
          clear HG
          go_wp2_with fail
          rw [HW2.out]
          refine Calls.mono HCt.out ?_
          rintro e w5 (⟨v, l3, hv, rfl, ht5⟩ | ⟨hn0, rfl, ht5⟩)
          · obtain ⟨m, hd⟩ : ∃ m, countL least (y - 1) r1 = some (m, l3) ∧ v = .int .i64 m := by
              cases hd : countL least (y - 1) r1 with
              | none => rw [hd] at hv; cases hv
              | some y => rw [hd] at hv; simp [intP] at hv; exact ⟨y.1, by rw [← hv.2], hv.1.symm⟩
            obtain ⟨hd, rfl⟩ := hd
            obtain ⟨s0, s1, s2, s3⟩ := countL_range hd
            obtain ⟨s, rfl⟩ : ∃ s : Nat, m = (s : Int) := ⟨m.toNat, by omega⟩
            have hs64 : s < 64 := by omega
            have HS5 : Hid (BSt W4 w5 w.heap.size w.heap.size w3.heap.size n n (tailB w3.heap.size n n td1) sc1 sls1 lvs1 l3) := HS.out.read hW (Nat.le_refl _) ht5
            have hs5 := HS5.out.more
            have HL5 : Hid (LayN w5 w.heap.size gl L) := HL0.out.below (by omega) fun k hk => (HS5.out.below.block k hk).trans (HB4.out.block k hk)
            have HG3 : Hid (blocksGo L n n n 0 (List.replicate 20 false) (blank n) l2 = match blockL L s n td1 sc1 l3 with
              | none => none
              | some (m, td', sc', r') => blocksGo L n f' (left - m) ((s : Int) + 1) td' sc' r') := by show _ = _; rw [HG2.out, hd]; rfl
            have hbk := block_any w.heap.size w.heap.size w3.heap.size n n td1 L gl lc s sc1 sls1 lvs1 l3 w5 HS5.out.self (by omega) (Nat.le_refl _) (by omega) (by omega) hn ht20 hs64 HL5.out (by rw [← HP.out]; exact hlc) (480 * (n - (f' + 1))) (by omega) HQ.out
            rw [← HP.out] at hbk
            have HBk : Hid (Calls Tryz.prog 188 #[.pointer (some ⟨w.heap.size, 0, none⟩), .slice (some ⟨gl, 0, none⟩) p lc, .int .u64 s] w5 _) := hbk
            clear hbk hd hv ht5 HG2 HCt
            go_wp2_with fail
            refine Calls.mono HBk.out ?_
            rintro e w6 (⟨m, td2, sc2, l4, sls2, lvs2, hbl, rfl, hst⟩ | ⟨hno, rfl, hbel⟩)
            · obtain ⟨b1, b2, b3, b4, b5⟩ := blockL_range hn HLs.out (by rw [← HP.out]; exact hp6) hbl HQ.out
              have HG4 : Hid (blocksGo L n n n 0 (List.replicate 20 false) (blank n) l2 = blocksGo L n f' (left - m) ((s : Int) + 1) td2 sc2 l4) := by show _ = _; rw [HG3.out, hbl]
              have HS6 : Hid (BSt W4 w6 w.heap.size w.heap.size w3.heap.size n n (tailB w3.heap.size n n td2) sc2 sls2 lvs2 l4) := HS5.out.trans hst
              have HQ6 : Hid (∀ i k, ((entAt sc2 i).vs.getD k []).length ≤ 480 * (n - f')) := fun i k => by have := b5 i k; omega
              have hw6 : IntKind.i64.wrap (left - (m : Int)) = left - (m : Int) := by rw [IntKind.wrap_i64]; omega
              have hw7 : IntKind.i64.wrap ((s : Int) + 1) = (s : Int) + 1 := by rw [IntKind.wrap_i64]; omega
              clear hbl hst b5
              go_wp2_with fail
              exact ⟨⟨f', left - m, (s : Int) + 1, td2, sc2, sls2, lvs2, l4, by go_num, by go_num, by omega, by omega, by omega, by omega, by omega, by omega, by omega, HG4, HQ6, HS6⟩, by simp [intOf]; omega⟩
            · go_wp2_with fail
              exact ⟨rfl, Or.inr ⟨by rw [HRb2.out, HG3.out, hno], rfl⟩, HB4.out.trans (HS5.out.below.trans hbel)⟩
          · go_wp2_with fail
            refine ⟨rfl, Or.inr ⟨?_, rfl⟩, HB4.out.trans (HS.out.below.trans ⟨ht5.os, ht5.tape, ht5.output, ht5.size, fun j hj => ht5.block j (by have := HS.out.more; omega) (by omega)⟩)⟩
            rw [HRb2.out, HG2.out]
            cases hd : countL least (y - 1) r1 with
            | none => rfl
            | some y => rw [hd] at hn0; cases hn0
        · have HGe : Hid (blocksGo L n n n 0 (List.replicate 20 false) (blank n) l2 = some (sc1, r1)) := by
            show _ = _
            rw [HG.out]
            cases f <;> (rw [blocksGo, if_pos (by omega)])
          have hc0 := HS.out.rd.cell
          have HNd : Hid (Calls Tryz.prog 183 #[.bool (mk r1).toList.isEmpty] wr _) := needS_any (mk r1).toList.isEmpty wr
          have hln := HS.out.scene.len
          have HSc := HS.out.scene.own
          go_wp2_with fail
          refine Calls.mono HNd.out ?_
          rintro e w5 ⟨⟨hx, rfl⟩ | ⟨hx, rfl⟩, rfl⟩
          · rw [toList_mk] at hx
            have hr0 : r1 = [] := by simpa using hx
            clear hx
            go_wp2_with fail
            go_ret
            refine ⟨Or.inl ⟨sc1, some ⟨w3.heap.size, 0, none⟩, n, sls1, lvs1, by rw [HRb2.out, HGe.out]; simp [hr0], by rw [hln]; rfl, by rw [hln]; exact HSc⟩, HB4.out.trans HS.out.below⟩
          · rw [toList_mk] at hx
            have hr0 : r1 ≠ [] := by rintro rfl; simp at hx
            go_wp2_with fail
            refine ⟨rfl, Or.inr ⟨by rw [HRb2.out, HGe.out]; simp [hr0], rfl⟩, HB4.out.trans HS.out.below⟩
    · go_wp2_with fail
      refine ⟨rfl, Or.inr ⟨?_, rfl⟩, ?_⟩
      · rw [HRb.out]
        cases hd : countL 0 20 l1 with
        | none => rfl
        | some y => rw [hd] at hn0; cases hn0
      · exact HB2.out.trans ⟨ht3.os, ht3.tape, ht3.output, ht3.size, fun j hj => ht3.block j (by have := HB2.out.size; omega) (by omega)⟩
  · go_wp2_with fail
    exact ⟨rfl, Or.inr ⟨by unfold readBytesL; rw [if_neg (by rw [h1]; decide)], rfl⟩, hb2⟩

end Go.Proofs.YthkbeaffkcfgiabGreatDoor
