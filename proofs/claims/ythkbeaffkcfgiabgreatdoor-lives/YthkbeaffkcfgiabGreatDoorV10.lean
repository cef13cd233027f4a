import Derived.Maps.AppendAt
import Derived.Shelf.RegionOpenPlain
import Derived.Lib.Walk
import Derived.Lib.Overlaps
import Derived.Lib.AppendZerosOnto
import Derived.Laws.NewBlocks
import Derived.Laws.Externs
import Derived.Test.YthkbeaffkcfgiabGreatDoorV08
import Derived.Test.YthkbeaffkcfgiabGreatDoorV09
set_option linter.unusedSimpArgs false
set_option linter.unusedVariables false
namespace Go.Proofs.YthkbeaffkcfgiabGreatDoor
open Go.RowKit

theorem Tryz.info46 : (Tryz.prog.info? 46).map (fun i => (i.zero, i.size, i.bytes)) = some (some (.agg #[.int .i64 0, .int .i64 0]), 2, 16) := by kernel_rfl

/-- What a handle's two cells hold. -/
def hNews (p l : Int) : List Value := [.int .i64 p, .int .i64 l]

theorem hNews_one (p l : Int) : ∀ u ∈ hNews p l, u.oneCell' = true := by simp [hNews, Value.oneCell']

set_option maxHeartbeats 4000000 in
set_option maxRecDepth 100000 in
/-- slices.Insert at the end of a row of one's own. -/
theorem insert_end (base : Nat) (v : Value) (n : Nat) (xs : List Value) (vb : Nat) (p l : Int) (w : World) (hown : w.ownsRow base 46 2 v n xs) (hn : n ≤ 1000) (hbase : base ≤ w.heap.size)
    (c0 : w.cell? ⟨vb, 0, none⟩ = some (.int .i64 p)) (c1 : w.cell? ⟨vb, 1, none⟩ = some (.int .i64 l)) :
    Calls Tryz.prog 243 #[v, .int .i64 n, .slice (some ⟨vb, 0, none⟩) 1 1] w fun e w' => ∃ v', e = .returned v' ∧ w'.ownsRow base 46 2 v' (n + 1) (xs ++ hNews p l) ∧ w.grownBy w' v.ownBlock ∧ (v'.ownBlock = v.ownBlock ∨ ∃ g, v'.ownBlock = some g ∧ w.heap.size ≤ g) := by
  obtain ⟨i0, hi0, hz0, hz1, hz2⟩ := info_parts Tryz.info46
  have HO : Hid (w.ownsRow base 46 2 v n xs) := hown
  have HN : Hid (∀ j u, (hNews p l)[j]? = some u → w.cell? ((⟨vb, 0, none⟩ : Addr).add j) = some u) := fun j u hj => by
    rw [Addr.add_lit, Nat.zero_add]
    match j with
    | 0 => simp [hNews] at hj; rw [← hj]; exact c0
    | 1 => simp [hNews] at hj; rw [← hj]; exact c1
    | j + 2 => simp [hNews] at hj
  have hnn : (n : Int) ≤ n := Int.le_refl _
  rcases hown.2 with ⟨rfl, rfl⟩ | ⟨g, cap, cur, rfl, hbg, hg, hnc, hcm, hcs, htake⟩
  · clear hown c0 c1
    go_enter Tryz.func243, Tryz.ntmps243
    go_wp2_with (at_builtin; refine wpList_append_own_at _ rfl _ _ 29 rfl base 46 i0 _ 2 16 Tryz.underlying29 hi0 hz0 hz1 hz2 rfl (by decide) _ _ _ rfl HO.out ⟨vb, 0, none⟩ 1 1 (hNews p l) rfl rfl HN.out (hNews_one p l) (by unfold maxLen; omega) (by omega) hbase ?_; intro v' w1 hown1 hgrow1 _ hloc1)
    go_ret
    exact ⟨_, rfl, hown1, hgrow1, hloc1.imp id fun h => ⟨_, h, Nat.le_refl _⟩⟩
  · have hic : n ≤ cap := hnc
    have hcm' : cap ≤ 9223372036854775807 := by simpa [maxLen] using hcm
    clear hown c0 c1 hg htake hcs
    go_enter Tryz.func243, Tryz.ntmps243
    go_wp2_with (at_builtin; refine wpList_append_own_at _ rfl _ _ 29 rfl base 46 i0 _ 2 16 Tryz.underlying29 hi0 hz0 hz1 hz2 rfl (by decide) _ _ _ rfl HO.out ⟨vb, 0, none⟩ 1 1 (hNews p l) rfl rfl HN.out (hNews_one p l) (by unfold maxLen; omega) (by omega) hbase ?_; intro v' w1 hown1 hgrow1 _ hloc1)
    all_goals go_ret
    all_goals exact ⟨_, rfl, hown1, hgrow1, hloc1.imp id fun h => ⟨_, h, Nat.le_refl _⟩⟩

/-- THE OPERATION 'copy(d, s)' FOR THE WALK, WHERE ITS RUN IS KNOWN BY AN EQUATION. -/
theorem wpList_copy_known {P : Program} (w : World) {ops : Array Oper} {rest : List Oper} {o : Oper} {a : Act} {Q : Exit → Act → World → Prop} (hgd : o.guard = none) (d s : Operand) (t t' : TypeId)
    (ho : o.op = .call { callee := .builtin .copy, args := #[d, s], argTypes := #[t, t'] }) (v u : Value) (hd : a.eval d = v) (hs : a.eval s = u) {v' : Value} {w' : World}
    (hr : (Builtin.copy_ #[t, t'] o.type #[v, u]).run P w = .ok v' w') (h : wpList P ops Q rest (a.put o.dst v') w') : wpList P ops Q (o :: rest) a w :=
  wpList_plain hgd fun _ hK => by
    unfold Oper.wp execOp
    simp only [ho, resolve, invoke, builtin, Sem.run_bind, Sem.run_pure, Result.andThen_ok, List.map_toArray, List.map_cons, List.map_nil, hd, hs, hr]
    exact hK _ _ h

/-- .. and as one step of a region that draws. -/
theorem step_copy_known {P : Program} {ops : Array Oper} {o : Oper} {a : Act} {w : World} {K : Act → World → Prop} {Q : Exit → Act → World → Prop} {E : Prop}
    (hg : o.guard = none) (d x : Operand) (dT sT : TypeId) (hop : o.op = Op.call { callee := Callee.builtin Builtin.copy, args := #[d, x], argTypes := #[dT, sT] })
    (v u : Value) (hd : a.eval d = v) (hx : a.eval x = u) {v' : Value} {w' : World} (hr : (Builtin.copy_ #[dT, sT] o.type #[v, u]).run P w = .ok v' w') (hK : K (a.put o.dst v') w') :
    if Region.wanted o (yielded ops a.tmps) = true then Oper.wp P o a w K Q else E := by
  have hw : Region.wanted o (yielded ops a.tmps) = true := by simp [Region.wanted, hg]
  rw [if_pos hw]
  unfold Oper.wp
  simp [execOp, hop, resolve, invoke, builtin, hd, hx, hr, Result.andThen]
  exact hK

theorem cell_row {w : World} {g : Nat} {cur : Array Value} {t : TypeId} {fz : Nat × Nat} (hg : w.heap[g]? = some (.cells cur t fz)) (j : Nat) : w.cell? ⟨g, j, none⟩ = cur[j]? := by
  simp [World.cell?, hg]
theorem frozen_row {w : World} {g : Nat} {cur : Array Value} {t : TypeId} (hg : w.heap[g]? = some (.cells cur t (0, 0))) (j : Nat) : w.frozen? ⟨g, j, none⟩ = false := by
  simp [World.frozen?, hg]

set_option maxHeartbeats 4000000 in
set_option maxRecDepth 100000 in
/-- slices.Insert in the midst, where there is room: in place. -/
theorem insert_shift (g n cap i : Nat) (cur : Array Value) (vb : Nat) (p l : Int) (w : World) (hg : w.heap[g]? = some (.cells cur 46 (0, 0))) (hi : i < n) (hroom : n + 1 ≤ cap) (hc63 : cap ≤ maxLen) (hcs : cur.size = cap * 2)
    (hvb : vb ≠ g) (hvc : w.heap[vb]? = some (.cells (hNews p l).toArray 46 (0, 0))) (hl1 : ∀ u ∈ cur.toList.take (n * 2), u.oneCell' = true) :
    Calls Tryz.prog 243 #[.slice (some ⟨g, 0, none⟩) n cap, .int .i64 i, .slice (some ⟨vb, 0, none⟩) 1 1] w fun e w' => e = .returned (.slice (some ⟨g, 0, none⟩) (n + 1) cap) ∧
      w' = (w.drew.setCells g ((i + 1) * 2) ((cur.toList.take (n * 2)).drop (i * 2))).setCells g (i * 2) (hNews p l) := by
  have hc64 : cap ≤ 9223372036854775807 := by simpa [maxLen] using hc63
  have hz2 : ¬ ((i : Int) = (n : Int)) := by omega
  have hsz : (Tryz.prog.info? 46).map (·.size) = some 2 := by
    obtain ⟨i0, hi0, h0, h1, h2⟩ := info_parts Tryz.info46
    rw [hi0]; simp [h1]
  have hz48 : ∀ w, (Go.sizeOf 46).run Tryz.prog w = .ok 2 w := fun w => by
    obtain ⟨i0, hi0, h0, h1, h2⟩ := info_parts Tryz.info46
    simp [Go.sizeOf, typeInfo, hi0, h1]
  have hov : ∀ lb cb, (callFunc 272 #[.slice (some ⟨vb, 0, none⟩) 1 1, .slice (some ⟨g, (i + 1) * 2, none⟩) lb cb]).run Tryz.prog w = .ok (.value (.bool false)) w := fun lb cb => by
    rw [run_callFunc_extern Tryz.func272 (by kernel_rfl) (by kernel_rfl) (by kernel_rfl) (e := Extern.SlicesOverlaps.overlaps #[29, 29] #[4]) (by kernel_rfl),
      Lib.run_overlaps_apart w 29 4 46 Tryz.underlying29 2 hz48 ⟨vb, 0, none⟩ ⟨g, (i + 1) * 2, none⟩ 1 1 lb cb hvb 46 46 2 (cap * 2) (by simp [World.shape?, hvc, hNews]) (by simp [World.shape?, hg, hcs]) (by omega) (frozen_row hvc _) (frozen_row hvc _)]
    rfl
  obtain ⟨mv, hmv⟩ : ∃ mv, mv = (cur.toList.take (n * 2)).drop (i * 2) := ⟨_, rfl⟩
  have hml : mv.length = (n - i) * 2 := by rw [hmv]; simp; omega
  have hmg : ∀ j u, mv[j]? = some u → cur[i * 2 + j]? = some u := fun j u hj => by
    rw [hmv, List.getElem?_drop, List.getElem?_take] at hj
    split at hj
    · simpa using hj
    · cases hj
  have hm1 : ∀ u ∈ mv, u.oneCell' = true := fun u hu => by rw [hmv] at hu; exact hl1 u (List.mem_of_mem_drop hu)
  have hcp1 : ∀ ty dc sc, (Builtin.copy_ #[29, 29] ty #[.slice (some ⟨g, (i + 1) * 2, none⟩) (n - i) dc, .slice (some ⟨g, i * 2, none⟩) (n + 1 - i) sc]).run Tryz.prog w.drew = .ok (goInt (Nat.min (n + 1 - i) (n - i))) (w.drew.setCells g ((i + 1) * 2) mv) := fun ty dc sc =>
    run_copy_cellsK w.drew _ _ ty 46 2 g ((i + 1) * 2) (n - i) dc ⟨g, i * 2, none⟩ (n + 1 - i) sc mv Tryz.underlying29 hsz (by rw [hml]; simp only [Nat.min_def]; split <;> omega)
      (fun j v hj => by rw [Addr.add_lit]; show w.cell? _ = _; rw [cell_row hg]; exact hmg j v hj)
      (fun j hj => by show (w.cell? _).isSome = true; rw [cell_row hg, Array.getElem?_eq_getElem (by omega)]; rfl) (fun j hj => frozen_row (w := w) hg _) hm1
  obtain ⟨W1, hW1⟩ : ∃ W1, W1 = w.drew.setCells g ((i + 1) * 2) mv := ⟨_, rfl⟩
  have hg1 : W1.heap[g]? = some (.cells (laid cur.toList ((i + 1) * 2) mv).toArray 46 (0, 0)) := by
    rw [hW1]; exact setCells_block mv _ w.drew cur hg (by omega)
  have hv1 : W1.heap[vb]? = some (.cells (hNews p l).toArray 46 (0, 0)) := by
    rw [hW1, setCells_other _ _ _ _ _ hvb]; exact hvc
  have hcp2 : ∀ (W : World), (∀ x, W.cell? x = W1.cell? x) → (∀ x, W.frozen? x = W1.frozen? x) → ∀ ty dc, (Builtin.copy_ #[29, 29] ty #[.slice (some ⟨g, i * 2, none⟩) (n + 1 - i) dc, .slice (some ⟨vb, 0, none⟩) 1 1]).run Tryz.prog W = .ok (goInt (Nat.min 1 (n + 1 - i))) (W.setCells g (i * 2) (hNews p l)) := fun W hWc hWf ty dc =>
    run_copy_cellsK W _ _ ty 46 2 g (i * 2) (n + 1 - i) dc ⟨vb, 0, none⟩ 1 1 (hNews p l) Tryz.underlying29 hsz (by simp only [Nat.min_def, hNews, List.length_cons, List.length_nil]; split <;> omega)
      (fun j v hj => by rw [Addr.add_lit, hWc, cell_row hv1]; simpa using hj)
      (fun j hj => by rw [hWc, cell_row hg1, Array.getElem?_eq_getElem (by simp [laid_length _ _ _ (show (i + 1) * 2 + mv.length ≤ cur.toList.length by simp; omega), hNews] at hj ⊢; omega)]; rfl) (fun j hj => by rw [hWf]; exact frozen_row hg1 _) (hNews_one p l)
  rw [← hmv]
  rw [← hW1] at hcp1
  have hin : i ≤ n := by omega
  have hw1 : IntKind.i64.wrap ((i : Int) + 1) = (i : Int) + 1 := by rw [IntKind.wrap_i64]; omega
  have hb2 : ¬ (cap = i + 1) := by omega
  have hb4 : ¬ (cap = i) := by omega
  have hb5 : (0 : Int) ≤ (i : Int) + 1 := by omega
  have hb3 : (i : Int) ≤ (n : Int) + 1 := by omega
  have mixed : Tryz.prog.follows Departure.mixedOrders = true := by kernel_rfl
  have HW1 : Hid (W1 = w.drew.setCells g ((i + 1) * 2) mv) := hW1
  clear hmv hml hmg hm1 hg1 hv1 hW1 hg hvc
  go_enter Tryz.func243, Tryz.ntmps243
  go_wp2_with (simp only [hov])
  go_region_law_o (refine step_copy_known rfl _ _ 29 29 rfl _ _ (by simp [Act.eval, Act.put]) (by simp [Act.eval, Act.put]) (hcp1 _ _ _) ?_)
  go_wp2_with (at_builtin; refine wpList_copy_known _ rfl _ _ 29 29 rfl _ _ rfl rfl (hcp2 _ (fun _ => rfl) (fun _ => rfl) _ _) ?_)
  go_ret
  exact ⟨rfl, by rw [HW1.out]⟩

/-- The cells of k handles that are none. -/
def hZeros (k : Nat) : List Value := (Builtin.zeroCells (Value.agg #[.int .i64 0, .int .i64 0]).cells k).toList

theorem hZeros_length (k : Nat) : (hZeros k).length = k * 2 := by simp [hZeros, Builtin.zeroCells, Value.cells]
theorem hZeros_one (k : Nat) : ∀ u ∈ hZeros k, u.oneCell' = true := by
  intro u hu
  simp only [hZeros, Builtin.zeroCells, Value.cells, Array.mem_toList_iff, Array.mem_map] at hu
  obtain ⟨j, _, rfl⟩ := hu
  generalize hq : j % _ = q
  have : q = 0 ∨ q = 1 := by
    have : q < 2 := by rw [← hq]; exact Nat.mod_lt _ (by simp)
    omega
  rcases this with rfl | rfl <;> rfl

set_option maxHeartbeats 4000000 in
set_option maxRecDepth 100000 in
/-- slices.Insert in the midst, where there is no room: a new row. -/
theorem insert_grow (g n cap i : Nat) (cur : Array Value) (vb : Nat) (p l : Int) (w : World) (hg : w.heap[g]? = some (.cells cur 46 (0, 0))) (hi : i < n) (hn : n ≤ 1000) (hnc : n ≤ cap) (hroom : cap < n + 1) (hcs : cur.size = cap * 2)
    (hvc : w.heap[vb]? = some (.cells (hNews p l).toArray 46 (0, 0))) (hl1 : ∀ u ∈ cur.toList.take (n * 2), u.oneCell' = true) :
    Calls Tryz.prog 243 #[.slice (some ⟨g, 0, none⟩) n cap, .int .i64 i, .slice (some ⟨vb, 0, none⟩) 1 1] w fun e w' => ∃ G, n + 1 ≤ G ∧ G ≤ maxLen ∧ e = .returned (.slice (some ⟨w.heap.size, 0, none⟩) (n + 1) G) ∧
      w' = (((w.alloc (.cells (((cur.toList.take (i * 2)) ++ hZeros (n + 1 - i) ++ hZeros (G - (n + 1))).toArray) 46)).drew.setCells w.heap.size (i * 2) (hNews p l)).drew).setCells w.heap.size ((i + 1) * 2) ((cur.toList.take (n * 2)).drop (i * 2)) := by
  obtain rfl : cap = n := by omega
  obtain ⟨i0, hi0, hz0, hzs, hzb⟩ := info_parts Tryz.info46
  have hz2 : ¬ ((i : Int) = (cap : Int)) := by omega
  have hsz : (Tryz.prog.info? 46).map (·.size) = some 2 := by rw [hi0]; simp [hzs]
  have hgw : g < w.heap.size := (Array.getElem?_eq_some_iff.1 hg).1
  have hvw : vb < w.heap.size := (Array.getElem?_eq_some_iff.1 hvc).1
  have hkk : (cap : Int) + 1 - (i : Int) = ((cap + 1 - i : Nat) : Int) := by omega
  have hik : i + (cap + 1 - i) = cap + 1 := by omega
  have hold : (Builtin.firstCells i0.size i (.slice (some ⟨g, 0, none⟩) i cap)).run Tryz.prog w.drew = .ok (cur.toList.take (i * 2)).toArray w.drew := by
    rw [hzs]
    exact run_firstCells_some w.drew 2 i ⟨g, 0, none⟩ i cap (cur.toList.take (i * 2)) (by simp; omega) (fun j v hj => by
      rw [Addr.add_lit, Nat.zero_add]
      rw [List.getElem?_take] at hj
      split at hj
      · show w.cell? _ = _; rw [cell_row hg]; simpa using hj
      · cases hj)
  have hrz : ∀ ty, (Builtin.append_ #[29, 3] ty #[.slice (some ⟨g, 0, none⟩) i cap, .int .i64 ((cap : Int) + 1 - (i : Int))]).run Tryz.prog w =
      .ok (.slice (some ⟨w.heap.size, 0, none⟩) (cap + 1) (grownCap w (cap + 1) cap 46)) (w.drew.alloc (.cells (((cur.toList.take (i * 2)) ++ hZeros (cap + 1 - i) ++ hZeros (grownCap w (cap + 1) cap 46 - (cap + 1))).toArray) 46)) := fun ty => by
    have h := Lib.run_append_grow_zeros w 29 3 ty 46 i0 _ .i64 .i64 Tryz.underlying29 Tryz.underlying3 hi0 hz0 (some ⟨g, 0, none⟩) i cap (cur.toList.take (i * 2)) hold (cap + 1 - i) (by omega) (by omega) (by omega) (by omega) (by rw [hzb]; omega) (by rw [hzb, hik]; exact growslice_fits (by omega) (by omega))
    rw [hik] at h
    rw [hkk, h]
    simp only [hZeros]
    congr 3
    apply Array.ext'
    simp
  obtain ⟨G, hG⟩ : ∃ G, G = grownCap w (cap + 1) cap 46 := ⟨_, rfl⟩
  rw [← hG] at hrz
  have hGn : cap + 1 ≤ G := by rw [hG]; exact grownCap_ge w _ _ _
  have hG63 : G ≤ maxLen := by rw [hG]; exact grownCap_le_maxLen w (cap + 1) cap 46 (by unfold maxLen; omega)
  have hG64 : G ≤ 9223372036854775807 := by simpa [maxLen] using hG63
  obtain ⟨row, hrow⟩ : ∃ row : List Value, row = (cur.toList.take (i * 2)) ++ hZeros (cap + 1 - i) ++ hZeros (G - (cap + 1)) := ⟨_, rfl⟩
  have hrl : row.length = G * 2 := by rw [hrow]; simp [hZeros_length]; omega
  rw [← hrow] at hrz
  obtain ⟨mv, hmv⟩ : ∃ mv, mv = (cur.toList.take (cap * 2)).drop (i * 2) := ⟨_, rfl⟩
  have hml : mv.length = (cap - i) * 2 := by rw [hmv]; simp; omega
  have hmg : ∀ j u, mv[j]? = some u → cur[i * 2 + j]? = some u := fun j u hj => by
    rw [hmv, List.getElem?_drop, List.getElem?_take] at hj
    split at hj
    · simpa using hj
    · cases hj
  have hm1 : ∀ u ∈ mv, u.oneCell' = true := fun u hu => by rw [hmv] at hu; exact hl1 u (List.mem_of_mem_drop hu)
  obtain ⟨W1, hW1⟩ : ∃ W1, W1 = w.drew.alloc (.cells row.toArray 46) := ⟨_, rfl⟩
  rw [← hW1] at hrz
  have hN : W1.heap[w.heap.size]? = some (.cells row.toArray 46 (0, 0)) := by rw [hW1]; exact _root_.Go.heap_alloc_new w.drew _
  have hOb : W1.heap[g]? = some (.cells cur 46 (0, 0)) := by rw [hW1]; exact (Below.heap_alloc w.drew _ g hgw).trans hg
  have hOv : W1.heap[vb]? = some (.cells (hNews p l).toArray 46 (0, 0)) := by rw [hW1]; exact (Below.heap_alloc w.drew _ vb hvw).trans hvc
  have hcpA : ∀ (W : World), (∀ x, W.cell? x = W1.cell? x) → (∀ x, W.frozen? x = W1.frozen? x) → ∀ ty dc, (Builtin.copy_ #[29, 29] ty #[.slice (some ⟨w.heap.size, i * 2, none⟩) (cap + 1 - i) dc, .slice (some ⟨vb, 0, none⟩) 1 1]).run Tryz.prog W = .ok (goInt (Nat.min 1 (cap + 1 - i))) (W.setCells w.heap.size (i * 2) (hNews p l)) := fun W hWc hWf ty dc =>
    run_copy_cellsK W _ _ ty 46 2 w.heap.size (i * 2) (cap + 1 - i) dc ⟨vb, 0, none⟩ 1 1 (hNews p l) Tryz.underlying29 hsz (by simp only [Nat.min_def, hNews, List.length_cons, List.length_nil]; split <;> omega)
      (fun j v hj => by rw [Addr.add_lit, hWc, cell_row hOv]; simpa using hj)
      (fun j hj => by rw [hWc, cell_row hN, Array.getElem?_eq_getElem (by simp [hrl, hNews] at hj ⊢; omega)]; rfl) (fun j hj => by rw [hWf]; exact frozen_row hN _) (hNews_one p l)
  have hN2 : (W1.setCells w.heap.size (i * 2) (hNews p l)).heap[w.heap.size]? = some (.cells (laid row.toArray.toList (i * 2) (hNews p l)).toArray 46 (0, 0)) := setCells_block _ _ _ _ hN (by simp [hrl, hNews]; omega)
  have hO2 : (W1.setCells w.heap.size (i * 2) (hNews p l)).heap[g]? = some (.cells cur 46 (0, 0)) := (setCells_other _ _ _ _ _ (by omega)).trans hOb
  have hll : (laid row.toArray.toList (i * 2) (hNews p l)).length = G * 2 := by rw [laid_length _ _ _ (by simp [hrl, hNews]; omega)]; simpa using hrl
  have hcpB : ∀ (W : World), (∀ x, W.cell? x = (W1.setCells w.heap.size (i * 2) (hNews p l)).cell? x) → (∀ x, W.frozen? x = (W1.setCells w.heap.size (i * 2) (hNews p l)).frozen? x) → ∀ ty dc sc, (Builtin.copy_ #[29, 29] ty #[.slice (some ⟨w.heap.size, (i + 1) * 2, none⟩) (cap - i) dc, .slice (some ⟨g, i * 2, none⟩) (cap - i) sc]).run Tryz.prog W = .ok (goInt (Nat.min (cap - i) (cap - i))) (W.setCells w.heap.size ((i + 1) * 2) mv) := fun W hWc hWf ty dc sc =>
    run_copy_cellsK W _ _ ty 46 2 w.heap.size ((i + 1) * 2) (cap - i) dc ⟨g, i * 2, none⟩ (cap - i) sc mv Tryz.underlying29 hsz (by rw [hml]; simp only [Nat.min_def]; split <;> omega)
      (fun j v hj => by rw [Addr.add_lit, hWc, cell_row hO2]; exact hmg j v hj)
      (fun j hj => by rw [hWc, cell_row hN2, Array.getElem?_eq_getElem (by rw [List.size_toArray, hll]; omega)]; rfl) (fun j hj => by rw [hWf]; exact frozen_row hN2 _) hm1
  have hEnd : Hid (∃ G', cap + 1 ≤ G' ∧ G' ≤ maxLen ∧ Value.slice (some ⟨w.heap.size, 0, none⟩) (cap + 1) G = Value.slice (some ⟨w.heap.size, 0, none⟩) (cap + 1) G' ∧
      ((((w.alloc (.cells row.toArray 46)).drew.setCells w.heap.size (i * 2) (hNews p l)).drew).setCells w.heap.size ((i + 1) * 2) mv) = (((w.alloc (.cells (((cur.toList.take (i * 2)) ++ hZeros (cap + 1 - i) ++ hZeros (G' - (cap + 1))).toArray) 46)).drew.setCells w.heap.size (i * 2) (hNews p l)).drew).setCells w.heap.size ((i + 1) * 2) ((cur.toList.take (cap * 2)).drop (i * 2))) :=
    ⟨G, hGn, hG63, rfl, by rw [hrow, hmv]⟩
  subst hW1
  have hE1 : ∀ x, ((w.alloc (.cells row.toArray 46)).drew).cell? x = (w.drew.alloc (.cells row.toArray 46)).cell? x := fun x => rfl
  have hE2 : ∀ x, ((w.alloc (.cells row.toArray 46)).drew).frozen? x = (w.drew.alloc (.cells row.toArray 46)).frozen? x := fun x => rfl
  have hF1 : ∀ x, (((w.alloc (.cells row.toArray 46)).drew.setCells w.heap.size (i * 2) (hNews p l)).drew).cell? x = ((w.drew.alloc (.cells row.toArray 46)).setCells w.heap.size (i * 2) (hNews p l)).cell? x := fun x => rfl
  have hF2 : ∀ x, (((w.alloc (.cells row.toArray 46)).drew.setCells w.heap.size (i * 2) (hNews p l)).drew).frozen? x = ((w.drew.alloc (.cells row.toArray 46)).setCells w.heap.size (i * 2) (hNews p l)).frozen? x := fun x => rfl
  have hw1 : IntKind.i64.wrap ((i : Int) + 1) = (i : Int) + 1 := by rw [IntKind.wrap_i64]; omega
  have hb1 : (0 : Int) ≤ (i : Int) + 1 := by omega
  have hin : i ≤ cap := by omega
  have hb3 : (i : Int) ≤ (cap : Int) := by omega
  have hGi : ¬ (G = i) := by omega
  have hGim : ¬ (G = i + 1) := by omega
  have hci : ¬ (cap = i) := by omega
  have mixed : Tryz.prog.follows Departure.mixedOrders = true := by kernel_rfl
  clear hkk hik hold hG hrl hrow hmv hml hmg hm1 hN hOb hOv hN2 hO2 hll hg hvc hcs
  go_enter Tryz.func243, Tryz.ntmps243
  go_wp2_with (first
    | (at_builtin; refine Lib.wpList_append_run _ rfl _ _ _ _ rfl _ _ rfl rfl _ _ (hrz _) ?_)
    | (at_builtin; refine wpList_copy_known _ rfl _ _ 29 29 rfl _ _ rfl rfl (hcpA _ hE1 hE2 _ _) ?_)
    | (at_builtin; refine wpList_copy_known _ rfl _ _ 29 29 rfl _ _ rfl rfl (hcpB _ (fun _ => rfl) (fun _ => rfl) _ _ _) ?_))
  go_region_law_o (refine step_copy_known rfl _ _ 29 29 rfl (.slice (some ⟨w.heap.size, (i + 1) * 2, none⟩) (cap - i) (G - (i + 1))) (.slice (some ⟨g, i * 2, none⟩) (cap - i) (cap - i)) (by simp [Act.eval, Act.put]) (by simp [Act.eval, Act.put]) (hcpB _ hF1 hF2 3 (G - (i + 1)) (cap - i)) ?_)
  go_wp2
  go_ret
  exact hEnd.out.imp fun G' h => ⟨h.1, h.2.1, congrArg Ending.returned h.2.2.1, h.2.2.2⟩

end Go.Proofs.YthkbeaffkcfgiabGreatDoor
