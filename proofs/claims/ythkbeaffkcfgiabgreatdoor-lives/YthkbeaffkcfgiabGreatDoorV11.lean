import Derived.Deep.RegionLaw
import Derived.Test.YthkbeaffkcfgiabGreatDoorV10
set_option linter.unusedSimpArgs false
set_option linter.unusedVariables false
namespace Go.Proofs.YthkbeaffkcfgiabGreatDoor
open Go.RowKit

/-- A list with another set in at place o. -/
def setIn {α : Type} (l : List α) (o : Nat) (vs : List α) : List α := l.take o ++ vs ++ l.drop o

theorem setIn_get {α : Type} (l : List α) (o : Nat) (vs : List α) (h : o ≤ l.length) (j : Nat) :
    (setIn l o vs)[j]? = if j < o then l[j]? else if j < o + vs.length then vs[j - o]? else l[j - vs.length]? := by
  unfold setIn
  by_cases h1 : j < o
  · rw [if_pos h1, List.append_assoc, List.getElem?_append_left (by simp; omega), List.getElem?_take, if_pos h1]
  · rw [if_neg h1]
    have ht : (l.take o).length = o := by simp; omega
    by_cases h2 : j < o + vs.length
    · rw [if_pos h2, List.getElem?_append_left (by simp; omega), List.getElem?_append_right (by omega), ht]
    · rw [if_neg h2, List.getElem?_append_right (by simp; omega), List.getElem?_drop]
      congr 1; simp; omega

/-- What stands in the row behind the copies, read off. -/
theorem shifted_take (cur xs news : List Value) (n i m : Nat) (hm : m = news.length) (hi : i ≤ n) (hx : cur.take n = xs) (hl : n + m ≤ cur.length) (hxl : xs.length = n) :
    (laid (laid cur (i + m) (xs.drop i)) i news).take (n + m) = setIn xs i news := by
  subst hm
  have h1 : i + news.length + (xs.drop i).length ≤ cur.length := by simp [hxl]; omega
  have h2 : i + news.length ≤ (laid cur (i + news.length) (xs.drop i)).length := by rw [laid_length _ _ _ h1]; omega
  apply List.ext_getElem?
  intro j
  rw [List.getElem?_take, setIn_get _ _ _ (by omega), laid_get _ _ _ h2, laid_get _ _ _ h1]
  have hxg : ∀ k, k < n → xs[k]? = cur[k]? := fun k hk => by rw [← hx, List.getElem?_take, if_pos hk]
  by_cases a1 : j < i
  · rw [if_pos (by omega), if_pos a1, if_pos (by omega), if_pos a1, hxg _ (by omega)]
  · by_cases a2 : j < i + news.length
    · rw [if_pos (by omega), if_neg a1, if_pos a2, if_neg a1, if_pos a2]
    · rw [if_neg a1, if_neg a2]
      by_cases a3 : j < n + news.length
      · rw [if_pos a3, if_neg a1, if_neg a2, if_neg a2, if_pos (by simp [hxl]; omega), List.getElem?_drop]
        congr 1; omega
      · rw [if_neg a3, if_neg a1, if_neg a2, List.getElem?_eq_none (by omega)]

theorem laid_of_take (a b vs : List Value) (o : Nat) (k : Nat) (hk : o + vs.length = k) (h : a.take o = b.take o) (ha : o ≤ a.length) (hb : o ≤ b.length) : (laid a o vs).take k = b.take o ++ vs := by
  subst hk
  unfold laid
  rw [List.take_append_of_le_length (by simp; omega), h, List.take_of_length_le (by simp; omega)]

theorem insert_own (base : Nat) (v : Value) (n i : Nat) (xs : List Value) (vb : Nat) (p l : Int) (w : World) (hown : w.ownsRow base 46 2 v n xs) (hi : i ≤ n) (hn : n ≤ 1000) (hbase : base ≤ w.heap.size) (hx1 : ∀ u ∈ xs, u.oneCell' = true)
    (hvb : v.ownBlock ≠ some vb) (hvc : w.heap[vb]? = some (.cells (hNews p l).toArray 46 (0, 0))) :
    Calls Tryz.prog 243 #[v, .int .i64 i, .slice (some ⟨vb, 0, none⟩) 1 1] w fun e w' => ∃ v', e = .returned v' ∧ w'.ownsRow base 46 2 v' (n + 1) (setIn xs (i * 2) (hNews p l)) ∧ w.grownBy w' v.ownBlock ∧ (v'.ownBlock = v.ownBlock ∨ ∃ g, v'.ownBlock = some g ∧ w.heap.size ≤ g) := by
  have hxl := hown.1
  rcases Nat.lt_or_eq_of_le hi with hlt | rfl
  · rcases hown.2 with ⟨rfl, rfl⟩ | ⟨g, cap, cur, rfl, hbg, hg, hnc, hcm, hcs, htake⟩
    · omega
    · have hne : vb ≠ g := fun e => hvb (by simp [Value.ownBlock, e])
      have hll : (setIn xs (i * 2) (hNews p l)).length = (n + 1) * 2 := by simp [setIn, hNews, hxl]; omega
      by_cases hroom : n + 1 ≤ cap
      · refine (insert_shift g n cap i cur vb p l w hg hlt hroom hcm hcs hne hvc (by rw [htake]; exact hx1)).mono ?_
        rintro e w' ⟨rfl, rfl⟩
        have hb1 := setCells_block ((cur.toList.take (n * 2)).drop (i * 2)) ((i + 1) * 2) w.drew cur hg (by simp; omega)
        have hb2 := setCells_block (hNews p l) (i * 2) _ _ hb1 (by
          rw [List.size_toArray, laid_length _ _ _ (by simp; omega)]; simp [hNews]; omega)
        refine ⟨_, rfl, ⟨hll, Or.inr ⟨g, cap, _, rfl, hbg, hb2, hroom, hcm, ?_, ?_⟩⟩, ?_, Or.inl rfl⟩
        · rw [List.size_toArray, laid_length _ _ _ (by rw [laid_length _ _ _ (by simp; omega)]; simp [hNews]; omega), laid_length _ _ _ (by simp; omega)]
          simpa using hcs
        · have := shifted_take cur.toList xs (hNews p l) (n * 2) (i * 2) 2 rfl (by omega) htake (by simp; omega) hxl
          rw [htake, show (n + 1) * 2 = n * 2 + 2 by omega, show (i + 1) * 2 = i * 2 + 2 by omega]
          exact this
        · have hq := grownBy_tr (grownBy_setCells w.drew g ((i + 1) * 2) ((cur.toList.take (n * 2)).drop (i * 2))) (grownBy_setCells _ g (i * 2) (hNews p l))
          exact ⟨hq.os, hq.tape, hq.output, hq.size, hq.block⟩
      · refine (insert_grow g n cap i cur vb p l w hg hlt hn hnc (by omega) hcs hvc (by rw [htake]; exact hx1)).mono ?_
        rintro e w' ⟨G, hG1, hG2, rfl, rfl⟩
        obtain rfl : cap = n := by omega
        obtain ⟨row, hrow⟩ : ∃ row : List Value, row = (cur.toList.take (i * 2)) ++ hZeros (cap + 1 - i) ++ hZeros (G - (cap + 1)) := ⟨_, rfl⟩
        have hrl : row.length = G * 2 := by rw [hrow]; simp [hZeros_length]; omega
        have hrt : row.take (i * 2) = xs.take (i * 2) := by
          rw [hrow, List.append_assoc, List.take_append_of_le_length (by simp; omega), List.take_take, ← htake, List.take_take]
          congr 1; omega
        rw [← hrow]
        have hb0 : ((w.alloc (.cells row.toArray 46)).drew).heap[w.heap.size]? = some (.cells row.toArray 46 (0, 0)) := _root_.Go.heap_alloc_new w _
        have hb1 := setCells_block (hNews p l) (i * 2) _ _ hb0 (by simp [hrl, hNews]; omega)
        have hl1 : (laid row (i * 2) (hNews p l)).length = G * 2 := by rw [laid_length _ _ _ (by simp [hrl, hNews]; omega)]; exact hrl
        have hb2 := setCells_block ((cur.toList.take (cap * 2)).drop (i * 2)) ((i + 1) * 2) (((w.alloc (.cells row.toArray 46)).drew.setCells w.heap.size (i * 2) (hNews p l)).drew) _ hb1 (by simp [hl1]; omega)
        refine ⟨_, rfl, ⟨hll, Or.inr ⟨w.heap.size, G, _, rfl, hbase, hb2, hG1, hG2, ?_, ?_⟩⟩, ?_, Or.inr ⟨w.heap.size, rfl, Nat.le_refl _⟩⟩
        · rw [List.size_toArray, laid_length _ _ _ (by simp [hl1]; omega)]
          simpa using hl1
        · rw [laid_of_take _ (xs.take (i * 2) ++ hNews p l) _ _ _ (by simp; omega) ?_ (by simp [hl1]; omega) (by simp [hNews, hxl]; omega)]
          · rw [List.take_of_length_le (by simp [hNews]; omega), htake]
            rfl
          · have e : (laid row (i * 2) (hNews p l)).take ((i + 1) * 2) = xs.take (i * 2) ++ hNews p l := laid_of_take row xs (hNews p l) (i * 2) ((i + 1) * 2) (by simp [hNews]; omega) hrt (by omega) (by omega)
            exact e.trans (List.take_of_length_le (by simp [hNews]; omega)).symm
        · have hz : w.grownBy (w.alloc (.cells row.toArray 46)) (some g) := World.grownBy_alloc _ _ _
          refine ⟨?_, ?_, ?_, ?_, ?_⟩
          · rw [(setCells_rest _ _ _ _).1]; show ((World.setCells _ _ _ _).os) = _; rw [(setCells_rest _ _ _ _).1]; rfl
          · rw [(setCells_rest _ _ _ _).2.1]; show ((World.setCells _ _ _ _).tape) = _; rw [(setCells_rest _ _ _ _).2.1]; rfl
          · rw [(setCells_rest _ _ _ _).2.2]; show ((World.setCells _ _ _ _).output) = _; rw [(setCells_rest _ _ _ _).2.2]; rfl
          · rw [setCells_size]; show _ ≤ (World.setCells _ _ _ _).heap.size; rw [setCells_size]; exact hz.size
          · intro k hk _
            rw [setCells_other _ _ _ _ _ (by omega)]; show (World.setCells _ _ _ _).heap[k]? = _; rw [setCells_other _ _ _ _ _ (by omega)]
            exact Below.heap_alloc w _ k hk
  · have hc : ∀ j, w.cell? ⟨vb, j, none⟩ = (hNews p l)[j]? := fun j => by rw [cell_row hvc]; simp
    have hs : setIn xs (i * 2) (hNews p l) = xs ++ hNews p l := by unfold setIn; rw [List.take_of_length_le (by omega), List.drop_of_length_le (by omega)]; simp
    rw [hs]
    exact insert_end base v i xs vb p l w hown hn hbase (by rw [hc]; rfl) (by rw [hc]; rfl)

end Go.Proofs.YthkbeaffkcfgiabGreatDoor

namespace Go.Proofs.YthkbeaffkcfgiabGreatDoor
open Go.RowKit

/-- A list without k of its items from place o on. -/
def cutOut {α : Type} (l : List α) (o k : Nat) : List α := l.take o ++ l.drop (o + k)

theorem zero48 : ∀ w, (zeroValue 46).run Tryz.prog w = .ok (.agg #[.int .i64 0, .int .i64 0]) w := fun w => by
  obtain ⟨i0, hi0, h0, h1, h2⟩ := info_parts Tryz.info46
  simp [zeroValue, typeInfo, hi0, h0]

set_option maxHeartbeats 4000000 in
set_option maxRecDepth 100000 in
/-- slices.Delete of one element of a row. -/
theorem delete_at (g n cap i : Nat) (cur : Array Value) (w : World) (hg : w.heap[g]? = some (.cells cur 46 (0, 0))) (hi : i < n) (hnc : n ≤ cap) (hc63 : cap ≤ maxLen) (hcs : cur.size = cap * 2) (hl1 : ∀ u ∈ cur.toList.take (n * 2), u.oneCell' = true) :
    Calls Tryz.prog 191 #[.slice (some ⟨g, 0, none⟩) n cap, .int .i64 i, .int .i64 ((i : Int) + 1)] w fun e w' => e = .returned (.slice (some ⟨g, 0, none⟩) (n - 1) cap) ∧
      w' = (w.drew.setCells g (i * 2) ((cur.toList.take (n * 2)).drop ((i + 1) * 2))).setCells g ((n - 1) * 2) (hZeros 1) := by
  obtain ⟨i0, hi0, hz0, hz1, hz2⟩ := info_parts Tryz.info46
  have hc64 : cap ≤ 9223372036854775807 := by simpa [maxLen] using hc63
  obtain ⟨mv, hmv⟩ : ∃ mv, mv = (cur.toList.take (n * 2)).drop ((i + 1) * 2) := ⟨_, rfl⟩
  have hml : mv.length = (n - (i + 1)) * 2 := by rw [hmv]; simp; omega
  have hmg : ∀ j u, mv[j]? = some u → cur[(i + 1) * 2 + j]? = some u := fun j u hj => by
    rw [hmv, List.getElem?_drop, List.getElem?_take] at hj
    split at hj
    · simpa using hj
    · cases hj
  have hm1 : ∀ u ∈ mv, u.oneCell' = true := fun u hu => by rw [hmv] at hu; exact hl1 u (List.mem_of_mem_drop hu)
  obtain ⟨A, hA, hsrc⟩ : ∃ A : Addr, (if cap = i + 1 then some (⟨g, 0, none⟩ : Addr) else some ⟨g, (i + 1) * 2, none⟩) = some A ∧ Hid (∀ t u, mv[t]? = some u → w.drew.cell? (A.add t) = some u) := by
    by_cases h : cap = i + 1
    · refine ⟨⟨g, 0, none⟩, by simp [h], fun t u hu => ?_⟩
      have h0 : mv.length = 0 := by rw [hml]; omega
      rw [List.length_eq_zero_iff.1 h0] at hu
      simp at hu
    · refine ⟨⟨g, (i + 1) * 2, none⟩, by simp [h], fun t u hu => ?_⟩
      rw [Addr.add_lit]
      show w.cell? _ = _
      rw [cell_row hg]
      exact hmg t u hu
  have s1 : Hid (mv.length = (n - (i + 1)) * 2) := hml
  have s2 : Hid (∀ u ∈ mv, u.oneCell' = true) := hm1
  have s3 : Hid (∀ t, t < mv.length → (w.drew.cell? ⟨g, 0 + i * 2 + t, none⟩).isSome = true ∧ w.drew.frozen? ⟨g, 0 + i * 2 + t, none⟩ = false) := fun t ht => by
    refine ⟨?_, frozen_row (w := w) hg _⟩
    show (w.cell? _).isSome = true
    rw [cell_row hg, Array.getElem?_eq_getElem (by omega)]; rfl
  obtain ⟨W1, hW1⟩ : ∃ W1, W1 = w.drew.setCells g (i * 2) mv := ⟨_, rfl⟩
  have hg1 : W1.heap[g]? = some (.cells (laid cur.toList (i * 2) mv).toArray 46 (0, 0)) := by
    rw [hW1]; exact setCells_block mv _ w.drew cur hg (by omega)
  have hcl : ∀ (W : World), (∀ x, W.cell? x = W1.cell? x) → (∀ x, W.frozen? x = W1.frozen? x) → ∀ ty c, (Builtin.clear_ #[29] ty #[.slice (some ⟨g, (i + (n - (i + 1))) * 2, none⟩) (n - (i + (n - (i + 1)))) c]).run Tryz.prog W = .ok (.tuple #[]) (W.setCells g ((i + (n - (i + 1))) * 2) (hZeros 1)) := fun W hWc hWf ty c => by
    have e1 : n - (i + (n - (i + 1))) = 1 := by omega
    rw [e1]
    exact run_clear_cellsK W 29 46 ty _ Tryz.underlying29 zero48 g _ 1 c (by omega) (hZeros 1) rfl (hZeros_one 1)
      (fun j hj => by rw [hWc, cell_row hg1, Array.getElem?_eq_getElem (by rw [List.size_toArray, laid_length _ _ _ (by simp; omega)]; rw [hZeros_length] at hj; simp; omega)]; rfl) (fun j hj => by rw [hWf]; exact frozen_row hg1 _)
  replace hcl := hcl W1 (fun _ => rfl) (fun _ => rfl)
  have X : Hid (W1 = w.drew.setCells g (i * 2) mv) := hW1
  have hW : Hid (W1 = w.drew.setCells g (0 + i * 2) mv) := by rw [Nat.zero_add]; exact hW1
  have hic : i ≤ cap := by omega
  have hjc : i + 1 ≤ cap := by omega
  have hjn : i + 1 ≤ n := by omega
  have hjI : (i : Int) + 1 ≤ (n : Int) := by omega
  have hb5 : (0 : Int) ≤ (i : Int) + 1 := by omega
  have hne : ¬ ((i : Int) = (i : Int) + 1) := by omega
  have mixed : Tryz.prog.follows Departure.mixedOrders = true := by kernel_rfl
  rw [← hmv]
  clear hW1 hmv hml hmg hm1 hg1 hg hcs hl1
  go_enter Tryz.func191, Tryz.ntmps191
  go_wp2_with fail
  go_region_law_o (refine step_append_room rfl (.tmp 22) (.tmp 25) 29 rfl 46 i0 2 Tryz.underlying29 hi0 hz1 g 0 i cap (by simp [Act.eval, Act.put]) A (n - (i + 1)) (cap - (i + 1)) mv (by simp [Act.eval, Act.put]) s1.out hsrc.out s2.out (by omega) s3.out ?_; rw [← hW.out])
  go_wp2
  go_ret
  refine ⟨?_, ?_⟩
  · rw [show n - 1 = i + (n - (i + 1)) by omega]; rfl
  · rw [show n - 1 = i + (n - (i + 1)) by omega, ← X.out]

theorem cut_take (cur xs z : List Value) (n i k : Nat) (hi : i + k ≤ n) (hx : cur.take n = xs) (hl : n ≤ cur.length) (hz : z.length = k) (hxl : xs.length = n) :
    (laid (laid cur i (xs.drop (i + k))) (n - k) z).take (n - k) = cutOut xs i k := by
  have h1 : i + (xs.drop (i + k)).length ≤ cur.length := by simp [hxl]; omega
  have h2 : n - k + z.length ≤ (laid cur i (xs.drop (i + k))).length := by rw [laid_length _ _ _ h1]; omega
  unfold cutOut
  apply List.ext_getElem?
  intro j
  rw [List.getElem?_take, laid_get _ _ _ h2, laid_get _ _ _ h1]
  have hxg : ∀ m, m < n → xs[m]? = cur[m]? := fun m hm => by rw [← hx, List.getElem?_take, if_pos hm]
  by_cases a1 : j < i
  · rw [if_pos (by omega), if_pos (by omega), if_pos a1, List.getElem?_append_left (by simp [hxl]; omega), List.getElem?_take, if_pos a1, hxg _ (by omega)]
  · have ht : (xs.take i).length = i := by simp [hxl]; omega
    rw [List.getElem?_append_right (by omega), ht]
    by_cases a2 : j < n - k
    · rw [if_pos a2, if_pos a2, if_neg a1, if_pos (by simp [hxl]; omega)]

    · rw [if_neg a2, List.getElem?_eq_none (by simp; omega)]

theorem delete_own (base : Nat) (v : Value) (n i : Nat) (xs : List Value) (w : World) (hown : w.ownsRow base 46 2 v n xs) (hi : i < n) (hx1 : ∀ u ∈ xs, u.oneCell' = true) :
    Calls Tryz.prog 191 #[v, .int .i64 i, .int .i64 ((i : Int) + 1)] w fun e w' => ∃ v', e = .returned v' ∧ w'.ownsRow base 46 2 v' (n - 1) (cutOut xs (i * 2) 2) ∧ w.grownBy w' v.ownBlock ∧ v'.ownBlock = v.ownBlock := by
  have hxl := hown.1
  rcases hown.2 with ⟨rfl, rfl⟩ | ⟨g, cap, cur, rfl, hbg, hg, hnc, hcm, hcs, htake⟩
  · omega
  · refine (delete_at g n cap i cur w hg hi hnc hcm hcs (by rw [htake]; exact hx1)).mono ?_
    rintro e w' ⟨rfl, rfl⟩
    have hb1 := setCells_block ((cur.toList.take (n * 2)).drop ((i + 1) * 2)) (i * 2) w.drew cur hg (by simp; omega)
    have hb2 := setCells_block (hZeros 1) ((n - 1) * 2) _ _ hb1 (by
      rw [List.size_toArray, laid_length _ _ _ (by simp; omega), hZeros_length]; simp; omega)
    refine ⟨_, rfl, ⟨by simp [cutOut, hxl]; omega, Or.inr ⟨g, cap, _, rfl, hbg, hb2, by omega, hcm, ?_, ?_⟩⟩, ?_, rfl⟩
    · rw [List.size_toArray, laid_length _ _ _ (by rw [hZeros_length, laid_length _ _ _ (by simp; omega)]; simp; omega), laid_length _ _ _ (by simp; omega)]
      simpa using hcs
    · have := cut_take cur.toList xs (hZeros 1) (n * 2) (i * 2) 2 (by omega) htake (by simp; omega) (hZeros_length 1) hxl
      rw [htake, show (n - 1) * 2 = n * 2 - 2 by omega, show (i + 1) * 2 = i * 2 + 2 by omega]
      exact this
    · have hq := grownBy_tr (grownBy_setCells w.drew g (i * 2) ((cur.toList.take (n * 2)).drop ((i + 1) * 2))) (grownBy_setCells _ g ((n - 1) * 2) (hZeros 1))
      exact ⟨hq.os, hq.tape, hq.output, hq.size, hq.block⟩

end Go.Proofs.YthkbeaffkcfgiabGreatDoor
