import Derived.Maps.AppendAt
import Derived.Shelf.Strings.SlTrimAscii
import Derived.Test.YthkbeaffkcfgiabGreatDoorK04
import Derived.Test.YthkbeaffkcfgiabGreatDoorK06
import Derived.Test.YthkbeaffkcfgiabGreatDoorK05
set_option linter.unusedSimpArgs false
set_option linter.unusedVariables false
namespace Go.Proofs.YthkbeaffkcfgiabGreatDoor
open Go.RowKit

/-- A column at block cb: one cell, the slice of its rows' cells, which it owns; F: the blocks that are written with it. -/
structure ColAt (W : World) (F : Nat → Prop) (cb ct et sz n : Nat) (xs : List Value) : Prop where
  me : F cb
  row : ∃ v, W.heap[cb]? = some (.cells #[v] ct (0, 0)) ∧ W.ownsRow 0 et sz v n xs ∧ ∀ k, v.ownBlock = some k → F k ∧ k ≠ cb

theorem ColAt.turn {W W' : World} {F F' : Nat → Prop} {cb ct et sz n : Nat} {xs : List Value} (h : ColAt W F cb ct et sz n xs) (hb : ∀ k, F k → k < W.heap.size → W'.heap[k]? = W.heap[k]? ∧ F' k) : ColAt W' F' cb ct et sz n xs := by
  obtain ⟨h1, v, h2, h3, h4⟩ := h
  have hc : cb < W.heap.size := (Array.getElem?_eq_some_iff.1 h2).1
  refine ⟨(hb cb h1 hc).2, v, (hb cb h1 hc).1.trans h2, own_turn h3 fun k hk hl => (hb k (h4 k hk).1 hl).1, fun k hk => ⟨(hb k (h4 k hk).1 (h3.lt k hk).2).2, (h4 k hk).2⟩⟩

/-- What a column is when its cell has been written behind Insert or Delete. -/
theorem col_done {F : Nat → Prop} {w W1 w2 : World} {cb ct et sz n m : Nat} {v v' : Value} {xs ys : List Value} (h1 : F cb) (h2 : w.heap[cb]? = some (.cells #[v] ct (0, 0))) (h3 : w.ownsRow 0 et sz v n xs) (h4 : ∀ k, v.ownBlock = some k → F k ∧ k ≠ cb)
    (hb1 : Below w.heap.size w W1) (g1 : w2.ownsRow 0 et sz v' m ys) (g2 : W1.grownBy w2 v.ownBlock) (g3 : v'.ownBlock = v.ownBlock ∨ ∃ g, v'.ownBlock = some g ∧ W1.heap.size ≤ g) :
    Turns w (w2.setCell ⟨cb, 0, none⟩ v') F ∧ ColAt (w2.setCell ⟨cb, 0, none⟩ v') (grow F w (w2.setCell ⟨cb, 0, none⟩ v')) cb ct et sz m ys := by
  have hc : cb < w.heap.size := (Array.getElem?_eq_some_iff.1 h2).1
  have hs1 := hb1.size
  have hblk : w2.heap[cb]? = w.heap[cb]? := (g2.block cb (by omega) (fun e => (h4 cb e.symm).2 rfl)).trans (hb1.block cb hc)
  have hset : (w2.setCell ⟨cb, 0, none⟩ v').heap[cb]? = some (.cells #[v'] ct (0, 0)) := setCell_block _ (hblk.trans h2)
  have hz : (w2.setCell ⟨cb, 0, none⟩ v').heap.size = w2.heap.size := by simp [World.setCell]
  have hnt : ∀ k, v'.ownBlock = some k → k ≠ cb ∧ (F k ∨ w.heap.size ≤ k) := fun k hk => by
    rcases g3 with h | ⟨g, h, hg⟩
    · rw [h] at hk; exact ⟨(h4 k hk).2, Or.inl (h4 k hk).1⟩
    · rw [h] at hk; simp at hk; subst hk; exact ⟨by omega, Or.inr (by omega)⟩
  refine ⟨Turns.set ((Turns.ofBelow F hb1).trans' (Turns.ofGrown g2 fun k hk _ => (h4 k hk).1)) cb 0 _ (fun _ => h1), Or.inl h1, v', hset, own_turn g1 fun k hk _ => Below.heap_setCell _ _ _ _ (hnt k hk).1, fun k hk => ⟨?_, (hnt k hk).1⟩⟩
  rcases (hnt k hk).2 with h | h
  · exact Or.inl h
  · exact Or.inr ⟨h, by rw [hz]; exact (g1.lt k hk).2⟩

end Go.Proofs.YthkbeaffkcfgiabGreatDoor

namespace Go.Proofs.YthkbeaffkcfgiabGreatDoor
open Go.RowKit

/-- Of each kind (1 int, 2 bool, 3 text, 4 ref, 5 list): the type of a pointer to its columns; of the column itself; of a cell; how many cells a row has. -/
def kPtr (k : Nat) : Nat := if k = 1 then 349 else if k = 2 then 354 else if k = 3 then 359 else if k = 4 then 364 else 369
def kStr (k : Nat) : Nat := if k = 1 then 353 else if k = 2 then 358 else if k = 3 then 363 else if k = 4 then 368 else 373
def kElt (k : Nat) : Nat := if k = 1 then 3 else if k = 2 then 4 else if k = 3 then 9 else if k = 4 then 46 else 54
def kSz (k : Nat) : Nat := if k = 4 then 2 else 1

/-- A column as a table holds it. -/
abbrev colVal (k cb : Nat) : Value := .iface (kPtr k) (.pointer (some ⟨cb, 0, none⟩))

set_option maxHeartbeats 1600000 in
theorem new_col (k : Nat) (w : World) (h1 : 1 ≤ k) (h5 : k ≤ 5) : Calls Tryz.prog 271 #[.int .i64 k] w fun e w' => e = .returned (colVal k w.heap.size) ∧ w' = w.alloc (.cells #[.slice none 0 0] (kStr k)) := by
  have h : k = 1 ∨ k = 2 ∨ k = 3 ∨ k = 4 ∨ k = 5 := by omega
  rcases h with rfl | rfl | rfl | rfl | rfl
  all_goals (go_enter Tryz.func271, Tryz.ntmps271)
  all_goals go_wp2
  all_goals go_ret
  all_goals exact ⟨rfl, rfl⟩

end Go.Proofs.YthkbeaffkcfgiabGreatDoor

namespace Go.Proofs.YthkbeaffkcfgiabGreatDoor
open Go.RowKit

/-- Fields of these kinds, in their cells. -/
def FieldsAt (w : World) (s : Value) (ks : List Nat) : Prop :=
  (s = .slice none 0 0 ∧ ks = []) ∨ ∃ g c, s = .slice (some ⟨g, 0, none⟩) ks.length c ∧ g < w.heap.size ∧ ∀ j (h : j < ks.length), ∃ nm, w.cell? ⟨g, j * 2, none⟩ = some (.string nm) ∧ w.cell? ⟨g, j * 2 + 1, none⟩ = some (.int .i64 ks[j])

theorem Tryz.cellInfoC : (Tryz.prog.info? 195).map (fun i => (i.zero, i.size, i.bytes)) = some (some .nilIface, 1, 16) := by kernel_rfl

/-- Columns without rows, of these kinds, at these blocks, all at or behind B and none of them the block o. -/
def NewCols (W : World) (B : Nat) (o : Option Nat) (ks cbs : List Nat) : Prop :=
  cbs.length = ks.length ∧ cbs.Pairwise (· < ·) ∧ ∀ j (h : j < cbs.length) (h' : j < ks.length), B ≤ cbs[j] ∧ cbs[j] < W.heap.size ∧ some cbs[j] ≠ o ∧ W.heap[cbs[j]]? = some (.cells #[.slice none 0 0] (kStr ks[j]) (0, 0))

theorem NewCols.next {W W' : World} {B : Nat} {o o' : Option Nat} {ks cbs : List Nat} (h : NewCols W B o ks cbs) (k : Nat) (hB : B ≤ W.heap.size) (hs : W.heap.size + 1 < W'.heap.size) (hb : ∀ b, b < W.heap.size → some b ≠ o → W'.heap[b]? = W.heap[b]?) (hn : W'.heap[W.heap.size + 1]? = some (.cells #[.slice none 0 0] (kStr k) (0, 0)))
    (ho : o' = o ∨ o' = some (W.heap.size + 3)) (hol : ∀ b, o = some b → b < W.heap.size) : NewCols W' B o' (ks ++ [k]) (cbs ++ [W.heap.size + 1]) := by
  obtain ⟨h1, h2, h3⟩ := h
  refine ⟨by simp [h1], ?_, fun j hj hj' => ?_⟩
  · rw [List.pairwise_append]
    refine ⟨h2, by simp, fun a ha b hb => ?_⟩
    simp at hb; subst hb
    obtain ⟨i, hi, rfl⟩ := List.getElem_of_mem ha
    have := (h3 i hi (by omega)).2.1
    omega
  · by_cases hlt : j < cbs.length
    · obtain ⟨a1, a2, a3, a4⟩ := h3 j hlt (by omega)
      rw [List.getElem_append_left hlt, List.getElem_append_left (by omega)]
      refine ⟨a1, by omega, ?_, (hb _ a2 a3).trans a4⟩
      rcases ho with rfl | rfl
      · exact a3
      · simp; omega
    · have e : j = cbs.length := by simp at hj; omega
      subst e
      rw [List.getElem_append_right (by omega), List.getElem_append_right (by omega)]
      simp only [Nat.sub_self, h1, List.getElem_cons_zero]
      refine ⟨by omega, hs, ?_, hn⟩
      rcases ho with rfl | rfl
      · intro e; have := hol _ e.symm; omega
      · simp

set_option maxHeartbeats 1600000 in
set_option maxRecDepth 20000 in
/-- table.columnsOf. -/
theorem columnsOf_any (nm : ByteArray) (s : Value) (ks : List Nat) (w : World) (hs : FieldsAt w s ks) (hl : ks.length ≤ 4) (hk : ∀ k ∈ ks, 1 ≤ k ∧ k ≤ 5) :
    Calls Tryz.prog 242 #[.agg #[.string nm, s]] w fun e w' => ∃ sa sc cbs, e = .returned (.slice sa ks.length sc) ∧ w'.ownsRow w.heap.size 195 1 (.slice sa ks.length sc) ks.length (List.zipWith colVal ks cbs) ∧ NewCols w' w.heap.size (Value.slice sa ks.length sc).ownBlock ks cbs ∧ Below w.heap.size w w' := by
  obtain ⟨i0, hi0, hz0, hz1, hz2⟩ := info_parts Tryz.cellInfoC
  rcases hs with ⟨rfl, rfl⟩ | ⟨g, c, rfl, hg, hf⟩
  · go_enter Tryz.func242, Tryz.ntmps242
    go_wp2
    refine wp_loop_rounds 1 ?_
    rw [rounds_succ]
    go_wp2
    go_ret
    exact ⟨none, 0, [], rfl, World.ownsRow_nil _ _ _ _, ⟨rfl, List.Pairwise.nil, fun j hj => by simp at hj⟩, (Below.refl _ _).alloc (Nat.le_refl _) _⟩
  · have HF : Hid (∀ j (h : j < ks.length), ∃ nm, w.cell? ⟨g, j * 2, none⟩ = some (.string nm) ∧ w.cell? ⟨g, j * 2 + 1, none⟩ = some (.int .i64 ks[j])) := hf
    have HK : Hid (∀ k ∈ ks, 1 ≤ k ∧ k ≤ 5) := hk
    obtain ⟨n, hn⟩ : ∃ n, n = ks.length := ⟨_, rfl⟩
    have HN : Hid (n = ks.length) := hn
    rw [← hn] at hl ⊢
    clear hf hk hn
    go_enter Tryz.func242, Tryz.ntmps242
    go_wp2
    go_loopw [3, 9] (fun v t wr => ∃ (j : Nat) (sa : Option Addr) (sc : Nat) (cbs : List Nat), j ≤ n ∧ t = .int .i64 j ∧ v = .slice sa j sc ∧ wr.ownsRow w.heap.size 195 1 (.slice sa j sc) j (List.zipWith colVal (ks.take j) cbs) ∧ Hid (NewCols wr w.heap.size (Value.slice sa j sc).ownBlock (ks.take j) cbs) ∧ Below w.heap.size w wr) (fun _ t _ => n - (intOf t).toNat)
    case atStart => exact ⟨0, none, 0, [], by omega, rfl, rfl, World.ownsRow_nil _ _ _ _, ⟨by simp, List.Pairwise.nil, fun j hj => by simp at hj⟩, (Below.refl _ _).alloc (Nat.le_refl _) _⟩
    case round =>
      obtain ⟨j, sa, sc, cbs, hj, rfl, rfl, hown, HC, hb⟩ := hrel
      have HB : Hid (Below w.heap.size w wr) := hb
      have HO : Hid (wr.ownsRow w.heap.size 195 1 (.slice sa j sc) j (List.zipWith colVal (ks.take j) cbs)) := hown
      have hws : w.heap.size ≤ wr.heap.size := hb.size
      by_cases hlt : j < n
      · have hje : j < ks.length := by rw [← HN.out]; exact hlt
        obtain ⟨nm', c0, c1⟩ := HF.out j hje
        obtain ⟨q0, q1⟩ := HK.out ks[j] (List.getElem_mem hje)
        have HT : Hid (ks.take (j + 1) = ks.take j ++ [ks[j]]) := List.take_succ_eq_append_getElem hje
        generalize ks[j] = k at c1 q0 q1 HT
        have d0 : wr.cell? ⟨g, j * 2, none⟩ = some (.string nm') := (hb.cell (p := ⟨g, j * 2, none⟩) hg).trans c0
        have d1 : wr.cell? ⟨g, j * 2 + 1, none⟩ = some (.int .i64 k) := (hb.cell (p := ⟨g, j * 2 + 1, none⟩) hg).trans c1
        clear hown hb c0 c1
        obtain ⟨W3, hW3⟩ : ∃ W3, W3 = ((wr.alloc (.cells #[.string nm', .int .i64 k] 135)).alloc (.cells #[.slice none 0 0] (kStr k))).alloc (.cells #[colVal k (wr.heap.size + 1)] 195) := ⟨_, rfl⟩
        have hs3 : W3.heap.size = wr.heap.size + 3 := by rw [hW3]; simp
        have hk3 : ∀ b, b < wr.heap.size → W3.heap[b]? = wr.heap[b]? := fun b h => by
          rw [hW3, Below.heap_alloc _ _ _ (by simp; omega), Below.heap_alloc _ _ _ (by simp; omega), Below.heap_alloc _ _ _ h]
        have hn3 : W3.heap[wr.heap.size + 1]? = some (.cells #[.slice none 0 0] (kStr k) (0, 0)) := by
          rw [hW3, Below.heap_alloc _ _ _ (by simp)]; exact heap_alloc_at (by simp) _
        have hc3 : W3.cell? ⟨wr.heap.size + 1 + 1, 0, none⟩ = some (colVal k (wr.heap.size + 1)) := by rw [hW3, cell_row (heap_alloc_at (by simp) _)]; rfl
        have HNw : Hid (∀ i u, [colVal k (wr.heap.size + 1)][i]? = some u → W3.cell? ((⟨wr.heap.size + 1 + 1, 0, none⟩ : Addr).add i) = some u) := fun i u hi => by
          rw [Addr.add_lit, Nat.zero_add]
          match i with
          | 0 => simp at hi; rw [← hi]; exact hc3
          | i + 1 => simp at hi
        have HO3 : Hid (W3.ownsRow w.heap.size 195 1 (.slice sa j sc) j (List.zipWith colVal (ks.take j) cbs)) := own_turn HO.out fun b _ h => hk3 b h
        have HX : Hid (∀ w6 v', W3.grownBy w6 (Value.slice sa j sc).ownBlock → (Value.ownBlock v' = (Value.slice sa j sc).ownBlock ∨ Value.ownBlock v' = some W3.heap.size) → NewCols w6 w.heap.size v'.ownBlock (ks.take (j + 1)) (cbs ++ [wr.heap.size + 1]) ∧ Below w.heap.size w w6) := fun w6 v' hg6 hl6 => by
          have hz := hg6.size
          refine ⟨?_, ?_⟩
          · rw [HT.out]
            exact HC.out.next k hws (by omega) (fun b h1 h2 => (hg6.block b (by omega) h2).trans (hk3 b h1)) ((hg6.block _ (by omega) (fun e => by have := (HO.out.lt _ e.symm).2; omega)).trans hn3) (by rw [hs3] at hl6; exact hl6) (fun b h => (HO.out.lt b h).2)
          · have hB3 : Below w.heap.size w W3 := HB.out.trans ⟨by rw [hW3]; rfl, by rw [hW3]; rfl, by rw [hW3]; rfl, by omega, fun b h => hk3 b (by omega)⟩
            exact Below.grown hB3 hg6 (by omega) (fun b h => (HO.out.lt b h).1)
        have HZ : Hid (List.zipWith colVal (ks.take (j + 1)) (cbs ++ [wr.heap.size + 1]) = List.zipWith colVal (ks.take j) cbs ++ [colVal k (wr.heap.size + 1)]) := by
          show _ = _
          rw [HT.out, List.zipWith_append (by rw [← HC.out.1])]; rfl
        rw [hW3] at HNw HO3 HX
        clear hk3 hn3 hc3 hs3 hW3
        go_wp2_with (first
          | (go_at_call 271; refine (new_col k _ q0 q1).mono ?_; rintro e w2 ⟨rfl, rfl⟩)
          | (at_builtin; refine wpList_append_own_at _ rfl _ _ 201 rfl w.heap.size 195 i0 _ 1 16 Tryz.underlying201 hi0 hz0 hz1 hz2 rfl (by decide) _ _ _ rfl HO3.out ⟨wr.heap.size + 1 + 1, 0, none⟩ 1 1 [colVal k (wr.heap.size + 1)] rfl rfl HNw.out (fun u hu => by simp at hu; subst hu; rfl) (by unfold maxLen; omega) (by omega) (by simp; omega) ?_; intro v' w6 hown6 hgrow6 _ hloc6; obtain ⟨sa', sc', rfl⟩ := own_form hown6; have HX6 := HX.out w6 _ hgrow6 hloc6; have HO6 : Hid (w6.ownsRow w.heap.size 195 1 (.slice sa' (j + 1) sc') (j + 1) (List.zipWith colVal (ks.take j) cbs ++ [colVal k (wr.heap.size + 1)])) := hown6; have HC6 : Hid (NewCols w6 w.heap.size (Value.slice sa' (j + 1) sc').ownBlock (ks.take (j + 1)) (cbs ++ [wr.heap.size + 1])) := HX6.1; have HB6 : Hid (Below w.heap.size w w6) := HX6.2; clear hown6 hgrow6 hloc6 HX6))
        go_roundw
        case rel => exact ⟨j + 1, sa', sc', cbs ++ [wr.heap.size + 1], by omega, by go_num, rfl, by rw [HZ.out]; exact HO6.out, HC6, HB6.out⟩
        case measure => simp [intOf]; omega
      · obtain rfl : j = n := by omega
        go_wp2_with fail
        go_ret
        have e : ks.take j = ks := by rw [HN.out, List.take_length]
        rw [e] at HO HC
        exact ⟨sa, sc, cbs, rfl, HO.out, HC.out, HB.out⟩

end Go.Proofs.YthkbeaffkcfgiabGreatDoor

namespace Go.Proofs.YthkbeaffkcfgiabGreatDoor
open Go.RowKit

/-- Bytes as a text. -/
def mk (l : List UInt8) : ByteArray := ⟨l.toArray⟩
theorem mk_data (s : ByteArray) : mk s.data.toList = s := by cases s; simp [mk]
theorem data_mk (l : List UInt8) : (mk l).data.toList = l := by simp [mk]
theorem toList_mk (l : List UInt8) : (mk l).toList = l := by rw [_root_.Go.ByteArray.toList_eq]; exact data_mk l
theorem mk_inj {a b : List UInt8} (h : mk a = mk b) : a = b := by rw [← data_mk a, h, data_mk]
theorem size_mk (l : List UInt8) : (mk l).size = l.length := by rw [← ByteArray.size_data]; simp [mk]

theorem split_any (b : UInt8) (s : ByteArray) (m : Int) (W : World) (hs : s.size < 500) (hW : W.cell? ⟨3, 0, none⟩ = some (.int .i64 m)) :
    Calls Tryz.prog 194 #[.string s, .string ⟨#[b]⟩] W fun e w' =>
      e = .returned (.slice (some ⟨W.heap.size, 0, none⟩) (cutL b s.data.toList).length (cutL b s.data.toList).length) ∧ w' = W.alloc (.cells ((cutL b s.data.toList).map fun l => Value.string (mk l)).toArray 9) := by
  have := Tryz.strings_Split s ⟨#[b]⟩ m W (by omega) hW (Nat.le_refl 1)
  rw [count_cut b s] at this
  have e : (Lib.splitB ⟨#[b]⟩ 0 (Lib.countB s ⟨#[b]⟩) s).map Value.string = (cutL b s.data.toList).map fun l => Value.string (mk l) := by
    rw [← split_cut b s, List.map_map]
    refine List.map_congr_left fun x _ => ?_
    simp [mk_data]
  rw [e] at this
  exact this

set_option maxHeartbeats 800000 in
theorem readKind_no (s : ByteArray) (w : World) (hk : kindL s.data.toList = 0) : Calls Tryz.prog 279 #[.string s] w fun e w' => e = .panicked wrong ∧ w = w' := by
  have key : ∀ l : List UInt8, kindL l ≠ 0 → (s.toList == l) = false := fun l hl => by
    rw [beq_eq_false_iff_ne]
    intro e
    rw [_root_.Go.ByteArray.toList_eq] at e
    rw [e] at hk
    exact hl hk
  have k1 := key [105, 110, 116] (by decide)
  have k2 := key [98, 111, 111, 108] (by decide)
  have k3 := key [116, 101, 120, 116] (by decide)
  have k4 := key [114, 101, 102] (by decide)
  have k5 := key [108, 105, 115, 116] (by decide)
  clear key hk
  go_enter Tryz.func279, Tryz.ntmps279
  go_wp2
  exact ⟨rfl, rfl, rfl⟩

theorem kindOk_of (l : List UInt8) (h : kindL l ≠ 0) : KindOk (mk l) (kindL l) := by
  unfold kindL at h ⊢
  unfold KindOk
  split
  · left; rename_i e; subst e; exact ⟨rfl, rfl⟩
  · split
    · right; left; rename_i e; subst e; exact ⟨rfl, rfl⟩
    · split
      · right; right; left; rename_i e; subst e; exact ⟨rfl, rfl⟩
      · split
        · right; right; right; left; rename_i e; subst e; exact ⟨rfl, rfl⟩
        · split
          · right; right; right; right; rename_i e; subst e; exact ⟨rfl, rfl⟩
          · rename_i h1 h2 h3 h4 h5
            rw [if_neg h1, if_neg h2, if_neg h3, if_neg h4, if_neg h5] at h
            exact absurd rfl h

set_option maxHeartbeats 800000 in
theorem readField_any (word : List UInt8) (m : Int) (w : World) (hsz : word.length < 500) (hm : w.cell? ⟨3, 0, none⟩ = some (.int .i64 m)) :
    Calls Tryz.prog 247 #[.string (mk word)] w fun e w' => ((∃ f, fieldR word = some f ∧ e = .returned (.agg #[.string (mk f.1), .int .i64 (f.2 : Int)])) ∨ (fieldR word = none ∧ e = .panicked wrong)) ∧ Below w.heap.size w w' := by
  rw [← fieldL_eq]
  have hsz' : (mk word).size < 500 := by rw [size_mk]; exact hsz
  by_cases hn : nameL (Lib.cut word [58]).1 = true
  · by_cases hk : kindL (Lib.cut word [58]).2.1 = 0
    · have hf : fieldL word = none := by unfold fieldL; rw [if_neg (fun h => h.2 hk)]
      have h0 : 3 < w.heap.size := World.block_lt_of_cell? w ⟨3, 0, none⟩ hm
      have HC : Hid (∀ o : Obj, Calls Tryz.prog 278 #[.string (mk word), .string ⟨#[58]⟩] (w.alloc o) fun e w' => e = .returned (.tuple #[.string (mk (Lib.cut word [58]).1), .string (mk (Lib.cut word [58]).2.1), .bool (Lib.cut word [58]).2.2]) ∧ ∃ n, w' = (w.alloc o).drewN n) := fun o => by
        have := Tryz.strings_Cut (mk word) ⟨#[58]⟩ m (w.alloc o) (by omega) ((World.cell?_alloc_lt w o ⟨3, 0, none⟩ h0).trans hm)
        rw [data_mk] at this
        exact this
      have HNm : Hid (NameOk (mk (Lib.cut word [58]).1)) := (nameL_ok _).1 (by rw [data_mk]; exact hn)
      have HKd : Hid (kindL (mk (Lib.cut word [58]).2.1).data.toList = 0) := by show _ = _; rw [data_mk]; exact hk
      have HF : Hid (fieldL word = none) := hf
      clear hf hk hn hm
      generalize mk (Lib.cut word [58]).1 = nm at HC HNm
      generalize mk (Lib.cut word [58]).2.1 = kd at HC HKd
      generalize (Lib.cut word [58]).2.2 = fd at HC
      go_enter Tryz.func247, Tryz.ntmps247
      go_wp2_with fail
      refine Calls.mono (HC.out _) ?_
      rintro e w1 ⟨rfl, n1, rfl⟩
      go_wp2_with fail
      refine (readName_ok nm _ HNm.out).mono ?_
      rintro e w2 ⟨rfl, hb⟩
      have HB : Hid (Below w.heap.size w w2) := (below_drewN ((Below.refl _ _).alloc (Nat.le_refl _) _) _).trans (hb.mono (by simp))
      clear hb
      go_wp2_with fail
      refine (readKind_no kd _ HKd.out).mono ?_
      rintro e w3 ⟨rfl, rfl⟩
      go_wp2_with fail
      exact ⟨rfl, Or.inr ⟨HF.out, rfl⟩, HB.out⟩
    · have hf : fieldL word = some ((Lib.cut word [58]).1, kindL (Lib.cut word [58]).2.1) := by unfold fieldL; rw [if_pos ⟨hn, hk⟩]
      refine (readField_ok (mk word) (mk (Lib.cut word [58]).1) (kindL (Lib.cut word [58]).2.1) m w hm ⟨(nameL_ok _).1 (by rw [data_mk]; exact hn), hsz', mk (Lib.cut word [58]).2.1, kindOk_of _ hk, by rw [data_mk, data_mk], by rw [data_mk, data_mk]⟩).mono fun e w' ⟨he, hb⟩ => ⟨Or.inl ⟨_, hf, he⟩, hb⟩
  · have hf : fieldL word = none := by unfold fieldL; rw [if_neg (fun h => hn h.1)]
    have h0 : 3 < w.heap.size := World.block_lt_of_cell? w ⟨3, 0, none⟩ hm
    have HC : Hid (∀ o : Obj, Calls Tryz.prog 278 #[.string (mk word), .string ⟨#[58]⟩] (w.alloc o) fun e w' => e = .returned (.tuple #[.string (mk (Lib.cut word [58]).1), .string (mk (Lib.cut word [58]).2.1), .bool (Lib.cut word [58]).2.2]) ∧ ∃ n, w' = (w.alloc o).drewN n) := fun o => by
      have := Tryz.strings_Cut (mk word) ⟨#[58]⟩ m (w.alloc o) (by omega) ((World.cell?_alloc_lt w o ⟨3, 0, none⟩ h0).trans hm)
      rw [data_mk] at this
      exact this
    have HNm : Hid (¬ NameOk (mk (Lib.cut word [58]).1)) := fun h => hn (by have := (nameL_ok _).2 h; rw [data_mk] at this; exact this)
    have HZ : Hid ((mk (Lib.cut word [58]).1).size ≤ 1000000000) := by
      show _ ≤ _
      rw [size_mk]
      have : (Lib.cut word [58]).1.length ≤ word.length := by
        unfold Lib.cut
        split
        · simp [List.length_take]; omega
        · simp
      omega
    have HF : Hid (fieldL word = none) := hf
    clear hf hn hm
    generalize mk (Lib.cut word [58]).1 = nm at HC HNm HZ
    generalize mk (Lib.cut word [58]).2.1 = kd at HC
    generalize (Lib.cut word [58]).2.2 = fd at HC
    go_enter Tryz.func247, Tryz.ntmps247
    go_wp2_with fail
    refine Calls.mono (HC.out _) ?_
    rintro e w1 ⟨rfl, n1, rfl⟩
    go_wp2_with fail
    refine (readName_no nm _ HZ.out HNm.out).mono ?_
    rintro e w2 ⟨rfl, rfl⟩
    go_wp2_with fail
    exact ⟨rfl, Or.inr ⟨HF.out, rfl⟩, below_drewN ((Below.refl _ _).alloc (Nat.le_refl _) _) _⟩

end Go.Proofs.YthkbeaffkcfgiabGreatDoor

namespace Go.Proofs.YthkbeaffkcfgiabGreatDoor
open Go.RowKit

/-- What the readers of scenes leave by. -/
def wrongS : List PanicEntry := [{ v := .iface 262 (.agg #[]), recovered := false }]

theorem needS_yes (x : Bool) (w : World) (hx : x = true) : Calls Tryz.prog 183 #[.bool x] w fun e w' => e = .returned (.tuple #[]) ∧ w = w' := by
  subst hx
  go_enter Tryz.func183, Tryz.ntmps183
  go_wp2
  go_end0
  exact ⟨rfl, rfl⟩

theorem needS_no (x : Bool) (w : World) (hx : x = false) : Calls Tryz.prog 183 #[.bool x] w fun e w' => e = .panicked wrongS ∧ w = w' := by
  subst hx
  go_enter Tryz.func183, Tryz.ntmps183
  go_wp2
  exact ⟨rfl, rfl, rfl⟩

/-- need, whatever it is told. -/
theorem needS_any (x : Bool) (w : World) : Calls Tryz.prog 183 #[.bool x] w fun e w' => ((x = true ∧ e = .returned (.tuple #[])) ∨ (x = false ∧ e = .panicked wrongS)) ∧ w = w' := by
  cases x with
  | true => exact (needS_yes true w rfl).mono fun e w' h => ⟨Or.inl ⟨rfl, h.1⟩, h.2⟩
  | false => exact (needS_no false w rfl).mono fun e w' h => ⟨Or.inr ⟨rfl, h.1⟩, h.2⟩

/-- The reader at block rb: what it has still to read, and what lies behind that in its block. -/
def RdAt (w : World) (rb ty : Nat) (tail : List Value) (l : List UInt8) : Prop := w.heap[rb]? = some (.cells (Value.string (mk l) :: tail).toArray ty (0, 0))

/-- From w to w' nothing has turned but the reader's rest. -/
structure Rd (w w' : World) (rb ty : Nat) (tail : List Value) (l : List UInt8) : Prop where
  rest : RdAt w' rb ty tail l
  turns : Turns w w' (fun k => k = rb)

theorem RdAt.lt {w : World} {rb ty : Nat} {tail : List Value} {l : List UInt8} (h : RdAt w rb ty tail l) : rb < w.heap.size := (Array.getElem?_eq_some_iff.1 h).1
theorem RdAt.cell {w : World} {rb ty : Nat} {tail : List Value} {l : List UInt8} (h : RdAt w rb ty tail l) : w.cell? ⟨rb, 0, none⟩ = some (.string (mk l)) := by rw [cell_row h]; rfl
theorem RdAt.frozen {w : World} {rb ty : Nat} {tail : List Value} {l : List UInt8} (h : RdAt w rb ty tail l) (o : Nat) : w.frozen? ⟨rb, o, none⟩ = false := frozen_row h o
theorem RdAt.keep {w w' : World} {rb ty : Nat} {tail : List Value} {l : List UInt8} (h : RdAt w rb ty tail l) (hb : w'.heap[rb]? = w.heap[rb]?) : RdAt w' rb ty tail l := hb.trans h
theorem RdAt.below {w w' : World} {rb ty : Nat} {tail : List Value} {l : List UInt8} (h : RdAt w rb ty tail l) (hb : Below w.heap.size w w') : RdAt w' rb ty tail l := h.keep (hb.block rb h.lt)
theorem Rd.refl {w : World} {rb ty : Nat} {tail : List Value} {l : List UInt8} (h : RdAt w rb ty tail l) : Rd w w rb ty tail l := ⟨h, Turns.ofBelow _ (Below.refl _ _)⟩
theorem Rd.trans {w w1 w2 : World} {rb ty : Nat} {tail : List Value} {l1 l2 : List UInt8} (h : Rd w w1 rb ty tail l1) (k : Rd w1 w2 rb ty tail l2) : Rd w w2 rb ty tail l2 := ⟨k.rest, h.turns.trans' k.turns⟩
theorem Rd.below {w w1 w2 : World} {rb ty : Nat} {tail : List Value} {l : List UInt8} (h : Rd w w1 rb ty tail l) (k : Below w1.heap.size w1 w2) : Rd w w2 rb ty tail l := ⟨h.rest.below k, h.turns.trans' (Turns.ofBelow _ k)⟩
theorem RdAt.set {w : World} {rb ty : Nat} {tail : List Value} {l : List UInt8} (h : RdAt w rb ty tail l) (l' : List UInt8) : Rd w (w.setCell ⟨rb, 0, none⟩ (.string (mk l'))) rb ty tail l' := by
  refine ⟨?_, Turns.set (Turns.ofBelow _ (Below.refl _ _)) rb 0 _ (fun _ => rfl)⟩
  have := setCell_block (o := 0) (Value.string (mk l')) h
  unfold RdAt
  rw [this]
  simp

set_option maxHeartbeats 400000 in
theorem took_any (rb ty : Nat) (tail : List Value) (l p : List UInt8) (w : World) (hR : RdAt w rb ty tail l) :
    Calls Tryz.prog 238 #[.pointer (some ⟨rb, 0, none⟩), .string (mk p)] w fun e w' => e = .returned (.bool (Lib.hasPrefix l p)) ∧ Rd w w' rb ty tail (Lib.trimPrefix l p) := by
  have h := hR.cell
  have hf := hR.frozen 0
  have HC : Hid (Calls Tryz.prog 181 #[.string (mk l), .string (mk p)] w fun e w' => e = .returned (.tuple #[.string (mk (Lib.trimPrefix l p)), .bool (Lib.hasPrefix l p)]) ∧ w' = w) := by
    have := Tryz.strings_CutPrefix (mk l) (mk p) w
    rw [data_mk, data_mk] at this
    exact this
  have HE : Hid (Rd w (w.setCell ⟨rb, 0, none⟩ (.string (mk (Lib.trimPrefix l p)))) rb ty tail (Lib.trimPrefix l p)) := hR.set _
  clear hR
  generalize Lib.hasPrefix l p = q at HC ⊢
  generalize Lib.trimPrefix l p = r at HC HE ⊢
  go_enter Tryz.func238, Tryz.ntmps238
  go_wp2_with (go_at_call 181; refine HC.out.mono ?_; rintro e w2 ⟨rfl, rfl⟩)
  go_ret
  exact ⟨rfl, HE.out⟩

set_option maxHeartbeats 400000 in
theorem skip_any (rb ty : Nat) (tail : List Value) (l p : List UInt8) (w : World) (hR : RdAt w rb ty tail l) :
    Calls Tryz.prog 186 #[.pointer (some ⟨rb, 0, none⟩), .string (mk p)] w fun e w' => ((Lib.hasPrefix l p = true ∧ e = .returned (.tuple #[])) ∨ (Lib.hasPrefix l p = false ∧ e = .panicked wrongS)) ∧ Rd w w' rb ty tail (Lib.trimPrefix l p) := by
  have HC : Hid (Calls Tryz.prog 238 #[.pointer (some ⟨rb, 0, none⟩), .string (mk p)] w fun e w' => e = .returned (.bool (Lib.hasPrefix l p)) ∧ Rd w w' rb ty tail (Lib.trimPrefix l p)) := took_any rb ty tail l p w hR
  clear hR
  cases hq : Lib.hasPrefix l p with
  | true =>
    rw [hq] at HC
    go_enter Tryz.func186, Tryz.ntmps186
    go_wp2_with (first | (go_at_call 238; refine HC.out.mono ?_; rintro e w2 ⟨rfl, hr⟩) | (go_at_call 183; refine (needS_yes _ _ rfl).mono ?_; rintro e w3 ⟨rfl, rfl⟩))
    go_end0
    exact ⟨Or.inl ⟨trivial, rfl⟩, hr⟩
  | false =>
    rw [hq] at HC
    go_enter Tryz.func186, Tryz.ntmps186
    go_wp2_with (first | (go_at_call 238; refine HC.out.mono ?_; rintro e w2 ⟨rfl, hr⟩) | (go_at_call 183; refine (needS_no _ _ rfl).mono ?_; rintro e w3 ⟨rfl, rfl⟩))
    exact ⟨rfl, Or.inr ⟨trivial, rfl⟩, hr⟩

theorem extract_mk (l : List UInt8) (a b : Nat) : (mk l).extract a b = mk ((l.drop a).take (b - a)) := by
  have h : ((mk l).extract a b).toList = (l.drop a).take (b - a) := by rw [Lib.extract_toList, data_mk]
  rw [_root_.Go.ByteArray.toList_eq] at h
  rw [← h, mk_data]

/-- How a reader's call ends: with a value and what is left to read, or by leaving. -/
def REnds (w : World) (rb ty : Nat) (tail : List Value) (r : Option (Value × List UInt8)) (e : Ending) (w' : World) : Prop :=
  (∃ v l, r = some (v, l) ∧ e = .returned v ∧ Rd w w' rb ty tail l) ∨ (r = none ∧ e = .panicked wrongS ∧ Turns w w' (fun k => k = rb))

theorem turns_refl (w : World) (F : Nat → Prop) : Turns w w F := Turns.ofBelow F (Below.refl _ _)

/-- What take gives. -/
def takeL (n : Nat) (l : List UInt8) : Option (List UInt8 × List UInt8) := if n ≤ l.length then some (l.take n, l.drop n) else none
def strP (x : List UInt8 × List UInt8) : Value × List UInt8 := (.string (mk x.1), x.2)

set_option maxHeartbeats 800000 in
theorem take_any (rb ty : Nat) (tail : List Value) (l : List UInt8) (n : Nat) (w : World) (hR : RdAt w rb ty tail l) (hl : l.length ≤ 2 ^ 50) (hn : n ≤ 2 ^ 50) :
    Calls Tryz.prog 287 #[.pointer (some ⟨rb, 0, none⟩), .int .i64 n] w (REnds w rb ty tail ((takeL n l).map strP)) := by
  have h := hR.cell
  have hf := hR.frozen 0
  have hz : (mk l).size = l.length := size_mk l
  by_cases hle : n ≤ l.length
  · have e1 : (mk l).extract 0 n = mk (l.take n) := by rw [extract_mk]; rfl
    have e2 : (mk l).extract n l.length = mk (l.drop n) := by rw [extract_mk, List.take_of_length_le (by simp)]
    have HE : Hid (REnds w rb ty tail ((takeL n l).map strP) (.returned (.string (mk (l.take n)))) (w.setCell ⟨rb, 0, none⟩ (.string (mk (l.drop n))))) :=
      Or.inl ⟨_, l.drop n, by unfold takeL; rw [if_pos hle]; rfl, rfl, hR.set _⟩
    clear hR
    have hd : decide ((n : Int) ≤ (l.length : Int)) = true := by simp [hle]
    go_enter Tryz.func287, Tryz.ntmps287
    go_wp2_with (go_at_call 183; refine (needS_yes _ _ (by first | rfl | exact hd)).mono ?_; rintro e w3 ⟨rfl, rfl⟩)
    go_ret
    exact HE.out
  · have HE : Hid (REnds w rb ty tail ((takeL n l).map strP) (.panicked wrongS) w) :=
      Or.inr ⟨by unfold takeL; rw [if_neg hle]; rfl, rfl, turns_refl _ _⟩
    clear hR
    have hd : decide ((n : Int) ≤ (l.length : Int)) = false := by simp; omega
    go_enter Tryz.func287, Tryz.ntmps287
    go_wp2_with (go_at_call 183; refine (needS_no _ _ (by first | rfl | exact hd)).mono ?_; rintro e w3 ⟨rfl, rfl⟩)
    exact ⟨rfl, HE.out⟩

/-- What next gives. -/
def nextL : List UInt8 → Option (UInt8 × List UInt8)
  | [] => none
  | b :: r => some (b, r)
def bytP (x : UInt8 × List UInt8) : Value × List UInt8 := (.int .u8 x.1.toNat, x.2)

set_option maxHeartbeats 800000 in
theorem next_any (rb ty : Nat) (tail : List Value) (l : List UInt8) (w : World) (hR : RdAt w rb ty tail l) (hl : l.length ≤ 2 ^ 50) :
    Calls Tryz.prog 269 #[.pointer (some ⟨rb, 0, none⟩)] w (REnds w rb ty tail ((nextL l).map bytP)) := by
  have HT : Hid (Calls Tryz.prog 287 #[.pointer (some ⟨rb, 0, none⟩), .int .i64 1] w (REnds w rb ty tail ((takeL 1 l).map strP))) := take_any rb ty tail l 1 w hR hl (by omega)
  clear hR
  cases l with
  | nil =>
    go_enter Tryz.func269, Tryz.ntmps269
    go_wp2_with fail
    refine Calls.mono HT.out ?_
    rintro e w2 (⟨v, l', hv, _, _⟩ | ⟨_, rfl, ht⟩)
    · simp [takeL] at hv
    · go_wp2_with fail
      exact ⟨rfl, Or.inr ⟨rfl, rfl, ht⟩⟩
  | cons b r =>
    go_enter Tryz.func269, Tryz.ntmps269
    go_wp2_with fail
    refine Calls.mono HT.out ?_
    rintro e w2 (⟨v, l', hv, rfl, ht⟩ | ⟨hn, _, _⟩)
    · simp [takeL, strP] at hv
      obtain ⟨rfl, rfl⟩ := hv
      have hi : (mk [b]).size = 1 := rfl
      have hg : (mk [b])[0]? = some b := rfl
      go_wp2_with fail
      go_ret
      exact Or.inl ⟨_, _, rfl, rfl, ht⟩
    · simp [takeL] at hn

end Go.Proofs.YthkbeaffkcfgiabGreatDoor

namespace Go.Proofs.YthkbeaffkcfgiabGreatDoor
open Go.RowKit

/-- The six cells of a table's columns. -/
def colArr (sl : Nat → Value) : Array Value := #[sl 0, sl 1, sl 2, sl 3, sl 4, sl 5]
theorem colArr_get (sl : Nat → Value) (k : Nat) (hk : k < 6) : (colArr sl)[k]? = some (sl k) := by
  have h : k = 0 ∨ k = 1 ∨ k = 2 ∨ k = 3 ∨ k = 4 ∨ k = 5 := by omega
  rcases h with rfl | rfl | rfl | rfl | rfl | rfl <;> rfl

set_option maxHeartbeats 4000000 in
set_option maxRecDepth 100000 in
/-- (*Table).each, whatever it is to do: Inv k f: what holds when the columns of the components ahead of k, and those of k ahead of f, have had it. -/
theorem each_any (n : Nat) (cap : Array Value) (tb : Nat) (sl : Nat → Value) (cs : Nat → List Value) (Inv : Nat → Nat → World → Prop) (w : World) (hrun : ∀ args w, (callFunc n args).run Tryz.prog w = .ok (.enter n args) w)
    (hc : ∀ k, k < 6 → w.cell? ⟨tb, 1 + k, none⟩ = some (sl k))
    (hsl : ∀ k, k < 6 → (sl k = .slice none 0 0 ∧ cs k = []) ∨ ∃ g c, sl k = .slice (some ⟨g, 0, none⟩) (cs k).length c ∧ (cs k).length ≤ c ∧ (cs k).length ≤ 100 ∧ ∀ f W, Inv k f W → ∀ j (h : j < (cs k).length), W.cell? ⟨g, j, none⟩ = some (cs k)[j])
    (h0 : Inv 0 0 w) (hnext : ∀ k W, k < 6 → Inv k (cs k).length W → Inv (k + 1) 0 W)
    (hstep : ∀ k f (_ : k < 6) (hf : f < (cs k).length) W, Inv k f W → Calls Tryz.prog n (#[.int .i64 k, .int .i64 f, (cs k)[f]] ++ cap) W fun e W' => e = .returned (.tuple #[]) ∧ Inv k (f + 1) W') :
    Calls Tryz.prog 124 #[.pointer (some ⟨tb, 0, none⟩), .func (.func n) #[] cap] w fun e w' => e = .returned (.tuple #[]) ∧ Inv 6 0 w' := by
  have c1 := hc 0 (by omega); have c2 := hc 1 (by omega); have c3 := hc 2 (by omega); have c4 := hc 3 (by omega); have c5 := hc 4 (by omega); have c6 := hc 5 (by omega)
  have HSl : Hid _ := hsl
  have HNx : Hid _ := hnext
  have HSt : Hid _ := hstep
  have H0 : Hid (Inv 0 0 w) := h0
  clear hc hsl hnext hstep h0
  go_enter Tryz.func124, Tryz.ntmps124
  go_wp2
  go_loopw [12] (fun t wr => ∃ k : Nat, k ≤ 6 ∧ t = .int .i64 k ∧ Hid (Inv k 0 wr)) (fun t _ => 6 - (intOf t).toNat)
  case atStart => exact ⟨0, by omega, rfl, H0⟩
  case round =>
    obtain ⟨k, hk, rfl, HI⟩ := hrel
    by_cases hlt : k < 6
    · have hid : ∀ w, (Instr.index 202 (.agg #[sl 0, sl 1, sl 2, sl 3, sl 4, sl 5]) (.int .i64 k)).run Tryz.prog w = .ok (sl k) w := fun w => index147 _ k hlt _ (colArr_get sl k hlt) w
      rcases HSl.out k hlt with ⟨h1, h2⟩ | ⟨g, c, h1, h2, h3, h4⟩
      · rw [h1] at hid
        have HI2 : Hid (Inv (k + 1) 0 wr) := HNx.out k wr hlt (by rw [h2]; exact HI.out)
        clear h1 h2
        go_wp2
        refine wp_loop_rounds 1 ?_
        rw [rounds_succ]
        go_wp2
        go_roundw
        case rel => exact ⟨k + 1, by omega, by go_num, HI2⟩
        case measure => simp [intOf]; omega
      · rw [h1] at hid
        obtain ⟨m, hm⟩ : ∃ m, m = (cs k).length := ⟨_, rfl⟩
        have HM : Hid (m = (cs k).length) := hm
        have HR : Hid _ := h4
        rw [← hm] at hid h2 h3
        have hdk : decide ((k : Int) < 6) = true := decide_eq_true (by omega)
        clear h1 h4 hm
        go_wp2
        go_loopw [18] (fun t wk => ∃ f : Nat, f ≤ m ∧ t = .int .i64 f ∧ Hid (Inv k f wk)) (fun t _ => m - (intOf t).toNat)
        case atStart => exact ⟨0, by omega, rfl, HI⟩
        case round =>
          obtain ⟨f, hf, rfl, HF⟩ := hrel
          by_cases hfm : f < m
          · have hfl : f < (cs k).length := by rw [← HM.out]; exact hfm
            have cc := HR.out f _ HF.out f hfl
            have HC : Hid (Calls Tryz.prog n (#[.int .i64 k, .int .i64 f, (cs k)[f]] ++ cap) wr fun e W' => e = .returned (.tuple #[]) ∧ Inv k (f + 1) W') := HSt.out k f hlt hfl _ HF.out
            generalize (cs k)[f] = cv at cc HC
            go_wp2_with (refine HC.out.mono ?_; rintro e w2 ⟨rfl, hi2⟩; have HI2 : Hid (Inv k (f + 1) w2) := hi2; clear hi2)
            go_roundw
            case rel => exact ⟨f + 1, by omega, by go_num, HI2⟩
            case measure => simp [intOf]; omega
          · obtain rfl : f = m := by omega
            have HI2 : Hid (Inv (k + 1) 0 wr) := HNx.out k _ hlt (by rw [← HM.out]; exact HF.out)
            go_wp2_with fail
            go_roundw
            case rel => exact ⟨k + 1, by omega, by go_num, HI2⟩
            case measure => simp [intOf]; omega
    · go_wp2
      go_end0
      obtain rfl : k = 6 := by omega
      exact ⟨rfl, HI.out⟩

end Go.Proofs.YthkbeaffkcfgiabGreatDoor
