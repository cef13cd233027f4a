import Derived.Test.YthkbeaffkcfgiabGreatDoorK28
import Derived.Test.YthkbeaffkcfgiabGreatDoorK18
set_option linter.unusedSimpArgs false
set_option linter.unusedVariables false
namespace Go.Proofs.YthkbeaffkcfgiabGreatDoor
open Go.RowKit

/-- append to a row of the call's own, and where it lies then, as one step of a region that draws. -/
theorem step_append_own_at {ops : Array Oper} {o : Oper} {a : Act} {w : World} {K : Act → World → Prop} {Q : Exit → Act → World → Prop} {E : Prop}
    (hg : o.guard = none) (s x : Operand) (t : TypeId) (hop : o.op = Op.call { callee := Callee.builtin Builtin.append, args := #[s, x], argTypes := #[t, t] }) (base : Nat) (e : TypeId) (i : TypeInfo) (z : Value) (size bytes : Nat)
    (ht : Tryz.prog.underlying t = some (.slice e)) (hi : Tryz.prog.info? e = some i) (hz : i.zero = some z) (hsize : i.size = size) (hby : i.bytes = bytes) (hzs : z.cells.size = size) (hsz : 0 < size)
    (v : Value) (n : Nat) (xs : List Value) (hs : a.eval s = v) (hown : w.ownsRow base e size v n xs)
    (ad : Addr) (m c : Nat) (news : List Value) (hx : a.eval x = .slice (some ad) m c) (hl : news.length = m * size) (hnews : ∀ j u, news[j]? = some u → w.cell? (ad.add j) = some u) (h1 : ∀ u ∈ news, u.oneCell' = true)
    (h63 : n + m ≤ maxLen) (hbytes : (n + m) * bytes ≤ 140737488355328) (hbase : base ≤ w.heap.size)
    (hK : ∀ v' w', w'.ownsRow base e size v' (n + m) (xs ++ news) → w.grownBy w' v.ownBlock → (v'.ownBlock = v.ownBlock ∨ v'.ownBlock = some w.heap.size) → K (a.put o.dst v') w') :
    if Region.wanted o (yielded ops a.tmps) = true then Oper.wp Tryz.prog o a w K Q else E := by
  have hw : Region.wanted o (yielded ops a.tmps) = true := by simp [Region.wanted, hg]
  rw [if_pos hw]
  obtain ⟨v', w', hr, h2, h3, _, h5⟩ := run_append_own_at (P := Tryz.prog) w base t o.type e i z size bytes ht hi hz hsize hby hzs hsz v n xs hown ad m c news hl hnews h1 h63 hbytes hbase
  unfold Oper.wp
  simp [execOp, hop, resolve, invoke, builtin, hs, hx, hr, Result.andThen]
  exact hK v' w' h2 h3 h5

theorem numsGoL_len : ∀ (n : Nat) (acc : List Int) (l : List UInt8) {xs : List Int} {r : List UInt8}, numsGoL n acc l = some (xs, r) → r.length ≤ l.length ∧ xs.length = acc.length + n
  | 0, acc, l, xs, r, h => by simp [numsGoL] at h; rw [← h.1, ← h.2]; simp
  | n + 1, acc, l, xs, r, h => by
    rw [numsGoL] at h
    split at h
    · cases h
    · rename_i x q hb
      have h1 := numsGoL_len n _ _ h
      have h2 := (numberL_range hb).2.2
      exact ⟨by omega, by rw [h1.2]; simp; omega⟩

/-- What holds in the loop of a list that is read. -/
structure LsAt (w wr : World) (rb : Nat) (tail : List Value) (q : Nat) (acc : List Int) (r : List UInt8) (sa : Option Addr) (sc : Nat) : Prop where
  len : q = acc.length
  res : wr.heap[w.heap.size]? = some (.cells #[.int .i64 0, .int .i64 0, .string ⟨#[]⟩, .int .i64 0, .int .i64 0, .slice none 0 0] 56 (0, 0))
  val : wr.heap[w.heap.size + 1]? = some (.cells #[.int .i64 5, .int .i64 0, .string ⟨#[]⟩, .int .i64 0, .int .i64 0, .slice sa q sc] 56 (0, 0))
  own : wr.ownsRow (w.heap.size + 2) 3 1 (.slice sa q sc) q (acc.map (Value.int .i64))
  rd : Rd w wr rb 276 tail r

theorem LsAt.push {w w3 w6 : World} {rb : Nat} {tail : List Value} {q : Nat} {acc : List Int} {r : List UInt8} {sa sa' : Option Addr} {sc sc' : Nat} {x : Int} (h : LsAt w w3 rb tail q acc r sa sc) (hrb : rb < w.heap.size)
    (ho : w6.ownsRow (w.heap.size + 2) 3 1 (.slice sa' (q + 1) sc') (q + 1) (acc.map (Value.int .i64) ++ [.int .i64 x])) (hg : (w3.alloc (.cells #[.int .i64 x] 3)).grownBy w6 (Value.slice sa q sc).ownBlock) :
    LsAt w (w6.setCell ⟨w.heap.size + 1, 5, none⟩ (.slice sa' (q + 1) sc')) rb tail (q + 1) (acc ++ [x]) r sa' sc' ∧ w6.cell? ⟨w.heap.size + 1, 5, none⟩ = some (.slice sa q sc) ∧ w6.frozen? ⟨w.heap.size + 1, 5, none⟩ = false := by
  have hrow : ∀ j, (Value.slice sa q sc).ownBlock = some j → w.heap.size + 2 ≤ j := fun j hj => (h.own.lt j hj).1
  have hl : w.heap.size + 1 < w3.heap.size := (Array.getElem?_eq_some_iff.1 h.val).1
  have hk : ∀ k, k < w.heap.size + 2 → w6.heap[k]? = w3.heap[k]? := fun k hk => (hg.block k (by simp; omega) (fun e => by have := hrow k e.symm; omega)).trans (Below.heap_alloc _ _ _ (by omega))
  have hv := (hk _ (by omega)).trans h.val
  refine ⟨⟨by rw [h.len]; simp, ?_, ?_, ?_, ?_⟩, ?_, frozen_row hv _⟩
  · rw [heapSet (by omega), hk _ (by omega)]; exact h.res
  · rw [setCell_block _ hv]; rfl
  · have e : (acc ++ [x]).map (Value.int .i64) = acc.map (Value.int .i64) ++ [.int .i64 x] := by simp
    rw [e]
    exact own_turn ho fun k hk1 _ => heapSet (by have := (ho.lt k hk1).1; omega)
  · have r1 : Rd w w6 rb 276 tail r := (h.rd.below ((Below.refl _ _).alloc (Nat.le_refl _) _)).grown hg (fun k hk => by have := hrow k hk; omega) hrb
    exact r1.set _ _ _ (by omega) hrb
  · rw [cell_row hv]; rfl

set_option maxHeartbeats 6400000 in
set_option maxRecDepth 20000 in
theorem valueB5_any (rb m : Nat) (tail : List Value) (l : List UInt8) (w : World) (hR : RdAt w rb 276 tail l) (hl : l.length ≤ 2 ^ 40) :
    Calls Tryz.prog 270 #[.pointer (some ⟨rb, 0, none⟩), .int .i64 5] w (VEnds w rb 276 tail (valueBL 5 m l)) := by
  obtain ⟨i0, hi0, hz0, hz1, hz2⟩ := info_parts Tryz.info3
  have hrb := hR.lt
  obtain ⟨W1, hW1⟩ : ∃ W1, W1 = (w.alloc (.cells #[.int .i64 0, .int .i64 0, .string ⟨#[]⟩, .int .i64 0, .int .i64 0, .slice none 0 0] 56)).alloc (.cells #[.int .i64 5, .int .i64 0, .string ⟨#[]⟩, .int .i64 0, .int .i64 0, .slice none 0 0] 56) := ⟨_, rfl⟩
  have hB1 : Below w.heap.size w W1 := by rw [hW1]; exact below_two _ _ _
  have hs1 : W1.heap.size = w.heap.size + 2 := by rw [hW1]; simp
  have HC : Hid (Calls Tryz.prog 187 #[.pointer (some ⟨rb, 0, none⟩), .int .i64 0, .int .i64 4] W1 _) := count_any rb tail 0 4 l W1 (hR.below hB1) hl
  have HVa : Hid (valueBL 5 m l = (listBL l).map fun x => (⟨5, 0, [], x.1⟩, x.2)) := rfl
  rw [hW1] at HC
  clear hR
  go_enter Tryz.func270, Tryz.ntmps270
  go_wp2_with fail
  refine Calls.mono HC.out ?_
  rw [← hW1]
  rintro e w2 (⟨v, l3, hv, rfl, ht3⟩ | ⟨hn, rfl, ht3⟩)
  · obtain ⟨c, r2, hd⟩ : ∃ c r, countL 0 4 l = some (c, r) := by
      cases hd : countL 0 4 l with
      | none => rw [hd] at hv; cases hv
      | some x => exact ⟨x.1, x.2, rfl⟩
    rw [hd] at hv
    simp [intP] at hv
    obtain ⟨rfl, rfl⟩ := hv
    obtain ⟨hc0, _, hc4, hrl⟩ := countL_range hd
    obtain ⟨cn, rfl⟩ : ∃ cn : Nat, c = (cn : Int) := ⟨c.toNat, by omega⟩
    have HLs : Hid (listBL l = numsGoL cn [] r2) := by show _ = _; unfold listBL; rw [hd]; simp
    have hb1 : w2.heap[w.heap.size]? = some (.cells #[.int .i64 0, .int .i64 0, .string ⟨#[]⟩, .int .i64 0, .int .i64 0, .slice none 0 0] 56 (0, 0)) := by
      rw [ht3.turns.block _ (by omega) (by omega), hW1, Below.heap_alloc _ _ _ (by simp)]; exact heap_alloc_at rfl _
    have hb2 : w2.heap[w.heap.size + 1]? = some (.cells #[.int .i64 5, .int .i64 0, .string ⟨#[]⟩, .int .i64 0, .int .i64 0, .slice none 0 0] 56 (0, 0)) := by
      rw [ht3.turns.block _ (by omega) (by omega), hW1]; exact heap_alloc_at (by simp) _
    have HA0 : Hid (LsAt w w2 rb tail 0 [] r2 none 0) := ⟨rfl, hb1, hb2, World.ownsRow_nil _ _ _ _, ht3.rest, (Turns.ofBelow _ hB1).trans' ht3.turns⟩
    have hcn : cn ≤ 4 := by omega
    clear hb1 hb2 ht3 hd hB1 hs1 hW1 HC hc0 hc4
    go_wp2_with fail
    go_loopw [11] (fun t wr => ∃ (q : Nat) (acc : List Int) (r : List UInt8) (sa : Option Addr) (sc : Nat), q ≤ cn ∧ t = .int .i64 q ∧ r.length ≤ 2 ^ 40 ∧ Hid (listBL l = numsGoL (cn - q) acc r) ∧ Hid (LsAt w wr rb tail q acc r sa sc)) (fun t _ => cn - (intOf t).toNat)
    case atStart => exact ⟨0, [], r2, none, 0, by omega, rfl, by omega, HLs, HA0⟩
    case round =>
      obtain ⟨q, acc, r, sa, sc, hq, rfl, hr, HG, HA⟩ := hrel
      by_cases hlt : q < cn
      · have hsub : cn - q = (cn - q - 1) + 1 := by omega
        have hsr : w.heap.size + 1 < wr.heap.size := (Array.getElem?_eq_some_iff.1 HA.out.val).1
        have HNm : Hid (Calls Tryz.prog 288 #[.pointer (some ⟨rb, 0, none⟩)] wr.drew _) := number_any rb tail r wr.drew (HA.out.rd.rest.keep rfl) hr
        obtain ⟨q0, q1, q2, q3, q4, q5, g0, g1, g2, g3, g4, g5⟩ := row6 HA.out.val
        clear q0 q1 q2 q3 q4 g0 g1 g2 g3 g4 g5
        have HNm2 : Hid (Calls Tryz.prog 288 #[.pointer (some ⟨rb, 0, none⟩)] wr.drew fun e w3 => (∃ x r3, e = .returned (.int .i64 x) ∧ listBL l = numsGoL (cn - q - 1) (acc ++ [x]) r3 ∧ r3.length ≤ 2 ^ 40 ∧ LsAt w w3 rb tail q acc r3 sa sc) ∨ (listBL l = none ∧ e = .panicked wrongS ∧ Turns w w3 (fun k => k = rb))) := by
          refine Calls.mono HNm.out ?_
          rintro e w3 (⟨v, l3, hv, rfl, ht3⟩ | ⟨hn, rfl, ht3⟩)
          · obtain ⟨x, r3, hd⟩ : ∃ x r3, numberL r = some (x, r3) := by
              cases hd : numberL r with
              | none => rw [hd] at hv; cases hv
              | some y => exact ⟨y.1, y.2, rfl⟩
            rw [hd] at hv
            simp [intP] at hv
            obtain ⟨rfl, rfl⟩ := hv
            have := (numberL_range hd).2.2
            have hk : ∀ k, w.heap.size ≤ k → k < wr.heap.size → w3.heap[k]? = wr.heap[k]? := fun k h1 h2 => ht3.turns.block k h2 (by omega)
            refine Or.inl ⟨x, r3, rfl, by rw [HG.out, hsub, numsGoL, hd]; rfl, by omega, HA.out.len, (hk _ (by omega) (by omega)).trans HA.out.res, (hk _ (by omega) (by omega)).trans HA.out.val, own_turn HA.out.own fun k hk1 hk2 => hk k (by have := (HA.out.own.lt k hk1).1; omega) hk2, ht3.rest, HA.out.rd.turns.trans' ⟨ht3.turns.os, ht3.turns.tape, ht3.turns.output, ht3.turns.size, ht3.turns.block⟩⟩
          · have hnn : numberL r = none := by
              cases hd : numberL r with
              | none => rfl
              | some y => rw [hd] at hn; cases hn
            exact Or.inr ⟨by rw [HG.out, hsub, numsGoL, hnn], rfl, HA.out.rd.turns.trans' ⟨ht3.os, ht3.tape, ht3.output, ht3.size, ht3.block⟩⟩
        clear HNm
        go_wp2_with fail
        go_region_dies
        all_goals refine Calls.mono HNm2.out ?_
        all_goals rintro e w3 (⟨x, r3, rfl, hg3, hr3, ha3⟩ | ⟨hn3, rfl, ht3⟩)
        · have HA3 : Hid (LsAt w w3 rb tail q acc r3 sa sc) := ha3
          have HG3 : Hid (listBL l = numsGoL (cn - q - 1) (acc ++ [x]) r3) := hg3
          have hl3 : w.heap.size + 1 < w3.heap.size := (Array.getElem?_eq_some_iff.1 ha3.val).1
          have hn1 : w.heap.size + 1 ≠ w3.heap.size := by omega
          clear ha3 hg3
          go_wp2_with fail
          refine wpAny_ready (rs := [4]) (by kernel_rfl) (by simp) ?_
          refine AllReady.cons rfl (fun K hK => ?_) AllReady.nil
          go_simp
          refine hK _ _ ?_
          clear hK K
          refine wpAny_ready (rs := [5]) (by kernel_rfl) (by simp) ?_
          refine AllReady.cons rfl (fun K hK => ?_) AllReady.nil
          refine step_append_own_at rfl (.tmp 14) (.tmp 17) 54 rfl (w.heap.size + 2) 3 i0 (.int .i64 0) 1 8 Tryz.underlying54 hi0 hz0 hz1 hz2 rfl (by decide) (.slice sa q sc) q (acc.map (Value.int .i64)) (by simp [Act.eval]) (HA3.out.own.alloc _) ⟨w3.heap.size, 0, none⟩ 1 1 [.int .i64 x] (by simp [Act.eval]) rfl new_one (fun u hu => by simp at hu; rw [hu]; rfl) (by unfold maxLen; omega) (by omega) (by simp; omega) ?_
          intro v' w6 hown6 hgrow6 _
          obtain ⟨sa', sc', rfl⟩ := own_form hown6
          obtain ⟨hpush, c6, f6⟩ := HA3.out.push hrb hown6 hgrow6
          have HP : Hid (LsAt w (w6.setCell ⟨w.heap.size + 1, 5, none⟩ (.slice sa' (q + 1) sc')) rb tail (q + 1) (acc ++ [x]) r3 sa' sc') := hpush
          clear hown6 hgrow6 hpush
          refine hK _ _ ?_
          clear hK K
          refine wpAny_ready (rs := [6]) (by kernel_rfl) (by simp) ?_
          refine AllReady.cons rfl (fun K hK => ?_) AllReady.nil
          go_simp
          refine hK _ _ ?_
          clear hK K
          refine wpAny_ready (rs := [7]) (by kernel_rfl) (by simp) ?_
          refine AllReady.cons rfl (fun K hK => ?_) AllReady.nil
          go_simp
          refine hK _ _ ?_
          clear hK K
          refine wpAny_done (by kernel_rfl) ?_ _
          go_wp2_with fail
          exact ⟨⟨q + 1, acc ++ [x], r3, sa', sc', by omega, by go_num, hr3, by rw [show cn - (q + 1) = cn - q - 1 by omega]; exact HG3, HP⟩, by simp [intOf]; omega⟩
        · exact ⟨rfl, Or.inr ⟨by rw [HVa.out, hn3]; rfl, rfl, ht3⟩⟩
        · have HA3 : Hid (LsAt w w3 rb tail q acc r3 sa sc) := ha3
          have HG3 : Hid (listBL l = numsGoL (cn - q - 1) (acc ++ [x]) r3) := hg3
          have hl3 : w.heap.size + 1 < w3.heap.size := (Array.getElem?_eq_some_iff.1 ha3.val).1
          have hn1 : w.heap.size + 1 ≠ w3.heap.size := by omega
          have k5 : w3.cell? ⟨w.heap.size + 1, 5, none⟩ = some (.slice sa q sc) := by rw [cell_row ha3.val]; rfl
          clear ha3 hg3
          go_wp2_with fail
          refine wpAny_ready (rs := [1, 4]) (by kernel_rfl) (by simp) ?_
          refine AllReady.cons rfl (fun K hK => ?_) (AllReady.cons rfl (fun K hK => ?_) AllReady.nil)
          · go_simp
            refine hK _ _ ?_
            clear hK K
            refine wpAny_ready (rs := [4]) (by kernel_rfl) (by simp) ?_
            refine AllReady.cons rfl (fun K hK => ?_) AllReady.nil
            go_simp
            refine hK _ _ ?_
            clear hK K
            refine wpAny_ready (rs := [5]) (by kernel_rfl) (by simp) ?_
            refine AllReady.cons rfl (fun K hK => ?_) AllReady.nil
            refine step_append_own_at rfl (.tmp 14) (.tmp 17) 54 rfl (w.heap.size + 2) 3 i0 (.int .i64 0) 1 8 Tryz.underlying54 hi0 hz0 hz1 hz2 rfl (by decide) (.slice sa q sc) q (acc.map (Value.int .i64)) (by simp [Act.eval]) (HA3.out.own.alloc _) ⟨w3.heap.size, 0, none⟩ 1 1 [.int .i64 x] (by simp [Act.eval]) rfl new_one (fun u hu => by simp at hu; rw [hu]; rfl) (by unfold maxLen; omega) (by omega) (by simp; omega) ?_
            intro v' w6 hown6 hgrow6 _
            obtain ⟨sa', sc', rfl⟩ := own_form hown6
            obtain ⟨hpush, c6, f6⟩ := HA3.out.push hrb hown6 hgrow6
            have HP : Hid (LsAt w (w6.setCell ⟨w.heap.size + 1, 5, none⟩ (.slice sa' (q + 1) sc')) rb tail (q + 1) (acc ++ [x]) r3 sa' sc') := hpush
            clear hown6 hgrow6 hpush
            refine hK _ _ ?_
            clear hK K
            refine wpAny_ready (rs := [6]) (by kernel_rfl) (by simp) ?_
            refine AllReady.cons rfl (fun K hK => ?_) AllReady.nil
            go_simp
            refine hK _ _ ?_
            clear hK K
            refine wpAny_ready (rs := [7]) (by kernel_rfl) (by simp) ?_
            refine AllReady.cons rfl (fun K hK => ?_) AllReady.nil
            go_simp
            refine hK _ _ ?_
            clear hK K
            refine wpAny_done (by kernel_rfl) ?_ _
            go_wp2_with fail
            exact ⟨⟨q + 1, acc ++ [x], r3, sa', sc', by omega, by go_num, hr3, by rw [show cn - (q + 1) = cn - q - 1 by omega]; exact HG3, HP⟩, by simp [intOf]; omega⟩
          · go_simp
            refine hK _ _ ?_
            clear hK K
            refine wpAny_ready (rs := [1]) (by kernel_rfl) (by simp) ?_
            refine AllReady.cons rfl (fun K hK => ?_) AllReady.nil
            go_simp
            refine hK _ _ ?_
            clear hK K
            refine wpAny_ready (rs := [5]) (by kernel_rfl) (by simp) ?_
            refine AllReady.cons rfl (fun K hK => ?_) AllReady.nil
            refine step_append_own_at rfl (.tmp 14) (.tmp 17) 54 rfl (w.heap.size + 2) 3 i0 (.int .i64 0) 1 8 Tryz.underlying54 hi0 hz0 hz1 hz2 rfl (by decide) (.slice sa q sc) q (acc.map (Value.int .i64)) (by simp [Act.eval]) (HA3.out.own.alloc _) ⟨w3.heap.size, 0, none⟩ 1 1 [.int .i64 x] (by simp [Act.eval]) rfl new_one (fun u hu => by simp at hu; rw [hu]; rfl) (by unfold maxLen; omega) (by omega) (by simp; omega) ?_
            intro v' w6 hown6 hgrow6 _
            obtain ⟨sa', sc', rfl⟩ := own_form hown6
            obtain ⟨hpush, c6, f6⟩ := HA3.out.push hrb hown6 hgrow6
            have HP : Hid (LsAt w (w6.setCell ⟨w.heap.size + 1, 5, none⟩ (.slice sa' (q + 1) sc')) rb tail (q + 1) (acc ++ [x]) r3 sa' sc') := hpush
            clear hown6 hgrow6 hpush
            refine hK _ _ ?_
            clear hK K
            refine wpAny_ready (rs := [6]) (by kernel_rfl) (by simp) ?_
            refine AllReady.cons rfl (fun K hK => ?_) AllReady.nil
            go_simp
            refine hK _ _ ?_
            clear hK K
            refine wpAny_ready (rs := [7]) (by kernel_rfl) (by simp) ?_
            refine AllReady.cons rfl (fun K hK => ?_) AllReady.nil
            go_simp
            refine hK _ _ ?_
            clear hK K
            refine wpAny_done (by kernel_rfl) ?_ _
            go_wp2_with fail
            exact ⟨⟨q + 1, acc ++ [x], r3, sa', sc', by omega, by go_num, hr3, by rw [show cn - (q + 1) = cn - q - 1 by omega]; exact HG3, HP⟩, by simp [intOf]; omega⟩
        · exact ⟨rfl, Or.inr ⟨by rw [HVa.out, hn3]; rfl, rfl, ht3⟩⟩
      · obtain rfl : q = cn := by omega
        have HLe : Hid (valueBL 5 m l = some (⟨5, 0, [], acc⟩, r)) := by show _ = _; rw [HVa.out, HG.out, Nat.sub_self, numsGoL]; rfl
        obtain ⟨p0, p1, p2, p3, p4, p5, f0, f1, f2, f3, f4, f5⟩ := row6 HA.out.res
        obtain ⟨q0, q1, q2, q3, q4, q5, g0, g1, g2, g3, g4, g5⟩ := row6 HA.out.val
        go_wp2_with fail
        refine bodyPost_ret (v := .agg (svCells ⟨5, 0, [], acc⟩ (.slice sa q sc)).toArray) ?_ rfl (Or.inl ⟨_, r, _, HLe.out, rfl, ?_, ?_⟩)
        · simp [results, Tryz.results270, go_sem, p0, p1, p2, p3, p4, p5, svCells, mk]
        · repeat (refine Rd.set ?_ _ _ _ (by omega) hrb)
          exact HA.out.rd
        · have ho := HA.out.own
          have e : q = acc.length := HA.out.len
          rw [e] at ho ⊢
          refine own_turn (own_base ho (by omega)) fun k hk1 _ => ?_
          have := (ho.lt k hk1).1
          repeat (refine (heapSet (by omega)).trans ?_)
          rfl
  · go_wp2_with fail
    refine ⟨rfl, Or.inr ⟨?_, rfl, (Turns.ofBelow _ hB1).trans' ht3⟩⟩
    cases hd : countL 0 4 l with
    | none => rw [HVa.out]; unfold listBL; rw [hd]; rfl
    | some x => rw [hd] at hn; cases hn

end Go.Proofs.YthkbeaffkcfgiabGreatDoor

namespace Go.Proofs.YthkbeaffkcfgiabGreatDoor
open Go.RowKit

/-- The reading of a value out of bytes, whatever its kind. -/
theorem valueB_any (kd m : Nat) (h1 : 1 ≤ kd) (h5 : kd ≤ 5) (rb : Nat) (tail : List Value) (l : List UInt8) (w : World) (hR : RdAt w rb 276 tail l) (hl : l.length ≤ 2 ^ 40) (sa : Option Addr) (vc : Nat) (hsc : w.cell? ⟨rb, 1, none⟩ = some (.slice sa m vc)) :
    Calls Tryz.prog 270 #[.pointer (some ⟨rb, 0, none⟩), .int .i64 kd] w (VEnds w rb 276 tail (valueBL kd m l)) := by
  have h : kd = 1 ∨ kd = 2 ∨ kd = 3 ∨ kd = 4 ∨ kd = 5 := by omega
  rcases h with rfl | rfl | rfl | rfl | rfl
  · exact valueB1_any rb m tail l w hR hl
  · exact valueB2_any rb m tail l w hR hl
  · exact valueB3_any rb m tail l w hR hl
  · exact valueB4_any rb m tail l w hR hl sa vc hsc
  · exact valueB5_any rb m tail l w hR hl

def numbersGo (n : Nat) : Nat → Int → List Int → List UInt8 → Option (List Int × List UInt8)
  | 0, _, acc, l => some (acc, l)
  | m + 1, next, acc, l => match countL 0 ((n : Int) - 1 - next) l with
    | none => none
    | some (c, r) => numbersGo n m (next + c + 1) (acc ++ [next + c]) r

theorem numbersGo_range (n : Nat) : ∀ (m : Nat) (next : Int) (acc : List Int) (l : List UInt8) {xs : List Int} {r : List UInt8}, numbersGo n m next acc l = some (xs, r) → 0 ≤ next → (∀ x ∈ acc, 0 ≤ x ∧ x < n) → (∀ x ∈ xs, 0 ≤ x ∧ x < n) ∧ r.length ≤ l.length ∧ xs.length = acc.length + m
  | 0, next, acc, l, xs, r, h, _, ha => by simp [numbersGo] at h; obtain ⟨rfl, rfl⟩ := h; exact ⟨ha, Nat.le_refl _, rfl⟩
  | m + 1, next, acc, l, xs, r, h, h0, ha => by
    rw [numbersGo] at h
    split at h
    · cases h
    · rename_i c q hb
      obtain ⟨c0, _, c2, c3⟩ := countL_range hb
      have h1 := numbersGo_range n m _ _ _ h (by omega) (fun x hx => by
        rcases List.mem_append.1 hx with hx | hx
        · exact ha x hx
        · simp at hx; subst hx; omega)
      refine ⟨h1.1, by omega, by rw [h1.2.2]; simp; omega⟩

set_option maxHeartbeats 6400000 in
set_option maxRecDepth 20000 in
theorem numbers_any (rb n many : Nat) (tail : List Value) (l : List UInt8) (w : World) (hR : RdAt w rb 276 tail l) (hl : l.length ≤ 2 ^ 40) (sa : Option Addr) (vc : Nat) (ht : tail[0]? = some (.slice sa n vc)) (hn : n ≤ 20) (hm : many ≤ 20) :
    Calls Tryz.prog 240 #[.pointer (some ⟨rb, 0, none⟩), .int .i64 many] w (LEnds w rb 276 tail (numbersGo n many 0 [] l)) := by
  obtain ⟨i0, hi0, hz0, hz1, hz2⟩ := info_parts Tryz.info3
  have hrb := hR.lt
  have HR0 : Hid (Rd w w rb 276 tail l) := Rd.refl hR
  have HTl : Hid (tail[0]? = some (.slice sa n vc)) := ht
  clear hR ht
  go_enter Tryz.func240, Tryz.ntmps240
  go_wp2_with fail
  go_loopw [5, 6, 9] (fun s nx t wr => ∃ (q next : Nat) (va : Option Addr) (sc : Nat) (acc : List Int) (r : List UInt8), q ≤ many ∧ next ≤ 20 ∧ t = .int .i64 q ∧ nx = .int .i64 next ∧ s = .slice va q sc ∧ r.length ≤ 2 ^ 40 ∧ Hid (q = acc.length) ∧ Hid (numbersGo n many 0 [] l = numbersGo n (many - q) next acc r) ∧ Hid (wr.ownsRow w.heap.size 3 1 (.slice va q sc) q (acc.map (Value.int .i64))) ∧ Hid (Rd w wr rb 276 tail r)) (fun _ _ t _ => many - (intOf t).toNat)
  case atStart => exact ⟨0, 0, none, 0, [], l, by omega, by omega, rfl, rfl, rfl, hl, rfl, rfl, World.ownsRow_nil _ _ _ _, HR0⟩
  case round =>
    obtain ⟨q, next, va, sc, acc, r, hq, hnx, rfl, rfl, rfl, hr, HA, HG, HO, HR⟩ := hrel
    by_cases hlt : q < many
    · have hsub : many - q = (many - q - 1) + 1 := by omega
      have hcell : wr.cell? ⟨rb, 1, none⟩ = some (.slice sa n vc) := by
        rw [cell_row HR.out.rest]
        have := HTl.out
        simpa using this
      have hw1 : IntKind.i64.wrap ((n : Int) - 1) = (n : Int) - 1 := by rw [IntKind.wrap_i64]; omega
      have hw2 : IntKind.i64.wrap ((n : Int) - 1 - (next : Int)) = (n : Int) - 1 - (next : Int) := by rw [IntKind.wrap_i64]; omega
      have HCt : Hid (Calls Tryz.prog 187 #[.pointer (some ⟨rb, 0, none⟩), .int .i64 0, .int .i64 ((n : Int) - 1 - (next : Int))] wr _) := count_any rb tail 0 ((n : Int) - 1 - (next : Int)) r wr HR.out.rest hr
      go_wp2_with fail
      refine Calls.mono HCt.out ?_
      rintro e w3 (⟨v, l3, hv, rfl, ht3⟩ | ⟨hn3, rfl, ht3⟩)
      · obtain ⟨c, r3, hd⟩ : ∃ c r3, countL 0 ((n : Int) - 1 - (next : Int)) r = some (c, r3) := by
          cases hd : countL 0 ((n : Int) - 1 - (next : Int)) r with
          | none => rw [hd] at hv; cases hv
          | some y => exact ⟨y.1, y.2, rfl⟩
        rw [hd] at hv
        simp [intP] at hv
        obtain ⟨rfl, rfl⟩ := hv
        obtain ⟨c0, _, c2, c3⟩ := countL_range hd
        obtain ⟨cn, rfl⟩ : ∃ cn : Nat, c = (cn : Int) := ⟨c.toNat, by omega⟩
        have HG3 : Hid (numbersGo n many 0 [] l = numbersGo n (many - q - 1) ((next : Int) + (cn : Int) + 1) (acc ++ [(next : Int) + (cn : Int)]) r3) := by
          show _ = _
          rw [HG.out, hsub, numbersGo, hd]
          simp
        have HR3 : Hid (Rd w w3 rb 276 tail r3) := HR.out.trans ht3
        have HO3 : Hid (w3.ownsRow w.heap.size 3 1 (.slice va q sc) q (acc.map (Value.int .i64))) := own_turn HO.out fun k hk hkl => ht3.turns.block k hkl (fun e => by have := (HO.out.lt k hk).1; omega)
        have hs3 : w.heap.size ≤ w3.heap.size := HR3.out.turns.size
        have hw3 : IntKind.i64.wrap ((next : Int) + (cn : Int)) = (next : Int) + (cn : Int) := by rw [IntKind.wrap_i64]; omega
        have hw4 : IntKind.i64.wrap ((next : Int) + (cn : Int) + 1) = (next : Int) + (cn : Int) + 1 := by rw [IntKind.wrap_i64]; omega
        clear hd ht3
        go_wp2_with (at_builtin; refine wpList_append_own_at _ rfl _ _ 54 rfl w.heap.size 3 i0 _ 1 8 Tryz.underlying54 hi0 hz0 hz1 hz2 rfl (by decide) _ _ _ rfl (HO3.out.alloc _) ⟨w3.heap.size, 0, none⟩ 1 1 [.int .i64 ((next : Int) + (cn : Int))] rfl rfl new_one (fun u hu => by simp at hu; rw [hu]; rfl) (by unfold maxLen; omega) (by omega) (by simp; omega) ?_; intro v' w6 hown6 hgrow6 _ _; obtain ⟨sa', sc', rfl⟩ := own_form hown6; have HO6 : Hid (w6.ownsRow w.heap.size 3 1 (.slice sa' (q + 1) sc') (q + 1) (acc.map (Value.int .i64) ++ [.int .i64 ((next : Int) + (cn : Int))])) := hown6; have HR6 : Hid (Rd w w6 rb 276 tail r3) := (HR3.out.below ((Below.refl _ _).alloc (Nat.le_refl _) _)).grown hgrow6 (fun k hk => (HO3.out.lt k hk).1) hrb; clear hown6 hgrow6)
        refine ⟨⟨q + 1, next + cn + 1, sa', sc', acc ++ [(next : Int) + (cn : Int)], r3, by omega, by omega, by go_num, by simp, rfl, by omega, ?_, ?_, ?_, HR6⟩, by simp [intOf]; omega⟩
        · show _ = _; rw [HA.out]; simp
        · show _ = _; rw [HG3.out, show many - (q + 1) = many - q - 1 by omega]; simp
        · have e : (acc ++ [(next : Int) + (cn : Int)]).map (Value.int .i64) = acc.map (Value.int .i64) ++ [.int .i64 ((next : Int) + (cn : Int))] := by simp
          rw [e]; exact HO6
      · have hnn : countL 0 ((n : Int) - 1 - (next : Int)) r = none := by
          cases hd : countL 0 ((n : Int) - 1 - (next : Int)) r with
          | none => rfl
          | some y => rw [hd] at hn3; cases hn3
        go_wp2_with fail
        exact ⟨rfl, Or.inr ⟨by rw [HG.out, hsub, numbersGo, hnn], rfl, HR.out.turns.trans' ht3⟩⟩
    · obtain rfl : q = many := by omega
      have HGe : Hid (numbersGo n q 0 [] l = some (acc, r)) := by show _ = _; rw [HG.out, Nat.sub_self, numbersGo]
      go_wp2_with fail
      go_ret
      exact Or.inl ⟨acc, r, va, sc, HGe.out, by rw [← HA.out]; rfl, HR.out, by rw [← HA.out]; exact HO.out⟩

end Go.Proofs.YthkbeaffkcfgiabGreatDoor

namespace Go.Proofs.YthkbeaffkcfgiabGreatDoor
open Go.RowKit

theorem flat_set {α : Type} (f f' : Nat → List α) (m : Nat) (hf : ∀ j, (f j).length = m) (n i o : Nat) (v : α) (hi : i < n) (ho : o < m) (hfi : f' i = (f i).set o v) (hfj : ∀ j, j ≠ i → f' j = f j) : ((List.range n).flatMap f).set (i * m + o) v = (List.range n).flatMap f' := by
  have hf' : ∀ j, (f' j).length = m := fun j => by
    by_cases e : j = i
    · rw [e, hfi, List.length_set, hf]
    · rw [hfj j e, hf]
  have hlt : i * m + o < n * m := by
    calc i * m + o < i * m + m := by omega
      _ = (i + 1) * m := by rw [Nat.succ_mul]
      _ ≤ n * m := Nat.mul_le_mul_right _ (by omega)
  apply List.ext_getElem?
  intro x
  by_cases hx : x < n * m
  · have hm : 0 < m := by omega
    have hxa : x / m < n := Nat.div_lt_of_lt_mul (by rw [Nat.mul_comm]; exact hx)
    have hxb : x % m < m := Nat.mod_lt _ hm
    have hxe : x = x / m * m + x % m := by rw [Nat.mul_comm]; exact (Nat.div_add_mod x m).symm
    have e2 : ((List.range n).flatMap f')[x]? = (f' (x / m))[x % m]? := by
      conv => lhs; rw [hxe]
      exact flat_get f' m hf' n _ _ hxa hxb
    have e1 : ((List.range n).flatMap f)[x]? = (f (x / m))[x % m]? := by
      conv => lhs; rw [hxe]
      exact flat_get f m hf n _ _ hxa hxb
    rw [e2, List.getElem?_set]
    by_cases e : i * m + o = x
    · have ea : x / m = i := by
        rw [← e, Nat.mul_comm, Nat.mul_add_div hm, Nat.div_eq_of_lt ho]; omega
      have eb : x % m = o := by
        rw [← e, Nat.mul_comm, Nat.mul_add_mod, Nat.mod_eq_of_lt ho]
      rw [if_pos e, ea, eb, hfi]
      have hfl : ((List.range n).flatMap f).length = n * m := flat_len f m hf n
      rw [if_pos (by rw [hfl]; omega), List.getElem?_set, if_pos rfl, if_pos (by rw [hf]; exact ho)]
    · rw [if_neg e, e1]
      by_cases ea : x / m = i
      · rw [ea, hfi, List.getElem?_set_ne]
        intro eb
        apply e
        rw [hxe, ea, ← eb]
      · rw [hfj _ ea]
  · rw [List.getElem?_eq_none (by rw [List.length_set, flat_len f m hf]; omega), List.getElem?_eq_none (by rw [flat_len f' m hf']; omega)]

/-- A scene that is being told out of bytes: its slices lie apart. -/
structure BScene (W : World) (B g cap n : Nat) (sc : List Ent) (sls : Nat → Nat → Value) (lvs : Nat → Nat → List Value) : Prop where
  own : SceneOwn W B (.slice (some ⟨g, 0, none⟩) n cap) sc sls lvs
  len : sc.length = n
  apart : ∀ i k j k', i < n → k < 6 → j < n → k' < 6 → (i ≠ j ∨ k ≠ k') → ∀ b, (sls i k).ownBlock = some b → (sls j k').ownBlock ≠ some b

theorem BScene.blk {W : World} {B g cap n : Nat} {sc : List Ent} {sls : Nat → Nat → Value} {lvs : Nat → Nat → List Value} (h : BScene W B g cap n sc sls lvs) (hn : 0 < n) : ∃ cur : Array Value, W.heap[g]? = some (.cells cur 164 (0, 0)) ∧ n ≤ cap ∧ cap ≤ maxLen ∧ cur.size = cap * 7 ∧ cur.toList.take (n * 7) = sceneCells sc sls ∧ B ≤ g := by
  have := h.own.row
  rw [h.len] at this
  rcases this.2 with ⟨_, q⟩ | ⟨g', cap', cur, q1, q2, q3, q4, q5, q6, q7⟩
  · omega
  · simp only [Value.slice.injEq, Option.some.injEq, Addr.mk.injEq] at q1
    obtain ⟨⟨rfl, _, _⟩, _, rfl⟩ := q1
    exact ⟨cur, q3, q4, q5, q6, q7, q2⟩

/-- What the scene's slices are. -/
def pushV (k : Nat) (x : SV) (e : Ent) : Ent := ⟨e.c, e.vs.set k (e.vs.getD k [] ++ [x])⟩

theorem entAt_set (sc : List Ent) (i j : Nat) (e : Ent) (hi : i < sc.length) : entAt (sc.set i e) j = if j = i then e else entAt sc j := by
  unfold entAt
  by_cases h : j = i
  · subst h; simp [List.getD, hi]
  · rw [if_neg h]; simp [List.getD, List.getElem?_set_ne (Ne.symm h)]

/-- A value more, of entity i and component k: its slice has been appended to, and stands in its cell. -/
theorem BScene.push {W W' : World} {B g cap n : Nat} {sc : List Ent} {sls : Nat → Nat → Value} {lvs : Nat → Nat → List Value} {i k : Nat} {x : SV} {lv v' : Value} (h : BScene W B g cap n sc sls lvs) (hi : i < n) (hk : k < 6)
    (hx : W.ownsRow B 3 1 lv x.l.length (x.l.map (Value.int .i64))) (hr : W'.ownsRow B 56 6 v' (((entAt sc i).vs.getD k []).length + 1) (flatSV ((entAt sc i).vs.getD k []) (lvs i k) ++ svCells x lv)) (hg : W.grownBy W' (sls i k).ownBlock) (hv : v'.ownBlock = (sls i k).ownBlock ∨ v'.ownBlock = some W.heap.size) :
    BScene (W'.setCell ⟨g, i * 7 + (1 + k), none⟩ v') B g cap n (sc.set i (pushV k x (entAt sc i))) (upd2 sls i k v') (upd2 lvs i k (lvs i k ++ [lv])) := by
  obtain ⟨cur, hb, q4, q5, q6, q7, q2⟩ := h.blk (by omega)
  have hl := h.len
  have his : i < sc.length := by omega
  have hown : ∀ j m, j < n → m < 6 → ∀ b, (sls j m).ownBlock = some b → B ≤ b ∧ b < W.heap.size ∧ ∃ cs, W.heap[b]? = some (.cells cs 56 (0, 0)) := fun j m hj hm b hbb => by
    have hrow := ((h.own.ents j (by omega)).2.2 m hm).row
    refine ⟨(hrow.lt b hbb).1, (hrow.lt b hbb).2, ?_⟩
    rcases hrow.2 with ⟨q, _⟩ | ⟨g', cap', cur', q, _, q3, _⟩
    · rw [q] at hbb; cases hbb
    · rw [q] at hbb; simp [Value.ownBlock] at hbb; subst hbb; exact ⟨_, q3⟩
  have hgr : W'.heap[g]? = W.heap[g]? := hg.block g (Array.getElem?_eq_some_iff.1 hb).1 (fun e => by
    obtain ⟨_, _, cs, hcs⟩ := hown i k hi hk g e.symm
    exact type_ne hcs hb (by decide) rfl)
  have hgb := hgr.trans hb
  have hset := setCell_block (o := i * 7 + (1 + k)) v' hgb
  -- a block of another row, or of another kind, is as it was
  have hkeep : ∀ b cs t, W.heap[b]? = some (.cells cs t (0, 0)) → t ≠ 164 → (sls i k).ownBlock ≠ some b → (W'.setCell ⟨g, i * 7 + (1 + k), none⟩ v').heap[b]? = W.heap[b]? := fun b cs t h1 h2 h3 => by
    rw [heapSet (type_ne h1 hb h2), hg.block b (Array.getElem?_eq_some_iff.1 h1).1 (fun e => h3 e.symm)]
  refine ⟨⟨?_, fun j hj => ?_⟩, by simp [hl], fun a b c d ha hb' hc hd hne m hm => ?_⟩
  · rw [List.length_set, hl]
    refine ⟨?_, Or.inr ⟨g, cap, _, rfl, q2, hset, q4, q5, by simp [q6], ?_⟩⟩
    · unfold sceneCells
      rw [flat_len _ 7 (fun _ => rfl), List.length_set, hl]
    · rw [Array.toList_setIfInBounds, List.take_set, q7]
      unfold sceneCells
      rw [List.length_set]
      refine flat_set _ _ 7 (fun _ => rfl) sc.length i (1 + k) v' his (by omega) ?_ (fun j hj => ?_)
      · rw [entAt_set _ _ _ _ his, if_pos rfl]
        have h6 : k = 0 ∨ k = 1 ∨ k = 2 ∨ k = 3 ∨ k = 4 ∨ k = 5 := by omega
        rcases h6 with rfl | rfl | rfl | rfl | rfl | rfl <;> simp [entCells, pushV, upd2]
      · rw [entAt_set _ _ _ _ his, if_neg hj]
        have : upd2 sls i k v' j = sls j := by
          funext m
          unfold upd2
          rw [if_neg (fun x => hj x.1)]
        rw [this]
  · rw [List.length_set] at hj
    rw [entAt_set _ _ _ _ his]
    by_cases e : j = i
    · subst e
      rw [if_pos rfl]
      obtain ⟨e1, e2, e3⟩ := h.own.ents j his
      refine ⟨e1, by simp [pushV, e2], fun m hm => ?_⟩
      by_cases em : m = k
      · subst em
        have ev : (pushV m x (entAt sc j)).vs.getD m [] = (entAt sc j).vs.getD m [] ++ [x] := by simp [pushV, getD_set, e2, hm]
        have es : upd2 sls j m v' j m = v' := by simp [upd2]
        have el : upd2 lvs j m (lvs j m ++ [lv]) j m = lvs j m ++ [lv] := by simp [upd2]
        rw [ev, es, el]
        have hp := (e3 m hm).push hx hr hg
        refine hp.keepT fun b cs t hb1 hb2 hb3 => heapSet ?_
        exact type_ne hb2 hgb (by rcases hb3 with rfl | rfl <;> decide)
      · have ev : (pushV k x (entAt sc j)).vs.getD m [] = (entAt sc j).vs.getD m [] := by
          show ((entAt sc j).vs.set k _).getD m [] = _
          rw [getD_set, if_neg (fun h => em h.1)]
        have es : upd2 sls j k v' j m = sls j m := by simp [upd2, em]
        have el : upd2 lvs j k (lvs j k ++ [lv]) j m = lvs j m := by simp [upd2, em]
        rw [ev, es, el]
        have hrow := e3 m hm
        refine ⟨hrow.len, own_turn hrow.row fun b hbb _ => ?_, fun y hy hy' => own_turn (hrow.lists y hy hy') fun b hbb _ => ?_⟩
        · obtain ⟨_, _, cs, hcs⟩ := hown j m hi hm b hbb
          exact hkeep b cs 56 hcs (by decide) (h.apart j m j k hi hm hi hk (Or.inr em) b hbb)
        · rcases (hrow.lists y hy hy').2 with ⟨q, _⟩ | ⟨g', cap', cur', q, _, q3, _⟩
          · rw [q] at hbb; cases hbb
          · rw [q] at hbb; simp [Value.ownBlock] at hbb; subst hbb
            refine hkeep _ _ 3 q3 (by decide) (fun eb => ?_)
            obtain ⟨_, _, cs, hcs⟩ := hown j k hi hk _ eb
            exact type_ne hcs q3 (by decide) rfl
    · rw [if_neg e]
      obtain ⟨e1, e2, e3⟩ := h.own.ents j hj
      refine ⟨e1, e2, fun m hm => ?_⟩
      have es : upd2 sls i k v' j m = sls j m := by simp [upd2, e]
      have el : upd2 lvs i k (lvs i k ++ [lv]) j m = lvs j m := by simp [upd2, e]
      rw [es, el]
      have hrow := e3 m hm
      refine ⟨hrow.len, own_turn hrow.row fun b hbb _ => ?_, fun y hy hy' => own_turn (hrow.lists y hy hy') fun b hbb _ => ?_⟩
      · obtain ⟨_, _, cs, hcs⟩ := hown j m (by omega) hm b hbb
        exact hkeep b cs 56 hcs (by decide) (h.apart j m i k (by omega) hm hi hk (Or.inl e) b hbb)
      · rcases (hrow.lists y hy hy').2 with ⟨q, _⟩ | ⟨g', cap', cur', q, _, q3, _⟩
        · rw [q] at hbb; cases hbb
        · rw [q] at hbb; simp [Value.ownBlock] at hbb; subst hbb
          refine hkeep _ _ 3 q3 (by decide) (fun eb => ?_)
          obtain ⟨_, _, cs, hcs⟩ := hown i k hi hk _ eb
          exact type_ne hcs q3 (by decide) rfl
  · have key : ∀ p s, p < n → s < 6 → (p ≠ i ∨ s ≠ k) → (sls p s).ownBlock = some m → v'.ownBlock ≠ some m := fun p s hp hs hps hm' hv'' => by
      rcases hv with hv | hv
      · rw [hv] at hv''
        exact h.apart p s i k hp hs hi hk hps m hm' hv''
      · rw [hv] at hv''
        simp at hv''
        have := (hown p s hp hs m hm').2.1
        omega
    unfold upd2 at hm ⊢
    by_cases e1 : a = i ∧ b = k
    · rw [if_pos e1] at hm
      by_cases e2 : c = i ∧ d = k
      · exfalso; omega
      · rw [if_neg e2]
        intro hm2
        exact key c d hc hd (by omega) hm2 hm
    · rw [if_neg e1] at hm
      by_cases e2 : c = i ∧ d = k
      · rw [if_pos e2]
        exact key a b ha hb' (by omega) hm
      · rw [if_neg e2]
        exact h.apart a b c d ha hb' hc hd hne m hm

end Go.Proofs.YthkbeaffkcfgiabGreatDoor

namespace Go.Proofs.YthkbeaffkcfgiabGreatDoor
open Go.RowKit

/-- Where a reading of bytes stands: from w to wr only the reader, the scene and the scene's slices have turned, and nothing below b0. -/
structure BSt (w wr : World) (b0 rb g cap n : Nat) (tail : List Value) (sc : List Ent) (sls : Nat → Nat → Value) (lvs : Nat → Nat → List Value) (r : List UInt8) : Prop where
  scene : BScene wr b0 g cap n sc sls lvs
  rd : RdAt wr rb 276 tail r
  below : Below b0 w wr
  more : w.heap.size ≤ wr.heap.size
  keep : ∀ (i : Nat) (cs : Array Value) (t : TypeId), w.heap[i]? = some (Obj.cells cs t (0, 0)) → t ≠ 276 → t ≠ 164 → t ≠ 56 → wr.heap[i]? = some (Obj.cells cs t (0, 0))

theorem BSt.alloc {w wr w3 : World} {b0 rb g cap n : Nat} {tail : List Value} {sc : List Ent} {sls : Nat → Nat → Value} {lvs : Nat → Nat → List Value} {r : List UInt8} (h : BSt w wr b0 rb g cap n tail sc sls lvs r) (hb0 : b0 ≤ w.heap.size) (hb : Below wr.heap.size wr w3) : BSt w w3 b0 rb g cap n tail sc sls lvs r :=
  ⟨⟨h.scene.own.keep fun i _ hi => hb.block i hi, h.scene.len, h.scene.apart⟩, h.rd.below hb, h.below.trans (hb.mono (Nat.le_trans hb0 h.more)), Nat.le_trans h.more hb.size, fun i cs t h1 h2 h3 h4 => by
    have := h.keep i cs t h1 h2 h3 h4
    exact (hb.block i (Array.getElem?_eq_some_iff.1 this).1).trans this⟩

theorem BSt.read {w wr w3 : World} {b0 rb g cap n : Nat} {tail : List Value} {sc : List Ent} {sls : Nat → Nat → Value} {lvs : Nat → Nat → List Value} {r r3 : List UInt8} (h : BSt w wr b0 rb g cap n tail sc sls lvs r) (hb0 : b0 ≤ w.heap.size) (hrb : b0 ≤ rb) (ht : Rd wr w3 rb 276 tail r3) : BSt w w3 b0 rb g cap n tail sc sls lvs r3 := by
  have hk : ∀ (i : Nat) (cs : Array Value) (t : TypeId), wr.heap[i]? = some (Obj.cells cs t (0, 0)) → t ≠ 276 → w3.heap[i]? = wr.heap[i]? := fun i cs t h1 h2 => ht.turns.block i (Array.getElem?_eq_some_iff.1 h1).1 (type_ne h1 h.rd h2)
  refine ⟨⟨h.scene.own.keepT fun i cs t _ h1 h2 => hk i cs t h1 (by rcases h2 with rfl | rfl | rfl <;> decide), h.scene.len, h.scene.apart⟩, ht.rest, ⟨ht.turns.os.trans h.below.os, ht.turns.tape.trans h.below.tape, ht.turns.output.trans h.below.output, Nat.le_trans h.below.size ht.turns.size, fun i hi => ?_⟩, Nat.le_trans h.more ht.turns.size, fun i cs t h1 h2 h3 h4 => ?_⟩
  · rw [ht.turns.block i (Nat.lt_of_lt_of_le hi (Nat.le_trans hb0 h.more)) (by omega), h.below.block i hi]
  · have := h.keep i cs t h1 h2 h3 h4
    exact (hk i cs t this h2).trans this

theorem BSt.trans {w w1 w2 : World} {b0 rb g cap n : Nat} {tail tail' : List Value} {sc sc' : List Ent} {sls sls' : Nat → Nat → Value} {lvs lvs' : Nat → Nat → List Value} {r r' : List UInt8} (h : BSt w w1 b0 rb g cap n tail sc sls lvs r) (k : BSt w1 w2 b0 rb g cap n tail' sc' sls' lvs' r') : BSt w w2 b0 rb g cap n tail' sc' sls' lvs' r' :=
  ⟨k.scene, k.rd, h.below.trans k.below, Nat.le_trans h.more k.more, fun i cs t h1 h2 h3 h4 => k.keep i cs t (h.keep i cs t h1 h2 h3 h4) h2 h3 h4⟩

/-- A value more. -/
theorem BSt.push {w wr w6 : World} {b0 rb g cap n : Nat} {tail : List Value} {sc : List Ent} {sls : Nat → Nat → Value} {lvs : Nat → Nat → List Value} {r : List UInt8} {i k : Nat} {x : SV} {lv v' : Value} (h : BSt w wr b0 rb g cap n tail sc sls lvs r) (hb0 : b0 ≤ w.heap.size) (hi : i < n) (hk : k < 6)
    (hx : wr.ownsRow b0 3 1 lv x.l.length (x.l.map (Value.int .i64))) (hr : w6.ownsRow b0 56 6 v' (((entAt sc i).vs.getD k []).length + 1) (flatSV ((entAt sc i).vs.getD k []) (lvs i k) ++ svCells x lv)) (hg : wr.grownBy w6 (sls i k).ownBlock) (hv : v'.ownBlock = (sls i k).ownBlock ∨ v'.ownBlock = some wr.heap.size) :
    BSt w (w6.setCell ⟨g, i * 7 + (1 + k), none⟩ v') b0 rb g cap n tail (sc.set i (pushV k x (entAt sc i))) (upd2 sls i k v') (upd2 lvs i k (lvs i k ++ [lv])) r := by
  obtain ⟨cur, hb, _, _, _, _, hB⟩ := h.scene.blk (by omega)
  have hrow := ((h.scene.own.ents i (by have := h.scene.len; omega)).2.2 k hk).row
  have hown : ∀ b, (sls i k).ownBlock = some b → b0 ≤ b ∧ ∃ cs, wr.heap[b]? = some (.cells cs 56 (0, 0)) := fun b hbb => by
    refine ⟨(hrow.lt b hbb).1, ?_⟩
    rcases hrow.2 with ⟨q, _⟩ | ⟨g', cap', cur', q, _, q3, _⟩
    · rw [q] at hbb; cases hbb
    · rw [q] at hbb; simp [Value.ownBlock] at hbb; subst hbb; exact ⟨_, q3⟩
  have hk6 : ∀ (a : Nat) (cs : Array Value) (t : TypeId), wr.heap[a]? = some (Obj.cells cs t (0, 0)) → t ≠ 164 → t ≠ 56 → (w6.setCell ⟨g, i * 7 + (1 + k), none⟩ v').heap[a]? = wr.heap[a]? := fun a cs t h1 h2 h3 => by
    rw [heapSet (type_ne h1 hb h2)]
    refine hg.block a (Array.getElem?_eq_some_iff.1 h1).1 (fun e => ?_)
    obtain ⟨_, cs', hcs⟩ := hown a e.symm
    exact type_ne h1 hcs h3 rfl
  have hsz : wr.heap.size ≤ (w6.setCell ⟨g, i * 7 + (1 + k), none⟩ v').heap.size := by simpa [World.setCell] using hg.size
  refine ⟨h.scene.push hi hk hx hr hg hv, h.rd.keep (hk6 _ _ _ h.rd (by decide) (by decide)), ⟨hg.os.trans h.below.os, hg.tape.trans h.below.tape, hg.output.trans h.below.output, Nat.le_trans h.below.size hsz, fun a ha => ?_⟩, Nat.le_trans h.more hsz, fun a cs t h1 h2 h3 h4 => ?_⟩
  · rw [heapSet (by omega), hg.block a (Nat.lt_of_lt_of_le ha (Nat.le_trans hb0 h.more)) (fun e => by have := (hown a e.symm).1; omega)]
    exact h.below.block a ha
  · have := h.keep a cs t h1 h2 h3 h4
    exact (hk6 a cs t this h3 h4).trans this

def colGo (k kd n : Nat) : List Nat → List Ent → List UInt8 → Option (List Ent × List UInt8)
  | [], sc, l => some (sc, l)
  | i :: is, sc, l => match valueBL kd n l with
    | none => none
    | some (x, r) => colGo k kd n is (sc.set i (pushV k x (entAt sc i))) r
def columnsGo (k n : Nat) (who : List Nat) : List (List UInt8 × Nat) → List Ent → List UInt8 → Option (List Ent × List UInt8)
  | [], sc, l => some (sc, l)
  | f :: fs, sc, l => match colGo k f.2 n who sc l with
    | none => none
    | some (sc', r) => columnsGo k n who fs sc' r

/-- How columns ends. -/
def CEnds (w : World) (b0 rb g cap n : Nat) (tail : List Value) (r : Option (List Ent × List UInt8)) (e : Ending) (w' : World) : Prop :=
  (∃ sc l sls lvs, r = some (sc, l) ∧ e = .returned (.tuple #[]) ∧ BSt w w' b0 rb g cap n tail sc sls lvs l) ∨ (r = none ∧ e = .panicked wrongS ∧ Below b0 w w')

theorem valueBL_len {kd n : Nat} {l r : List UInt8} {x : SV} (h : valueBL kd n l = some (x, r)) : r.length ≤ l.length := by
  unfold valueBL at h
  split at h
  · obtain ⟨y, hy, e⟩ := Option.map_eq_some_iff.1 h
    simp at e; rw [← e.2]; exact Nat.le_of_lt (numberL_range (x := y.1) hy).2.2
  · split at h
    · obtain ⟨y, hy, e⟩ := Option.map_eq_some_iff.1 h
      simp at e; rw [← e.2]; exact Nat.le_of_lt (countL_range (x := y.1) hy).2.2.2
    · split at h
      · obtain ⟨y, hy, e⟩ := Option.map_eq_some_iff.1 h
        simp at e; rw [← e.2]
        unfold textBL at hy
        split at hy
        · cases hy
        · rename_i c q hc
          have := (countL_range hc).2.2.2
          unfold takeL at hy
          split at hy
          · simp at hy; rw [← hy]; simp; omega
          · cases hy
      · split at h
        · obtain ⟨y, hy, e⟩ := Option.map_eq_some_iff.1 h
          simp at e; rw [← e.2]; exact Nat.le_of_lt (countL_range (x := y.1) hy).2.2.2
        · obtain ⟨y, hy, e⟩ := Option.map_eq_some_iff.1 h
          simp at e; rw [← e.2]
          unfold listBL at hy
          split at hy
          · cases hy
          · rename_i c q hc
            have h1 := (countL_range hc).2.2.2
            have h2 := (numsGoL_len _ _ _ (xs := y.1) hy).1
            omega

end Go.Proofs.YthkbeaffkcfgiabGreatDoor
