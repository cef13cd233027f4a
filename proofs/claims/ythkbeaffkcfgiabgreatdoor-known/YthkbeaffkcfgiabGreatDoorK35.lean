import Derived.Test.YthkbeaffkcfgiabGreatDoorK34
import Derived.Test.YthkbeaffkcfgiabGreatDoorK03
import Derived.Test.YthkbeaffkcfgiabGreatDoorK07
import Derived.Test.YthkbeaffkcfgiabGreatDoorK22
set_option linter.unusedSimpArgs false
set_option linter.unusedVariables false
namespace Go.Proofs.YthkbeaffkcfgiabGreatDoor
open Go.RowKit

theorem fieldsTx_len (c : CompS) (vs : List SV) (hc : CompOk c) (hl : vs.length = c.2.length) (hok : ∀ x ∈ vs, SVOk x) : ∀ q, q ≤ c.2.length → (fieldsTx c vs q).length ≤ 510 * q
  | 0, _ => by simp [fieldsTx]
  | q + 1, hq => by
    have ih := fieldsTx_len c vs hc hl hok q (by omega)
    have h1 : q < c.2.length := by omega
    have h2 : q < vs.length := by omega
    have h3 := valTx_len (hok vs[q] (List.getElem_mem h2))
    have h4 := (hc.2.2 c.2[q] (List.getElem_mem h1)).1
    rw [fieldsTx_succ, List.length_append]
    have : (fieldTx c vs q).length ≤ 510 := by
      simp only [fieldTx, List.getD, List.getElem?_eq_getElem h1, List.getElem?_eq_getElem h2, Option.getD_some, List.length_cons, List.length_append]
      omega
    omega
theorem lineTx_len (c : CompS) (vs : List SV) (hc : CompOk c) (hl : vs.length = c.2.length) (hok : ∀ x ∈ vs, SVOk x) : (lineTx c vs).length ≤ 2500 := by
  have h1 := fieldsTx_len c vs hc hl hok c.2.length (Nat.le_refl _)
  have h2 := hc.1
  have h3 := hc.2.1
  simp only [lineTx, List.length_append, List.length_singleton]
  omega

/-- The lines of an entity. -/
def linesTx (L : List CompS) (e : Ent) (q : Nat) : List UInt8 := (List.range q).flatMap fun k => if e.c.testBit k then lineTx (L.getD k ([], [])) (e.vs.getD k []) else []
theorem linesTx_succ (L : List CompS) (e : Ent) (q : Nat) : linesTx L e (q + 1) = linesTx L e q ++ (if e.c.testBit q then lineTx (L.getD q ([], [])) (e.vs.getD q []) else []) := by
  unfold linesTx
  rw [List.range_succ, List.flatMap_append]
  simp

/-- Does an entity fit, as far as its writing asks? -/
def EntW (L : List CompS) (e : Ent) : Prop := e.c < 64 ∧ ∀ k (h : k < L.length), e.c.testBit k = true → (e.vs.getD k []).length = L[k].2.length ∧ ∀ x ∈ e.vs.getD k [], SVOk x

set_option maxHeartbeats 1600000 in
set_option maxRecDepth 20000 in
theorem appendLines_any (L : List CompS) (e : Ent) (sl : Nat → Value) (lv : Nat → List Value) (b0 g lc : Nat) (v : Value) (l : List UInt8) (w0 w : World) (hL : LayN w0 b0 g L) (hlc : L.length ≤ lc) (hE : EntOwn w0 0 e sl lv) (hW : EntW L e) (hb : Kp w0.heap.size w0 w) (hT : TxAt w w0.heap.size v l) (hl : l.length ≤ 600000) (hP : PowB w0.heap.size w0) :
    Calls Tryz.prog 98 #[.agg #[.int .u64 e.c, sl 0, sl 1, sl 2, sl 3, sl 4, sl 5], v, .slice (some ⟨g, 0, none⟩) L.length lc] w (WEnds w w0.heap.size l (linesTx L e L.length)) := by
  obtain ⟨B, hB⟩ : ∃ B, B = w0.heap.size := ⟨_, rfl⟩
  rw [← hB] at hb hT hP ⊢
  have hBw : B ≤ w.heap.size := by rw [hB]; exact hb.size
  obtain ⟨a, cc, rfl⟩ := hT.form
  obtain ⟨n, hn⟩ : ∃ n, n = l.length := ⟨_, rfl⟩
  obtain ⟨m, hm⟩ : ∃ m, m = L.length := ⟨_, rfl⟩
  rw [← hn] at hT hl ⊢
  have hm6 : m ≤ 6 := by rw [hm]; exact hL.few
  rw [← hm] at hlc ⊢
  have HN : Hid (n = l.length) := hn
  have HM : Hid (m = L.length) := hm
  have HL : Hid (LayN w0 b0 g L) := hL
  have HE : Hid (EntOwn w0 0 e sl lv) := hE
  have HEW : Hid (EntW L e) := hW
  have HB : Hid (B = w0.heap.size) := hB
  have Hb : Hid (Kp B w0 w) := hb
  have HP : Hid (PowB B w0) := hP
  have hsls : ∀ k, k < 6 → ∃ a m c, sl k = .slice a m c := fun k hk => by obtain ⟨a, c, q⟩ := own_form (hE k hk).row; exact ⟨a, _, c, q⟩
  obtain ⟨a0, m0, c0, s0⟩ := hsls 0 (by omega)
  obtain ⟨a1, m1, c1, s1⟩ := hsls 1 (by omega)
  obtain ⟨a2, m2, c2, s2⟩ := hsls 2 (by omega)
  obtain ⟨a3, m3, c3, s3⟩ := hsls 3 (by omega)
  obtain ⟨a4, m4, c4, s4⟩ := hsls 4 (by omega)
  obtain ⟨a5, m5, c5, s5⟩ := hsls 5 (by omega)
  obtain ⟨W1, hW1⟩ : ∃ W1, W1 = w.alloc (.cells #[.int .u64 e.c, sl 0, sl 1, sl 2, sl 3, sl 4, sl 5] 164) := ⟨_, rfl⟩
  have hK1 : Kp B w W1 := by rw [hW1]; exact (Kp.refl _ _).alloc hBw _
  have hbx : W1.heap[w.heap.size]? = some (.cells #[.int .u64 e.c, sl 0, sl 1, sl 2, sl 3, sl 4, sl 5] 164 (0, 0)) := by rw [hW1]; exact heap_alloc_at rfl _
  have HBx : Hid (∀ W, Kp B W1 W → W.cell? ⟨w.heap.size, 0, none⟩ = some (.int .u64 e.c) ∧ ∀ k, k < 6 → W.cell? ⟨w.heap.size, 1 + k, none⟩ = some (sl k)) := fun W hW => by
    have q := hW.kept hbx (by decide)
    refine ⟨by rw [cell_row q]; rfl, fun k hk => ?_⟩
    rw [cell_row q]
    have e : k = 0 ∨ k = 1 ∨ k = 2 ∨ k = 3 ∨ k = 4 ∨ k = 5 := by omega
    rcases e with rfl | rfl | rfl | rfl | rfl | rfl <;> rfl
  have HX0 : Hid (TxAt W1 B (.slice a n cc) l ∧ Kp B W1 W1) := ⟨by rw [hW1]; exact World.ownsRow.alloc hT _, Kp.refl _ _⟩
  have HK1 : Hid (Kp B w W1) := hK1
  have hs1 : W1.heap.size = w.heap.size + 1 := by rw [hW1]; simp
  rw [s0, s1, s2, s3, s4, s5] at hW1
  rw [s0, s1, s2, s3, s4, s5]
  have hec : e.c < 64 := hW.1
  have HW1 : Hid (w.alloc (.cells #[.int .u64 e.c, .slice a0 m0 c0, .slice a1 m1 c1, .slice a2 m2 c2, .slice a3 m3 c3, .slice a4 m4 c4, .slice a5 m5 c5] 164) = W1) := hW1.symm
  clear hL hE hW hB hb hP hT hn hm hsls s0 s1 s2 s3 s4 s5 hK1 hbx hW1
  obtain ⟨ec, hece⟩ : ∃ ec, ec = e.c := ⟨_, rfl⟩
  have HEc : Hid (ec = e.c) := hece
  rw [← hece] at hec HW1 ⊢
  clear hece
  go_enter Tryz.func98, Tryz.ntmps98
  go_wp2_with fail
  rw [HW1.out]
  go_loopw [1, 11] (fun x t wr => ∃ (q : Nat) (sa : Option Addr) (p sc : Nat) (acc : List UInt8), q ≤ m ∧ t = .int .i64 q ∧ x = .slice sa p sc ∧ p ≤ 600000 + 3000 * q ∧ Hid (p = acc.length ∧ acc = l ++ linesTx L e q) ∧ Hid (TxAt wr B (.slice sa p sc) acc ∧ Kp B W1 wr)) (fun _ t _ => m - (intOf t).toNat)
  case atStart => exact ⟨0, _, _, _, l, by omega, rfl, rfl, by omega, ⟨HN.out, by simp [linesTx]⟩, HX0⟩
  case round =>
    obtain ⟨q, sa, p, sc, acc, hq, rfl, rfl, hp, HA, HX⟩ := hrel
    have hwr1 := HX.out.2.size
    have hwr : B ≤ wr.heap.size := by omega
    by_cases hlt : q < m
    · have hql : q < L.length := by rw [← HM.out]; exact hlt
      have hq6 : q < 6 := by omega
      have hK : Kp B w0 wr := (Hb.out.trans HK1.out).trans HX.out.2
      obtain ⟨hok, k0, fs, k1, hfs, hfb⟩ := HL.out.comp q hql
      have hgl : g < B := by rw [HB.out]; exact Nat.lt_of_lt_of_le HL.out.lt HL.out.le
      have y0 : wr.cell? ⟨g, q * 2, none⟩ = some (.string (mk L[q].1)) := (World.cell?_of_block (a := ⟨g, q * 2, none⟩) (hK.block g hgl)).trans k0
      have y1 : wr.cell? ⟨g, q * 2 + 1, none⟩ = some fs := (World.cell?_of_block (a := ⟨g, q * 2 + 1, none⟩) (hK.block g hgl)).trans k1
      obtain ⟨x0, x1⟩ := HBx.out wr HX.out.2
      have x2 := x1 q hq6
      rw [← HEc.out] at x0
      have hgd : L.getD q ([], []) = L[q] := by simp [List.getD, hql]
      obtain ⟨fa, fc, rfl⟩ := hfs.form
      obtain ⟨va, vc, hvf⟩ := own_form (HE.out q hq6).row
      rw [hvf] at x2
      have hwl : w.heap.size < wr.heap.size := by omega
      have hne : w.heap.size ≠ wr.heap.size := by omega
      clear x1 k0 k1
      cases ht : ec.testBit q with
      | false =>
        have HE2 : Hid (acc = l ++ linesTx L e (q + 1)) := by show _ = _; rw [linesTx_succ, ← HEc.out, ht, HA.out.2]; simp
        clear hgd
        generalize L[q].1 = nm at y0
        generalize L[q].2.length = fn at y1
        go_wp2_with (go_at_call 66; refine (has_any ec q _ hec hq6).mono ?_; rw [ht]; rintro e w' ⟨rfl, rfl⟩)
        exact ⟨⟨q + 1, sa, p, sc, acc, by omega, by go_num, rfl, by omega, ⟨HA.out.1, HE2.out⟩, ⟨World.ownsRow.alloc HX.out.1 _, HX.out.2.alloc hwr _⟩⟩, by simp [intOf]; omega⟩
      | true =>
        have hfit := HEW.out.2 q hql (by rw [← HEc.out]; exact ht)
        have hll := lineTx_len L[q] (e.vs.getD q []) hok hfit.1 hfit.2
        have HE2 : Hid (acc ++ lineTx L[q] (e.vs.getD q []) = l ++ linesTx L e (q + 1)) := by show _ = _; rw [linesTx_succ, ← HEc.out, ht, HA.out.2, hgd]; simp
        have HC : Hid (∀ W, Kp B wr W → TxAt W B (.slice sa p sc) acc → Calls Tryz.prog 148 #[.slice sa p sc, .agg #[.string (mk L[q].1), .slice fa L[q].2.length fc], .slice va (e.vs.getD q []).length vc] W (WEnds W B acc (lineTx L[q] (e.vs.getD q [])))) := fun W hW hT => by
          have hV := HE.out q hq6
          rw [hvf] at hV
          have := appendLine_any L[q] (.slice fa L[q].2.length fc) _ (.slice sa p sc) (e.vs.getD q []) (lv q) acc w0 W hok hfs hV hfit.1 hfit.2 (by rw [← HB.out]; exact hK.trans hW) (by rw [← HB.out]; exact hT) (by rw [← HA.out.1]; omega) (by rw [← HB.out]; exact HP.out)
          rw [← HB.out] at this
          exact this
        clear hgd hfs hok hvf hfb hK
        generalize lineTx L[q] (e.vs.getD q []) = tx at hll HE2 HC
        generalize L[q].1 = nm at y0 HC
        generalize L[q].2.length = fn at y1 HC
        generalize (e.vs.getD q []).length = vn at x2 HC
        go_wp2_with (go_at_call 66; refine (has_any ec q _ hec hq6).mono ?_; rw [ht]; rintro e w' ⟨rfl, rfl⟩)
        go_region_with (go_at_call 148; refine (HC.out _ ?_ ?_).mono ?_; exact ((Kp.refl _ _).alloc hwr _).drew; exact World.ownsRow.drew (World.ownsRow.alloc HX.out.1 _); rintro e w8 ⟨v8, rfl, hT8, hb8⟩; obtain ⟨a8, c8, rfl⟩ := hT8.form; obtain ⟨m8, hm8⟩ : ∃ m8, m8 = (acc ++ tx).length := ⟨_, rfl⟩; rw [← hm8] at hT8 ⊢; have h8 : m8 ≤ 600000 + 3000 * (q + 1) := (by rw [hm8, List.length_append, ← HA.out.1]; omega); have HA8 : Hid (m8 = (acc ++ tx).length ∧ acc ++ tx = l ++ linesTx L e (q + 1)) := ⟨hm8, HE2.out⟩; have HX8 : Hid (TxAt w8 B (.slice a8 m8 c8) (acc ++ tx) ∧ Kp B W1 w8) := ⟨hT8, (HX.out.2.trans (((Kp.refl _ _).alloc hwr _).drew)).trans hb8⟩; clear hT8 hb8 hm8)
        all_goals go_wp2_with fail
        all_goals exact ⟨⟨q + 1, a8, m8, c8, acc ++ tx, by omega, by go_num, rfl, h8, HA8, HX8⟩, by simp [intOf]; omega⟩
    · obtain rfl : q = m := by omega
      go_wp2_with fail
      go_ret
      refine ⟨_, rfl, ?_, HK1.out.trans HX.out.2⟩
      rw [← HA.out.2]
      exact HX.out.1

end Go.Proofs.YthkbeaffkcfgiabGreatDoor
