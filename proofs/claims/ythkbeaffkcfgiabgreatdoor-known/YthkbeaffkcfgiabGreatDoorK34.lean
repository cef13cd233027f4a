import Derived.Lib.AppendStr
import Derived.Lib.SmallJoins
import Derived.Test.YthkbeaffkcfgiabGreatDoorK30
set_option linter.unusedSimpArgs false
set_option linter.unusedVariables false
namespace Go.Proofs.YthkbeaffkcfgiabGreatDoor
open Go.RowKit

/-- A string is appended. -/
theorem txAt_str {w w6 : World} {B : Nat} {v v' : Value} {l x : List UInt8} (h : TxAt w B v l) (hB : B ≤ w.heap.size) (h6 : w6.ownsRow B 5 1 v' (l.length + (mk x).size) (Lib.byteCells l ++ Lib.strCells (mk x))) (hg : w.grownBy w6 v.ownBlock) : TxAt w6 B v' (l ++ x) ∧ Kp B w w6 := by
  refine ⟨?_, ?_⟩
  · unfold TxAt
    rw [byteCells_append, List.length_append]
    rw [size_mk] at h6
    have e : Lib.strCells (mk x) = Lib.byteCells x := by
      unfold Lib.strCells Lib.byteCells
      rw [data_mk]
    rw [e] at h6
    exact h6
  · exact Kp.grown (Kp.refl _ _) hg hB (tx_u8 h)

theorem tx_str_step {wr w7 w8 : World} {B p : Nat} {acc fn : List UInt8} {v7 v8 : Value} (hwr : B ≤ wr.heap.size) (h7 : TxAt w7 B v7 acc ∧ Kp B wr w7) (hp : p = acc.length) (hown8 : w8.ownsRow B 5 1 v8 (p + (mk fn).size) (Lib.byteCells acc ++ Lib.strCells (mk fn))) (hgrow8 : w7.grownBy w8 v7.ownBlock) : TxAt w8 B v8 (acc ++ fn) ∧ Kp B wr w8 := by
  have z := txAt_str (v' := v8) (x := fn) h7.1 (Nat.le_trans hwr h7.2.size) (by rw [← hp]; exact hown8) hgrow8
  exact ⟨z.1, h7.2.trans z.2⟩
theorem tx_one_step {wr w7 w8 : World} {B p : Nat} {acc : List UInt8} {x : UInt8} {v7 v8 : Value} {o : Obj} (hwr : B ≤ wr.heap.size) (h7 : TxAt w7 B v7 acc ∧ Kp B wr w7) (hp : p = acc.length) (hown8 : w8.ownsRow B 5 1 v8 (p + 1) (Lib.byteCells acc ++ [.int .u8 x.toNat])) (hgrow8 : (w7.alloc o).grownBy w8 v7.ownBlock) : TxAt w8 B v8 (acc ++ [x]) ∧ Kp B wr w8 := by
  have z := txAt_more (v' := v8) (x := [x]) h7.1 (Nat.le_trans hwr h7.2.size) (by rw [← hp]; exact hown8) hgrow8
  exact ⟨z.1, h7.2.trans z.2⟩

/-- The fields of a line. -/
def fieldTx (c : CompS) (vs : List SV) (j : Nat) : List UInt8 := 32 :: ((c.2.getD j ([], 0)).1 ++ 61 :: valTx (vs.getD j ⟨0, 0, [], []⟩))
def fieldsTx (c : CompS) (vs : List SV) (q : Nat) : List UInt8 := (List.range q).flatMap (fieldTx c vs)
def lineTx (c : CompS) (vs : List SV) : List UInt8 := c.1 ++ (fieldsTx c vs c.2.length ++ [10])
theorem fieldsTx_succ (c : CompS) (vs : List SV) (q : Nat) : fieldsTx c vs (q + 1) = fieldsTx c vs q ++ fieldTx c vs q := by
  unfold fieldsTx
  rw [List.range_succ, List.flatMap_append]
  simp

theorem itoa_len {x : Int} (h : -9223372036854775808 ≤ x ∧ x ≤ 9223372036854775807) : (Lib.itoa x).length ≤ 21 := Lib.itoa_length_le x h.1 h.2
theorem numsTx_len (xs : List Int) (h : ∀ y ∈ xs, -9223372036854775808 ≤ y ∧ y ≤ 9223372036854775807) : ∀ q, q ≤ xs.length → (numsTx xs q).length ≤ 22 * q
  | 0, _ => by simp [numsTx]
  | q + 1, hq => by
    rw [numsTx_succ, List.length_append, List.length_append]
    have h1 := numsTx_len xs h q (by omega)
    have hql : q < xs.length := by omega
    have h2 : (Lib.itoa (xs.getD q 0)).length ≤ 21 := by
      have e : xs.getD q 0 = xs[q] := by simp [List.getD, hql]
      rw [e]; exact itoa_len (h _ (List.getElem_mem hql))
    have h3 : (if 0 < q then [(44 : UInt8)] else []).length ≤ 1 := by split <;> simp
    omega
theorem valTx_len {x : SV} (h : SVOk x) : (valTx x).length ≤ 500 := by
  unfold valTx
  split
  · exact Nat.le_trans (itoa_len h.num) (by omega)
  · split
    · unfold boolTx; simp
    · split
      · unfold quotedTx
        have := flat_len4 x.s
        have := h.text
        simp only [List.length_cons, List.length_append, List.length_nil]
        omega
      · split
        · rename_i _ _ _ h4
          have hr := h.ref h4
          unfold refTx
          split
          · simp
          · have : (Lib.itoa ((x.n.toNat : Int) - 1)).length ≤ 21 := itoa_len (by omega)
            simp only [List.length_cons]
            omega
        · unfold listTx
          have := numsTx_len x.l h.nums x.l.length (Nat.le_refl _)
          have := h.few
          simp only [List.length_cons, List.length_append, List.length_nil]
          omega

end Go.Proofs.YthkbeaffkcfgiabGreatDoor

namespace Go.Proofs.YthkbeaffkcfgiabGreatDoor
open Go.RowKit

theorem txAt_own {w : World} {B : Nat} {v : Value} {l : List UInt8} (h : TxAt w B v l) (n : Nat) (hn : n = l.length) : w.ownsRow B 5 1 v n (Lib.byteCells l) := by rw [hn]; exact h
theorem new_two {w : World} {o : Obj} {u : Value} {t : TypeId} : ∀ j v, [u][j]? = some v → ((w.alloc o).alloc (.cells #[u] t)).cell? ((⟨w.heap.size + 1, 0, none⟩ : Addr).add j) = some v := by
  have h := new_one (w := w.alloc o) (u := u) (t := t)
  rw [World.size_alloc] at h
  exact h

set_option maxHeartbeats 6400000 in
set_option maxRecDepth 20000 in
theorem appendLine_any (c : CompS) (fs vv v : Value) (vs : List SV) (lvs : List Value) (l : List UInt8) (w0 w : World) (hc : CompOk c) (hF : FieldsN w0 fs c.2) (hV : ValsOwn w0 0 vv vs lvs) (hlen : vs.length = c.2.length) (hok : ∀ x ∈ vs, SVOk x) (hb : Kp w0.heap.size w0 w) (hT : TxAt w w0.heap.size v l) (hl : l.length ≤ 700000) (hP : PowB w0.heap.size w0) :
    Calls Tryz.prog 148 #[v, .agg #[.string (mk c.1), fs], vv] w (WEnds w w0.heap.size l (lineTx c vs)) := by
  obtain ⟨i0, hi0, hz0, hz1, hz2⟩ := info_parts Tryz.info5
  obtain ⟨B, hB⟩ : ∃ B, B = w0.heap.size := ⟨_, rfl⟩
  rw [← hB] at hb hT hP ⊢
  have hBw : B ≤ w.heap.size := by rw [hB]; exact hb.size
  obtain ⟨a, cc, rfl⟩ := hT.form
  obtain ⟨fa, fc, rfl⟩ := hF.form
  obtain ⟨va, vc, rfl⟩ := own_form hV.row
  have hnm : c.1.length ≤ 8 := hc.1
  have hnf : c.2.length ≤ 4 := hc.2.1
  have HFk : Hid (∀ f ∈ c.2, f.1.length ≤ 8 ∧ 1 ≤ f.2 ∧ f.2 ≤ 5) := hc.2.2
  rw [hlen] at hV ⊢
  obtain ⟨n, hn⟩ : ∃ n, n = l.length := ⟨_, rfl⟩
  obtain ⟨m, hm⟩ : ∃ m, m = c.2.length := ⟨_, rfl⟩
  rw [← hn] at hT hl ⊢
  rw [← hm] at hF hV hnf hlen ⊢
  have HN : Hid (n = l.length) := hn
  have HM : Hid (m = c.2.length) := hm
  have HLn : Hid (vs.length = m) := hlen
  have HT : Hid (TxAt w B (.slice a n cc) l) := hT
  have HO : Hid (w.ownsRow B 5 1 (.slice a n cc) n (Lib.byteCells l)) := by have := hT; unfold TxAt at this; rw [← hn] at this; exact this
  have HF : Hid (FieldsN w0 (.slice fa m fc) c.2) := hF
  have HV : Hid (ValsOwn w0 0 (.slice va m vc) vs lvs) := hV
  have HOk : Hid (∀ x ∈ vs, SVOk x) := hok
  have HB : Hid (B = w0.heap.size) := hB
  have Hb : Hid (Kp B w0 w) := hb
  have HP : Hid (PowB B w0) := hP
  have hmk : (mk c.1).size = c.1.length := size_mk _
  clear hF hV hok hB hb hP hT hn hm hc hlen
  obtain ⟨nm, hnme⟩ : ∃ nm, nm = c.1 := ⟨_, rfl⟩
  rw [← hnme] at hnm hmk ⊢
  have HNm : Hid (nm = c.1) := hnme
  clear hnme
  go_enter Tryz.func148, Tryz.ntmps148
  go_wp2_with (at_builtin; refine Lib.wpList_append_own_string _ rfl _ _ 166 9 rfl B 5 i0 Tryz.underlying166 Tryz.underlying9 hi0 hz0 hz1 hz2 _ _ _ rfl (HO.out.alloc _) (mk nm) rfl (by unfold maxLen; omega) (by omega) (by simp; omega) ?_; intro v' w6 hown6 hgrow6 _; have HM6 : Hid (TxAt w6 B v' (l ++ nm) ∧ Kp B w w6) := (by have q := txAt_str (w := w.alloc (.cells #[.string (mk nm), .slice fa m fc] 138)) (x := nm) (l := l) (World.ownsRow.alloc HT.out _) (by simp; omega) (by rw [← HN.out]; exact hown6) hgrow6; exact ⟨q.1, ((Kp.refl _ _).alloc hBw _).trans q.2⟩); have e6 : w6.cell? ⟨w.heap.size, 1, none⟩ = some (.slice fa m fc) := hgrow6.cell (by simp) (fun e => by have := (HO.out.lt _ e.symm).2; simp at this); obtain ⟨sa', sc', rfl⟩ := own_form hown6; clear hown6 hgrow6)
  go_loopw [0, 16] (fun x t wr => ∃ (q : Nat) (sa : Option Addr) (p sc : Nat) (acc : List UInt8), q ≤ m ∧ t = .int .i64 q ∧ x = .slice sa p sc ∧ p ≤ 700010 + 600 * q ∧ Hid (p = acc.length ∧ acc = l ++ nm ++ fieldsTx c vs q) ∧ Hid (TxAt wr B (.slice sa p sc) acc ∧ Kp B w wr)) (fun _ t _ => m - (intOf t).toNat)
  case atStart => exact ⟨0, _, _, _, l ++ nm, by omega, rfl, rfl, by omega, ⟨by rw [List.length_append, ← HN.out], by simp [fieldsTx]⟩, HM6⟩
  case round =>
    obtain ⟨q, sa, p, sc, acc, hq, rfl, rfl, hp, HA, HX⟩ := hrel
    have hwr : B ≤ wr.heap.size := Nat.le_trans hBw HX.out.2.size
    have HO7 : Hid (wr.ownsRow B 5 1 (.slice sa p sc) p (Lib.byteCells acc)) := txAt_own HX.out.1 p HA.out.1
    by_cases hlt : q < m
    · have hqc : q < c.2.length := by rw [← HM.out]; exact hlt
      have hqv : q < vs.length := by rw [HLn.out]; exact hlt
      obtain ⟨gf, hfa, f0, f1, hgl⟩ : ∃ gf, fa = some ⟨gf, 0, none⟩ ∧ wr.cell? ⟨gf, q * 2, none⟩ = some (.string (mk c.2[q].1)) ∧ wr.cell? ⟨gf, q * 2 + 1, none⟩ = some (.int .i64 (c.2[q].2 : Int)) ∧ m ≤ fc := by
        rcases HF.out with ⟨h1, h2⟩ | ⟨gf, c', h1, h2, h3, h4⟩
        · rw [h2] at hqc; simp at hqc
        · simp at h1
          have hlb : gf < B := by rw [HB.out]; exact h3
          have hb2 := Hb.out.trans HX.out.2
          exact ⟨gf, h1.1, (World.cell?_of_block (a := ⟨gf, q * 2, none⟩) (hb2.block gf hlb)).trans (h4 q hqc).1, (World.cell?_of_block (a := ⟨gf, q * 2 + 1, none⟩) (hb2.block gf hlb)).trans (h4 q hqc).2, by rw [h1.2.2, HM.out]; exact h2⟩
      subst hfa
      obtain ⟨gv, cap, lv, hva, hgv0, hgv, hcap, hlv, hlo, hcell⟩ := HV.out.cell q hqv
      simp only [Value.slice.injEq] at hva
      obtain ⟨rfl, hvn, rfl⟩ := hva
      have hlvf : ∃ la ln lc, lv = .slice la ln lc := by obtain ⟨a1, a2, a3⟩ := own_form hlo; exact ⟨a1, _, a2, a3⟩
      have HVc : Hid (∀ W, Kp B w W → W.cell? ⟨gv, q * 6, none⟩ = some (.int .i64 vs[q].k) ∧ W.cell? ⟨gv, q * 6 + 1, none⟩ = some (.int .i64 vs[q].n) ∧ W.cell? ⟨gv, q * 6 + 2, none⟩ = some (.string (mk vs[q].s)) ∧ W.cell? ⟨gv, q * 6 + 3, none⟩ = some (.int .i64 0) ∧ W.cell? ⟨gv, q * 6 + 4, none⟩ = some (.int .i64 0) ∧ W.cell? ⟨gv, q * 6 + 5, none⟩ = some lv) := fun W hW => by
        have hk : ∀ o, W.cell? ⟨gv, o, none⟩ = w0.cell? ⟨gv, o, none⟩ := fun o => World.cell?_of_block (a := ⟨gv, o, none⟩) ((Hb.out.trans hW).block gv (by rw [HB.out]; exact hgv))
        exact ⟨(hk _).trans (hcell 0 (by omega)), (hk _).trans (hcell 1 (by omega)), (hk _).trans (hcell 2 (by omega)), (hk _).trans (hcell 3 (by omega)), (hk _).trans (hcell 4 (by omega)), (hk _).trans (hcell 5 (by omega))⟩
      have HLo : Hid (∀ W, Kp B w W → W.ownsRow 0 3 1 lv vs[q].l.length (vs[q].l.map (Value.int .i64))) := fun W hW => own_turn hlo fun j hj hjl => (Hb.out.trans hW).block j (by rw [HB.out]; exact hjl)
      have HLb : Hid (∀ j, lv.ownBlock = some j → j < B) := fun j hj => by rw [HB.out]; exact (hlo.lt j hj).2
      have hx := HOk.out vs[q] (List.getElem_mem hqv)
      have hvl := valTx_len hx
      have hfn := (HFk.out c.2[q] (List.getElem_mem hqc)).1
      have HX1 : Hid (SVOk vs[q]) := hx
      have hsu : fieldsTx c vs (q + 1) = fieldsTx c vs q ++ (32 :: (c.2[q].1 ++ 61 :: valTx vs[q])) := by
        rw [fieldsTx_succ]
        simp [fieldTx, List.getD, hqc, hqv]
      have HE : Hid (acc ++ [32] ++ c.2[q].1 ++ [61] ++ valTx vs[q] = l ++ nm ++ fieldsTx c vs (q + 1)) := by show _ = _; rw [hsu, HA.out.2]; simp
      have hmf : (mk c.2[q].1).size = c.2[q].1.length := size_mk _
      clear hsu hcell hlo hlv hx hvn
      generalize c.2[q].1 = fn at f0 HE hfn hmf
      generalize (c.2[q].2 : Int) = fk at f1
      generalize vs[q] = x at HVc HLo hvl HX1 HE
      obtain ⟨la, ln, lc, rfl⟩ := hlvf
      go_wp2_with (first
        | (at_builtin; refine wpList_append_own_at _ rfl _ _ 166 rfl B 5 i0 _ 1 1 Tryz.underlying166 hi0 hz0 hz1 hz2 rfl (by decide) _ _ _ rfl ((HO7.out.alloc _).alloc _) ⟨wr.heap.size + 1, 0, none⟩ 1 1 [.int .u8 32] rfl rfl new_two (fun u hu => by simp at hu; rw [hu]; rfl) (by unfold maxLen; omega) (by omega) (by simp; omega) ?_; intro v7 w7 hown7 hgrow7 _ _; have HM7 : Hid (TxAt w7 B v7 (acc ++ [32]) ∧ Kp B wr w7) := tx_one_step (x := 32) (w7 := wr.alloc (.cells #[.string (mk fn), .int .i64 fk] 135)) hwr ⟨World.ownsRow.alloc HX.out.1 _, (Kp.refl _ _).alloc hwr _⟩ HA.out.1 hown7 hgrow7; have e7 : w7.cell? ⟨wr.heap.size, 0, none⟩ = some (.string (mk fn)) := hgrow7.cell (by simp) (fun e => by have := (HO7.out.lt _ e.symm).2; simp at this); obtain ⟨sa7, sc7, rfl⟩ := own_form hown7; have HO8 : Hid (w7.ownsRow B 5 1 (.slice sa7 (p + 1) sc7) (p + 1) (Lib.byteCells (acc ++ [32]))) := txAt_own HM7.out.1 (p + 1) (by simp [HA.out.1]); clear hown7 hgrow7)
        | (at_builtin; refine Lib.wpList_append_own_string _ rfl _ _ 166 9 rfl B 5 i0 Tryz.underlying166 Tryz.underlying9 hi0 hz0 hz1 hz2 _ _ _ rfl HO8.out (mk fn) rfl (by unfold maxLen; omega) (by omega) (Nat.le_trans hwr HM7.out.2.size) ?_; intro v8 w8 hown8 hgrow8 _; have HM8 : Hid (TxAt w8 B v8 (acc ++ [32] ++ fn) ∧ Kp B wr w8) := tx_str_step (p := p + 1) hwr HM7.out (by simp [HA.out.1]) hown8 hgrow8; obtain ⟨sa8, sc8, rfl⟩ := own_form hown8; have HO9 : Hid (w8.ownsRow B 5 1 (.slice sa8 (p + 1 + (mk fn).size) sc8) (p + 1 + (mk fn).size) (Lib.byteCells (acc ++ [32] ++ fn))) := txAt_own HM8.out.1 _ (by simp [HA.out.1, hmf]; omega); clear hown8 hgrow8)
        | (at_builtin; refine wpList_append_own_at _ rfl _ _ 166 rfl B 5 i0 _ 1 1 Tryz.underlying166 hi0 hz0 hz1 hz2 rfl (by decide) _ _ _ rfl (HO9.out.alloc _) ⟨w8.heap.size, 0, none⟩ 1 1 [.int .u8 61] rfl rfl new_one (fun u hu => by simp at hu; rw [hu]; rfl) (by unfold maxLen; omega) (by omega) (by have := HM8.out.2.size; simp; omega) ?_; intro v9 w9 hown9 hgrow9 _ _; have HM9 : Hid (TxAt w9 B v9 (acc ++ [32] ++ fn ++ [61]) ∧ Kp B wr w9) := tx_one_step (x := 61) (p := p + 1 + (mk fn).size) hwr HM8.out (by simp [HA.out.1, hmf]; omega) hown9 hgrow9; obtain ⟨x0, x1, x2, x3, x4, x5⟩ := HVc.out w9 (HX.out.2.trans HM9.out.2); obtain ⟨sa9, sc9, rfl⟩ := own_form hown9; clear hown9 hgrow9))
      have h9 : TxAt w9 B (.slice sa9 (p + 1 + fn.length + 1) sc9) (acc ++ [32] ++ fn ++ [61]) := by rw [← hmf]; exact HM9.out.1
      have HC : Hid (Calls Tryz.prog 216 #[.slice sa9 (p + 1 + fn.length + 1) sc9, .agg #[.int .i64 x.k, .int .i64 x.n, .string (mk x.s), .int .i64 0, .int .i64 0, .slice la ln lc]] w9 (WEnds w9 B (acc ++ [32] ++ fn ++ [61]) (valTx x))) :=
        appendValue_any B _ _ x (.slice la ln lc) 0 w9 HX1.out (HLo.out w9 (HX.out.2.trans HM9.out.2)) HLb.out h9 (Nat.le_trans hwr HM9.out.2.size) (by simp only [List.length_append, List.length_singleton, ← HA.out.1]; omega) (((HP.out.on Hb.out).on HX.out.2).on HM9.out.2)
      clear h9
      generalize valTx x = tx at HC HE hvl
      refine Calls.mono HC.out ?_
      rintro e w10 ⟨v10, rfl, hT10, hb10⟩
      obtain ⟨a8, c8, rfl⟩ := hT10.form
      obtain ⟨m8, hm8⟩ : ∃ m8, m8 = (acc ++ [32] ++ fn ++ [61] ++ tx).length := ⟨_, rfl⟩
      rw [← hm8] at hT10 ⊢
      have h8 : m8 ≤ 700010 + 600 * (q + 1) := by rw [hm8]; simp only [List.length_append, List.length_singleton, ← HA.out.1]; omega
      have HA8 : Hid (m8 = (acc ++ [32] ++ fn ++ [61] ++ tx).length ∧ acc ++ [32] ++ fn ++ [61] ++ tx = l ++ nm ++ fieldsTx c vs (q + 1)) := ⟨hm8, HE.out⟩
      have HX8 : Hid (TxAt w10 B (.slice a8 m8 c8) (acc ++ [32] ++ fn ++ [61] ++ tx) ∧ Kp B w w10) := ⟨hT10, (HX.out.2.trans HM9.out.2).trans hb10⟩
      clear hT10 hb10 hm8
      go_wp2_with fail
      exact ⟨⟨q + 1, a8, m8, c8, acc ++ [32] ++ fn ++ [61] ++ tx, by omega, by go_num, rfl, h8, HA8, HX8⟩, by simp [intOf]; omega⟩
    · obtain rfl : q = m := by omega
      have HE : Hid (acc = l ++ nm ++ fieldsTx c vs c.2.length) := by have := HA.out.2; rw [HM.out] at this; exact this
      go_wp2_with (at_builtin; refine wpList_append_own_at _ rfl _ _ 166 rfl B 5 i0 _ 1 1 Tryz.underlying166 hi0 hz0 hz1 hz2 rfl (by decide) _ _ _ rfl (HO7.out.alloc _) ⟨wr.heap.size, 0, none⟩ 1 1 [.int .u8 10] rfl rfl new_one (fun u hu => by simp at hu; rw [hu]; rfl) (by unfold maxLen; omega) (by omega) (by simp; omega) ?_; intro v8 w8 hown8 hgrow8 _ _; have HM8 : Hid (TxAt w8 B v8 (acc ++ [10]) ∧ Kp B w w8) := tx_one_step (x := 10) hBw HX.out HA.out.1 hown8 hgrow8; obtain ⟨sa8, sc8, rfl⟩ := own_form hown8; clear hown8 hgrow8)
      go_ret
      refine ⟨_, rfl, ?_, HM8.out.2⟩
      have e : l ++ lineTx c vs = acc ++ [10] := by rw [HE.out, HNm.out]; simp [lineTx]
      rw [e]
      exact HM8.out.1

end Go.Proofs.YthkbeaffkcfgiabGreatDoor

namespace Go.Proofs.YthkbeaffkcfgiabGreatDoor
open Go.RowKit

/-- Bytes of a constant, as they are laid: there is no room behind them. -/
def Lit (w : World) (B : Nat) (v : Value) (l : List UInt8) : Prop := ∃ g cs fz, v = .slice (some ⟨g, 0, none⟩) l.length l.length ∧ B ≤ g ∧ w.heap[g]? = some (.cells cs 5 fz) ∧ cs.toList = Lib.byteCells l
/-- A text that is being written, or that has just been begun. -/
def TxS (w : World) (B : Nat) (v : Value) (l : List UInt8) : Prop := TxAt w B v l ∨ Lit w B v l

theorem TxS.form {w : World} {B : Nat} {v : Value} {l : List UInt8} (h : TxS w B v l) : ∃ a c, v = .slice a l.length c := by
  rcases h with h | ⟨g, cs, fz, h, _⟩
  · exact h.form
  · exact ⟨_, _, h⟩
theorem Lit.kept {w w' : World} {B : Nat} {v : Value} {l : List UInt8} (h : Lit w B v l) (hb : ∀ k, k < w.heap.size → w'.heap[k]? = w.heap[k]?) : Lit w' B v l := by
  obtain ⟨g, cs, fz, h1, h2, h3, h4⟩ := h
  exact ⟨g, cs, fz, h1, h2, (hb g (Array.getElem?_eq_some_iff.1 h3).1).trans h3, h4⟩
theorem TxS.alloc {w : World} {B : Nat} {v : Value} {l : List UInt8} (h : TxS w B v l) (o : Obj) : TxS (w.alloc o) B v l := by
  rcases h with h | h
  · exact Or.inl (World.ownsRow.alloc h o)
  · exact Or.inr (h.kept fun k hk => Below.heap_alloc _ _ _ hk)
theorem lit_made (w : World) (B : Nat) (l : List UInt8) (cs : Array Value) (fz : Nat × Nat) (hB : B ≤ w.heap.size) (hc : cs.toList = Lib.byteCells l) : Lit (w.alloc (.cells cs 5 fz)) B (.slice (some ⟨w.heap.size, 0, none⟩) l.length l.length) l := ⟨w.heap.size, cs, fz, rfl, hB, heap_alloc_at rfl _, hc⟩

theorem byteCells_len (l : List UInt8) : (Lib.byteCells l).length = l.length := by simp [Lib.byteCells]
theorem strCells_mk (x : List UInt8) : Lib.strCells (mk x) = Lib.byteCells x := by
  unfold Lib.strCells Lib.byteCells
  rw [data_mk]

theorem lit_cells {w : World} {g : Nat} {cs : Array Value} {fz : Nat × Nat} {l : List UInt8} (h3 : w.heap[g]? = some (.cells cs 5 fz)) (h4 : cs.toList = Lib.byteCells l) : ∀ j u, (Lib.byteCells l)[j]? = some u → w.cell? ((⟨g, 0, none⟩ : Addr).add j) = some u := fun j u hu => by
  rw [Addr.add_lit, Nat.zero_add, cell_row h3, ← hu, ← h4]
  simp

/-- What an append that must grow leaves. -/
theorem lit_grown (w : World) (B n cap : Nat) (z : Value) (l x : List UInt8) (hz : z.cells.size = 1) (hn : n = l.length + x.length) (hc : n ≤ cap) (hcm : cap ≤ maxLen) (hB : B ≤ w.heap.size) : TxAt (w.drew.alloc (.cells ((Lib.byteCells l).toArray ++ (Lib.byteCells x).toArray ++ Builtin.zeroCells z.cells (cap - n)) 5)) B (.slice (some ⟨w.heap.size, 0, none⟩) n cap) (l ++ x) ∧ Kp B w (w.drew.alloc (.cells ((Lib.byteCells l).toArray ++ (Lib.byteCells x).toArray ++ Builtin.zeroCells z.cells (cap - n)) 5)) := by
  have hlen : (l ++ x).length = n := by rw [List.length_append]; exact hn.symm
  refine ⟨?_, ((Kp.refl B w).drew).alloc hB _⟩
  unfold TxAt
  rw [hlen, byteCells_append]
  refine ⟨by rw [List.length_append, byteCells_len, byteCells_len]; omega, Or.inr ⟨w.heap.size, cap, _, rfl, hB, heap_alloc_new w.drew _, hc, hcm, ?_, ?_⟩⟩
  · simp only [Array.size_append, List.size_toArray, size_zeroCells, hz, byteCells_len]
    omega
  · simp only [Array.toList_append]
    rw [List.take_append_of_le_length (by rw [List.length_append, byteCells_len, byteCells_len]; omega), List.take_of_length_le (by rw [List.length_append, byteCells_len, byteCells_len]; omega)]

/-- A string behind it. -/
theorem TxS.str {w : World} {B : Nat} {v : Value} {l x : List UInt8} (h : TxS w B v l) (h0 : 0 < x.length) (hl : l.length + x.length ≤ 2000000) (hB : B ≤ w.heap.size) (ty : TypeId) : ∃ v' w', (Builtin.append_ #[166, 9] ty #[v, .string (mk x)]).run Tryz.prog w = .ok v' w' ∧ TxAt w' B v' (l ++ x) ∧ Kp B w w' := by
  obtain ⟨i0, hi0, hz0, hz1, hz2⟩ := info_parts Tryz.info5
  have hsz : (mk x).size = x.length := size_mk x
  rcases h with h | ⟨g, cs, fz, rfl, hg, h3, h4⟩
  · obtain ⟨v', w', r1, r2, r3, _⟩ := Lib.run_append_own_string (P := Tryz.prog) w B 166 9 ty 5 i0 Tryz.underlying166 Tryz.underlying9 hi0 hz0 hz1 hz2 v l.length (Lib.byteCells l) h (mk x) (by unfold maxLen; omega) (by omega) hB
    have z := txAt_str h hB r2 r3
    exact ⟨v', w', r1, z.1, z.2⟩
  · have r := Lib.run_append_grow_string (P := Tryz.prog) w 166 9 ty 5 i0 (.int .u8 0) Tryz.underlying166 Tryz.underlying9 hi0 hz0 ⟨g, 0, none⟩ l.length l.length (Lib.byteCells l) (by rw [hz1, byteCells_len]; omega) (lit_cells h3 h4) (mk x) (by omega) (by omega) (by rw [hz2]; exact growslice_fits (by omega) (by omega))
    rw [strCells_mk] at r
    have hge := grownCap_ge w (l.length + (mk x).size) l.length 5
    have hcm := grownCap_le_maxLen w (l.length + (mk x).size) l.length 5 (by unfold maxLen; omega)
    have z := lit_grown w B (l.length + (mk x).size) _ (.int .u8 0) l x rfl (by omega) hge hcm hB
    exact ⟨_, _, r, z.1, z.2⟩

/-- One byte behind it. -/
theorem TxS.one {w0 : World} {B : Nat} {v : Value} {l : List UInt8} {x : UInt8} (h : TxS w0 B v l) (hl : l.length + 1 ≤ 2000000) (hB : B ≤ w0.heap.size) (ty : TypeId) : ∃ v' w', (Builtin.append_ #[166, 166] ty #[v, .slice (some ⟨w0.heap.size, 0, none⟩) 1 1]).run Tryz.prog (w0.alloc (.cells #[.int .u8 x.toNat] 5)) = .ok v' w' ∧ TxAt w' B v' (l ++ [x]) ∧ Kp B w0 w' := by
  obtain ⟨i0, hi0, hz0, hz1, hz2⟩ := info_parts Tryz.info5
  obtain ⟨w, hw⟩ : ∃ w, w = w0.alloc (.cells #[.int .u8 x.toNat] 5) := ⟨_, rfl⟩
  have hs : TxS w B v l := by rw [hw]; exact h.alloc _
  have hBw : B ≤ w.heap.size := by rw [hw]; simp; omega
  have hn : ∀ j u, (Lib.byteCells [x])[j]? = some u → w.cell? ((⟨w0.heap.size, 0, none⟩ : Addr).add j) = some u := by rw [hw]; exact new_one
  have hK : Kp B w0 w := by rw [hw]; exact (Kp.refl _ _).alloc hB _
  rw [← hw]
  rcases hs with h | ⟨g, cs, fz, rfl, hg, h3, h4⟩
  · obtain ⟨v', w', r1, r2, r3, _⟩ := run_append_own (P := Tryz.prog) w B 166 ty 5 i0 (.int .u8 0) 1 1 Tryz.underlying166 hi0 hz0 hz1 hz2 rfl (by decide) v l.length (Lib.byteCells l) h ⟨w0.heap.size, 0, none⟩ 1 1 (Lib.byteCells [x]) rfl hn (fun u hu => by simp [Lib.byteCells] at hu; rw [hu]; rfl) (by unfold maxLen; omega) (by omega) hBw
    refine ⟨v', w', r1, ?_, hK.trans (Kp.grown (Kp.refl _ _) r3 hBw (tx_u8 h))⟩
    unfold TxAt
    rw [byteCells_append, List.length_append]
    exact r2
  · have r := run_append_grow (P := Tryz.prog) w 166 ty 5 i0 (.int .u8 0) Tryz.underlying166 hi0 hz0 ⟨g, 0, none⟩ l.length l.length (Lib.byteCells l) (by rw [hz1, byteCells_len]; omega) (lit_cells h3 h4) ⟨w0.heap.size, 0, none⟩ 1 1 (Lib.byteCells [x]) (by rw [hz1]; rfl) hn (by omega) (by omega) (by rw [hz2]; exact growslice_fits (by omega) (by omega))
    have hge := grownCap_ge w (l.length + 1) l.length 5
    have hcm := grownCap_le_maxLen w (l.length + 1) l.length 5 (by unfold maxLen; omega)
    have z := lit_grown w B (l.length + 1) _ (.int .u8 0) l [x] rfl rfl hge hcm hBw
    exact ⟨_, _, r, z.1, hK.trans z.2⟩

theorem wpList_append_S {w : World} {ops : Array Oper} {rest : List Oper} {o : Oper} {a : Act} {Q : Exit → Act → World → Prop} (hgd : o.guard = none) (sl x : Operand) (ho : o.op = .call { callee := .builtin .append, args := #[sl, x], argTypes := #[166, 9] }) (B : Nat) (v : Value) (l : List UInt8) (hs : a.eval sl = v) (hT : TxS w B v l) (xs : List UInt8) (hx : a.eval x = .string (mk xs)) (h0 : 0 < xs.length) (hl : l.length + xs.length ≤ 2000000) (hB : B ≤ w.heap.size)
    (h : ∀ v' w', TxAt w' B v' (l ++ xs) → Kp B w w' → wpList Tryz.prog ops Q rest (a.put o.dst v') w') : wpList Tryz.prog ops Q (o :: rest) a w := by
  refine wpList_plain hgd fun K hK => ?_
  obtain ⟨v', w', hr, h2, h3⟩ := hT.str h0 hl hB o.type
  unfold Oper.wp execOp
  simp only [ho, resolve, invoke, builtin, Sem.run_bind, Sem.run_pure, Result.andThen_ok, List.map_toArray, List.map_cons, List.map_nil, hs, hx, hr]
  exact hK _ _ (h v' w' h2 h3)

theorem wpList_append_S1 {w : World} {ops : Array Oper} {rest : List Oper} {o : Oper} {a : Act} {Q : Exit → Act → World → Prop} (hgd : o.guard = none) (sl x : Operand) (ho : o.op = .call { callee := .builtin .append, args := #[sl, x], argTypes := #[166, 166] }) (B : Nat) (v : Value) (l : List UInt8) (hs : a.eval sl = v) (hT : TxS w B v l) (b : UInt8) (hx : a.eval x = .slice (some ⟨w.heap.size, 0, none⟩) 1 1) (hl : l.length + 1 ≤ 2000000) (hB : B ≤ w.heap.size)
    (h : ∀ v' w', TxAt w' B v' (l ++ [b]) → Kp B w w' → wpList Tryz.prog ops Q rest (a.put o.dst v') w') : wpList Tryz.prog ops Q (o :: rest) a (w.alloc (.cells #[.int .u8 b.toNat] 5)) := by
  refine wpList_plain hgd fun K hK => ?_
  obtain ⟨v', w', hr, h2, h3⟩ := hT.one (x := b) hl hB o.type
  unfold Oper.wp execOp
  simp only [ho, resolve, invoke, builtin, Sem.run_bind, Sem.run_pure, Result.andThen_ok, List.map_toArray, List.map_cons, List.map_nil, hs, hx, hr]
  exact hK _ _ (h v' w' h2 h3)

end Go.Proofs.YthkbeaffkcfgiabGreatDoor

namespace Go.Proofs.YthkbeaffkcfgiabGreatDoor
open Go.RowKit

/-- Seven bits a byte, the lowest first. -/
def sevTx : Nat → Nat → List UInt8
  | 0, n => [UInt8.ofNat n]
  | k + 1, n => if n < 128 then [UInt8.ofNat n] else UInt8.ofNat (n % 128 + 128) :: sevTx k (n / 128)
def numTx (n : Int) : Nat := if n < 0 then 2 * (-(n + 1)).toNat + 1 else 2 * n.toNat

theorem sevTx_len : ∀ k n, (sevTx k n).length ≤ k + 1
  | 0, n => by simp [sevTx]
  | k + 1, n => by
    rw [sevTx]
    split
    · simp
    · have := sevTx_len k (n / 128)
      simp; omega
theorem sevTx_small (k n : Nat) (h : n < 128) : sevTx k n = [UInt8.ofNat n] := by
  cases k with
  | zero => rfl
  | succ k => rw [sevTx, if_pos h]

/-- Powers of two that the loop passes. -/
def capS (q : Nat) : Nat := [18446744073709551616, 144115188075855872, 1125899906842624, 8796093022208, 68719476736, 536870912, 4194304, 32768, 256, 2].getD q 0
theorem capS_next : ∀ q : Fin 9, capS q.val = 128 * capS (q.val + 1) := by decide

set_option maxHeartbeats 3200000 in
set_option maxRecDepth 20000 in
theorem appendSevens_any (B : Nat) (v : Value) (l : List UInt8) (i : Nat) (w : World) (hi : i < 18446744073709551616) (hT : TxS w B v l) (hB : B ≤ w.heap.size) (hl : l.length ≤ 900000) :
    Calls Tryz.prog 149 #[v, .int .u64 (i : Int)] w (WEnds w B l (sevTx 10 i)) := by
  obtain ⟨a, c, rfl⟩ := hT.form
  have HT : Hid (TxS w B (.slice a l.length c) l) := hT
  obtain ⟨n, hn⟩ : ∃ n, n = l.length := ⟨_, rfl⟩
  rw [← hn] at HT hl ⊢
  have HN : Hid (n = l.length) := hn
  clear hT hn
  go_enter Tryz.func149, Tryz.ntmps149
  go_wp2_with fail
  go_loopw [0, 1] (fun x t wr => ∃ (q j : Nat) (sa : Option Addr) (m sc : Nat) (acc : List UInt8), q ≤ 9 ∧ j < capS q ∧ j < 18446744073709551616 ∧ t = .int .u64 (j : Int) ∧ x = .slice sa m sc ∧ m ≤ 900000 + q ∧ Hid (m = acc.length ∧ acc ++ sevTx (10 - q) j = l ++ sevTx 10 i) ∧ Hid (TxS wr B (.slice sa m sc) acc ∧ Kp B w wr)) (fun _ t _ => (intOf t).toNat)
  case atStart => exact ⟨0, i, a, n, c, l, by omega, hi, hi, rfl, rfl, by omega, ⟨HN.out, rfl⟩, ⟨HT.out, Kp.refl _ _⟩⟩
  case round =>
    obtain ⟨q, j, sa, m, sc, acc, hq, hjc, hj, rfl, rfl, hm, HA, HX⟩ := hrel
    have hwr : B ≤ wr.heap.size := Nat.le_trans hB HX.out.2.size
    by_cases hlt : j < 128
    · obtain ⟨bb, hbb⟩ : ∃ bb : UInt8, bb = UInt8.ofNat j := ⟨_, rfl⟩
      have hbn : bb.toNat = j := by rw [hbb]; simp; omega
      have hdl : decide ((128 : Int) ≤ (j : Int)) = false := decide_eq_false (by omega)
      have HE : Hid (acc ++ [bb] = l ++ sevTx 10 i) := by
        show _ = _
        rw [← HA.out.2, sevTx_small _ _ hlt, hbb]
      clear hbb
      subst hbn
      go_wp2_with (at_builtin; refine wpList_append_S1 rfl _ _ rfl B _ acc rfl HX.out.1 bb rfl (by rw [← HA.out.1]; omega) hwr ?_; intro v7 w7 hT7 hK7; obtain ⟨sa7, sc7, rfl⟩ := hT7.form; have HX7 : Hid (TxAt w7 B (.slice sa7 (acc ++ [bb]).length sc7) (acc ++ [bb]) ∧ Kp B w w7) := ⟨hT7, HX.out.2.trans hK7⟩; clear hT7 hK7; generalize (acc ++ [bb]).length = n7 at HX7 ⊢)
      go_ret
      exact ⟨_, rfl, by rw [← HE.out]; exact HX7.out.1, HX7.out.2⟩
    · obtain ⟨bb, hbb⟩ : ∃ bb : UInt8, bb = UInt8.ofNat (j % 128 + 128) := ⟨_, rfl⟩
      have hbn : bb.toNat = j % 128 + 128 := by rw [hbb]; simp; omega
      have hdg : decide ((128 : Int) ≤ (j : Int)) = true := decide_eq_true (by omega)
      have hq9 : q < 9 := by
        rcases Nat.lt_or_ge q 9 with h | h
        · exact h
        · have : q = 9 := by omega
          subst this
          have : capS 9 = 2 := rfl
          omega
      have hcn := capS_next ⟨q, hq9⟩
      simp only at hcn
      have hj2 : j / 128 < capS (q + 1) := by omega
      have HE : Hid (acc ++ [bb] ++ sevTx (10 - (q + 1)) (j / 128) = l ++ sevTx 10 i) := by
        show _ = _
        rw [← HA.out.2, show 10 - q = (10 - (q + 1)) + 1 by omega, sevTx, if_neg hlt, hbb]
        simp
      have hb1 : (j : Int) % 128 + 128 = (bb.toNat : Int) := by omega
      clear hbb hcn hbn
      go_wp2_with (at_builtin; refine wpList_append_S1 rfl _ _ rfl B _ acc rfl HX.out.1 bb rfl (by rw [← HA.out.1]; omega) hwr ?_; intro v7 w7 hT7 hK7; obtain ⟨sa7, sc7, rfl⟩ := hT7.form; have HX7 : Hid (TxAt w7 B (.slice sa7 (acc ++ [bb]).length sc7) (acc ++ [bb]) ∧ Kp B w w7) := ⟨hT7, HX.out.2.trans hK7⟩; clear hT7 hK7; have hlen7 : (acc ++ [bb]).length = m + 1 := (by rw [List.length_append, ← HA.out.1]; rfl); rw [hlen7] at HX7 ⊢; clear hlen7)
      exact ⟨⟨q + 1, j / 128, sa7, m + 1, sc7, acc ++ [bb], by omega, hj2, by omega, by simp, rfl, by omega, ⟨by rw [List.length_append, ← HA.out.1]; rfl, HE.out⟩, ⟨Or.inl HX7.out.1, HX7.out.2⟩⟩, by simp [intOf]; omega⟩

/-- appendCount. -/
theorem appendCount_any (B : Nat) (v : Value) (l : List UInt8) (i : Nat) (w : World) (hi : i < 9223372036854775808) (hT : TxS w B v l) (hB : B ≤ w.heap.size) (hl : l.length ≤ 900000) :
    Calls Tryz.prog 99 #[v, .int .i64 (i : Int)] w (WEnds w B l (sevTx 10 i)) := by
  have HC : Hid (Calls Tryz.prog 149 #[v, .int .u64 (i : Int)] w (WEnds w B l (sevTx 10 i))) := appendSevens_any B v l i w (by omega) hT hB hl
  obtain ⟨a, c, rfl⟩ := hT.form
  have hw : IntKind.u64.wrap (i : Int) = (i : Int) := by simp [IntKind.wrap, IntKind.signed, IntKind.bits]; omega
  clear hT
  generalize sevTx 10 i = tx at HC ⊢
  generalize l.length = n at HC ⊢
  go_enter Tryz.func99, Tryz.ntmps99
  go_wp2_with fail
  refine Calls.mono HC.out ?_
  rintro e w1 ⟨v', rfl, hT, hb⟩
  obtain ⟨a', c', rfl⟩ := hT.form
  have HT : Hid (TxAt w1 B (.slice a' (l ++ tx).length c') (l ++ tx)) := hT
  clear hT
  generalize (l ++ tx).length = n2 at HT ⊢
  go_wp2_with fail
  go_ret
  exact ⟨_, rfl, HT.out, hb⟩

set_option maxHeartbeats 1600000 in
/-- appendNumber. -/
theorem appendNumber_any (B : Nat) (v : Value) (l : List UInt8) (i : Int) (w : World) (h0 : -9223372036854775808 ≤ i) (h1 : i ≤ 9223372036854775807) (hT : TxS w B v l) (hB : B ≤ w.heap.size) (hl : l.length ≤ 900000) :
    Calls Tryz.prog 261 #[v, .int .i64 i] w (WEnds w B l (sevTx 10 (numTx i))) := by
  have hnb : numTx i < 18446744073709551616 := by unfold numTx; split <;> omega
  have HC : Hid (Calls Tryz.prog 149 #[v, .int .u64 (numTx i : Int)] w (WEnds w B l (sevTx 10 (numTx i)))) := appendSevens_any B v l (numTx i) w hnb hT hB hl
  obtain ⟨a, c, rfl⟩ := hT.form
  clear hT
  generalize l.length = n at HC ⊢
  generalize sevTx 10 (numTx i) = tx at HC ⊢
  by_cases hn : i < 0
  · obtain ⟨y, hy⟩ : ∃ y : Nat, i = -(y : Int) - 1 := ⟨(-(i + 1)).toNat, by omega⟩
    have hnt : (numTx i : Int) = 2 * (y : Int) + 1 := by unfold numTx; rw [if_pos hn]; omega
    rw [hnt] at HC
    subst hy
    have w1 : IntKind.i64.wrap (-(y : Int) - 1 + 1) = -(y : Int) := by rw [IntKind.wrap_i64]; omega
    have w2 : IntKind.i64.wrap (y : Int) = (y : Int) := by rw [IntKind.wrap_i64]; omega
    have w3 : IntKind.u64.wrap (y : Int) = (y : Int) := by simp [IntKind.wrap, IntKind.signed, IntKind.bits]; omega
    have w4 : IntKind.u64.wrap (2 * (y : Int)) = 2 * (y : Int) := by simp [IntKind.wrap, IntKind.signed, IntKind.bits]; omega
    have w5 : IntKind.u64.wrap (2 * (y : Int) + 1) = 2 * (y : Int) + 1 := by simp [IntKind.wrap, IntKind.signed, IntKind.bits]; omega
    have hd : decide (-(y : Int) - 1 < 0) = true := decide_eq_true hn
    clear hnt hnb
    go_enter Tryz.func261, Tryz.ntmps261
    go_wp2_with fail
    refine Calls.mono HC.out ?_
    rintro e w1 ⟨v', rfl, hT, hb⟩
    obtain ⟨a', c', rfl⟩ := hT.form
    have HT : Hid (TxAt w1 B (.slice a' (l ++ tx).length c') (l ++ tx)) := hT
    clear hT
    generalize (l ++ tx).length = n2 at HT ⊢
    go_wp2_with fail
    go_ret
    exact ⟨_, rfl, HT.out, hb⟩
  · obtain ⟨y, hy⟩ : ∃ y : Nat, i = (y : Int) := ⟨i.toNat, by omega⟩
    have hnt : (numTx i : Int) = 2 * (y : Int) := by unfold numTx; rw [if_neg hn]; omega
    rw [hnt] at HC
    subst hy
    have w3 : IntKind.u64.wrap (y : Int) = (y : Int) := by simp [IntKind.wrap, IntKind.signed, IntKind.bits]; omega
    have w4 : IntKind.u64.wrap (2 * (y : Int)) = 2 * (y : Int) := by simp [IntKind.wrap, IntKind.signed, IntKind.bits]; omega
    clear hnt hnb
    go_enter Tryz.func261, Tryz.ntmps261
    go_wp2_with fail
    refine Calls.mono HC.out ?_
    rintro e w1 ⟨v', rfl, hT, hb⟩
    obtain ⟨a', c', rfl⟩ := hT.form
    have HT : Hid (TxAt w1 B (.slice a' (l ++ tx).length c') (l ++ tx)) := hT
    clear hT
    generalize (l ++ tx).length = n2 at HT ⊢
    go_wp2_with fail
    go_ret
    exact ⟨_, rfl, HT.out, hb⟩

end Go.Proofs.YthkbeaffkcfgiabGreatDoor
