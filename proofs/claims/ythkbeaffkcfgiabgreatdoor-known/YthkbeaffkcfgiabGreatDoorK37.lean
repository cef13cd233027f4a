import Derived.Test.YthkbeaffkcfgiabGreatDoorK34
import Derived.Test.YthkbeaffkcfgiabGreatDoorK26
set_option linter.unusedSimpArgs false
set_option linter.unusedVariables false
namespace Go.Proofs.YthkbeaffkcfgiabGreatDoor
open Go.RowKit

/-- The numbers of a list, packed. -/
def numsPk (xs : List Int) (q : Nat) : List UInt8 := (List.range q).flatMap fun k => sevTx 10 (numTx (xs.getD k 0))
theorem numsPk_succ (xs : List Int) (q : Nat) : numsPk xs (q + 1) = numsPk xs q ++ sevTx 10 (numTx (xs.getD q 0)) := by
  unfold numsPk
  rw [List.range_succ, List.flatMap_append]
  simp
/-- How a value is packed. -/
def packTx (x : SV) : List UInt8 := if x.k = 1 then sevTx 10 (numTx x.n) else if x.k = 2 ∨ x.k = 4 then sevTx 10 x.n.toNat else if x.k = 3 then sevTx 10 x.s.length ++ x.s else sevTx 10 x.l.length ++ numsPk x.l x.l.length
theorem numsPk_len (xs : List Int) : ∀ q, (numsPk xs q).length ≤ 11 * q
  | 0 => by simp [numsPk]
  | q + 1 => by
    have ih := numsPk_len xs q
    have := sevTx_len 10 (numTx (xs.getD q 0))
    rw [numsPk_succ, List.length_append]
    omega
theorem packTx_len (x : SV) (h1 : x.s.length ≤ 100) (h2 : x.l.length ≤ 4) : (packTx x).length ≤ 200 := by
  unfold packTx
  have a := sevTx_len 10 (numTx x.n)
  have b := sevTx_len 10 x.n.toNat
  have c := sevTx_len 10 x.s.length
  have d := sevTx_len 10 x.l.length
  have e := numsPk_len x.l x.l.length
  split
  · omega
  · split
    · omega
    · split
      · rw [List.length_append]; omega
      · rw [List.length_append]; omega

/-- A string behind a text, as one step of a region that draws. -/
theorem step_append_T {ops : Array Oper} {o : Oper} {a : Act} {w : World} {K : Act → World → Prop} {Q : Exit → Act → World → Prop} {E : Prop}
    (hg : o.guard = none) (sl x : Operand) (hop : o.op = Op.call { callee := Callee.builtin Builtin.append, args := #[sl, x], argTypes := #[166, 9] }) (B : Nat) (v : Value) (l xs : List UInt8) (hs : a.eval sl = v) (hT : TxAt w B v l) (hx : a.eval x = .string (mk xs)) (hl : l.length + xs.length ≤ 2000000) (hB : B ≤ w.heap.size)
    (hK : ∀ v' w', TxAt w' B v' (l ++ xs) → Kp B w w' → K (a.put o.dst v') w') :
    if Region.wanted o (yielded ops a.tmps) = true then Oper.wp Tryz.prog o a w K Q else E := by
  obtain ⟨i0, hi0, hz0, hz1, hz2⟩ := info_parts Tryz.info5
  have hw : Region.wanted o (yielded ops a.tmps) = true := by simp [Region.wanted, hg]
  rw [if_pos hw]
  have hsz : (mk xs).size = xs.length := size_mk xs
  obtain ⟨v', w', hr, r2, r3, _⟩ := Lib.run_append_own_string (P := Tryz.prog) w B 166 9 o.type 5 i0 Tryz.underlying166 Tryz.underlying9 hi0 hz0 hz1 hz2 v l.length (Lib.byteCells l) hT (mk xs) (by unfold maxLen; omega) (by omega) hB
  have z := txAt_str hT hB r2 r3
  unfold Oper.wp
  simp [execOp, hop, resolve, invoke, builtin, hs, hx, hr, Result.andThen]
  exact hK v' w' z.1 z.2

theorem runs99 (args : Array Value) (w : World) : (callFunc 99 args).run Tryz.prog w = .ok (.enter 99 args) w := by kernel_rfl

set_option maxHeartbeats 1600000 in
set_option maxRecDepth 20000 in
theorem appendPacked_any (B : Nat) (v : Value) (l : List UInt8) (x : SV) (lv : Value) (w : World) (hx : SVOk x) (h2 : x.k = 2 → 0 ≤ x.n) (hLv : w.ownsRow 0 3 1 lv x.l.length (x.l.map (Value.int .i64))) (hT : TxAt w B v l) (hB : B ≤ w.heap.size) (hl : l.length ≤ 800000) :
    Calls Tryz.prog 217 #[v, .agg #[.int .i64 x.k, .int .i64 x.n, .string (mk x.s), .int .i64 0, .int .i64 0, lv]] w (WEnds w B l (packTx x)) := by
  obtain ⟨k, n, s, ls⟩ := x
  obtain ⟨⟨k1, k5⟩, ⟨h0, h1⟩, href, hsl, hls, hlr⟩ := hx
  simp only at k1 k5 h0 h1 href hsl hls hlr hLv h2
  obtain ⟨a, c, rfl⟩ := hT.form
  obtain ⟨la, lc, hlv⟩ := own_form hLv
  obtain ⟨W1, hW1⟩ : ∃ W1, W1 = w.alloc (.cells #[.int .i64 k, .int .i64 n, .string (mk s), .int .i64 0, .int .i64 0, lv] 56) := ⟨_, rfl⟩
  have hB1 : Kp B w W1 := by rw [hW1]; exact (Kp.refl _ _).alloc hB _
  have hs1 : B ≤ W1.heap.size := Nat.le_trans hB hB1.size
  have hT1 : TxAt W1 B (.slice a l.length c) l := by rw [hW1]; exact World.ownsRow.alloc hT _
  have hk : k = 1 ∨ k = 2 ∨ k = 3 ∨ k = 4 ∨ k = 5 := by omega
  rcases hk with rfl | rfl | rfl | rfl | rfl
  · have HC : Hid (Calls Tryz.prog 261 #[.slice a l.length c, .int .i64 n] W1 (WEnds W1 B l (sevTx 10 (numTx n)))) := appendNumber_any B _ l n W1 h0 h1 (Or.inl hT1) hs1 (by omega)
    have hv : packTx ⟨1, n, s, ls⟩ = sevTx 10 (numTx n) := by unfold packTx; simp
    rw [hv]
    rw [hW1] at HC hB1
    rw [show ((1 : Nat) : Int) = 1 from rfl] at HC hB1
    simp only
    rw [show ((1 : Nat) : Int) = 1 from rfl]
    subst hlv
    generalize sevTx 10 (numTx n) = tx at HC ⊢
    clear hT hT1 hLv hlr hs1 hW1 hv
    go_enter Tryz.func217, Tryz.ntmps217
    go_wp2_with fail
    refine Calls.mono HC.out ?_
    rintro e w8 ⟨v8, rfl, hT8, hb8⟩
    obtain ⟨a8, c8, rfl⟩ := hT8.form
    have HX8 : Hid (TxAt w8 B (.slice a8 (l ++ tx).length c8) (l ++ tx) ∧ Kp B w w8) := ⟨hT8, hB1.trans hb8⟩
    clear hT8 hb8
    generalize (l ++ tx).length = m8 at HX8 ⊢
    go_wp2_with fail
    go_ret
    exact ⟨_, rfl, HX8.out.1, HX8.out.2⟩
  · have HC : Hid (Calls Tryz.prog 99 #[.slice a l.length c, .int .i64 n] W1 (WEnds W1 B l (sevTx 10 n.toNat))) := (by have hn0 := h2 rfl; have t : Calls Tryz.prog 99 #[.slice a l.length c, .int .i64 ((n.toNat : Nat) : Int)] W1 (WEnds W1 B l (sevTx 10 n.toNat)) := appendCount_any B _ l n.toNat W1 (by omega) (Or.inl hT1) hs1 (by omega); rw [show ((n.toNat : Nat) : Int) = n by omega] at t; exact t)
    have hv : packTx ⟨2, n, s, ls⟩ = sevTx 10 n.toNat := by unfold packTx; simp
    rw [hv]
    rw [hW1] at HC hB1
    rw [show ((2 : Nat) : Int) = 2 from rfl] at HC hB1
    simp only
    rw [show ((2 : Nat) : Int) = 2 from rfl]
    subst hlv
    generalize sevTx 10 n.toNat = tx at HC ⊢
    clear hT hT1 hLv hlr hs1 hW1 hv
    go_enter Tryz.func217, Tryz.ntmps217
    go_wp2_with fail
    refine Calls.mono HC.out ?_
    rintro e w8 ⟨v8, rfl, hT8, hb8⟩
    obtain ⟨a8, c8, rfl⟩ := hT8.form
    have HX8 : Hid (TxAt w8 B (.slice a8 (l ++ tx).length c8) (l ++ tx) ∧ Kp B w w8) := ⟨hT8, hB1.trans hb8⟩
    clear hT8 hb8
    generalize (l ++ tx).length = m8 at HX8 ⊢
    go_wp2_with fail
    go_ret
    exact ⟨_, rfl, HX8.out.1, HX8.out.2⟩
  · have hv : packTx ⟨3, n, s, ls⟩ = sevTx 10 s.length ++ s := by unfold packTx; simp
    rw [hv]
    have hmk : (mk s).size = s.length := size_mk s
    have hcl := sevTx_len 10 s.length
    have HC : Hid (∀ W, W = W1.drew → Calls Tryz.prog 99 #[.slice a l.length c, .int .i64 (s.length : Int)] W (WEnds W1 B l (sevTx 10 s.length))) := by
      rintro W rfl
      refine (appendCount_any B _ l s.length W1.drew (by omega) (Or.inl (World.ownsRow.drew hT1)) hs1 (by omega)).mono ?_
      rintro e w' ⟨v', rfl, q1, q2⟩
      exact ⟨v', rfl, q1, ((Kp.refl _ _).drew).trans q2⟩
    rw [hW1] at HC hB1
    rw [show ((3 : Nat) : Int) = 3 from rfl] at HC hB1
    simp only
    rw [show ((3 : Nat) : Int) = 3 from rfl]
    subst hlv
    have HBw : Hid (B ≤ w.heap.size) := hB
    generalize hsv : sevTx 10 s.length = tx at HC hcl ⊢
    clear hT hT1 hLv hlr hs1 hW1 hv hsv
    go_enter Tryz.func217, Tryz.ntmps217
    go_wp2_with fail
    go_region_law (first
      | (refine step_call2 rfl 99 (.tmp 41) (.tmp 44) 166 3 rfl (.slice a l.length c) (.int .i64 (s.length : Int)) (by simp [Act.eval, Act.put]) (by simp [Act.eval, Act.put]) (runs99 _ _) ?_; refine (HC.out _ rfl).mono ?_; rintro e w8 ⟨v8, rfl, hT8, hb8⟩; refine ⟨_, rfl, ?_⟩; have hb9 := hB1.trans hb8; have e8 : w8.cell? ⟨w.heap.size, 2, none⟩ = some (.string (mk s)) := (by have q := hb8.kept (heap_alloc_at (w := w) rfl _) (by decide); rw [cell_row q]; rfl); obtain ⟨a8, c8, rfl⟩ := hT8.form)
      | (refine step_append_T rfl (.tmp 45) (.tmp 47) rfl B (.slice a8 (l ++ tx).length c8) (l ++ tx) s (by simp [Act.eval, Act.put]) hT8 (by simp [Act.eval, Act.put]) (by rw [List.length_append]; omega) (Nat.le_trans HBw.out hb9.size) ?_; intro v9 w9 hT9 hK9))
    all_goals
      obtain ⟨a9, c9, rfl⟩ := hT9.form
      have HX9 : Hid (TxAt w9 B (.slice a9 (l ++ tx ++ s).length c9) (l ++ tx ++ s) ∧ Kp B w w9) := ⟨hT9, hb9.trans hK9⟩
      clear hT9 hK9 hT8 hb8 hb9
      generalize (l ++ tx ++ s).length = m9 at HX9 ⊢
      generalize (l ++ tx).length = m8 at *
      go_simp
      go_wp2_with fail
      go_ret
      exact ⟨_, rfl, by rw [← List.append_assoc]; exact HX9.out.1, HX9.out.2⟩
  · have HC : Hid (Calls Tryz.prog 99 #[.slice a l.length c, .int .i64 n] W1 (WEnds W1 B l (sevTx 10 n.toNat))) := (by have hn0 := href rfl; have t : Calls Tryz.prog 99 #[.slice a l.length c, .int .i64 ((n.toNat : Nat) : Int)] W1 (WEnds W1 B l (sevTx 10 n.toNat)) := appendCount_any B _ l n.toNat W1 (by omega) (Or.inl hT1) hs1 (by omega); rw [show ((n.toNat : Nat) : Int) = n by omega] at t; exact t)
    have hv : packTx ⟨4, n, s, ls⟩ = sevTx 10 n.toNat := by unfold packTx; simp
    rw [hv]
    rw [hW1] at HC hB1
    rw [show ((4 : Nat) : Int) = 4 from rfl] at HC hB1
    simp only
    rw [show ((4 : Nat) : Int) = 4 from rfl]
    subst hlv
    generalize sevTx 10 n.toNat = tx at HC ⊢
    clear hT hT1 hLv hlr hs1 hW1 hv
    go_enter Tryz.func217, Tryz.ntmps217
    go_wp2_with fail
    refine Calls.mono HC.out ?_
    rintro e w8 ⟨v8, rfl, hT8, hb8⟩
    obtain ⟨a8, c8, rfl⟩ := hT8.form
    have HX8 : Hid (TxAt w8 B (.slice a8 (l ++ tx).length c8) (l ++ tx) ∧ Kp B w w8) := ⟨hT8, hB1.trans hb8⟩
    clear hT8 hb8
    generalize (l ++ tx).length = m8 at HX8 ⊢
    go_wp2_with fail
    go_ret
    exact ⟨_, rfl, HX8.out.1, HX8.out.2⟩
  · have hv : packTx ⟨5, n, s, ls⟩ = sevTx 10 ls.length ++ numsPk ls ls.length := by unfold packTx; simp
    rw [hv]
    obtain ⟨z, hz⟩ : ∃ z, z = ls.length := ⟨_, rfl⟩
    have HZ : Hid (z = ls.length) := hz
    have hcl := sevTx_len 10 z
    have HC : Hid (Calls Tryz.prog 99 #[.slice a l.length c, .int .i64 (z : Int)] W1 (WEnds W1 B l (sevTx 10 z))) := appendCount_any B _ l z W1 (by omega) (Or.inl hT1) hs1 (by omega)
    have HLs : Hid (∀ q (hq : q < z) wr, Kp B w wr → ∃ gl, la = some ⟨gl, 0, none⟩ ∧ wr.cell? ⟨gl, q, none⟩ = some (.int .i64 (ls.getD q 0)) ∧ z ≤ lc) := by
      intro q hq wr hkw
      rw [hz] at hq ⊢
      rcases hLv.2 with ⟨h1, h2⟩ | ⟨g', cap', cur, h1, h2, h3, h4, h5, h6, h7⟩
      · omega
      · rw [hlv] at h1
        simp at h1
        obtain ⟨rfl, rfl⟩ := h1
        refine ⟨g', rfl, ?_, h4⟩
        have e1 := hkw.kept h3 (by decide)
        have e2 : wr.cell? ⟨g', q, none⟩ = w.cell? ⟨g', q, none⟩ := by rw [cell_row e1, cell_row h3]
        rw [e2]
        rw [hlv] at hLv
        rw [hLv.cellAt q (by omega)]
        simp [hq, List.getD]
    subst hlv
    rw [← hz] at hls ⊢
    have HLr : Hid (∀ x ∈ ls, -9223372036854775808 ≤ x ∧ x ≤ 9223372036854775807) := hlr
    rw [← hz] at hW1
    rw [hW1] at HC hB1
    rw [show ((5 : Nat) : Int) = 5 from rfl] at HC hB1
    simp only
    rw [show ((5 : Nat) : Int) = 5 from rfl]
    have HBw : Hid (B ≤ w.heap.size) := hB
    generalize hsv : sevTx 10 z = tx at HC hcl ⊢
    clear hT hT1 hLv hlr hs1 hW1 hv hsv hz
    obtain ⟨nl, hnl⟩ : ∃ nl, nl = l.length := ⟨_, rfl⟩
    rw [← hnl] at HC hl ⊢
    have HNL : Hid (nl = l.length) := hnl
    clear hnl
    go_enter Tryz.func217, Tryz.ntmps217
    go_wp2_with fail
    refine Calls.mono HC.out ?_
    rintro e w8 ⟨v8, rfl, hT8, hb8⟩
    obtain ⟨a8, c8, rfl⟩ := hT8.form
    have e8 : w8.cell? ⟨w.heap.size, 5, none⟩ = some (.slice la z lc) := (by have q := hb8.kept (heap_alloc_at (w := w) rfl _) (by decide); rw [cell_row q]; rfl)
    have hm8 : (l ++ tx).length ≤ 800011 := by rw [List.length_append, ← HNL.out]; omega
    have HX8 : Hid (TxAt w8 B (.slice a8 (l ++ tx).length c8) (l ++ tx) ∧ Kp B w w8) := ⟨hT8, hB1.trans hb8⟩
    clear hT8 hb8 hB1
    generalize hm : (l ++ tx).length = m8 at HX8 hm8 ⊢
    have HM8 : Hid (m8 = (l ++ tx).length) := hm.symm
    clear hm
    go_wp2_with fail
    go_loopw [0, 17] (fun x t wr => ∃ (q : Nat) (sa : Option Addr) (m sc : Nat) (acc : List UInt8), q ≤ z ∧ t = .int .i64 q ∧ x = .slice sa m sc ∧ m ≤ 800011 + 11 * q ∧ Hid (m = acc.length ∧ acc = l ++ tx ++ numsPk ls q) ∧ Hid (TxAt wr B (.slice sa m sc) acc ∧ Kp B w wr)) (fun _ t _ => z - (intOf t).toNat)
    case atStart => exact ⟨0, _, _, _, l ++ tx, by omega, rfl, rfl, by omega, ⟨HM8.out, by simp [numsPk]⟩, HX8⟩
    case round =>
      obtain ⟨q, sa, m, sc, acc, hq, rfl, rfl, hm, HA, HX⟩ := hrel
      by_cases hlt : q < z
      · have hql : q < ls.length := by rw [← HZ.out]; exact hlt
        obtain ⟨gl, hla, el, hlc⟩ := HLs.out q hlt wr HX.out.2
        subst hla
        have hgd : ls.getD q 0 = ls[q] := by simp [List.getD, hql]
        rw [hgd] at el
        obtain ⟨r0, r1⟩ := HLr.out ls[q] (List.getElem_mem hql)
        have hwr : B ≤ wr.heap.size := Nat.le_trans HBw.out HX.out.2.size
        have hsu := numsPk_succ ls q
        rw [hgd] at hsu
        have hil := sevTx_len 10 (numTx ls[q])
        have HE : Hid (acc ++ sevTx 10 (numTx ls[q]) = l ++ tx ++ numsPk ls (q + 1)) := by show _ = _; rw [hsu, HA.out.2]; simp
        have HC8 : Hid (Calls Tryz.prog 261 #[.slice sa m sc, .int .i64 ls[q]] wr (WEnds wr B acc (sevTx 10 (numTx ls[q])))) := appendNumber_any B _ acc ls[q] wr r0 r1 (Or.inl HX.out.1) hwr (by rw [← HA.out.1]; omega)
        clear hgd hsu
        generalize sevTx 10 (numTx ls[q]) = it at HE HC8 hil
        generalize hx : ls[q] = x at el r0 r1 HC8
        clear hx
        go_wp2_with fail
        refine Calls.mono HC8.out ?_
        rintro e w9 ⟨v9, rfl, hT9, hb9⟩
        obtain ⟨a9, c9, rfl⟩ := hT9.form
        obtain ⟨m9, hm9⟩ : ∃ m9, m9 = (acc ++ it).length := ⟨_, rfl⟩
        rw [← hm9] at hT9 ⊢
        have h9 : m9 ≤ 800011 + 11 * (q + 1) := by rw [hm9]; simp only [List.length_append, ← HA.out.1]; omega
        have HA9 : Hid (m9 = (acc ++ it).length ∧ acc ++ it = l ++ tx ++ numsPk ls (q + 1)) := ⟨hm9, HE.out⟩
        have HX9 : Hid (TxAt w9 B (.slice a9 m9 c9) (acc ++ it) ∧ Kp B w w9) := ⟨hT9, HX.out.2.trans hb9⟩
        clear hT9 hb9 hm9
        go_wp2_with fail
        exact ⟨⟨q + 1, a9, m9, c9, acc ++ it, by omega, by go_num, rfl, h9, HA9, HX9⟩, by simp [intOf]; omega⟩
      · obtain rfl : q = z := by omega
        go_wp2_with fail
        go_ret
        exact ⟨_, rfl, by rw [← List.append_assoc, ← HA.out.2]; unfold TxAt; rw [← HA.out.1]; have t := HX.out.1; unfold TxAt at t; rw [← HA.out.1] at t; exact t, HX.out.2⟩
end Go.Proofs.YthkbeaffkcfgiabGreatDoor
