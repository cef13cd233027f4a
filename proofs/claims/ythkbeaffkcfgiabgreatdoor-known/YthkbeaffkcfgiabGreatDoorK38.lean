import Derived.Test.YthkbeaffkcfgiabGreatDoorK35
import Derived.Test.YthkbeaffkcfgiabGreatDoorK34
import Derived.Test.YthkbeaffkcfgiabGreatDoorK37
set_option linter.unusedSimpArgs false
set_option linter.unusedVariables false
namespace Go.Proofs.YthkbeaffkcfgiabGreatDoor
open Go.RowKit

/-- The entities of a text. -/
def entsTx (L : List CompS) (sc : List Ent) (q : Nat) : List UInt8 := (List.range q).flatMap fun j => [101, 10] ++ linesTx L (entAt sc j) L.length
def textTx (L : List CompS) (sc : List Ent) : List UInt8 := [115, 99, 101, 110, 101, 10] ++ (entsTx L sc sc.length ++ [101, 110, 100, 10])
theorem entsTx_succ (L : List CompS) (sc : List Ent) (q : Nat) : entsTx L sc (q + 1) = entsTx L sc q ++ ([101, 10] ++ linesTx L (entAt sc q) L.length) := by
  unfold entsTx
  rw [List.range_succ, List.flatMap_append]
  simp
theorem linesTx_len (L : List CompS) (e : Ent) (hc : ∀ k (h : k < L.length), CompOk L[k]) (hW : EntW L e) : ∀ q, q ≤ L.length → (linesTx L e q).length ≤ 2500 * q
  | 0, _ => by simp [linesTx]
  | q + 1, hq => by
    have ih := linesTx_len L e hc hW q (by omega)
    have h1 : q < L.length := by omega
    have hgd : L.getD q ([], []) = L[q] := by simp [List.getD, h1]
    rw [linesTx_succ, List.length_append, hgd]
    cases ht : e.c.testBit q with
    | false => simp; omega
    | true =>
      have hf := hW.2 q h1 ht
      have := lineTx_len L[q] (e.vs.getD q []) (hc q h1) hf.1 hf.2
      simp only [if_true]
      omega

set_option maxHeartbeats 1600000 in
set_option maxRecDepth 20000 in
theorem text_any (L : List CompS) (sc : List Ent) (sls : Nat → Nat → Value) (lvs : Nat → Nat → List Value) (v : Value) (b0 g lc : Nat) (w : World) (hL : LayN w b0 g L) (hlc : L.length ≤ lc) (hS : SceneOwn w 0 v sc sls lvs) (hW : ∀ j, j < sc.length → EntW L (entAt sc j)) (hn : sc.length ≤ 20) (hP : PowB w.heap.size w) :
    Calls Tryz.prog 49 #[v, .slice (some ⟨g, 0, none⟩) L.length lc] w fun e w' => e = .returned (.string (mk (textTx L sc))) ∧ Below w.heap.size w w' := by
  obtain ⟨i0, hi0, hz0, hz1, hz2⟩ := info_parts Tryz.info5
  obtain ⟨va, vc, rfl⟩ := own_form hS.row
  obtain ⟨m, hm⟩ : ∃ m, m = sc.length := ⟨_, rfl⟩
  obtain ⟨nl, hnl⟩ : ∃ nl, nl = L.length := ⟨_, rfl⟩
  rw [← hm] at hn ⊢
  rw [← hnl]
  have HM : Hid (m = sc.length) := hm
  have HNl : Hid (nl = L.length) := hnl
  have HL : Hid (LayN w b0 g L) := hL
  have HLc : Hid (L.length ≤ lc) := hlc
  have HS : Hid (SceneOwn w 0 (.slice va sc.length vc) sc sls lvs) := hS
  have HW : Hid (∀ j, j < sc.length → EntW L (entAt sc j)) := hW
  have HP : Hid (PowB w.heap.size w) := hP
  have h6 : L.length ≤ 6 := hL.few
  have hcv0 : (convert 166 166 (.slice (some ⟨w.heap.size, 0, none⟩) 6 6)).run Tryz.prog (w.alloc (.cells #[.int .u8 115, .int .u8 99, .int .u8 101, .int .u8 110, .int .u8 101, .int .u8 10] 5)) = .ok (.slice (some ⟨w.heap.size, 0, none⟩) 6 6) (w.alloc (.cells #[.int .u8 115, .int .u8 99, .int .u8 101, .int .u8 110, .int .u8 101, .int .u8 10] 5 (6, 7))) := Lib.run_convert_bytes_const w 166 5 _ 6 6 Tryz.underlying166 Tryz.underlying5
  have HX0 : Hid (TxS (w.alloc (.cells #[.int .u8 115, .int .u8 99, .int .u8 101, .int .u8 110, .int .u8 101, .int .u8 10] 5 (6, 7))) w.heap.size (.slice (some ⟨w.heap.size, 0, none⟩) 6 6) [115, 99, 101, 110, 101, 10] ∧ Kp w.heap.size w (w.alloc (.cells #[.int .u8 115, .int .u8 99, .int .u8 101, .int .u8 110, .int .u8 101, .int .u8 10] 5 (6, 7)))) := ⟨Or.inr (lit_made w w.heap.size [115, 99, 101, 110, 101, 10] _ _ (Nat.le_refl _) rfl), (Kp.refl _ _).alloc (Nat.le_refl _) _⟩
  clear hL hS hW hP hm hlc hnl
  go_enter Tryz.func49, Tryz.ntmps49
  go_wp2_with fail
  go_loopw [5, 12] (fun x t wr => ∃ (q : Nat) (sa : Option Addr) (p sc' : Nat) (acc : List UInt8), q ≤ m ∧ t = .int .i64 q ∧ x = .slice sa p sc' ∧ p ≤ 6 + 16000 * q ∧ Hid (p = acc.length ∧ acc = [115, 99, 101, 110, 101, 10] ++ entsTx L sc q) ∧ Hid (TxS wr w.heap.size (.slice sa p sc') acc ∧ Kp w.heap.size w wr)) (fun _ t _ => m - (intOf t).toNat)
  case atStart => exact ⟨0, _, _, _, [115, 99, 101, 110, 101, 10], by omega, rfl, rfl, by omega, ⟨rfl, by simp [entsTx]⟩, HX0⟩
  case round =>
    obtain ⟨q, sa, p, sc', acc, hq, rfl, rfl, hp, HA, HX⟩ := hrel
    have hwr := HX.out.2.size
    by_cases hlt : q < m
    · have hqs : q < sc.length := by rw [← HM.out]; exact hlt
      obtain ⟨gs, cap, hgs, _, hgl, hcap, hcell⟩ := HS.out.cell q hqs
      simp only [Value.slice.injEq] at hgs
      obtain ⟨rfl, _, rfl⟩ := hgs
      have hgk : ∀ o, wr.cell? ⟨gs, o, none⟩ = w.cell? ⟨gs, o, none⟩ := fun o => World.cell?_of_block (a := ⟨gs, o, none⟩) (HX.out.2.block gs hgl)
      have y0 : wr.cell? ⟨gs, q * 7, none⟩ = some (.int .u64 (entAt sc q).c) := (hgk _).trans (hcell 0 (by omega))
      have y1 : wr.cell? ⟨gs, q * 7 + 1, none⟩ = some (sls q 0) := (hgk _).trans (hcell 1 (by omega))
      have y2 : wr.cell? ⟨gs, q * 7 + 2, none⟩ = some (sls q 1) := (hgk _).trans (hcell 2 (by omega))
      have y3 : wr.cell? ⟨gs, q * 7 + 3, none⟩ = some (sls q 2) := (hgk _).trans (hcell 3 (by omega))
      have y4 : wr.cell? ⟨gs, q * 7 + 4, none⟩ = some (sls q 3) := (hgk _).trans (hcell 4 (by omega))
      have y5 : wr.cell? ⟨gs, q * 7 + 5, none⟩ = some (sls q 4) := (hgk _).trans (hcell 5 (by omega))
      have y6 : wr.cell? ⟨gs, q * 7 + 6, none⟩ = some (sls q 5) := (hgk _).trans (hcell 6 (by omega))
      have hE := (HS.out.ents q hqs).2.2
      have hf : ∀ k, k < 6 → ∃ a n c, sls q k = .slice a n c := fun k hk => by obtain ⟨a, c, z⟩ := own_form (hE k hk).row; exact ⟨a, _, c, z⟩
      have hll := linesTx_len L (entAt sc q) (fun k hk => (HL.out.comp k hk).1) (HW.out q hqs) L.length (Nat.le_refl _)
      have HE2 : Hid (acc ++ [101, 10] ++ linesTx L (entAt sc q) L.length = [115, 99, 101, 110, 101, 10] ++ entsTx L sc (q + 1)) := by show _ = _; rw [entsTx_succ, HA.out.2]; simp
      have HC : Hid (∀ W sa7 p7 sc7, Kp w.heap.size w W → TxAt W w.heap.size (.slice sa7 p7 sc7) (acc ++ [101, 10]) → Calls Tryz.prog 98 #[.agg #[.int .u64 (entAt sc q).c, sls q 0, sls q 1, sls q 2, sls q 3, sls q 4, sls q 5], .slice sa7 p7 sc7, .slice (some ⟨g, 0, none⟩) nl lc] W (WEnds W w.heap.size (acc ++ [101, 10]) (linesTx L (entAt sc q) L.length))) := fun W sa7 p7 sc7 hW hT => by
        rw [HNl.out]
        exact appendLines_any L (entAt sc q) (sls q) (lvs q) b0 g lc _ _ w W HL.out HLc.out hE (HW.out q hqs) hW hT (by rw [List.length_append, ← HA.out.1]; simp; omega) HP.out
      obtain ⟨a0, m0, c0, s0⟩ := hf 0 (by omega)
      obtain ⟨a1, m1, c1, s1⟩ := hf 1 (by omega)
      obtain ⟨a2, m2, c2, s2⟩ := hf 2 (by omega)
      obtain ⟨a3, m3, c3, s3⟩ := hf 3 (by omega)
      obtain ⟨a4, m4, c4, s4⟩ := hf 4 (by omega)
      obtain ⟨a5, m5, c5, s5⟩ := hf 5 (by omega)
      rw [s0, s1, s2, s3, s4, s5] at HC
      rw [s0] at y1; rw [s1] at y2; rw [s2] at y3; rw [s3] at y4; rw [s4] at y5; rw [s5] at y6
      clear hcell hgk hf s0 s1 s2 s3 s4 s5 hE
      generalize (entAt sc q).c = ec at y0 HC
      generalize linesTx L (entAt sc q) L.length = tx at HE2 HC hll
      go_wp2_with (at_builtin; refine wpList_append_S rfl _ _ rfl w.heap.size _ acc rfl (HX.out.1.alloc _) [101, 10] rfl (by decide) (by rw [← HA.out.1]; simp; omega) (by simp; omega) ?_; intro v7 w7 hT7 hK7; have hb7 := hK7.kept (heap_alloc_at (w := wr) rfl (.cells #[.int .u64 ec, .slice a0 m0 c0, .slice a1 m1 c1, .slice a2 m2 c2, .slice a3 m3 c3, .slice a4 m4 c4, .slice a5 m5 c5] 164)) (by decide); have u0 : w7.cell? ⟨wr.heap.size, 0, none⟩ = some (.int .u64 ec) := (by rw [cell_row hb7]; rfl); have u1 : w7.cell? ⟨wr.heap.size, 1, none⟩ = some (.slice a0 m0 c0) := (by rw [cell_row hb7]; rfl); have u2 : w7.cell? ⟨wr.heap.size, 2, none⟩ = some (.slice a1 m1 c1) := (by rw [cell_row hb7]; rfl); have u3 : w7.cell? ⟨wr.heap.size, 3, none⟩ = some (.slice a2 m2 c2) := (by rw [cell_row hb7]; rfl); have u4 : w7.cell? ⟨wr.heap.size, 4, none⟩ = some (.slice a3 m3 c3) := (by rw [cell_row hb7]; rfl); have u5 : w7.cell? ⟨wr.heap.size, 5, none⟩ = some (.slice a4 m4 c4) := (by rw [cell_row hb7]; rfl); have u6 : w7.cell? ⟨wr.heap.size, 6, none⟩ = some (.slice a5 m5 c5) := (by rw [cell_row hb7]; rfl); obtain ⟨sa7, sc7, rfl⟩ := hT7.form; have HC7 : Hid _ := HC.out w7 sa7 _ sc7 ((HX.out.2.alloc hwr _).trans hK7) hT7; have HK7 : Hid (Kp w.heap.size w w7) := (HX.out.2.alloc hwr _).trans hK7; clear hT7 hK7 hb7; generalize (acc ++ [101, 10]).length = n7 at HC7 ⊢)
      refine Calls.mono HC7.out ?_
      rintro e w8 ⟨v8, rfl, hT8, hb8⟩
      obtain ⟨a8, c8, rfl⟩ := hT8.form
      obtain ⟨m8, hm8⟩ : ∃ m8, m8 = (acc ++ [101, 10] ++ tx).length := ⟨_, rfl⟩
      rw [← hm8] at hT8 ⊢
      have h8 : m8 ≤ 6 + 16000 * (q + 1) := by rw [hm8, List.length_append, List.length_append, ← HA.out.1]; simp; omega
      have HA8 : Hid (m8 = (acc ++ [101, 10] ++ tx).length ∧ acc ++ [101, 10] ++ tx = [115, 99, 101, 110, 101, 10] ++ entsTx L sc (q + 1)) := ⟨hm8, HE2.out⟩
      have HX8 : Hid (TxS w8 w.heap.size (.slice a8 m8 c8) (acc ++ [101, 10] ++ tx) ∧ Kp w.heap.size w w8) := ⟨Or.inl hT8, HK7.out.trans hb8⟩
      clear hT8 hb8 hm8
      go_wp2_with fail
      exact ⟨⟨q + 1, a8, m8, c8, acc ++ [101, 10] ++ tx, by omega, by go_num, rfl, h8, HA8, HX8⟩, by simp [intOf]; omega⟩
    · obtain rfl : q = m := by omega
      have HTx : Hid (acc ++ [101, 110, 100, 10] = textTx L sc) := by show _ = _; rw [HA.out.2, HM.out]; simp [textTx]
      go_wp2_with (at_builtin; refine wpList_append_S rfl _ _ rfl w.heap.size _ acc rfl HX.out.1 [101, 110, 100, 10] rfl (by decide) (by rw [← HA.out.1]; simp; omega) hwr ?_; intro v7 w7 hT7 hK7; obtain ⟨sa7, sc7, rfl⟩ := hT7.form; have hcv := own_string hT7; have HK7 : Hid (Kp w.heap.size w w7) := HX.out.2.trans hK7; clear hT7 hK7; generalize (acc ++ [101, 110, 100, 10]).length = n7 at hcv ⊢; rw [HTx.out] at hcv)
      go_ret
      exact ⟨rfl, HK7.out.toBelow⟩

end Go.Proofs.YthkbeaffkcfgiabGreatDoor

namespace Go.Proofs.YthkbeaffkcfgiabGreatDoor
open Go.RowKit

/-- The numbers of the entities with just these components. -/
def whoL (sc : List Ent) (c q : Nat) : List Nat := (List.range q).filter fun j => (entAt sc j).c == c
theorem whoL_succ (sc : List Ent) (c q : Nat) : whoL sc c (q + 1) = whoL sc c q ++ (if (entAt sc q).c = c then [q] else []) := by
  unfold whoL
  rw [List.range_succ, List.filter_append]
  by_cases h : (entAt sc q).c = c <;> simp [h]
theorem whoL_len (sc : List Ent) (c q : Nat) : (whoL sc c q).length ≤ q := by
  have h := List.length_filter_le (fun j => (entAt sc j).c == c) (List.range q)
  rw [List.length_range] at h
  exact h
theorem whoL_lt (sc : List Ent) (c q : Nat) : ∀ j ∈ whoL sc c q, j < q ∧ (entAt sc j).c = c := fun j hj => by
  simp [whoL] at hj
  exact hj
/-- The numbers as cells. -/
def whoC (l : List Nat) : List Value := l.map fun (j : Nat) => Value.int .i64 (j : Int)
def WhoEnds (w : World) (l : List Nat) (e : Ending) (w' : World) : Prop := ∃ v', e = .returned v' ∧ w'.ownsRow w.heap.size 3 1 v' l.length (whoC l) ∧ Below w.heap.size w w'

set_option maxHeartbeats 1600000 in
set_option maxRecDepth 20000 in
theorem whoHas_any (sc : List Ent) (sls : Nat → Nat → Value) (lvs : Nat → Nat → List Value) (v : Value) (c : Nat) (w : World) (hS : SceneOwn w 0 v sc sls lvs) (hn : sc.length ≤ 20) :
    Calls Tryz.prog 100 #[v, .int .u64 c] w (WhoEnds w (whoL sc c sc.length)) := by
  obtain ⟨i0, hi0, hz0, hz1, hz2⟩ := info_parts Tryz.info3
  obtain ⟨va, vc, rfl⟩ := own_form hS.row
  obtain ⟨m, hm⟩ : ∃ m, m = sc.length := ⟨_, rfl⟩
  rw [← hm] at hn ⊢
  have HM : Hid (m = sc.length) := hm
  have HS : Hid (SceneOwn w 0 (.slice va sc.length vc) sc sls lvs) := hS
  clear hS hm
  go_enter Tryz.func100, Tryz.ntmps100
  go_wp2_with fail
  go_loopw [5, 10] (fun x t wr => ∃ (q : Nat) (sa : Option Addr) (p pc : Nat), q ≤ m ∧ t = .int .i64 q ∧ x = .slice sa p pc ∧ p ≤ q ∧ Hid (p = (whoL sc c q).length) ∧ Hid (wr.ownsRow w.heap.size 3 1 (.slice sa p pc) p (whoC (whoL sc c q)) ∧ Below w.heap.size w wr)) (fun _ t _ => m - (intOf t).toNat)
  case atStart => exact ⟨0, none, 0, 0, by omega, rfl, rfl, by omega, rfl, ⟨(show w.ownsRow w.heap.size 3 1 (.slice none 0 0) 0 [] from World.ownsRow_nil _ _ _ _), Below.refl _ _⟩⟩
  case round =>
    obtain ⟨q, sa, p, pc, hq, rfl, rfl, hp, HP, HX⟩ := hrel
    have hwr := HX.out.2.size
    by_cases hlt : q < m
    · have hqs : q < sc.length := by rw [← HM.out]; exact hlt
      obtain ⟨gs, cap, hgs, _, hgl, hcap, hcell⟩ := HS.out.cell q hqs
      simp only [Value.slice.injEq] at hgs
      obtain ⟨rfl, _, rfl⟩ := hgs
      have hgk : ∀ o, wr.cell? ⟨gs, o, none⟩ = w.cell? ⟨gs, o, none⟩ := fun o => World.cell?_of_block (a := ⟨gs, o, none⟩) (HX.out.2.block gs hgl)
      have y0 : wr.cell? ⟨gs, q * 7, none⟩ = some (.int .u64 (entAt sc q).c) := (hgk _).trans (hcell 0 (by omega))
      have y1 : wr.cell? ⟨gs, q * 7 + 1, none⟩ = some (sls q 0) := (hgk _).trans (hcell 1 (by omega))
      have y2 : wr.cell? ⟨gs, q * 7 + 2, none⟩ = some (sls q 1) := (hgk _).trans (hcell 2 (by omega))
      have y3 : wr.cell? ⟨gs, q * 7 + 3, none⟩ = some (sls q 2) := (hgk _).trans (hcell 3 (by omega))
      have y4 : wr.cell? ⟨gs, q * 7 + 4, none⟩ = some (sls q 3) := (hgk _).trans (hcell 4 (by omega))
      have y5 : wr.cell? ⟨gs, q * 7 + 5, none⟩ = some (sls q 4) := (hgk _).trans (hcell 5 (by omega))
      have y6 : wr.cell? ⟨gs, q * 7 + 6, none⟩ = some (sls q 5) := (hgk _).trans (hcell 6 (by omega))
      have hE := (HS.out.ents q hqs).2.2
      have hf : ∀ k, k < 6 → ∃ a n c, sls q k = .slice a n c := fun k hk => by obtain ⟨a, c, z⟩ := own_form (hE k hk).row; exact ⟨a, _, c, z⟩
      obtain ⟨a0, m0, c0, s0⟩ := hf 0 (by omega)
      obtain ⟨a1, m1, c1, s1⟩ := hf 1 (by omega)
      obtain ⟨a2, m2, c2, s2⟩ := hf 2 (by omega)
      obtain ⟨a3, m3, c3, s3⟩ := hf 3 (by omega)
      obtain ⟨a4, m4, c4, s4⟩ := hf 4 (by omega)
      obtain ⟨a5, m5, c5, s5⟩ := hf 5 (by omega)
      rw [s0] at y1; rw [s1] at y2; rw [s2] at y3; rw [s3] at y4; rw [s4] at y5; rw [s5] at y6
      have hsu := whoL_succ sc c q
      clear hcell hgk hf s0 s1 s2 s3 s4 s5 hE
      by_cases hc : (entAt sc q).c = c
      · rw [if_pos hc] at hsu
        rw [hc] at y0
        have HSu : Hid (whoL sc c (q + 1) = whoL sc c q ++ [q]) := hsu
        clear hsu hc
        go_wp2_with (at_builtin; refine wpList_append_own_at _ rfl _ _ 54 rfl w.heap.size 3 i0 _ 1 8 Tryz.underlying54 hi0 hz0 hz1 hz2 rfl (by decide) _ _ _ rfl ((HX.out.1.alloc _).alloc _) ⟨wr.heap.size + 1, 0, none⟩ 1 1 [.int .i64 (q : Int)] rfl rfl new_two (fun u hu => by simp at hu; rw [hu]; rfl) (by unfold maxLen; omega) (by omega) (by simp; omega) ?_; intro v' w6 hown6 hgrow6 _ _; obtain ⟨sa', sc', rfl⟩ := own_form hown6; have HO6 : Hid (w6.ownsRow w.heap.size 3 1 (.slice sa' (p + 1) sc') (p + 1) (whoC (whoL sc c (q + 1)))) := (by rw [HSu.out]; unfold whoC; rw [List.map_append]; exact hown6); have HB6 : Hid (Below w.heap.size w w6) := Below.grown ((HX.out.2.alloc hwr _).alloc (by simp; omega) _) hgrow6 (by simp; omega) (fun k hk => (HX.out.1.lt k hk).1); clear hown6 hgrow6)
        exact ⟨⟨q + 1, sa', p + 1, sc', by omega, by go_num, rfl, by omega, by rw [HSu.out, List.length_append, ← HP.out]; rfl, ⟨HO6.out, HB6.out⟩⟩, by simp [intOf]; omega⟩
      · rw [if_neg hc, List.append_nil] at hsu
        have hne : decide (((entAt sc q).c : Int) = (c : Int)) = false := decide_eq_false (by omega)
        have HSu : Hid (whoL sc c (q + 1) = whoL sc c q) := hsu
        clear hsu
        generalize (entAt sc q).c = ec at y0 hc hne
        go_wp2_with fail
        exact ⟨⟨q + 1, sa, p, pc, by omega, by go_num, rfl, by omega, by rw [HSu.out]; exact HP.out, ⟨by rw [HSu.out]; exact HX.out.1.alloc _, HX.out.2.alloc hwr _⟩⟩, by simp [intOf]; omega⟩
    · obtain rfl : q = m := by omega
      go_wp2_with fail
      go_ret
      exact ⟨_, rfl, by rw [← HP.out]; exact HX.out.1, HX.out.2⟩
end Go.Proofs.YthkbeaffkcfgiabGreatDoor

namespace Go.Proofs.YthkbeaffkcfgiabGreatDoor
open Go.RowKit

/-- The number that could come next. -/
def nextW (ws : List Nat) (q : Nat) : Nat := match q with | 0 => 0 | k + 1 => ws.getD k 0 + 1
/-- The gaps before the first `q` numbers. -/
def gapsTx (ws : List Nat) (q : Nat) : List UInt8 := (List.range q).flatMap fun k => sevTx 10 (ws.getD k 0 - nextW ws k)
theorem gapsTx_succ (ws : List Nat) (q : Nat) : gapsTx ws (q + 1) = gapsTx ws q ++ sevTx 10 (ws.getD q 0 - nextW ws q) := by
  unfold gapsTx
  rw [List.range_succ, List.flatMap_append]
  simp
theorem gapsTx_len (ws : List Nat) : ∀ q, (gapsTx ws q).length ≤ 11 * q
  | 0 => by simp [gapsTx]
  | q + 1 => by
    have ih := gapsTx_len ws q
    have := sevTx_len 10 (ws.getD q 0 - nextW ws q)
    rw [gapsTx_succ, List.length_append]
    omega
/-- Numbers that rise. -/
def Rises (ws : List Nat) : Prop := ∀ k, k < ws.length → nextW ws k ≤ ws.getD k 0 ∧ ws.getD k 0 < 1000

/-- A cell of the row of numbers, in any world after. -/
theorem who_cell {B : Nat} {w wr : World} {wa : Option Addr} {wc n : Nat} {ws : List Nat} (h : w.ownsRow 0 3 1 (.slice wa n wc) n (whoC ws)) (hn : n = ws.length) (hk : Kp B w wr) (q : Nat) (hq : q < n) : ∃ gl, wa = some ⟨gl, 0, none⟩ ∧ wr.cell? ⟨gl, q, none⟩ = some (.int .i64 ((ws.getD q 0 : Nat) : Int)) ∧ n ≤ wc := by
  rcases h.2 with ⟨h1, h2⟩ | ⟨g', cap', cur, h1, h2, h3, h4, h5, h6, h7⟩
  · omega
  · simp at h1
    obtain ⟨rfl, rfl⟩ := h1
    refine ⟨g', rfl, ?_, h4⟩
    have e1 := hk.kept h3 (by decide)
    have e2 : wr.cell? ⟨g', q, none⟩ = w.cell? ⟨g', q, none⟩ := by rw [cell_row e1, cell_row h3]
    rw [e2, h.cellAt q (by omega)]
    rw [hn] at hq
    simp [whoC, hq, List.getD]

set_option maxHeartbeats 1600000 in
set_option maxRecDepth 20000 in
theorem appendGaps_any (B : Nat) (v : Value) (l : List UInt8) (ws : List Nat) (wv : Value) (w : World) (hr : Rises ws) (hn : ws.length ≤ 20) (hWv : w.ownsRow 0 3 1 wv ws.length (whoC ws)) (hT : TxAt w B v l) (hB : B ≤ w.heap.size) (hl : l.length ≤ 800000) :
    Calls Tryz.prog 150 #[v, wv] w (WEnds w B l (gapsTx ws ws.length)) := by
  obtain ⟨a, c, rfl⟩ := hT.form
  obtain ⟨wa, wc, rfl⟩ := own_form hWv
  obtain ⟨n, hnl⟩ : ∃ n, n = l.length := ⟨_, rfl⟩
  obtain ⟨z, hz⟩ : ∃ z, z = ws.length := ⟨_, rfl⟩
  rw [← hz] at hWv hn ⊢
  have HX0 : Hid (TxAt w B (.slice a l.length c) l) := hT
  rw [← hnl] at hl HX0 ⊢
  have HN : Hid (n = l.length) := hnl
  have HZ : Hid (z = ws.length) := hz
  have HR : Hid (Rises ws) := hr
  have HWv : Hid (w.ownsRow 0 3 1 (.slice wa z wc) z (whoC ws)) := hWv
  have HBw : Hid (B ≤ w.heap.size) := hB
  clear hT hWv hnl hz hr
  go_enter Tryz.func150, Tryz.ntmps150
  go_wp2_with fail
  go_loopw [0, 5, 10] (fun x y t wr => ∃ (q : Nat) (sa : Option Addr) (m sc : Nat) (acc : List UInt8) (nx : Nat), q ≤ z ∧ t = .int .i64 q ∧ y = .int .i64 (nx : Int) ∧ x = .slice sa m sc ∧ m ≤ 800000 + 11 * q ∧ nx ≤ 1000 ∧ Hid (nx = nextW ws q) ∧ Hid (m = acc.length ∧ acc = l ++ gapsTx ws q) ∧ Hid (TxAt wr B (.slice sa m sc) acc ∧ Kp B w wr)) (fun _ _ t _ => z - (intOf t).toNat)
  case atStart => exact ⟨0, a, n, c, l, 0, by omega, rfl, rfl, rfl, by omega, by omega, rfl, ⟨HN.out, by simp [gapsTx]⟩, ⟨HX0.out, Kp.refl _ _⟩⟩
  case round =>
    obtain ⟨q, sa, m, sc, acc, nx, hq, rfl, rfl, rfl, hm, hnx, HNx, HA, HX⟩ := hrel
    by_cases hlt : q < z
    · obtain ⟨gl, hla, el, hlc⟩ := who_cell HWv.out HZ.out HX.out.2 q hlt
      subst hla
      obtain ⟨r0, r1⟩ := HR.out q (by rw [← HZ.out]; exact hlt)
      have hwr : B ≤ wr.heap.size := Nat.le_trans HBw.out HX.out.2.size
      have hsu := gapsTx_succ ws q
      rw [← HNx.out] at r0 hsu
      have hil := sevTx_len 10 (ws.getD q 0 - nx)
      have HE : Hid (acc ++ sevTx 10 (ws.getD q 0 - nx) = l ++ gapsTx ws (q + 1)) := by show _ = _; rw [hsu, HA.out.2]; simp
      have HC8 : Hid (Calls Tryz.prog 99 #[.slice sa m sc, .int .i64 ((ws.getD q 0 - nx : Nat) : Int)] wr (WEnds wr B acc (sevTx 10 (ws.getD q 0 - nx)))) := appendCount_any B _ acc (ws.getD q 0 - nx) wr (by omega) (Or.inl HX.out.1) hwr (by rw [← HA.out.1]; omega)
      have HNx2 : Hid (ws.getD q 0 + 1 = nextW ws (q + 1)) := rfl
      clear hsu
      generalize ws.getD q 0 = x at el r0 r1 HC8 HE hil HNx2
      obtain ⟨g, rfl⟩ : ∃ g, x = nx + g := ⟨x - nx, by omega⟩
      rw [show nx + g - nx = g by omega] at HE HC8 hil
      generalize sevTx 10 g = it at HE HC8 hil
      have hw1 : ((nx + g : Nat) : Int) - (nx : Int) = (g : Int) := by omega
      go_wp2_with fail
      rw [show ((g : Nat) : Int) = (nx : Int) + (g : Int) - (nx : Int) by omega] at HC8
      refine Calls.mono HC8.out ?_
      rintro e w9 ⟨v9, rfl, hT9, hb9⟩
      obtain ⟨a9, c9, rfl⟩ := hT9.form
      obtain ⟨m9, hm9⟩ : ∃ m9, m9 = (acc ++ it).length := ⟨_, rfl⟩
      rw [← hm9] at hT9 ⊢
      have h9 : m9 ≤ 800000 + 11 * (q + 1) := by rw [hm9]; simp only [List.length_append, ← HA.out.1]; omega
      have HA9 : Hid (m9 = (acc ++ it).length ∧ acc ++ it = l ++ gapsTx ws (q + 1)) := ⟨hm9, HE.out⟩
      have HX9 : Hid (TxAt w9 B (.slice a9 m9 c9) (acc ++ it) ∧ Kp B w w9) := ⟨hT9, HX.out.2.trans hb9⟩
      clear hT9 hb9 hm9
      go_wp2_with fail
      exact ⟨⟨q + 1, a9, m9, c9, acc ++ it, nx + g + 1, by omega, by go_num, by go_num, rfl, h9, by omega, HNx2, HA9, HX9⟩, by simp [intOf]; omega⟩
    · obtain rfl : q = z := by omega
      go_wp2_with fail
      go_ret
      exact ⟨_, rfl, by rw [← HA.out.2]; unfold TxAt; rw [← HA.out.1]; have t := HX.out.1; unfold TxAt at t; rw [← HA.out.1] at t; exact t, HX.out.2⟩
end Go.Proofs.YthkbeaffkcfgiabGreatDoor
