import Derived.Lib.BufferRead
import Derived.Maps.AppendAt
import Derived.Laws.Rows
import Derived.Test.YthkbeaffkcfgiabGreatDoorK13
import Derived.Test.YthkbeaffkcfgiabGreatDoorK14
set_option linter.unusedSimpArgs false
set_option linter.unusedVariables false
namespace Go.Proofs.YthkbeaffkcfgiabGreatDoor
open Go.RowKit

/-- How long a slice is. -/
def lenV : Value → Nat
  | .slice _ n _ => n
  | _ => 0

theorem Turns.grown {w w1 w2 : World} {F : Nat → Prop} {row : Option Nat} (h : Turns w w1 F) (g : w1.grownBy w2 row) (hr : ∀ k, row = some k → w.heap.size ≤ k) : Turns w w2 F :=
  ⟨g.os.trans h.os, g.tape.trans h.tape, g.output.trans h.output, Nat.le_trans h.size g.size, fun k hk hn => (g.block k (Nat.lt_of_lt_of_le hk h.size) (fun e => by have := hr k e.symm; omega)).trans (h.block k hk hn)⟩

/-- What the reader has read into memory of its own leaves it as it was. -/
theorem Rd.grown {w w1 w2 : World} {rb ty : Nat} {tail : List Value} {l : List UInt8} {row : Option Nat} (h : Rd w w1 rb ty tail l) (g : w1.grownBy w2 row) (hr : ∀ k, row = some k → w.heap.size ≤ k) (hrb : rb < w.heap.size) : Rd w w2 rb ty tail l :=
  ⟨h.rest.keep (g.block rb h.rest.lt (fun e => by have := hr rb e.symm; omega)), h.turns.grown g hr⟩

/-- A row of bytes as a text. -/
theorem own_string {W : World} {B : Nat} {v : Value} {l : List UInt8} (h : W.ownsRow B 5 1 v l.length (Lib.byteCells l)) : (convert 166 9 v).run Tryz.prog W = .ok (.string (mk l)) W := by
  rcases h.2 with ⟨rfl, h0⟩ | ⟨g, cap, cur, rfl, _, hg, _, _, _, ht⟩
  · have : l = [] := List.length_eq_zero_iff.1 h0
    subst this
    exact Lib.run_convert_nil_bytes W 166 9 5 0 Tryz.underlying166 Tryz.underlying5 Tryz.underlying9
  · rw [Nat.mul_one] at ht
    exact run_convert_bytes_back W 166 9 5 ⟨g, 0, none⟩ cap l Tryz.underlying166 Tryz.underlying5 Tryz.underlying9 (Lib.bytes_of_row hg ht)

theorem Tryz.info5 : (Tryz.prog.info? 5).map (fun i => (i.zero, i.size, i.bytes)) = some (some (.int .u8 0), 1, 1) := by kernel_rfl
theorem Tryz.info3 : (Tryz.prog.info? 3).map (fun i => (i.zero, i.size, i.bytes)) = some (some (.int .i64 0), 1, 8) := by kernel_rfl

theorem new_one {w : World} {u : Value} {t : TypeId} : ∀ j x, [u][j]? = some x → (w.alloc (.cells #[u] t)).cell? ((⟨w.heap.size, 0, none⟩ : Addr).add j) = some x := fun j x hj => by
  rw [Addr.add_lit, Nat.zero_add]
  match j with
  | 0 => simp at hj; rw [← hj]; simp
  | j + 1 => simp at hj

set_option maxHeartbeats 3200000 in
theorem quoted_any (rb : Nat) (l : List UInt8) (w : World) (hR : RdAt w rb 271 [] l) (hl : l.length ≤ 2 ^ 40) :
    Calls Tryz.prog 284 #[.pointer (some ⟨rb, 0, none⟩)] w (REnds w rb 271 [] ((quotedL l).map strP)) := by
  obtain ⟨i0, hi0, hz0, hz1, hz2⟩ := info_parts Tryz.info5
  have hrb := hR.lt
  have HS : Hid (Calls Tryz.prog 186 #[.pointer (some ⟨rb, 0, none⟩), .string (mk [34])] w _) := skip_any rb 271 [] l [34] w hR
  clear hR
  go_enter Tryz.func284, Tryz.ntmps284
  go_wp2_with fail
  refine Calls.mono HS.out ?_
  rintro e w1 ⟨⟨h1, rfl⟩ | ⟨h1, rfl⟩, h2⟩
  · have HQ : Hid (quotedL l = quotedGo 12 [] (Lib.trimPrefix l [34])) := by show _ = _; unfold quotedL; rw [h1]; rfl
    have hl2 := trim_len l [34]
    have HR1 : Hid (Rd w w1 rb 271 [] (Lib.trimPrefix l [34])) := h2
    clear h1 h2 HS
    generalize Lib.trimPrefix l [34] = l1 at HQ HR1 hl2
    go_wp2_with fail
    go_loopw [3] (fun s wr => ∃ (q : Nat) (sa : Option Addr) (sc : Nat) (acc r : List UInt8), q ≤ 12 ∧ s = .slice sa q sc ∧ Hid (q = acc.length) ∧ r.length ≤ 2 ^ 40 ∧ Hid (quotedL l = quotedGo (12 - q) acc r) ∧ Hid (wr.ownsRow w.heap.size 5 1 (.slice sa q sc) q (Lib.byteCells acc)) ∧ Hid (Rd w wr rb 271 [] r)) (fun s _ => 13 - lenV s)
    case atStart => exact ⟨0, none, 0, [], l1, by omega, rfl, rfl, by omega, HQ, World.ownsRow_nil _ _ _ _, HR1⟩
    case round =>
      obtain ⟨q, sa, sc, acc, r, hq, rfl, HA, hr, HG, HO, HR⟩ := hrel
      have HTk : Hid (Calls Tryz.prog 238 #[.pointer (some ⟨rb, 0, none⟩), .string (mk [34])] wr _) := took_any rb 271 [] r [34] wr HR.out.rest
      cases hp : Lib.hasPrefix r [34] with
      | true =>
        have HG2 : Hid (quotedL l = some (acc, Lib.trimPrefix r [34])) := by
          show _ = _
          rw [HG.out, quotedGo_yes _ _ hp]
        rw [hp] at HTk
        go_wp2_with fail
        refine Calls.mono HTk.out ?_
        rintro e w2 ⟨rfl, ht⟩
        have hO2 : w2.ownsRow w.heap.size 5 1 (.slice sa q sc) q (Lib.byteCells acc) := own_turn HO.out fun k hk hkl => ht.turns.block k hkl (fun e => by have := (HO.out.lt k hk).1; omega)
        have hcv : (convert 166 9 (.slice sa q sc)).run Tryz.prog w2 = .ok (.string (mk acc)) w2 := own_string (by rw [← HA.out]; exact hO2)
        clear hO2
        go_wp2_with fail
        go_ret
        exact Or.inl ⟨_, _, by rw [HG2.out]; rfl, rfl, HR.out.trans ht⟩
      | false =>
        rw [hp, trim_no hp] at HTk
        by_cases h12 : q < 12
        · have hsub : 12 - q = (11 - q) + 1 := by omega
          go_wp2_with (first | (go_at_call 238; refine Calls.mono HTk.out ?_; rintro e w2 ⟨rfl, ht⟩) | (go_at_call 183; refine (needS_yes _ _ (by simp <;> omega)).mono ?_; rintro e w6 ⟨rfl, rfl⟩))
          refine (quotedByte_any rb r w2 ht.rest (by omega)).mono ?_
          rintro e w3 (⟨v, l3, hv, rfl, ht3⟩ | ⟨hn, rfl, ht3⟩)
          · cases hd : quotedByteL r with
            | none => rw [hd] at hv; cases hv
            | some x =>
              obtain ⟨b, r'⟩ := x
              rw [hd] at hv
              have HG2 : Hid (quotedL l = quotedGo (11 - q) (acc ++ [b]) r') := by
                show _ = _
                rw [HG.out, hsub, quotedGo_some _ _ hp hd]
              simp [bytP] at hv
              obtain ⟨rfl, rfl⟩ := hv
              have hr' := quotedByteL_len hd
              have HR3 : Hid (Rd w w3 rb 271 [] r') := (HR.out.trans ht).trans ht3
              have HO3 : Hid (w3.ownsRow w.heap.size 5 1 (.slice sa q sc) q (Lib.byteCells acc)) := own_turn HO.out fun k hk hkl => (ht.trans ht3).turns.block k hkl (fun e => by have := (HO.out.lt k hk).1; omega)
              have hs3 : w.heap.size ≤ w3.heap.size := HR3.out.turns.size
              clear hd ht ht3
              go_wp2_with (at_builtin; refine wpList_append_own_at _ rfl _ _ 166 rfl w.heap.size 5 i0 _ 1 1 Tryz.underlying166 hi0 hz0 hz1 hz2 rfl (by decide) _ _ _ rfl (HO3.out.alloc _) ⟨w3.heap.size, 0, none⟩ 1 1 [.int .u8 b.toNat] rfl rfl new_one (fun u hu => by simp at hu; rw [hu]; rfl) (by unfold maxLen; omega) (by omega) (by simp; omega) ?_; intro v' w6 hown6 hgrow6 _ _; obtain ⟨sa', sc', rfl⟩ := own_form hown6; have HO6 : Hid (w6.ownsRow w.heap.size 5 1 (.slice sa' (q + 1) sc') (q + 1) (Lib.byteCells acc ++ [.int .u8 b.toNat])) := hown6; have HR6 : Hid (Rd w w6 rb 271 [] r') := (HR3.out.below ((Below.refl _ _).alloc (Nat.le_refl _) _)).grown hgrow6 (fun k hk => (HO3.out.lt k hk).1) hrb; clear hown6 hgrow6)
              go_roundw
              case rel =>
                refine ⟨q + 1, sa', sc', acc ++ [b], r', by omega, rfl, ?_, by omega, ?_, ?_, HR6⟩
                · show _ = _; rw [HA.out]; simp
                · show _ = _; rw [HG2.out, show 12 - (q + 1) = 11 - q by omega]
                · have e : Lib.byteCells (acc ++ [b]) = Lib.byteCells acc ++ [.int .u8 b.toNat] := by simp [Lib.byteCells]
                  rw [e]; exact HO6
              case measure => simp [lenV]; omega
          · have hnn : quotedByteL r = none := by
              cases h2 : quotedByteL r with
              | none => rfl
              | some y => rw [h2] at hn; cases hn
            have HG2 : Hid (quotedL l = none) := by
              show _ = _
              rw [HG.out, hsub, quotedGo_none _ _ hp hnn]
            go_wp2_with fail
            exact ⟨rfl, Or.inr ⟨by rw [HG2.out]; rfl, rfl, (HR.out.trans ht).turns.trans' ht3⟩⟩
        · have HG2 : Hid (quotedL l = none) := by
            show _ = _
            rw [HG.out, show 12 - q = 0 by omega, quotedGo_end _ hp]
          go_wp2_with (first | (go_at_call 238; refine Calls.mono HTk.out ?_; rintro e w2 ⟨rfl, ht⟩) | (go_at_call 183; refine (needS_no _ _ (by simp <;> omega)).mono ?_; rintro e w6 ⟨rfl, rfl⟩))
          exact ⟨rfl, Or.inr ⟨by rw [HG2.out]; rfl, rfl, (HR.out.trans ht).turns⟩⟩
  · have HQ : Hid (quotedL l = none) := by show _ = _; unfold quotedL; rw [h1]; rfl
    go_wp2_with fail
    exact ⟨rfl, Or.inr ⟨by rw [HQ.out]; rfl, rfl, h2.turns⟩⟩

/-- How a reader's call ends that gives a list of numbers, in memory of its own. -/
def LEnds (w : World) (rb ty : Nat) (tail : List Value) (r : Option (List Int × List UInt8)) (e : Ending) (w' : World) : Prop :=
  (∃ xs l sa sc, r = some (xs, l) ∧ e = .returned (.slice sa xs.length sc) ∧ Rd w w' rb ty tail l ∧ w'.ownsRow w.heap.size 3 1 (.slice sa xs.length sc) xs.length (xs.map (Value.int .i64))) ∨ (r = none ∧ e = .panicked wrongS ∧ Turns w w' (fun k => k = rb))

set_option maxHeartbeats 3200000 in
set_option maxRecDepth 20000 in
theorem list_any (rb : Nat) (l : List UInt8) (w : World) (hR : RdAt w rb 271 [] l) (hl : l.length ≤ 2 ^ 40) (hG : Glob w) (hrb8 : 11 ≤ rb) :
    Calls Tryz.prog 286 #[.pointer (some ⟨rb, 0, none⟩)] w (LEnds w rb 271 [] (listL l)) := by
  obtain ⟨i0, hi0, hz0, hz1, hz2⟩ := info_parts Tryz.info3
  have hrb := hR.lt
  have HGl : Hid (Glob w) := hG
  have HS : Hid (Calls Tryz.prog 186 #[.pointer (some ⟨rb, 0, none⟩), .string (mk [91])] w _) := skip_any rb 271 [] l [91] w hR
  clear hR hG
  go_enter Tryz.func286, Tryz.ntmps286
  go_wp2_with fail
  refine Calls.mono HS.out ?_
  rintro e w1 ⟨⟨h1, rfl⟩ | ⟨h1, rfl⟩, h2⟩
  · have HQ : Hid (listL l = listGo 4 [] (Lib.trimPrefix l [91])) := by show _ = _; unfold listL; rw [h1]; rfl
    have hl2 := trim_len l [91]
    have HR1 : Hid (Rd w w1 rb 271 [] (Lib.trimPrefix l [91])) := h2
    clear h1 h2 HS
    generalize Lib.trimPrefix l [91] = l1 at HQ HR1 hl2
    go_wp2_with fail
    go_loopw [3] (fun s wr => ∃ (q : Nat) (sa : Option Addr) (sc : Nat) (acc : List Int) (r : List UInt8), q ≤ 4 ∧ s = .slice sa q sc ∧ Hid (q = acc.length) ∧ r.length ≤ 2 ^ 40 ∧ Hid (listL l = listGo (4 - q) acc r) ∧ Hid (wr.ownsRow w.heap.size 3 1 (.slice sa q sc) q (acc.map (Value.int .i64))) ∧ Hid (Rd w wr rb 271 [] r)) (fun s _ => 5 - lenV s)
    case atStart => exact ⟨0, none, 0, [], l1, by omega, rfl, rfl, by omega, HQ, World.ownsRow_nil _ _ _ _, HR1⟩
    case round =>
      obtain ⟨q, sa, sc, acc, r, hq, rfl, HA, hr, HG, HO, HR⟩ := hrel
      have HTk : Hid (Calls Tryz.prog 238 #[.pointer (some ⟨rb, 0, none⟩), .string (mk [93])] wr _) := took_any rb 271 [] r [93] wr HR.out.rest
      cases hp : Lib.hasPrefix r [93] with
      | true =>
        have HG2 : Hid (listL l = some (acc, Lib.trimPrefix r [93])) := by
          show _ = _
          rw [HG.out, listGo_yes _ _ hp]
        rw [hp] at HTk
        go_wp2_with (go_at_call 238; refine Calls.mono HTk.out ?_; rintro e w2 ⟨rfl, ht⟩)
        go_ret
        have hO2 : w2.ownsRow w.heap.size 3 1 (.slice sa q sc) q (acc.map (Value.int .i64)) := own_turn HO.out fun k hk hkl => ht.turns.block k hkl (fun e => by have := (HO.out.lt k hk).1; omega)
        exact Or.inl ⟨acc, _, sa, sc, HG2.out, by rw [← HA.out]; rfl, HR.out.trans ht, by rw [← HA.out]; exact hO2⟩
      | false =>
        rw [hp, trim_no hp] at HTk
        by_cases h4 : q < 4
        · have hsub : 4 - q = (3 - q) + 1 := by omega
          -- what comes behind the comma
          have HDec : Hid (∀ w2 r2, Rd w w2 rb 271 [] r2 → r2.length ≤ 2 ^ 40 → (acc = [] ∧ r2 = r ∨ acc ≠ [] ∧ Lib.hasPrefix r [44] = true ∧ r2 = Lib.trimPrefix r [44]) → Calls Tryz.prog 282 #[.pointer (some ⟨rb, 0, none⟩)] w2 fun e w3 => (∃ x r3, listL l = listGo (3 - q) (acc ++ [x]) r3 ∧ r3.length ≤ 2 ^ 40 ∧ e = .returned (.int .i64 x) ∧ Rd w w3 rb 271 [] r3 ∧ Turns w2 w3 (fun k => k = rb)) ∨ (listL l = none ∧ e = .panicked wrongS ∧ Turns w w3 (fun k => k = rb))) := fun w2 r2 h2 hl2 hc => by
            refine (decimal_any rb r2 w2 h2.rest hl2 (HGl.out.turns h2.turns (fun k hk => by subst hk; exact hrb8)) hrb8).mono ?_
            rintro e w3 (⟨v, l3, hv, rfl, ht3⟩ | ⟨hn, rfl, ht3⟩)
            · cases hd : decimalL r2 with
              | none => rw [hd] at hv; cases hv
              | some y =>
                obtain ⟨x, r3⟩ := y
                rw [hd] at hv
                simp [intP] at hv
                obtain ⟨rfl, rfl⟩ := hv
                have := (decimalL_len hd).1
                exact Or.inl ⟨x, r3, by rw [HG.out, hsub, listGo_some _ _ hp hc hd], by omega, rfl, h2.trans ht3, ht3.turns⟩
            · refine Or.inr ⟨?_, rfl, h2.turns.trans' ht3⟩
              have hnn : decimalL r2 = none := by
                cases hd : decimalL r2 with
                | none => rfl
                | some y => rw [hd] at hn; cases hn
              rw [HG.out, hsub, listGo_none _ _ hp hc hnn]
          by_cases h0 : q = 0
          · have HAc : Hid (acc = []) := List.length_eq_zero_iff.1 (by rw [← HA.out]; exact h0)
            have hg1 : ¬ (0 < q) := by omega
            clear h0
            go_wp2_with fail
            refine Calls.mono HTk.out ?_
            rintro e w2 ⟨rfl, ht⟩
            go_wp2_with fail
            refine (needS_yes _ _ (by simp <;> omega)).mono ?_
            rintro e w6 ⟨rfl, rfl⟩
            go_wp2_with fail
            have HO2 : Hid (w2.ownsRow w.heap.size 3 1 (.slice sa q sc) q (acc.map (Value.int .i64))) := own_turn HO.out fun k hk hkl => ht.turns.block k hkl (fun e => by have := (HO.out.lt k hk).1; omega)
            refine (HDec.out w2 r (HR.out.trans ht) hr (Or.inl ⟨HAc.out, rfl⟩)).mono ?_
            clear ht
            rintro e w3 (⟨x, r3, hg3, hr3l, rfl, hr3, ht3⟩ | ⟨hn3, rfl, ht3⟩)
            · have hs3 : w.heap.size ≤ w3.heap.size := hr3.turns.size
              have HR3 : Hid (Rd w w3 rb 271 [] r3) := hr3
              have HO3 : Hid (w3.ownsRow w.heap.size 3 1 (.slice sa q sc) q (acc.map (Value.int .i64))) := own_turn HO2.out fun k hk hkl => ht3.block k hkl (fun e => by have := (HO2.out.lt k hk).1; omega)
              have HG3 : Hid (listL l = listGo (3 - q) (acc ++ [x]) r3) := hg3
              clear hr3 ht3 hg3
              go_wp2_with (at_builtin; refine wpList_append_own_at _ rfl _ _ 54 rfl w.heap.size 3 i0 _ 1 8 Tryz.underlying54 hi0 hz0 hz1 hz2 rfl (by decide) _ _ _ rfl (HO3.out.alloc _) ⟨w3.heap.size, 0, none⟩ 1 1 [.int .i64 x] rfl rfl new_one (fun u hu => by simp at hu; rw [hu]; rfl) (by unfold maxLen; omega) (by omega) (by simp; omega) ?_; intro v' w6 hown6 hgrow6 _ _; obtain ⟨sa', sc', rfl⟩ := own_form hown6; have HO6 : Hid (w6.ownsRow w.heap.size 3 1 (.slice sa' (q + 1) sc') (q + 1) (acc.map (Value.int .i64) ++ [.int .i64 x])) := hown6; have HR6 : Hid (Rd w w6 rb 271 [] r3) := (HR3.out.below ((Below.refl _ _).alloc (Nat.le_refl _) _)).grown hgrow6 (fun k hk => (HO3.out.lt k hk).1) hrb; clear hown6 hgrow6)
              go_roundw
              case rel =>
                refine ⟨q + 1, sa', sc', acc ++ [x], r3, by omega, rfl, ?_, hr3l, ?_, ?_, HR6⟩
                · show _ = _; rw [HA.out]; simp
                · show _ = _; rw [HG3.out, show 4 - (q + 1) = 3 - q by omega]
                · have e : (acc ++ [x]).map (Value.int .i64) = acc.map (Value.int .i64) ++ [.int .i64 x] := by simp
                  rw [e]; exact HO6
              case measure => simp [lenV]; omega
            · go_wp2_with fail
              exact ⟨rfl, Or.inr ⟨hn3, rfl, ht3⟩⟩
          · have HAc : Hid (acc ≠ []) := fun e => h0 (by rw [HA.out, e]; rfl)
            have hg1 : 0 < q := by omega
            have hrl := trim_len r [44]
            clear h0
            go_wp2_with fail
            refine Calls.mono HTk.out ?_
            rintro e w2 ⟨rfl, ht⟩
            go_wp2_with fail
            refine (needS_yes _ _ (by simp <;> omega)).mono ?_
            rintro e w6 ⟨rfl, rfl⟩
            go_wp2_with fail
            refine (skip_any rb 271 [] r [44] w2 ht.rest).mono ?_
            rintro e w9 ⟨⟨hc1, rfl⟩ | ⟨hc1, rfl⟩, hc2⟩
            · have HO2 : Hid (w9.ownsRow w.heap.size 3 1 (.slice sa q sc) q (acc.map (Value.int .i64))) := own_turn HO.out fun k hk hkl => (ht.trans hc2).turns.block k hkl (fun e => by have := (HO.out.lt k hk).1; omega)
              have HC : Hid (Calls Tryz.prog 282 #[.pointer (some ⟨rb, 0, none⟩)] w9 _) := HDec.out w9 (Lib.trimPrefix r [44]) ((HR.out.trans ht).trans hc2) (by omega) (Or.inr ⟨HAc.out, hc1, rfl⟩)
              clear ht hc2 hc1
              go_wp2_with fail
              refine Calls.mono HC.out ?_
              rintro e w3 (⟨x, r3, hg3, hr3l, rfl, hr3, ht3⟩ | ⟨hn3, rfl, ht3⟩)
              · have hs3 : w.heap.size ≤ w3.heap.size := hr3.turns.size
                have HR3 : Hid (Rd w w3 rb 271 [] r3) := hr3
                have HO3 : Hid (w3.ownsRow w.heap.size 3 1 (.slice sa q sc) q (acc.map (Value.int .i64))) := own_turn HO2.out fun k hk hkl => ht3.block k hkl (fun e => by have := (HO2.out.lt k hk).1; omega)
                have HG3 : Hid (listL l = listGo (3 - q) (acc ++ [x]) r3) := hg3
                clear hr3 ht3 hg3
                go_wp2_with (at_builtin; refine wpList_append_own_at _ rfl _ _ 54 rfl w.heap.size 3 i0 _ 1 8 Tryz.underlying54 hi0 hz0 hz1 hz2 rfl (by decide) _ _ _ rfl (HO3.out.alloc _) ⟨w3.heap.size, 0, none⟩ 1 1 [.int .i64 x] rfl rfl new_one (fun u hu => by simp at hu; rw [hu]; rfl) (by unfold maxLen; omega) (by omega) (by simp; omega) ?_; intro v' w6 hown6 hgrow6 _ _; obtain ⟨sa', sc', rfl⟩ := own_form hown6; have HO6 : Hid (w6.ownsRow w.heap.size 3 1 (.slice sa' (q + 1) sc') (q + 1) (acc.map (Value.int .i64) ++ [.int .i64 x])) := hown6; have HR6 : Hid (Rd w w6 rb 271 [] r3) := (HR3.out.below ((Below.refl _ _).alloc (Nat.le_refl _) _)).grown hgrow6 (fun k hk => (HO3.out.lt k hk).1) hrb; clear hown6 hgrow6)
                go_roundw
                case rel =>
                  refine ⟨q + 1, sa', sc', acc ++ [x], r3, by omega, rfl, ?_, hr3l, ?_, ?_, HR6⟩
                  · show _ = _; rw [HA.out]; simp
                  · show _ = _; rw [HG3.out, show 4 - (q + 1) = 3 - q by omega]
                  · have e : (acc ++ [x]).map (Value.int .i64) = acc.map (Value.int .i64) ++ [.int .i64 x] := by simp
                    rw [e]; exact HO6
                case measure => simp [lenV]; omega
              · go_wp2_with fail
                exact ⟨rfl, Or.inr ⟨hn3, rfl, ht3⟩⟩
            · go_wp2_with fail
              exact ⟨rfl, Or.inr ⟨by rw [HG.out, hsub, listGo_comma _ _ hp HAc.out hc1], rfl, ((HR.out.trans ht).trans hc2).turns⟩⟩
        · have HG2 : Hid (listL l = none) := by
            show _ = _
            rw [HG.out, show 4 - q = 0 by omega, listGo_end _ hp]
          go_wp2_with (first | (go_at_call 238; refine Calls.mono HTk.out ?_; rintro e w2 ⟨rfl, ht⟩) | (go_at_call 183; refine (needS_no _ _ (by simp <;> omega)).mono ?_; rintro e w6 ⟨rfl, rfl⟩))
          exact ⟨rfl, Or.inr ⟨HG2.out, rfl, (HR.out.trans ht).turns⟩⟩
  · have HQ : Hid (listL l = none) := by show _ = _; unfold listL; rw [h1]; rfl
    go_wp2_with fail
    exact ⟨rfl, Or.inr ⟨HQ.out, rfl, h2.turns⟩⟩

end Go.Proofs.YthkbeaffkcfgiabGreatDoor

namespace Go.Proofs.YthkbeaffkcfgiabGreatDoor
open Go.RowKit

/-- A value of a scene. -/
structure SV where
  k : Nat
  n : Int
  s : List UInt8
  l : List Int

/-- Its cells, its list in lv. -/
def svCells (x : SV) (lv : Value) : List Value := [.int .i64 x.k, .int .i64 x.n, .string (mk x.s), .int .i64 0, .int .i64 0, lv]

def valueL (kd : Nat) (l : List UInt8) : Option (SV × List UInt8) :=
  if kd = 1 then (decimalL l).map fun x => (⟨1, x.1, [], []⟩, x.2)
  else if kd = 2 then (truthL l).map fun x => (⟨2, x.1, [], []⟩, x.2)
  else if kd = 3 then (quotedL l).map fun x => (⟨3, 0, x.1, []⟩, x.2)
  else if kd = 4 then (refL l).map fun x => (⟨4, x.1, [], []⟩, x.2)
  else (listL l).map fun x => (⟨kd, 0, [], x.1⟩, x.2)

/-- How the reading of a value ends. -/
def VEnds (w : World) (rb ty : Nat) (tail : List Value) (r : Option (SV × List UInt8)) (e : Ending) (w' : World) : Prop :=
  (∃ x l lv, r = some (x, l) ∧ e = .returned (.agg (svCells x lv).toArray) ∧ Rd w w' rb ty tail l ∧ w'.ownsRow w.heap.size 3 1 lv x.l.length (x.l.map (Value.int .i64))) ∨ (r = none ∧ e = .panicked wrongS ∧ Turns w w' (fun k => k = rb))

theorem row6 {w : World} {b : Nat} {a0 a1 a2 a3 a4 a5 : Value} {t : TypeId} (h : w.heap[b]? = some (.cells #[a0, a1, a2, a3, a4, a5] t (0, 0))) :
    w.cell? ⟨b, 0, none⟩ = some a0 ∧ w.cell? ⟨b, 1, none⟩ = some a1 ∧ w.cell? ⟨b, 2, none⟩ = some a2 ∧ w.cell? ⟨b, 3, none⟩ = some a3 ∧ w.cell? ⟨b, 4, none⟩ = some a4 ∧ w.cell? ⟨b, 5, none⟩ = some a5 ∧
    w.frozen? ⟨b, 0, none⟩ = false ∧ w.frozen? ⟨b, 1, none⟩ = false ∧ w.frozen? ⟨b, 2, none⟩ = false ∧ w.frozen? ⟨b, 3, none⟩ = false ∧ w.frozen? ⟨b, 4, none⟩ = false ∧ w.frozen? ⟨b, 5, none⟩ = false := by
  refine ⟨?_, ?_, ?_, ?_, ?_, ?_, frozen_row h _, frozen_row h _, frozen_row h _, frozen_row h _, frozen_row h _, frozen_row h _⟩ <;> rw [cell_row h] <;> rfl

theorem heapSet {w : World} {b o k : Nat} {u : Value} (h : k ≠ b) : (w.setCell ⟨b, o, none⟩ u).heap[k]? = w.heap[k]? := Below.heap_setCell _ _ _ _ h

theorem Rd.set {w w1 : World} {rb ty : Nat} {tail : List Value} {l : List UInt8} (h : Rd w w1 rb ty tail l) (b o : Nat) (u : Value) (hb : w.heap.size ≤ b) (hrb : rb < w.heap.size) : Rd w (w1.setCell ⟨b, o, none⟩ u) rb ty tail l :=
  ⟨h.rest.keep (Below.heap_setCell _ _ _ _ (by show rb ≠ b; omega)), h.turns.set b o u (fun h => by omega)⟩

set_option maxHeartbeats 3200000 in
set_option maxRecDepth 20000 in
theorem value1_any (rb : Nat) (l : List UInt8) (w : World) (hR : RdAt w rb 271 [] l) (hl : l.length ≤ 2 ^ 40) (hG : Glob w) (hrb8 : 11 ≤ rb) :
    Calls Tryz.prog 268 #[.pointer (some ⟨rb, 0, none⟩), .int .i64 1] w (VEnds w rb 271 [] (valueL 1 l)) := by
  have hrb := hR.lt
  obtain ⟨W1, hW1⟩ : ∃ W1, W1 = (w.alloc (.cells #[.int .i64 0, .int .i64 0, .string ⟨#[]⟩, .int .i64 0, .int .i64 0, .slice none 0 0] 56)).alloc (.cells #[.int .i64 1, .int .i64 0, .string ⟨#[]⟩, .int .i64 0, .int .i64 0, .slice none 0 0] 56) := ⟨_, rfl⟩
  have hB1 : Below w.heap.size w W1 := by rw [hW1]; exact below_two _ _ _
  have hs1 : W1.heap.size = w.heap.size + 2 := by rw [hW1]; simp
  have HC : Hid (Calls Tryz.prog 282 #[.pointer (some ⟨rb, 0, none⟩)] W1 _) := decimal_any rb l W1 (hR.below hB1) hl (hG.below hG.size hB1 hB1.size) hrb8
  have HVa : Hid (valueL 1 l = (decimalL l).map fun x => (⟨1, x.1, [], []⟩, x.2)) := rfl
  rw [hW1] at HC
  clear hR hG
  go_enter Tryz.func268, Tryz.ntmps268
  go_wp2_with fail
  refine Calls.mono HC.out ?_
  rw [← hW1]
  rintro e w2 (⟨v, l3, hv, rfl, ht3⟩ | ⟨hn, rfl, ht3⟩)
  · obtain ⟨n, r, hd⟩ : ∃ n r, decimalL l = some (n, r) := by
      cases hd : decimalL l with
      | none => rw [hd] at hv; cases hv
      | some x => exact ⟨x.1, x.2, rfl⟩
    have HV : Hid (valueL 1 l = some (⟨1, n, [], []⟩, r)) := by show _ = _; rw [HVa.out, hd]; rfl
    rw [hd] at hv
    simp [intP] at hv
    obtain ⟨rfl, rfl⟩ := hv
    have hb1 : w2.heap[w.heap.size]? = some (.cells #[.int .i64 0, .int .i64 0, .string ⟨#[]⟩, .int .i64 0, .int .i64 0, .slice none 0 0] 56 (0, 0)) := by
      rw [ht3.turns.block _ (by omega) (by omega), hW1, Below.heap_alloc _ _ _ (by simp)]; exact heap_alloc_at rfl _
    have hb2 : w2.heap[w.heap.size + 1]? = some (.cells #[.int .i64 1, .int .i64 0, .string ⟨#[]⟩, .int .i64 0, .int .i64 0, .slice none 0 0] 56 (0, 0)) := by
      rw [ht3.turns.block _ (by omega) (by omega), hW1]; exact heap_alloc_at (by simp) _
    obtain ⟨p0, p1, p2, p3, p4, p5, f0, f1, f2, f3, f4, f5⟩ := row6 hb1
    obtain ⟨q0, q1, q2, q3, q4, q5, g0, g1, g2, g3, g4, g5⟩ := row6 hb2
    clear hb1 hb2
    have HT : Hid (Rd w w2 rb 271 [] r) := ⟨ht3.rest, (Turns.ofBelow _ hB1).trans' ht3.turns⟩
    clear ht3 hd
    go_wp2_with fail
    refine bodyPost_ret (v := .agg (svCells ⟨1, n, [], []⟩ (.slice none 0 0)).toArray) ?_ rfl (Or.inl ⟨_, r, _, HV.out, rfl, ?_, World.ownsRow_nil _ _ _ _⟩)
    · simp [results, Tryz.results268, go_sem, p0, p1, p2, p3, p4, p5, svCells, mk]
    · repeat (refine Rd.set ?_ _ _ _ (by omega) hrb)
      exact HT.out
  · go_wp2_with fail
    refine ⟨rfl, Or.inr ⟨?_, rfl, (Turns.ofBelow _ hB1).trans' ht3⟩⟩
    cases hd : decimalL l with
    | none => rw [HVa.out, hd]; rfl
    | some x => rw [hd] at hn; cases hn

set_option maxHeartbeats 3200000 in
set_option maxRecDepth 20000 in
theorem value2_any (rb : Nat) (l : List UInt8) (w : World) (hR : RdAt w rb 271 [] l) (hl : l.length ≤ 2 ^ 40) (hrb8 : 11 ≤ rb) :
    Calls Tryz.prog 268 #[.pointer (some ⟨rb, 0, none⟩), .int .i64 2] w (VEnds w rb 271 [] (valueL 2 l)) := by
  have hrb := hR.lt
  obtain ⟨W1, hW1⟩ : ∃ W1, W1 = (w.alloc (.cells #[.int .i64 0, .int .i64 0, .string ⟨#[]⟩, .int .i64 0, .int .i64 0, .slice none 0 0] 56)).alloc (.cells #[.int .i64 2, .int .i64 0, .string ⟨#[]⟩, .int .i64 0, .int .i64 0, .slice none 0 0] 56) := ⟨_, rfl⟩
  have hB1 : Below w.heap.size w W1 := by rw [hW1]; exact below_two _ _ _
  have hs1 : W1.heap.size = w.heap.size + 2 := by rw [hW1]; simp
  have HC : Hid (Calls Tryz.prog 283 #[.pointer (some ⟨rb, 0, none⟩)] W1 _) := truth_any rb l W1 (hR.below hB1)
  have HVa : Hid (valueL 2 l = (truthL l).map fun x => (⟨2, x.1, [], []⟩, x.2)) := rfl
  rw [hW1] at HC
  clear hR
  go_enter Tryz.func268, Tryz.ntmps268
  go_wp2_with fail
  refine Calls.mono HC.out ?_
  rw [← hW1]
  rintro e w2 (⟨v, l3, hv, rfl, ht3⟩ | ⟨hn, rfl, ht3⟩)
  · obtain ⟨n, r, hd⟩ : ∃ n r, truthL l = some (n, r) := by
      cases hd : truthL l with
      | none => rw [hd] at hv; cases hv
      | some x => exact ⟨x.1, x.2, rfl⟩
    have HV : Hid (valueL 2 l = some (⟨2, n, [], []⟩, r)) := by show _ = _; rw [HVa.out, hd]; rfl
    rw [hd] at hv
    simp [intP] at hv
    obtain ⟨rfl, rfl⟩ := hv
    have hb1 : w2.heap[w.heap.size]? = some (.cells #[.int .i64 0, .int .i64 0, .string ⟨#[]⟩, .int .i64 0, .int .i64 0, .slice none 0 0] 56 (0, 0)) := by
      rw [ht3.turns.block _ (by omega) (by omega), hW1, Below.heap_alloc _ _ _ (by simp)]; exact heap_alloc_at rfl _
    have hb2 : w2.heap[w.heap.size + 1]? = some (.cells #[.int .i64 2, .int .i64 0, .string ⟨#[]⟩, .int .i64 0, .int .i64 0, .slice none 0 0] 56 (0, 0)) := by
      rw [ht3.turns.block _ (by omega) (by omega), hW1]; exact heap_alloc_at (by simp) _
    obtain ⟨p0, p1, p2, p3, p4, p5, f0, f1, f2, f3, f4, f5⟩ := row6 hb1
    obtain ⟨q0, q1, q2, q3, q4, q5, g0, g1, g2, g3, g4, g5⟩ := row6 hb2
    clear hb1 hb2
    have HT : Hid (Rd w w2 rb 271 [] r) := ⟨ht3.rest, (Turns.ofBelow _ hB1).trans' ht3.turns⟩
    clear ht3 hd
    go_wp2_with fail
    refine bodyPost_ret (v := .agg (svCells ⟨2, n, [], []⟩ (.slice none 0 0)).toArray) ?_ rfl (Or.inl ⟨_, r, _, HV.out, rfl, ?_, World.ownsRow_nil _ _ _ _⟩)
    · simp [results, Tryz.results268, go_sem, p0, p1, p2, p3, p4, p5, svCells, mk]
    · repeat (refine Rd.set ?_ _ _ _ (by omega) hrb)
      exact HT.out
  · go_wp2_with fail
    refine ⟨rfl, Or.inr ⟨?_, rfl, (Turns.ofBelow _ hB1).trans' ht3⟩⟩
    cases hd : truthL l with
    | none => rw [HVa.out, hd]; rfl
    | some x => rw [hd] at hn; cases hn

set_option maxHeartbeats 3200000 in
set_option maxRecDepth 20000 in
theorem value3_any (rb : Nat) (l : List UInt8) (w : World) (hR : RdAt w rb 271 [] l) (hl : l.length ≤ 2 ^ 40) (hrb8 : 11 ≤ rb) :
    Calls Tryz.prog 268 #[.pointer (some ⟨rb, 0, none⟩), .int .i64 3] w (VEnds w rb 271 [] (valueL 3 l)) := by
  have hrb := hR.lt
  obtain ⟨W1, hW1⟩ : ∃ W1, W1 = (w.alloc (.cells #[.int .i64 0, .int .i64 0, .string ⟨#[]⟩, .int .i64 0, .int .i64 0, .slice none 0 0] 56)).alloc (.cells #[.int .i64 3, .int .i64 0, .string ⟨#[]⟩, .int .i64 0, .int .i64 0, .slice none 0 0] 56) := ⟨_, rfl⟩
  have hB1 : Below w.heap.size w W1 := by rw [hW1]; exact below_two _ _ _
  have hs1 : W1.heap.size = w.heap.size + 2 := by rw [hW1]; simp
  have HC : Hid (Calls Tryz.prog 284 #[.pointer (some ⟨rb, 0, none⟩)] W1 _) := quoted_any rb l W1 (hR.below hB1) hl
  have HVa : Hid (valueL 3 l = (quotedL l).map fun x => (⟨3, 0, x.1, []⟩, x.2)) := rfl
  rw [hW1] at HC
  clear hR
  go_enter Tryz.func268, Tryz.ntmps268
  go_wp2_with fail
  refine Calls.mono HC.out ?_
  rw [← hW1]
  rintro e w2 (⟨v, l3, hv, rfl, ht3⟩ | ⟨hn, rfl, ht3⟩)
  · obtain ⟨n, r, hd⟩ : ∃ n r, quotedL l = some (n, r) := by
      cases hd : quotedL l with
      | none => rw [hd] at hv; cases hv
      | some x => exact ⟨x.1, x.2, rfl⟩
    have HV : Hid (valueL 3 l = some (⟨3, 0, n, []⟩, r)) := by show _ = _; rw [HVa.out, hd]; rfl
    rw [hd] at hv
    simp [strP] at hv
    obtain ⟨rfl, rfl⟩ := hv
    have hb1 : w2.heap[w.heap.size]? = some (.cells #[.int .i64 0, .int .i64 0, .string ⟨#[]⟩, .int .i64 0, .int .i64 0, .slice none 0 0] 56 (0, 0)) := by
      rw [ht3.turns.block _ (by omega) (by omega), hW1, Below.heap_alloc _ _ _ (by simp)]; exact heap_alloc_at rfl _
    have hb2 : w2.heap[w.heap.size + 1]? = some (.cells #[.int .i64 3, .int .i64 0, .string ⟨#[]⟩, .int .i64 0, .int .i64 0, .slice none 0 0] 56 (0, 0)) := by
      rw [ht3.turns.block _ (by omega) (by omega), hW1]; exact heap_alloc_at (by simp) _
    obtain ⟨p0, p1, p2, p3, p4, p5, f0, f1, f2, f3, f4, f5⟩ := row6 hb1
    obtain ⟨q0, q1, q2, q3, q4, q5, g0, g1, g2, g3, g4, g5⟩ := row6 hb2
    clear hb1 hb2
    have HT : Hid (Rd w w2 rb 271 [] r) := ⟨ht3.rest, (Turns.ofBelow _ hB1).trans' ht3.turns⟩
    clear ht3 hd
    go_wp2_with fail
    refine bodyPost_ret (v := .agg (svCells ⟨3, 0, n, []⟩ (.slice none 0 0)).toArray) ?_ rfl (Or.inl ⟨_, r, _, HV.out, rfl, ?_, World.ownsRow_nil _ _ _ _⟩)
    · simp [results, Tryz.results268, go_sem, p0, p1, p2, p3, p4, p5, svCells, mk]
    · repeat (refine Rd.set ?_ _ _ _ (by omega) hrb)
      exact HT.out
  · go_wp2_with fail
    refine ⟨rfl, Or.inr ⟨?_, rfl, (Turns.ofBelow _ hB1).trans' ht3⟩⟩
    cases hd : quotedL l with
    | none => rw [HVa.out, hd]; rfl
    | some x => rw [hd] at hn; cases hn

set_option maxHeartbeats 3200000 in
set_option maxRecDepth 20000 in
theorem value4_any (rb : Nat) (l : List UInt8) (w : World) (hR : RdAt w rb 271 [] l) (hl : l.length ≤ 2 ^ 40) (hG : Glob w) (hrb8 : 11 ≤ rb) :
    Calls Tryz.prog 268 #[.pointer (some ⟨rb, 0, none⟩), .int .i64 4] w (VEnds w rb 271 [] (valueL 4 l)) := by
  have hrb := hR.lt
  obtain ⟨W1, hW1⟩ : ∃ W1, W1 = (w.alloc (.cells #[.int .i64 0, .int .i64 0, .string ⟨#[]⟩, .int .i64 0, .int .i64 0, .slice none 0 0] 56)).alloc (.cells #[.int .i64 4, .int .i64 0, .string ⟨#[]⟩, .int .i64 0, .int .i64 0, .slice none 0 0] 56) := ⟨_, rfl⟩
  have hB1 : Below w.heap.size w W1 := by rw [hW1]; exact below_two _ _ _
  have hs1 : W1.heap.size = w.heap.size + 2 := by rw [hW1]; simp
  have HC : Hid (Calls Tryz.prog 285 #[.pointer (some ⟨rb, 0, none⟩)] W1 _) := ref_any rb l W1 (hR.below hB1) hl (hG.below hG.size hB1 hB1.size) hrb8
  have HVa : Hid (valueL 4 l = (refL l).map fun x => (⟨4, x.1, [], []⟩, x.2)) := rfl
  rw [hW1] at HC
  clear hR hG
  go_enter Tryz.func268, Tryz.ntmps268
  go_wp2_with fail
  refine Calls.mono HC.out ?_
  rw [← hW1]
  rintro e w2 (⟨v, l3, hv, rfl, ht3⟩ | ⟨hn, rfl, ht3⟩)
  · obtain ⟨n, r, hd⟩ : ∃ n r, refL l = some (n, r) := by
      cases hd : refL l with
      | none => rw [hd] at hv; cases hv
      | some x => exact ⟨x.1, x.2, rfl⟩
    have HV : Hid (valueL 4 l = some (⟨4, n, [], []⟩, r)) := by show _ = _; rw [HVa.out, hd]; rfl
    rw [hd] at hv
    simp [intP] at hv
    obtain ⟨rfl, rfl⟩ := hv
    have hb1 : w2.heap[w.heap.size]? = some (.cells #[.int .i64 0, .int .i64 0, .string ⟨#[]⟩, .int .i64 0, .int .i64 0, .slice none 0 0] 56 (0, 0)) := by
      rw [ht3.turns.block _ (by omega) (by omega), hW1, Below.heap_alloc _ _ _ (by simp)]; exact heap_alloc_at rfl _
    have hb2 : w2.heap[w.heap.size + 1]? = some (.cells #[.int .i64 4, .int .i64 0, .string ⟨#[]⟩, .int .i64 0, .int .i64 0, .slice none 0 0] 56 (0, 0)) := by
      rw [ht3.turns.block _ (by omega) (by omega), hW1]; exact heap_alloc_at (by simp) _
    obtain ⟨p0, p1, p2, p3, p4, p5, f0, f1, f2, f3, f4, f5⟩ := row6 hb1
    obtain ⟨q0, q1, q2, q3, q4, q5, g0, g1, g2, g3, g4, g5⟩ := row6 hb2
    clear hb1 hb2
    have HT : Hid (Rd w w2 rb 271 [] r) := ⟨ht3.rest, (Turns.ofBelow _ hB1).trans' ht3.turns⟩
    clear ht3 hd
    go_wp2_with fail
    refine bodyPost_ret (v := .agg (svCells ⟨4, n, [], []⟩ (.slice none 0 0)).toArray) ?_ rfl (Or.inl ⟨_, r, _, HV.out, rfl, ?_, World.ownsRow_nil _ _ _ _⟩)
    · simp [results, Tryz.results268, go_sem, p0, p1, p2, p3, p4, p5, svCells, mk]
    · repeat (refine Rd.set ?_ _ _ _ (by omega) hrb)
      exact HT.out
  · go_wp2_with fail
    refine ⟨rfl, Or.inr ⟨?_, rfl, (Turns.ofBelow _ hB1).trans' ht3⟩⟩
    cases hd : refL l with
    | none => rw [HVa.out, hd]; rfl
    | some x => rw [hd] at hn; cases hn

set_option maxHeartbeats 3200000 in
set_option maxRecDepth 20000 in
theorem value5_any (rb : Nat) (l : List UInt8) (w : World) (hR : RdAt w rb 271 [] l) (hl : l.length ≤ 2 ^ 40) (hG : Glob w) (hrb8 : 11 ≤ rb) :
    Calls Tryz.prog 268 #[.pointer (some ⟨rb, 0, none⟩), .int .i64 5] w (VEnds w rb 271 [] (valueL 5 l)) := by
  have hrb := hR.lt
  obtain ⟨W1, hW1⟩ : ∃ W1, W1 = (w.alloc (.cells #[.int .i64 0, .int .i64 0, .string ⟨#[]⟩, .int .i64 0, .int .i64 0, .slice none 0 0] 56)).alloc (.cells #[.int .i64 5, .int .i64 0, .string ⟨#[]⟩, .int .i64 0, .int .i64 0, .slice none 0 0] 56) := ⟨_, rfl⟩
  have hB1 : Below w.heap.size w W1 := by rw [hW1]; exact below_two _ _ _
  have hs1 : W1.heap.size = w.heap.size + 2 := by rw [hW1]; simp
  have HC : Hid (Calls Tryz.prog 286 #[.pointer (some ⟨rb, 0, none⟩)] W1 _) := list_any rb l W1 (hR.below hB1) hl (hG.below hG.size hB1 hB1.size) hrb8
  have HVa : Hid (valueL 5 l = (listL l).map fun x => (⟨5, 0, [], x.1⟩, x.2)) := rfl
  rw [hW1] at HC
  clear hR hG
  go_enter Tryz.func268, Tryz.ntmps268
  go_wp2_with fail
  refine Calls.mono HC.out ?_
  rw [← hW1]
  rintro e w2 (⟨n, r, sa, sc, hd, rfl, ht3, ho⟩ | ⟨hn, rfl, ht3⟩)
  · have HV : Hid (valueL 5 l = some (⟨5, 0, [], n⟩, r)) := by show _ = _; rw [HVa.out, hd]; rfl
    have HO : Hid (w2.ownsRow W1.heap.size 3 1 (.slice sa n.length sc) n.length (n.map (Value.int .i64))) := ho
    have hb1 : w2.heap[w.heap.size]? = some (.cells #[.int .i64 0, .int .i64 0, .string ⟨#[]⟩, .int .i64 0, .int .i64 0, .slice none 0 0] 56 (0, 0)) := by
      rw [ht3.turns.block _ (by omega) (by omega), hW1, Below.heap_alloc _ _ _ (by simp)]; exact heap_alloc_at rfl _
    have hb2 : w2.heap[w.heap.size + 1]? = some (.cells #[.int .i64 5, .int .i64 0, .string ⟨#[]⟩, .int .i64 0, .int .i64 0, .slice none 0 0] 56 (0, 0)) := by
      rw [ht3.turns.block _ (by omega) (by omega), hW1]; exact heap_alloc_at (by simp) _
    obtain ⟨p0, p1, p2, p3, p4, p5, f0, f1, f2, f3, f4, f5⟩ := row6 hb1
    obtain ⟨q0, q1, q2, q3, q4, q5, g0, g1, g2, g3, g4, g5⟩ := row6 hb2
    clear hb1 hb2
    have HT : Hid (Rd w w2 rb 271 [] r) := ⟨ht3.rest, (Turns.ofBelow _ hB1).trans' ht3.turns⟩
    clear ht3 hd ho
    go_wp2_with fail
    refine bodyPost_ret (v := .agg (svCells ⟨5, 0, [], n⟩ (.slice sa n.length sc)).toArray) ?_ rfl (Or.inl ⟨_, r, _, HV.out, rfl, ?_, own_turn (own_base HO.out (by omega)) (fun k hk hkl => ?_)⟩)
    · simp [results, Tryz.results268, go_sem, p0, p1, p2, p3, p4, p5, svCells, mk]
    · repeat (refine Rd.set ?_ _ _ _ (by omega) hrb)
      exact HT.out
    · have := (HO.out.lt k hk).1
      rw [hs1] at this
      repeat (refine (heapSet (by omega)).trans ?_)
      rfl
  · go_wp2_with fail
    refine ⟨rfl, Or.inr ⟨?_, rfl, (Turns.ofBelow _ hB1).trans' ht3⟩⟩
    rw [HVa.out, hn]; rfl

/-- The reading of a value, whatever its kind. -/
theorem value_any (kd : Nat) (h1 : 1 ≤ kd) (h5 : kd ≤ 5) (rb : Nat) (l : List UInt8) (w : World) (hR : RdAt w rb 271 [] l) (hl : l.length ≤ 2 ^ 40) (hG : Glob w) (hrb8 : 11 ≤ rb) :
    Calls Tryz.prog 268 #[.pointer (some ⟨rb, 0, none⟩), .int .i64 kd] w (VEnds w rb 271 [] (valueL kd l)) := by
  have h : kd = 1 ∨ kd = 2 ∨ kd = 3 ∨ kd = 4 ∨ kd = 5 := by omega
  rcases h with rfl | rfl | rfl | rfl | rfl
  · exact value1_any rb l w hR hl hG hrb8
  · exact value2_any rb l w hR hl hrb8
  · exact value3_any rb l w hR hl hrb8
  · exact value4_any rb l w hR hl hG hrb8
  · exact value5_any rb l w hR hl hG hrb8

end Go.Proofs.YthkbeaffkcfgiabGreatDoor
