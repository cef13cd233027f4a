import Derived.Test.YthkbeaffkcfgiabGreatDoorK32
set_option linter.unusedSimpArgs false
set_option linter.unusedVariables false
namespace Go.Proofs.YthkbeaffkcfgiabGreatDoor
open Go.RowKit

/-- Which blocks an entity's values lie in. -/
def EntBlk (sl : Nat → Value) (lv : Nat → List Value) (j : Nat) : Prop := (∃ k, k < 6 ∧ (sl k).ownBlock = some j) ∨ ∃ (k i : Nat) (u : Value), k < 6 ∧ (lv k)[i]? = some u ∧ u.ownBlock = some j

theorem EntOwn.turnB {W W' : World} {B : Nat} {e : Ent} {sl : Nat → Value} {lv : Nat → List Value} (h : EntOwn W B e sl lv) (hb : ∀ j, EntBlk sl lv j → j < W.heap.size → W'.heap[j]? = W.heap[j]?) : EntOwn W' B e sl lv := fun k hk => by
  obtain ⟨h1, h2, h3⟩ := h k hk
  exact ⟨h1, own_turn h2 fun j hj hjl => hb j (Or.inl ⟨k, hk, hj⟩) hjl, fun i hi hi' => own_turn (h3 i hi hi') fun j hj hjl => hb j (Or.inr ⟨k, i, (lv k)[i], hk, List.getElem?_eq_getElem hi', hj⟩) hjl⟩

theorem FillAt.turns {w wr : World} {own : Nat → Nat} {b g lc N : Nat} {L : List CompS} {S : St} {i : Nat} {e : Ent} {hs : List (Int × Int)} {tb k f : Nat} (h : FillAt w own b g lc N L S i e hs tb k f wr) : Turns w wr (fun j => 32 ≤ own j) := h.1

set_option maxHeartbeats 6400000 in
set_option maxRecDepth 100000 in
/-- (*World).fill. -/
theorem fill_wt (own : Nat → Nat) (b g lc N i B sg scap : Nat) (lf : Int) (L : List CompS) (S : St) (e : Ent) (sl : Nat → Value) (lv : Nat → List Value) (hs : List (Int × Int)) (w : World) (hW : WT w own b g lc N L S) (hi : i < 20) (ht : S.tk i = true) (hcp : S.cp i = e.c) (hE : EntOwn w B e sl lv) (hEb : ∀ j, EntBlk sl lv j → own j = 0)
    (hS : ∀ j (h : j < hs.length), w.cell? ⟨sg, j * 2, none⟩ = some (.int .i64 hs[j].1) ∧ w.cell? ⟨sg, j * 2 + 1, none⟩ = some (.int .i64 hs[j].2)) (hsg : sg < w.heap.size) (hsg0 : own sg = 0) (hsc : hs.length ≤ scap) (hsl : hs.length ≤ 20) (hfit : EntFit L hs.length e) :
    Calls Tryz.prog 116 #[.pointer (some ⟨b, 0, none⟩), .agg #[.int .i64 ((i : Int) + 1), .int .i64 lf], .agg #[.int .u64 e.c, sl 0, sl 1, sl 2, sl 3, sl 4, sl 5], .slice (some ⟨sg, 0, none⟩) hs.length scap] w fun e' w' => e' = .returned (.tuple #[]) ∧ Turns w w' (fun j => 32 ≤ own j) ∧ ∃ own' lv', (∀ j, j < w.heap.size → own' j = own j) ∧ WT w' own' b g lc N L { S with vals := fillV L S.vals i e hs 6 0, lv := lv' } := by
  have hlt := hW.lt
  obtain ⟨tb, hTO⟩ := hW.tabOf i hi ht
  obtain ⟨W1, hW1⟩ : ∃ W1, W1 = (w.alloc (.cells #[.int .i64 ((i : Int) + 1), .int .i64 lf] 46)).alloc (.cells #[.int .u64 e.c, sl 0, sl 1, sl 2, sl 3, sl 4, sl 5] 164) := ⟨_, rfl⟩
  have hB1 : Below w.heap.size w W1 := by rw [hW1]; exact ((Below.refl _ _).alloc (Nat.le_refl _) _).alloc (by simp) _
  have hs1 : W1.heap.size = w.heap.size + 2 := by rw [hW1]; simp
  have hbh : W1.heap[w.heap.size]? = some (.cells #[.int .i64 ((i : Int) + 1), .int .i64 lf] 46 (0, 0)) := by rw [hW1, Below.heap_alloc _ _ _ (by simp)]; exact heap_alloc_at rfl _
  have hbe : W1.heap[w.heap.size + 1]? = some (.cells #[.int .u64 e.c, sl 0, sl 1, sl 2, sl 3, sl 4, sl 5] 164 (0, 0)) := by rw [hW1]; exact heap_alloc_at (by simp) _
  have HTab : Hid (Calls Tryz.prog 74 #[.pointer (some ⟨b, 0, none⟩), .agg #[.int .i64 ((i : Int) + 1), .int .i64 lf]] W1 fun e' w2 => e' = .returned (.pointer (some ⟨tb, 0, none⟩)) ∧ w2.cell? ⟨w.heap.size + 1, 1, none⟩ = some (sl 0) ∧ w2.cell? ⟨w.heap.size + 1, 2, none⟩ = some (sl 1) ∧ w2.cell? ⟨w.heap.size + 1, 3, none⟩ = some (sl 2) ∧ w2.cell? ⟨w.heap.size + 1, 4, none⟩ = some (sl 3) ∧ w2.cell? ⟨w.heap.size + 1, 5, none⟩ = some (sl 4) ∧ w2.cell? ⟨w.heap.size + 1, 6, none⟩ = some (sl 5) ∧
      Hid (w2.heap[w.heap.size]? = some (.cells #[.int .i64 ((i : Int) + 1), .int .i64 lf] 46 (0, 0)) ∧ w.heap.size < w2.heap.size) ∧ Hid (Below w.heap.size w w2) ∧ Hid (FillAt w2 own b g lc N L S i e hs tb 0 0 w2)) := by
    refine (tableOf_wt own b g lc N i tb lf L S W1 (hW.below hB1) hi ht (hTO.below hB1)).mono ?_
    rintro e' w2 ⟨rfl, hb2⟩
    have hbw : Below w.heap.size w w2 := hB1.trans (hb2.mono hB1.size)
    have q := (hb2.block (w.heap.size + 1) (by omega)).trans hbe
    have hz := hb2.size
    refine ⟨rfl, by rw [cell_row q]; rfl, by rw [cell_row q]; rfl, by rw [cell_row q]; rfl, by rw [cell_row q]; rfl, by rw [cell_row q]; rfl, by rw [cell_row q]; rfl, ⟨(hb2.block w.heap.size (by omega)).trans hbh, by omega⟩, hbw, ⟨rfl, rfl, rfl, Nat.le_refl _, fun _ _ _ => rfl⟩, hTO.below hbw, own, S.lv, fun _ _ => rfl, ?_⟩
    rw [fillV_zero]
    exact hW.below hbw
  have HKl : Hid (∀ k, k < 6 → (e.vs.getD k []).length ≤ 4) := fun k hk => by
    rcases (hfit.2 k hk).1 with ⟨_, q⟩ | ⟨_, q⟩
    · rw [q]; exact hW.lay.kl k
    · rw [q]; simp
  have HE : Hid (EntOwn w B e sl lv) := hE
  have HEb : Hid (∀ j, EntBlk sl lv j → own j = 0) := hEb
  have HS : Hid (∀ j (h : j < hs.length), w.cell? ⟨sg, j * 2, none⟩ = some (.int .i64 hs[j].1) ∧ w.cell? ⟨sg, j * 2 + 1, none⟩ = some (.int .i64 hs[j].2)) := hS
  have HFit : Hid (EntFit L hs.length e) := hfit
  have HT : Hid (S.tk i = true) := ht
  have HCp : Hid (S.cp i = e.c) := hcp
  obtain ⟨z, hz⟩ : ∃ z, z = hs.length := ⟨_, rfl⟩
  rw [← hz] at hsc hsl ⊢
  have HZ : Hid (z = hs.length) := hz
  have HSg : Hid (own sg = 0) := hsg0
  have ho : own w.heap.size = 0 := hW.out _ (Nat.le_refl _)
  have HOw : Hid (own w.heap.size = 0) := ho
  have hsls : ∀ k, k < 6 → ∃ a m c, sl k = .slice a m c := fun k hk => by obtain ⟨a, c, q⟩ := own_form (hE k hk).row; exact ⟨a, _, c, q⟩
  obtain ⟨a0, m0, c0, s0⟩ := hsls 0 (by omega)
  obtain ⟨a1, m1, c1, s1⟩ := hsls 1 (by omega)
  obtain ⟨a2, m2, c2, s2⟩ := hsls 2 (by omega)
  obtain ⟨a3, m3, c3, s3⟩ := hsls 3 (by omega)
  obtain ⟨a4, m4, c4, s4⟩ := hsls 4 (by omega)
  obtain ⟨a5, m5, c5, s5⟩ := hsls 5 (by omega)
  rw [hW1] at HTab
  clear hW hE hEb hS hfit ht hcp hz hsg0 hTO hB1 hs1 hbh hbe hW1 ho hsls
  generalize e.c = ec at HTab
  rw [s0, s1, s2, s3, s4, s5] at HTab
  rw [s0, s1, s2, s3, s4, s5]
  have HIx : Hid (∀ k : Nat, k < 6 → ∀ w, (Instr.index 162 (.agg #[.slice a0 m0 c0, .slice a1 m1 c1, .slice a2 m2 c2, .slice a3 m3 c3, .slice a4 m4 c4, .slice a5 m5 c5]) (.int .i64 k)).run Tryz.prog w = .ok (sl k) w) := fun k hk w => by
    refine index162 _ k hk _ ?_ w
    rw [← s0, ← s1, ← s2, ← s3, ← s4, ← s5]
    exact colArr_get sl k hk
  clear s0 s1 s2 s3 s4 s5
  go_enter Tryz.func116, Tryz.ntmps116
  go_wp2_with (go_at_call 74; refine HTab.out.mono ?_; rintro e' w2 ⟨rfl, d1, d2, d3, d4, d5, d6, HBx, HB2, HF⟩)
  go_loopw [18] (fun t wr => ∃ k : Nat, k ≤ 6 ∧ t = .int .i64 k ∧ Hid (FillAt w2 own b g lc N L S i e hs tb k 0 wr)) (fun t _ => 6 - (intOf t).toNat)
  case atStart => exact ⟨0, by omega, rfl, HF⟩
  case round =>
    obtain ⟨k, hk, rfl, HI⟩ := hrel
    by_cases hlt : k < 6
    · have hid := HIx.out k hlt
      obtain ⟨va, vc, hsk⟩ := own_form (HE.out k hlt).row
      rw [hsk] at hid
      obtain ⟨m, hm⟩ : ∃ m, m = (e.vs.getD k []).length := ⟨_, rfl⟩
      rw [← hm] at hid
      have HM : Hid (m = (e.vs.getD k []).length) := hm
      have hm4 : m ≤ 4 := by rw [hm]; exact HKl.out k hlt
      have HSk : Hid (sl k = .slice va m vc) := by rw [hm]; exact hsk
      have hdk : decide ((k : Int) < 6) = true := decide_eq_true (by omega)
      clear hm hsk
      go_wp2
      go_loopw [24] (fun t wk => ∃ f : Nat, f ≤ m ∧ t = .int .i64 f ∧ Hid (FillAt w2 own b g lc N L S i e hs tb k f wk)) (fun t _ => m - (intOf t).toNat)
      case atStart => exact ⟨0, by omega, rfl, HI⟩
      case round =>
        obtain ⟨f, hf, rfl, HF2⟩ := hrel
        by_cases hfm : f < m
        · have hfl : f < (e.vs.getD k []).length := by rw [← HM.out]; exact hfm
          have hxe : (e.vs.getD k [])[f] = svAt e k f := by
            unfold svAt
            generalize e.vs.getD k [] = l at hfl
            simp [List.getD, hfl]
          obtain ⟨gv, cap, lv0, hs0, _, hgv, hcap, hlv0, hlo, hcell⟩ := (HE.out k hlt).cell f hfl
          rw [hxe] at hlo hcell
          have hs1 := HSk.out
          rw [hs0] at hs1
          simp only [Value.slice.injEq] at hs1
          obtain ⟨rfl, hm2, rfl⟩ := hs1
          have hz0 : own gv = 0 := HEb.out gv (Or.inl ⟨k, hlt, by rw [hs0]; rfl⟩)
          have hw2 := HB2.out.size
          have hKp : ∀ j, j < w.heap.size → own j = 0 → wr.heap[j]? = w.heap[j]? := fun j hj h0 => (HF2.out.turns.block j (by omega) (by omega)).trans (HB2.out.block j hj)
          have hgk : ∀ o, wr.cell? ⟨gv, o, none⟩ = w.cell? ⟨gv, o, none⟩ := fun o => World.cell?_of_block (a := ⟨gv, o, none⟩) (hKp gv hgv hz0)
          have y0 : wr.cell? ⟨gv, f * 6, none⟩ = some (.int .i64 (svAt e k f).k) := (hgk _).trans (hcell 0 (by omega))
          have y1 : wr.cell? ⟨gv, f * 6 + 1, none⟩ = some (.int .i64 (svAt e k f).n) := (hgk _).trans (hcell 1 (by omega))
          have y2 : wr.cell? ⟨gv, f * 6 + 2, none⟩ = some (.string (mk (svAt e k f).s)) := (hgk _).trans (hcell 2 (by omega))
          have y3 : wr.cell? ⟨gv, f * 6 + 3, none⟩ = some (.int .i64 0) := (hgk _).trans (hcell 3 (by omega))
          have y4 : wr.cell? ⟨gv, f * 6 + 4, none⟩ = some (.int .i64 0) := (hgk _).trans (hcell 4 (by omega))
          have y5 : wr.cell? ⟨gv, f * 6 + 5, none⟩ = some lv0 := (hgk _).trans (hcell 5 (by omega))
          have hbx : wr.heap[w.heap.size]? = some (.cells #[.int .i64 ((i : Int) + 1), .int .i64 lf] 46 (0, 0)) := (HF2.out.turns.block w.heap.size HBx.out.2 (by rw [HOw.out]; omega)).trans HBx.out.1
          have b0 : wr.cell? ⟨w.heap.size, 0, none⟩ = some (.int .i64 ((i : Int) + 1)) := by rw [cell_row hbx]; rfl
          have b1 : wr.cell? ⟨w.heap.size, 1, none⟩ = some (.int .i64 lf) := by rw [cell_row hbx]; rfl
          have hwl : w.heap.size < wr.heap.size := Nat.lt_of_lt_of_le HBx.out.2 HF2.out.turns.size
          have hsgk : ∀ j (h : j < hs.length), wr.cell? ⟨sg, j * 2, none⟩ = some (.int .i64 hs[j].1) ∧ wr.cell? ⟨sg, j * 2 + 1, none⟩ = some (.int .i64 hs[j].2) := fun j hj => ⟨(World.cell?_of_block (a := ⟨sg, j * 2, none⟩) (hKp sg hsg HSg.out)).trans (HS.out j hj).1, (World.cell?_of_block (a := ⟨sg, j * 2 + 1, none⟩) (hKp sg hsg HSg.out)).trans (HS.out j hj).2⟩
          have HSet : Hid (∀ W, Below wr.heap.size wr W → Calls Tryz.prog 75 #[.pointer (some ⟨tb, 0, none⟩), .agg #[.int .i64 ((i : Int) + 1), .int .i64 lf], .int .i64 k, .int .i64 f, .agg #[.int .i64 (svAt e k f).k, .int .i64 (svAt e k f).n, .string (mk (svAt e k f).s), .int .i64 (refOf hs (svAt e k f)).1, .int .i64 (refOf hs (svAt e k f)).2, lv0]] W fun e' w3 => e' = .returned (.tuple #[]) ∧ Hid (FillAt w2 own b g lc N L S i e hs tb k (f + 1) w3)) := fun W hW =>
            FillAt.set HF2.out hW hi HT.out HCp.out hlt HFit.out hfl lf lv0 B (own_turn hlo fun j hj hjl => (hW.block j (by omega)).trans (hKp j hjl (HEb.out j (Or.inr ⟨k, f, lv0, hlt, hlv0, hj⟩))))
          obtain ⟨_, hok, hrn⟩ := (HFit.out.2 k hlt).2 f hfl
          have hrr := hok.ref
          obtain ⟨la, lb, hlf⟩ := own_form hlo
          clear hlo hcell hgk hKp hs0 hlv0 hok hxe hbx hm2
          generalize svAt e k f = x at y0 y1 y2 HSet hrn hrr hlf
          obtain ⟨xk, xn, xs, xl⟩ := x
          simp only at y0 y1 y2 hrn hrr hlf
          subst hlf
          by_cases h4 : xk = 4 ∧ 0 < xn
          · obtain ⟨rfl, hn0⟩ := h4
            obtain ⟨y, hy⟩ : ∃ y : Nat, xn = (y : Int) + 1 := ⟨(xn - 1).toNat, by omega⟩
            subst hy
            have hyl : y < hs.length := by have := hrn rfl; omega
            have hyz : (y : Int) < (z : Int) := by rw [HZ.out]; omega
            have href : refOf hs ⟨4, (y : Int) + 1, xs, xl⟩ = hs[y] := by
              unfold refOf
              rw [if_pos ⟨rfl, hn0⟩]
              have e : (((y : Int) + 1) - 1).toNat = y := by omega
              simp only [e]
              simp [List.getD, hyl]
            obtain ⟨g0, g1⟩ := hsgk y hyl
            rw [href] at HSet
            generalize hs[y] = hh at g0 g1 HSet
            obtain ⟨hp, hq⟩ := hh
            simp only at g0 g1 HSet
            have hsgr : sg < wr.heap.size := by omega
            have hsgn : sg ≠ wr.heap.size := by omega
            have hwrp : IntKind.i64.wrap ((y : Int) + 1 - 1) = (y : Int) := by rw [IntKind.wrap_i64]; omega
            clear hsgk hrn hrr href
            go_wp2_with (go_at_call 75; refine (HSet.out _ ?_).mono ?_; (first | exact (((Below.refl _ _).alloc (Nat.le_refl _) _).setCell (by simp) _).setCell (by simp) _ | exact (Below.refl _ _).alloc (Nat.le_refl _) _); rintro e' w3 ⟨rfl, HF3⟩)
            exact ⟨⟨f + 1, by omega, by go_num, HF3⟩, by simp [intOf]; omega⟩
          · have href : refOf hs ⟨xk, xn, xs, xl⟩ = (0, 0) := by
              unfold refOf
              exact if_neg h4
            rw [href] at HSet
            simp only at HSet
            clear hsgk hrn href
            by_cases hk4 : xk = 4
            · subst hk4
              obtain rfl : xn = 0 := by have := hrr rfl; omega
              clear hrr
              go_wp2_with (go_at_call 75; refine (HSet.out _ ?_).mono ?_; (first | exact (((Below.refl _ _).alloc (Nat.le_refl _) _).setCell (by simp) _).setCell (by simp) _ | exact (Below.refl _ _).alloc (Nat.le_refl _) _); rintro e' w3 ⟨rfl, HF3⟩)
              exact ⟨⟨f + 1, by omega, by go_num, HF3⟩, by simp [intOf]; omega⟩
            · have hk4' : ¬ ((xk : Int) = 4) := by omega
              clear hrr
              go_wp2_with (go_at_call 75; refine (HSet.out _ ?_).mono ?_; (first | exact (((Below.refl _ _).alloc (Nat.le_refl _) _).setCell (by simp) _).setCell (by simp) _ | exact (Below.refl _ _).alloc (Nat.le_refl _) _); rintro e' w3 ⟨rfl, HF3⟩)
              exact ⟨⟨f + 1, by omega, by go_num, HF3⟩, by simp [intOf]; omega⟩
        · obtain rfl : f = m := by omega
          have HI2 : Hid (FillAt w2 own b g lc N L S i e hs tb (k + 1) 0 wr) := FillAt.next (by rw [← HM.out]; exact HF2.out)
          go_wp2_with fail
          go_roundw
          case rel => exact ⟨k + 1, by omega, by go_num, HI2⟩
          case measure => simp [intOf]; omega
    · go_wp2
      go_end0
      obtain rfl : k = 6 := by omega
      obtain ⟨q1, _, own', lv', q2, q3⟩ := HI.out
      have := HB2.out.size
      exact ⟨rfl, (Turns.ofBelow _ HB2.out).trans' q1, own', lv', fun j hj => q2 j (by omega), q3⟩

end Go.Proofs.YthkbeaffkcfgiabGreatDoor
