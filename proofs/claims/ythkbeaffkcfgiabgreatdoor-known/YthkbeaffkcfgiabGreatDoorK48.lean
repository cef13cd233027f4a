import Derived.Lib.LaidU8
import Derived.LaidLaws
import Derived.Test.YthkbeaffkcfgiabGreatDoorK46
import Derived.Test.YthkbeaffkcfgiabGreatDoorK47
set_option linter.unusedSimpArgs false
set_option linter.unusedVariables false
namespace Go.Proofs.YthkbeaffkcfgiabGreatDoor
open Go.RowKit

theorem sch_at (j : Nat) (h : j < 31) : ∃ t ok, schCells[j]? = some (.string (mk t)) ∧ schOks[j]? = some (.bool ok) ∧ (schemaL t).isSome = ok ∧ t.length ≤ 1000 := by
  have hl : j < schK.length := h
  have h1 := List.all_eq_true.1 sch_all schK[j] (List.getElem_mem hl)
  have h2 := List.all_eq_true.1 sch_len schK[j] (List.getElem_mem hl)
  exact ⟨schK[j].1, schK[j].2, by simp [schCells, hl], by simp [schOks, hl], by simpa using h1, by simpa using h2⟩
theorem card_at (l : List (List UInt8 × Bool)) : ∀ (j : Nat) (h : j < l.length), (cardCells l)[j * 2]? = some (.string (mk l[j].1)) ∧ (cardCells l)[j * 2 + 1]? = some (.bool l[j].2) := by
  induction l with
  | nil => intro j h; simp at h
  | cons x l ih =>
    intro j h
    match j with
    | 0 => exact ⟨rfl, rfl⟩
    | j + 1 =>
      have := ih j (by simpa using h)
      unfold cardCells at this ⊢
      rw [List.flatMap_cons, show (j + 1) * 2 = j * 2 + 2 by omega]
      simpa using this
theorem scn_at (j : Nat) (h : j < 49) : ∃ t ok, (cardCells scnK)[j * 2]? = some (.string (mk t)) ∧ (cardCells scnK)[j * 2 + 1]? = some (.bool ok) ∧ textB lawL t ok = true ∧ t.length ≤ 1000 := by
  have hl : j < scnK.length := h
  have h1 := List.all_eq_true.1 scn_all scnK[j] (List.getElem_mem hl)
  have h2 := List.all_eq_true.1 scn_len scnK[j] (List.getElem_mem hl)
  exact ⟨scnK[j].1, scnK[j].2, (card_at scnK j hl).1, (card_at scnK j hl).2, h1, by simpa using h2⟩
theorem pck_at (j : Nat) (h : j < 30) : ∃ t ok, (cardCells pckK)[j * 2]? = some (.string (mk t)) ∧ (cardCells pckK)[j * 2 + 1]? = some (.bool ok) ∧ packB lawL t ok = true ∧ t.length ≤ 1000 := by
  have hl : j < pckK.length := h
  have h1 := List.all_eq_true.1 pck_all pckK[j] (List.getElem_mem hl)
  have h2 := List.all_eq_true.1 pck_len pckK[j] (List.getElem_mem hl)
  exact ⟨pckK[j].1, pckK[j].2, (card_at pckK j hl).1, (card_at pckK j hl).2, h1, by simpa using h2⟩

/-- New, of any of the schemas. -/
theorem new_sch (t : List UInt8) (w : World) (hG : Glob w) (hl : t.length ≤ 1000) : Calls Tryz.prog 34 #[.string (mk t)] w fun e w' => ((schemaL t).isSome = true ∧ (∃ b, e = .returned (.tuple #[.pointer (some ⟨b, 0, none⟩), .int .i64 0])) ∨ (schemaL t).isSome = false ∧ e = .returned (.tuple #[.pointer none, .int .i64 1])) ∧ Below w.heap.size w w' := by
  obtain ⟨m, hm⟩ := hG.most
  refine (new_n t m w (by omega) hm).mono ?_
  rintro e w' ⟨⟨cs, h1, b, g, c, rfl, _⟩ | ⟨h1, rfl⟩, hb⟩
  · exact ⟨Or.inl ⟨by rw [h1]; rfl, b, rfl⟩, hb⟩
  · exact ⟨Or.inr ⟨by rw [h1]; rfl, rfl⟩, hb⟩

set_option maxHeartbeats 3200000 in
set_option maxRecDepth 20000 in
/-- Known. -/
theorem known_any (k : Int) (w : World) (hG : Glob w) (h0 : -9223372036854775808 ≤ k) (h1 : k ≤ 9223372036854775807) :
    Calls Tryz.prog 12 #[.int .i64 k] w fun e w' => e = .returned (.bool true) ∧ Below w.heap.size w w' := by
  have HG : Hid (Glob w) := hG
  have HPk : Hid (∀ W, Calls Tryz.prog 33 #[.int .i64 k, .int .i64 110] W fun e w' => ∃ j : Nat, j < 110 ∧ e = .returned (.int .i64 (j : Int)) ∧ w' = W) := fun W => pick_any k W h0 h1
  clear hG
  go_enter Tryz.func12, Tryz.ntmps12
  go_wp2_with fail
  refine Calls.mono (schemas_any w) ?_
  rintro e w1 ⟨b1, c1, rfl, q1, q2, hb1⟩
  have H1 : Hid (w1.heap[b1]? = some (.cells schCells.toArray 9 (0, 0)) ∧ w1.heap[c1]? = some (.cells schOks.toArray 4 (0, 0)) ∧ Below w.heap.size w w1) := ⟨q1, q2, hb1⟩
  clear q1 q2 hb1
  go_wp2_with fail
  refine Calls.mono (scenes_any w1) ?_
  rintro e w2 ⟨b2, rfl, q1, hb2⟩
  have H2 : Hid (w2.heap[b2]? = some (.cells (cardCells scnK).toArray 70 (0, 0)) ∧ Below w1.heap.size w1 w2) := ⟨q1, hb2⟩
  clear q1 hb2
  go_wp2_with fail
  refine Calls.mono (packs_any w2) ?_
  rintro e w3 ⟨b3, rfl, q1, hb3⟩
  have H3 : Hid (w3.heap[b3]? = some (.cells (cardCells pckK).toArray 70 (0, 0)) ∧ Below w2.heap.size w2 w3) := ⟨q1, hb3⟩
  clear q1 hb3
  have HB3 : Hid (Below w.heap.size w w3) := H1.out.2.2.trans ((H2.out.2.trans (H3.out.2.mono H2.out.2.size)).mono H1.out.2.2.size)
  have HG3 : Hid (Glob w3) := HG.out.below HG.out.size HB3.out HB3.out.size
  have hlt1 : b1 < w1.heap.size := (Array.getElem?_eq_some_iff.1 H1.out.1).1
  have hlt2 : c1 < w1.heap.size := (Array.getElem?_eq_some_iff.1 H1.out.2.1).1
  have hlt3 : b2 < w2.heap.size := (Array.getElem?_eq_some_iff.1 H2.out.1).1
  have HK1 : Hid (w3.heap[b1]? = some (.cells schCells.toArray 9 (0, 0)) ∧ w3.heap[c1]? = some (.cells schOks.toArray 4 (0, 0)) ∧ w3.heap[b2]? = some (.cells (cardCells scnK).toArray 70 (0, 0))) := by
    have s2 := H2.out.2.size
    exact ⟨(H3.out.2.block _ (by omega)).trans ((H2.out.2.block _ hlt1).trans H1.out.1), (H3.out.2.block _ (by omega)).trans ((H2.out.2.block _ hlt2).trans H1.out.2.1), (H3.out.2.block _ hlt3).trans H2.out.1⟩
  clear hlt1 hlt2 hlt3
  go_wp2_with fail
  refine Calls.mono (HPk.out _) ?_
  rintro e w4 ⟨j, hj, rfl, hw4⟩
  obtain rfl := hw4.symm
  by_cases hA : j < 31
  · obtain ⟨t, ok, d1, d2, hs, hl⟩ := sch_at j hA
    have y0 : w3.cell? ⟨b1, j, none⟩ = some (.string (mk t)) := by rw [cell_row HK1.out.1]; simpa using d1
    have HY1 : Hid (∀ W, Below w3.heap.size w3 W → W.cell? ⟨c1, j, none⟩ = some (.bool ok)) := fun W hW => by
      rw [cell_row ((hW.block c1 (Array.getElem?_eq_some_iff.1 HK1.out.2.1).1).trans HK1.out.2.1)]
      simpa using d2
    have HNw : Hid _ := new_sch t w3 HG3.out hl
    have HOk : Hid ((schemaL t).isSome = ok) := hs
    clear d1 d2 hs hl
    generalize mk t = x at y0 HNw
    go_wp2_with fail
    refine Calls.mono HNw.out ?_
    rintro e w5 ⟨hr, hb5⟩
    have y1 := HY1.out w5 hb5
    have HB5 : Hid (Below w.heap.size w w5) := HB3.out.trans (hb5.mono HB3.out.size)
    clear hb5
    rw [HOk.out] at hr
    rcases hr with ⟨rfl, b, rfl⟩ | ⟨rfl, rfl⟩
    · go_wp2_with fail
      go_ret
      exact ⟨rfl, HB5.out⟩
    · go_wp2_with fail
      go_ret
      exact ⟨rfl, HB5.out⟩
  · obtain ⟨i, hi⟩ : ∃ i, j = i + 31 := ⟨j - 31, by omega⟩
    have hji : (j : Int) - 31 = (i : Int) := by omega
    by_cases hBt : i < 49
    · obtain ⟨t, ok, d1, d2, hs, hl⟩ := scn_at i hBt
      have y0 : w3.cell? ⟨b2, i * 2, none⟩ = some (.string (mk t)) := by rw [cell_row HK1.out.2.2]; simpa using d1
      have y1 : w3.cell? ⟨b2, i * 2 + 1, none⟩ = some (.bool ok) := by rw [cell_row HK1.out.2.2]; simpa using d2
      have HT : Hid _ := taken_text t ok w3 HG3.out hs hl
      clear d1 d2 hs hl hi
      generalize mk t = x at y0 HT
      go_wp2_with fail
      refine Calls.mono HT.out ?_
      rintro e w5 ⟨rfl, hb5⟩
      have HB5 : Hid (Below w.heap.size w w5) := HB3.out.trans (hb5.mono HB3.out.size)
      clear hb5
      go_wp2_with fail
      go_ret
      exact ⟨rfl, HB5.out⟩
    · obtain ⟨p, hp⟩ : ∃ p, i = p + 49 := ⟨i - 49, by omega⟩
      have hip : (i : Int) - 49 = (p : Int) := by omega
      have hp30 : p < 30 := by omega
      obtain ⟨t, ok, d1, d2, hs, hl⟩ := pck_at p hp30
      have y0 : w3.cell? ⟨b3, p * 2, none⟩ = some (.string (mk t)) := by rw [cell_row H3.out.1]; simpa using d1
      have y1 : w3.cell? ⟨b3, p * 2 + 1, none⟩ = some (.bool ok) := by rw [cell_row H3.out.1]; simpa using d2
      have HT : Hid _ := taken_pack t ok w3 HG3.out hs hl
      clear d1 d2 hs hl hi hp
      generalize mk t = x at y0 HT
      go_wp2_with fail
      refine Calls.mono HT.out ?_
      rintro e w5 ⟨rfl, hb5⟩
      have HB5 : Hid (Below w.heap.size w w5) := HB3.out.trans (hb5.mono HB3.out.size)
      clear hb5
      go_wp2_with fail
      go_ret
      exact ⟨rfl, HB5.out⟩
end Go.Proofs.YthkbeaffkcfgiabGreatDoor

namespace Go.Proofs.YthkbeaffkcfgiabGreatDoor
open Go.RowKit

/-- A variable that is laid as an error holds an interface. -/
theorem iface_laid {w : World} {n T : String} {d : DataW Unit} {g : Nat} {t : TypeId} {ms : Array (String × TypeId)} (h : Lib.VarReads Tryz.prog w n (.iface T d)) (hg : Tryz.prog.globalNamed n = some g) (ht : (Tryz.prog.globals[g]?).map (·.type) = some t) (hu : Tryz.prog.underlying t = some (.interface ms)) : ∃ te pe, w.cell? ⟨g, 0, none⟩ = some (.iface te pe) := by
  obtain ⟨g', t', cs, fuel, p, h1, h2, h3, h4⟩ := h
  rw [hg] at h1
  cases h1
  rw [ht] at h2
  cases h2
  have hq := iface_of_trod hu h4
  have hc : ∃ te pe, cs.toList = [.iface te pe] := by
    obtain ⟨_, u, v, e, _⟩ := hq
    exact ⟨u, v, e⟩
  obtain ⟨te, pe, e⟩ := hc
  refine ⟨te, pe, ?_⟩
  unfold World.var? at h3
  rw [hg] at h3
  simp only [Option.bind_some] at h3
  split at h3
  · rename_i hh
    cases h3
    rw [cell_row hh, ← Array.getElem?_toList, e]
    rfl
  · cases h3
def isIface : TypeDesc → Bool | .interface _ => true | _ => false
theorem iface_laid' {w : World} {n T : String} {d : DataW Unit} (g : Nat) (h : Lib.VarReads Tryz.prog w n (.iface T d)) (hg : Tryz.prog.globalNamed n = some g) (hk : (((Tryz.prog.globals[g]?).map (·.type)).bind fun t => (Tryz.prog.underlying t).map isIface) = some true) : ∃ te pe, w.cell? ⟨g, 0, none⟩ = some (.iface te pe) := by
  obtain ⟨t, ht, hu⟩ := Option.bind_eq_some_iff.1 hk
  obtain ⟨u, hu1, hu2⟩ := Option.map_eq_some_iff.1 hu
  cases u with
  | interface ms => exact iface_laid h hg ht hu1
  | _ => cases hu2
theorem lit_i64 {n : Int} (h : (Lit.int .i64 n).wf = true) : -9223372036854775808 ≤ n ∧ n ≤ 9223372036854775807 := by
  have h1 : IntKind.i64.min = -9223372036854775808 := by decide
  have h2 : IntKind.i64.max = 9223372036854775807 := by decide
  simp only [Lit.wf, Bool.and_eq_true, decide_eq_true_eq, h1, h2] at h
  exact h
/-- The globals' blocks stand as the walk asks. -/
theorem glob_laid (W : World) (hsh : W.ShapedOpen Tryz.prog) (htab : Lib.TabIs Tryz.prog W "internal/strconv.uint64pow10" .u64 Lib.pow10Tab) {T7 T8 : String} {d7 d8 : DataW Unit} (h7 : Lib.VarReads Tryz.prog W "strconv.ErrSyntax" (.iface T7 d7)) (h8 : Lib.VarReads Tryz.prog W "strconv.ErrRange" (.iface T8 d8)) : Glob W where
  most := Tryz.laysM219.s1_3 W hsh
  syn := iface_laid' 7 h7 (by kernel_rfl) (by kernel_rfl)
  rng := iface_laid' 8 h8 (by kernel_rfl) (by kernel_rfl)
  tab := htab
  size := by
    obtain ⟨⟨zero, t⟩, h0⟩ := Option.isSome_iff_exists.1 (show (((begin Tryz.prog (fun _ _ => 0) default).world.heap[10]?).bind Obj.row?).isSome = true by kernel_rfl)
    obtain ⟨cs, hh, _⟩ := hsh.1 10 zero t (of_decide_eq_true (by kernel_rfl)) h0
    exact (Array.getElem?_eq_some_iff.1 hh).1
end Go.Proofs.YthkbeaffkcfgiabGreatDoor
