import Derived.Test.YthkbeaffkcfgiabGreatDoorK41
import Derived.Test.YthkbeaffkcfgiabGreatDoorK40
import Derived.Test.YthkbeaffkcfgiabGreatDoorK23
import Derived.Test.YthkbeaffkcfgiabGreatDoorK42
set_option linter.unusedSimpArgs false
set_option linter.unusedVariables false
namespace Go.Proofs.YthkbeaffkcfgiabGreatDoor
open Go.RowKit

set_option maxHeartbeats 1600000 in
/-- Pack. -/
theorem pack_wt (own : Nat → Nat) (b g lc N : Nat) (L : List CompS) (S : St) (w : World) (hW : WT w own b g lc N L S) (hs : Sane L S) (hE : ∀ j, j < (backL L S).length → EntK L (entAt (backL L S) j)) :
    Calls Tryz.prog 18 #[.pointer (some ⟨b, 0, none⟩)] w fun e w' => e = .returned (.string (mk (bytesTx L (backL L S)))) ∧ Below w.heap.size w w' := by
  have hlt := hW.lt
  have hn : (backL L S).length ≤ 20 := by rw [backL_len]; exact ents_len _ _
  have c0 := hW.c0
  have HO : Hid _ := orEmpty_some b w
  have HSc : Hid (∀ W, W = w.drew → Calls Tryz.prog 48 #[.pointer (some ⟨b, 0, none⟩)] W fun e w1 => ∃ xa xn xc, e = .returned (.slice xa xn xc) ∧ w1.cell? ⟨b, 0, none⟩ = some (.slice (some ⟨g, 0, none⟩) L.length lc) ∧ Hid (Calls Tryz.prog 50 #[.slice xa xn xc, .slice (some ⟨g, 0, none⟩) L.length lc] w1 fun e w' => e = .returned (.string (mk (bytesTx L (backL L S)))) ∧ Hid (Below w.heap.size w w'))) := by
    rintro W rfl
    refine (scene_wt own b g lc N L S w.drew (hW.below ((Below.refl _ _).drew)) hs).mono ?_
    rintro e w1 ⟨v, sls, lvs, rfl, h1, h2⟩
    have hb : Below w.heap.size w w1 := ⟨h2.os, h2.tape, h2.output, h2.size, h2.block⟩
    obtain ⟨xa, xc, rfl⟩ := own_form h1.row
    refine ⟨xa, _, xc, rfl, (hb.cell (p := ⟨b, 0, none⟩) hlt).trans c0, ?_⟩
    have hW1 := hW.below hb
    refine (bytes_any L (backL L S) sls lvs _ b g lc w1 hW1.lay hW1.lcle (h1.base (Nat.zero_le _)) hE hn).mono ?_
    rintro e w' ⟨rfl, h3⟩
    exact ⟨rfl, hb.trans (h3.mono hb.size)⟩
  generalize L.length = nl at HSc c0
  generalize bytesTx L (backL L S) = tx at HSc ⊢
  clear hW hs hE hn
  go_enter Tryz.func18, Tryz.ntmps18
  go_wp2_with fail
  refine Calls.mono HO.out ?_
  rintro e w1 ⟨rfl, h1⟩
  obtain rfl := h1.symm
  go_wp2_with fail
  go_region_with (first
    | (go_at_call 48; refine (HSc.out _ rfl).mono ?_; rintro e w1 ⟨xa, xn, xc, rfl, d0, HT⟩)
    | (go_at_call 50; refine HT.out.mono ?_; rintro e w3 ⟨rfl, HB⟩))
  all_goals go_wp2_with fail
  all_goals go_ret
  all_goals exact ⟨rfl, HB.out⟩

end Go.Proofs.YthkbeaffkcfgiabGreatDoor

namespace Go.Proofs.YthkbeaffkcfgiabGreatDoor
open Go.RowKit

/-- Nobody is there. -/
def St.nought : St := ⟨fun _ => 0, fun _ => false, fun _ => 0, fun _ _ _ => .zero, fun _ _ _ => .slice none 0 0⟩
def ownB (b : Nat) : Nat → Nat := fun k => if k = b then 1 else 0
theorem ents_nought (s : Nat) : St.nought.ents s = [] := by unfold St.ents; rfl
theorem cells_nought (L : List CompS) (s : Nat) : St.nought.cells L s = fun _ _ => [] := by funext k f; unfold St.cells; rfl

/-- The world that New makes. -/
theorem wt_new {w' : World} {b g c : Nat} {L : List CompS} (hblk : ∃ arr, w'.heap[b]? = some (.cells arr 111 (0, 0)) ∧ arr.size = 62) (hP : PlacesAt w' b (fun _ => 0) (fun _ => false) (fun _ => 0)) (c0 : w'.cell? ⟨b, 0, none⟩ = some (.slice (some ⟨g, 0, none⟩) L.length c)) (hc : L.length ≤ c) (hL : LayN w' b g L) (c61 : w'.cell? ⟨b, 61, none⟩ = some (.map none)) : WT w' (ownB b) b g c 1 L St.nought where
  me := by simp [ownB]
  low := fun k hk => by simp [ownB]; omega
  out := fun k hk => by have := hP.1; simp [ownB]; omega
  blk := hblk
  places := hP
  bgs := fun i _ => by show 0 ≤ 3; omega
  cps := fun i _ h => by cases h
  c0 := c0
  lcle := hc
  lay := hL
  tabs := Or.inl ⟨c61, fun s _ => ⟨ents_nought s, cells_nought L s⟩⟩
  lists := fun i _ k f => ⟨World.ownsRow_nil _ _ _ _, fun j h => by cases h⟩

/-- The state that a scene settles into, in an empty world. -/
def settled (L : List CompS) (sc : List Ent) : St := { spawnN St.nought (setsOf sc) sc.length with vals := fillN L St.nought (setsOf sc) sc (handsN St.nought (setsOf sc) sc.length) (spawnN St.nought (setsOf sc) sc.length).vals sc.length }
/-- It has settled. -/
def SettledAt (w : World) (b g lc : Nat) (L : List CompS) (sc : List Ent) (v : Value) (w' : World) : Prop :=
  (∃ w1, Below w.heap.size w w1 ∧ Turns w1 w' (Tur (ownB b)) ∧ w'.ownsRow w1.heap.size 46 2 v sc.length (eCells (handsN St.nought (setsOf sc) sc.length))) ∧ ∃ own' lv', WT w' own' b g lc (1 + sc.length) L { settled L sc with lv := lv' }

theorem settle_new (b g lc : Nat) (L : List CompS) (sc : List Ent) (w : World) (hW : WT w (ownB b) b g lc 1 L St.nought) (hfit : ∀ j, j < sc.length → EntFit L sc.length (entAt sc j)) (hn : sc.length ≤ 20) (sa : Option Addr) (vc : Nat) (sls : Nat → Nat → Value) (lvs : Nat → Nat → List Value) (w1 : World) (hb : Below w.heap.size w w1) (hS : SceneOwn w1 w.heap.size (.slice sa sc.length vc) sc sls lvs) :
    Calls Tryz.prog 56 #[.pointer (some ⟨b, 0, none⟩), .slice sa sc.length vc] w1 fun e w' => ∃ v n, e = .returned (.tuple #[v, .int .i64 n]) ∧ ((Value.int .i64 n) = .int .i64 0 ∧ SettledAt w b g lc L sc v w') := by
  refine (settle_wt (ownB b) b g lc 1 w.heap.size vc sa L St.nought sc sls lvs w1 (hW.below hb) hS (fun j hj => hW.out j hj) (by have : roomN St.nought.bg St.nought.tk 20 = 20 := rfl; omega) (by omega) (by omega) hfit).mono ?_
  rintro e w' ⟨v, rfl, h1, h2, own', lv', _, h3⟩
  exact ⟨v, 0, rfl, rfl, ⟨w1, hb, h1, h2⟩, own', lv', h3⟩

/-- Load, into the world that New made. -/
theorem load_new (b g lc : Nat) (L : List CompS) (text : List UInt8) (sc : List Ent) (w : World) (hl : text.length ≤ 2 ^ 40) (hG : Glob w) (hW : WT w (ownB b) b g lc 1 L St.nought) (hsc : readTextL L text = some sc) (hn : sc.length ≤ 20) (hfit : ∀ j, j < sc.length → EntFit L sc.length (entAt sc j)) :
    Calls Tryz.prog 21 #[.pointer (some ⟨b, 0, none⟩), .string (mk text)] w fun e w' => ∃ v n, e = .returned (.tuple #[v, .int .i64 n]) ∧ ((Value.int .i64 n) = .int .i64 0 ∧ SettledAt w b g lc L sc v w') :=
  load_ok b b g lc L text w hl hG hW.lay hW.lcle hW.c0 sc hsc (fun v x w' => x = .int .i64 0 ∧ SettledAt w b g lc L sc v w') fun sa vc sls lvs w1 hb hS => settle_new b g lc L sc w hW hfit hn sa vc sls lvs w1 hb hS
/-- Unpack, into the world that New made. -/
theorem unpack_new (b g lc : Nat) (L : List CompS) (text : List UInt8) (sc : List Ent) (w : World) (hl : text.length ≤ 2 ^ 40) (hW : WT w (ownB b) b g lc 1 L St.nought) (hsc : readBytesL L text = some sc) (hn : sc.length ≤ 20) (hfit : ∀ j, j < sc.length → EntFit L sc.length (entAt sc j)) :
    Calls Tryz.prog 22 #[.pointer (some ⟨b, 0, none⟩), .string (mk text)] w fun e w' => ∃ v n, e = .returned (.tuple #[v, .int .i64 n]) ∧ ((Value.int .i64 n) = .int .i64 0 ∧ SettledAt w b g lc L sc v w') :=
  unpack_ok b b g lc L text w hl hW.lay hW.lcle hW.c0 sc hsc (fun v x w' => x = .int .i64 0 ∧ SettledAt w b g lc L sc v w') fun sa vc sls lvs w1 hb hS => settle_new b g lc L sc w hW hfit hn sa vc sls lvs w1 hb hS

end Go.Proofs.YthkbeaffkcfgiabGreatDoor

namespace Go.Proofs.YthkbeaffkcfgiabGreatDoor
open Go.RowKit

@[reducible] def decSV (x : SV) : Decidable (SVOk x) := decidable_of_iff ((1 ≤ x.k ∧ x.k ≤ 5) ∧ (-9223372036854775808 ≤ x.n ∧ x.n ≤ 9223372036854775807) ∧ (x.k = 4 → 0 ≤ x.n ∧ x.n ≤ 1000) ∧ x.s.length ≤ 100 ∧ x.l.length ≤ 4 ∧ ∀ y ∈ x.l, -9223372036854775808 ≤ y ∧ y ≤ 9223372036854775807) ⟨fun ⟨a, b, c, d, e, f⟩ => ⟨a, b, c, d, e, f⟩, fun h => ⟨h.kind, h.num, h.ref, h.text, h.few, h.nums⟩⟩
@[reducible] def decNil (l : List SV) : Decidable (l = []) := match l with | [] => isTrue rfl | _ :: _ => isFalse (by simp)
@[reducible] def decFit (L : List CompS) (m : Nat) (e : Ent) : Decidable (EntFit L m e) := by unfold EntFit; have := decSV; have := decNil; exact inferInstance
@[reducible] def decW (L : List CompS) (e : Ent) : Decidable (EntW L e) := by unfold EntW; have := decSV; have := decNil; exact inferInstance
@[reducible] def decK (L : List CompS) (e : Ent) : Decidable (EntK L e) := have := decW; decidable_of_iff (EntW L e ∧ ∀ k, k < L.length → e.c.testBit k = true → ∀ x ∈ e.vs.getD k [], x.k = 2 → 0 ≤ x.n) ⟨fun h => ⟨h.1, fun k x hk ht hx => h.2 k hk ht x hx⟩, fun h => ⟨h.1, fun k hk ht x hx => h.2 k x hk ht hx⟩⟩

/-- Sane, as far as it is told by the few that there are. -/
def SaneF (L : List CompS) (S : St) : Prop := ∀ i, i < 20 → S.tk i = true → ∀ k, k < 6 → ∀ f, f < 4 → kindAt L k f = 4 → f < cntC (S.cp i) L k → 0 ≤ (S.vals i k f).p ∧ (S.vals i k f).p ≤ 20
def saneB (L : List CompS) (S : St) : Bool := (List.range 20).all fun i => !S.tk i || (List.range 6).all fun k => (List.range 4).all fun f => !(kindAt L k f == 4) || (!decide (f < cntC (S.cp i) L k) || (decide (0 ≤ (S.vals i k f).p) && decide ((S.vals i k f).p ≤ 20)))
theorem saneB_iff (L : List CompS) (S : St) : saneB L S = true ↔ SaneF L S := by
  unfold saneB SaneF
  simp only [List.all_eq_true, List.mem_range, Bool.or_eq_true, Bool.not_eq_true', Bool.and_eq_true, decide_eq_true_eq, decide_eq_false_iff_not, beq_eq_false_iff_ne]
  constructor
  · intro h i hi ht k hk f hf h4 hc
    rcases h i hi with q | q
    · rw [ht] at q; cases q
    · rcases q k hk f hf with q | q | q
      · exact absurd h4 q
      · exact absurd hc q
      · exact q
  · intro h i hi
    cases ht : S.tk i with
    | false => exact Or.inl rfl
    | true =>
      refine Or.inr fun k hk f hf => ?_
      by_cases h4 : kindAt L k f = 4
      · by_cases hc : f < cntC (S.cp i) L k
        · exact Or.inr (Or.inr (h i hi ht k hk f hf h4 hc))
        · exact Or.inr (Or.inl hc)
      · exact Or.inl h4
@[reducible] def decSane (L : List CompS) (S : St) : Decidable (SaneF L S) := decidable_of_iff _ (saneB_iff L S)

theorem spawnN_ls (S : St) (cs : List Nat) (h : ∀ i k f, (S.vals i k f).ls.length ≤ 100) : ∀ j i k f, ((spawnN S cs j).vals i k f).ls.length ≤ 100
  | 0 => h
  | j + 1 => fun i k f => by
    have ih := spawnN_ls S cs h j i k f
    unfold spawnN St.spawn upd
    simp only
    split
    · simp [FV.zero]
    · exact ih
theorem fillN_ls (L : List CompS) (S : St) (cs : List Nat) (sc : List Ent) (hs : List (Int × Int)) (V : Nat → Nat → Nat → FV) (h : ∀ i k f, (V i k f).ls.length ≤ 100) (hfit : ∀ j, j < sc.length → EntFit L sc.length (entAt sc j)) : ∀ j, j ≤ sc.length → ∀ i k f, (fillN L S cs sc hs V j i k f).ls.length ≤ 100
  | 0, _ => h
  | j + 1, hj => fun i k f => by
    have ih := fillN_ls L S cs sc hs V h hfit j (by omega) i k f
    unfold fillN fillV
    split
    · rename_i hc
      have hk : k < 6 := by omega
      have h1 := (((hfit j (by omega)).2 k hk).2 f hc.2.2).2.1.few
      unfold FV.norm fvOf
      simp only
      split
      · omega
      · simp
    · exact ih
theorem sane_of {L : List CompS} {sc : List Ent} (hL : L.length ≤ 6) (hkl : ∀ k, ((kinds L).getD k []).length ≤ 4) (hfit : ∀ j, j < sc.length → EntFit L sc.length (entAt sc j)) (h : SaneF L (settled L sc)) : Sane L (settled L sc) := fun i hi ht => by
  refine ⟨fun k f h4 hf => ?_, fun k f => ?_⟩
  · have hk : k < 6 := by
      rcases Nat.lt_or_ge k 6 with q | q
      · exact q
      · unfold kindAt at h4
        rw [kinds_out L k (by omega)] at h4
        simp at h4
    have hf4 : f < 4 := by
      rcases Nat.lt_or_ge f 4 with q | q
      · exact q
      · have := hkl k
        unfold kindAt at h4
        rw [List.getD_eq_getElem?_getD, List.getElem?_eq_none (by omega)] at h4
        simp at h4
    exact h i hi ht k hk f hf4 h4 hf
  · exact fillN_ls L St.nought (setsOf sc) sc _ _ (spawnN_ls _ _ (fun _ _ _ => by simp [St.nought, FV.zero]) _) hfit sc.length (Nat.le_refl _) i k f

/-- A scene that comes back as this text. -/
def backT (L : List CompS) (sc : List Ent) (t : List UInt8) : Prop := sc.length ≤ 20 ∧ (∀ j, j < sc.length → EntFit L sc.length (entAt sc j)) ∧ SaneF L (settled L sc) ∧ (∀ j, j < (backL L (settled L sc)).length → EntW L (entAt (backL L (settled L sc)) j)) ∧ textTx L (backL L (settled L sc)) = t
def backB (L : List CompS) (sc : List Ent) (t : List UInt8) : Prop := sc.length ≤ 20 ∧ (∀ j, j < sc.length → EntFit L sc.length (entAt sc j)) ∧ SaneF L (settled L sc) ∧ (∀ j, j < (backL L (settled L sc)).length → EntK L (entAt (backL L (settled L sc)) j)) ∧ bytesTx L (backL L (settled L sc)) = t
@[reducible] def decT (L : List CompS) (sc : List Ent) (t : List UInt8) : Decidable (backT L sc t) := by unfold backT; have := decFit; have := decSane; have := decW; exact inferInstance
@[reducible] def decB (L : List CompS) (sc : List Ent) (t : List UInt8) : Decidable (backB L sc t) := by unfold backB; have := decFit; have := decSane; have := decK; exact inferInstance
def textB (L : List CompS) (t : List UInt8) (ok : Bool) : Bool := match readTextL L t with | some sc => ok && @decide (backT L sc t) (decT L sc t) | none => !ok
def packB (L : List CompS) (t : List UInt8) (ok : Bool) : Bool := match readBytesL L t with | some sc => ok && @decide (backB L sc t) (decB L sc t) | none => !ok

def lawSch : List UInt8 := [112, 111, 115, 32, 120, 58, 105, 110, 116, 32, 121, 58, 105, 110, 116, 10, 110, 97, 109, 101, 32, 115, 58, 116, 101, 120, 116, 10, 108, 105, 110, 107, 32, 116, 111, 58, 114, 101, 102, 32, 110, 101, 120, 116, 58, 114, 101, 102, 10, 102, 108, 97, 103, 32, 111, 110, 58, 98, 111, 111, 108, 10, 98, 97, 103, 32, 108, 58, 108, 105, 115, 116, 10, 109, 97, 114, 107, 10]
def schK : List (List UInt8 × Bool) := [([], false),
  ([97, 10], true),
  ([97], false),
  ([97, 32, 98, 58, 105, 110, 116, 10], true),
  ([97, 32, 98, 58, 105, 110, 116, 32, 99, 58, 98, 111, 111, 108, 32, 100, 58, 116, 101, 120, 116, 32, 101, 58, 114, 101, 102, 10], true),
  ([97, 32, 98, 58, 105, 110, 116, 32, 99, 58, 98, 111, 111, 108, 32, 100, 58, 116, 101, 120, 116, 32, 101, 58, 114, 101, 102, 32, 102, 58, 108, 105, 115, 116, 10], false),
  ([97, 10, 98, 10, 99, 10, 100, 10, 103, 10, 102, 10], true),
  ([97, 10, 98, 10, 99, 10, 100, 10, 101, 10, 102, 10, 103, 10], false),
  ([97, 10, 97, 10], false),
  ([97, 32, 98, 58, 105, 110, 116, 32, 98, 58, 105, 110, 116, 10], false),
  ([97, 32, 97, 58, 105, 110, 116, 10], true),
  ([97, 98, 99, 100, 101, 102, 103, 104, 10], true),
  ([97, 98, 99, 100, 101, 102, 103, 104, 105, 10], false),
  ([65, 10], false),
  ([97, 32, 98, 58, 73, 110, 116, 10], false),
  ([97, 32, 98, 10], false),
  ([97, 32, 98, 58, 10], false),
  ([97, 32, 32, 98, 58, 105, 110, 116, 10], false),
  ([97, 32, 10], false),
  ([32, 97, 10], false),
  ([10], false),
  ([97, 10, 10, 98, 10], false),
  ([97, 32, 98, 58, 105, 110, 116, 58, 105, 110, 116, 10], false),
  ([97, 32, 98, 58, 108, 105, 115, 116, 115, 10], false),
  ([97, 49, 10], false),
  ([97, 32, 58, 105, 110, 116, 10], false),
  ([101, 10], false),
  ([101, 32, 97, 58, 105, 110, 116, 10], true),
  ([101, 110, 100, 10], true),
  ([102, 10, 101, 10], false),
  ([97, 32, 32, 32, 32, 32, 32, 32, 32, 32, 32, 32, 32, 32, 32, 32, 32, 32, 32, 32, 32, 32, 32, 32, 32, 32, 32, 32, 32, 32, 32, 32, 32, 32, 32, 32, 32, 32, 32, 32, 32, 32, 32, 32, 32, 32, 32, 32, 32, 32, 32, 32, 32, 32, 32, 32, 32, 32, 32, 32, 32, 32, 32, 32, 32, 32, 32, 32, 32, 32, 32, 32, 32, 32, 32, 32, 32, 32, 32, 32, 32, 32, 32, 32, 32, 32, 32, 32, 32, 32, 32, 32, 32, 32, 32, 32, 32, 32, 32, 32, 32, 32, 32, 32, 32, 32, 32, 32, 32, 32, 32, 32, 32, 32, 32, 32, 32, 32, 32, 32, 32, 32, 32, 32, 32, 32, 32, 32, 32, 32, 32, 32, 32, 32, 32, 32, 32, 32, 32, 32, 32, 32, 32, 32, 32, 32, 32, 32, 32, 32, 32, 32, 32, 32, 32, 32, 32, 32, 32, 32, 32, 32, 32, 32, 32, 32, 32, 32, 32, 32, 32, 32, 32, 32, 32, 32, 32, 32, 32, 32, 32, 32, 32, 32, 32, 32, 32, 32, 32, 32, 32, 32, 32, 32, 32, 32, 32, 32, 32, 32, 32, 32, 32, 32, 32, 32, 32, 32, 32, 32, 32, 32, 32, 32, 32, 32, 32, 32, 32, 32, 32, 32, 32, 32, 32, 32, 32, 32, 32, 32, 32, 32, 32, 32, 32, 32, 32, 32, 32, 32, 32, 32, 32, 32, 32, 32, 32, 32, 32, 32, 32, 32, 32, 32, 32, 32, 32, 32, 32, 32, 32, 32, 32, 32, 32, 32, 32, 32, 32, 32, 32, 32, 32, 32, 32, 32, 32, 32, 32, 32, 32, 32, 32, 32, 32, 32, 32, 32, 32, 32, 32, 32, 32, 32, 32, 32, 32, 32, 32, 32, 32, 32, 32, 32, 32, 32, 32, 32, 32, 32, 32, 32, 32, 32, 32, 32, 32, 32, 32, 32, 32, 32, 32, 32, 32, 32, 32, 32, 32, 32, 32, 32, 32, 32, 32, 32, 32, 32, 32, 32, 32, 32, 32, 32, 32, 32, 32, 32, 32, 32, 32, 32, 32, 32, 32, 32, 32, 32, 32, 32, 32, 32, 32, 32, 32, 32, 32, 32, 32, 32, 32, 32, 32, 32, 32, 32, 32, 32, 32, 32, 32, 32, 32, 32, 32, 32, 32, 32, 32, 32, 32, 32, 32, 32, 32, 32, 32, 32, 32, 10], false)]
def scnK : List (List UInt8 × Bool) := [([115, 99, 101, 110, 101, 10, 101, 110, 100, 10], true),
  ([115, 99, 101, 110, 101, 10, 101, 10, 101, 110, 100, 10], true),
  ([115, 99, 101, 110, 101, 10, 101, 10, 112, 111, 115, 32, 120, 61, 48, 32, 121, 61, 45, 53, 10, 101, 110, 100, 10], true),
  ([115, 99, 101, 110, 101, 10, 101, 10, 110, 97, 109, 101, 32, 115, 61, 34, 34, 10, 101, 10, 110, 97, 109, 101, 32, 115, 61, 34, 97, 98, 92, 120, 50, 48, 92, 120, 50, 50, 34, 10, 101, 110, 100, 10], true),
  ([115, 99, 101, 110, 101, 10, 101, 10, 108, 105, 110, 107, 32, 116, 111, 61, 64, 49, 32, 110, 101, 120, 116, 61, 45, 10, 101, 10, 108, 105, 110, 107, 32, 116, 111, 61, 64, 48, 32, 110, 101, 120, 116, 61, 64, 49, 10, 101, 110, 100, 10], true),
  ([115, 99, 101, 110, 101, 10, 101, 10, 102, 108, 97, 103, 32, 111, 110, 61, 116, 10, 98, 97, 103, 32, 108, 61, 91, 93, 10, 109, 97, 114, 107, 10, 101, 10, 98, 97, 103, 32, 108, 61, 91, 49, 44, 45, 50, 44, 51, 44, 48, 93, 10, 101, 110, 100, 10], true),
  ([115, 99, 101, 110, 101, 10, 101, 10, 112, 111, 115, 32, 120, 61, 57, 50, 50, 51, 51, 55, 50, 48, 51, 54, 56, 53, 52, 55, 55, 53, 56, 48, 55, 32, 121, 61, 45, 57, 50, 50, 51, 51, 55, 50, 48, 51, 54, 56, 53, 52, 55, 55, 53, 56, 48, 56, 10, 101, 110, 100, 10], true),
  ([115, 99, 101, 110, 101, 10, 101, 10, 101, 10, 101, 10, 101, 10, 101, 10, 101, 10, 101, 10, 101, 10, 101, 10, 101, 10, 101, 10, 101, 10, 101, 10, 101, 10, 101, 10, 101, 10, 101, 10, 101, 10, 101, 10, 101, 10, 101, 110, 100, 10], true),
  ([115, 99, 101, 110, 101, 10, 101, 10, 101, 10, 101, 10, 101, 10, 101, 10, 101, 10, 101, 10, 101, 10, 101, 10, 101, 10, 101, 10, 101, 10, 101, 10, 101, 10, 101, 10, 101, 10, 101, 10, 101, 10, 101, 10, 101, 10, 101, 10, 101, 110, 100, 10], false),
  ([], false),
  ([115, 99, 101, 110, 101, 10], false),
  ([115, 99, 101, 110, 101, 10, 101, 110, 100], false),
  ([115, 99, 101, 110, 101, 10, 101, 110, 100, 10, 10], false),
  ([83, 99, 101, 110, 101, 10, 101, 110, 100, 10], false),
  ([115, 99, 101, 110, 101, 10, 112, 111, 115, 32, 120, 61, 48, 32, 121, 61, 48, 10, 101, 110, 100, 10], false),
  ([115, 99, 101, 110, 101, 10, 101, 10, 112, 111, 115, 32, 120, 61, 48, 10, 101, 110, 100, 10], false),
  ([115, 99, 101, 110, 101, 10, 101, 10, 112, 111, 115, 32, 121, 61, 48, 32, 120, 61, 48, 10, 101, 110, 100, 10], false),
  ([115, 99, 101, 110, 101, 10, 101, 10, 112, 111, 115, 32, 120, 61, 48, 32, 121, 61, 48, 32, 10, 101, 110, 100, 10], false),
  ([115, 99, 101, 110, 101, 10, 101, 10, 112, 111, 115, 32, 32, 120, 61, 48, 32, 121, 61, 48, 10, 101, 110, 100, 10], false),
  ([115, 99, 101, 110, 101, 10, 101, 10, 112, 111, 115, 32, 120, 61, 48, 48, 32, 121, 61, 48, 10, 101, 110, 100, 10], false),
  ([115, 99, 101, 110, 101, 10, 101, 10, 112, 111, 115, 32, 120, 61, 45, 48, 32, 121, 61, 48, 10, 101, 110, 100, 10], false),
  ([115, 99, 101, 110, 101, 10, 101, 10, 112, 111, 115, 32, 120, 61, 43, 49, 32, 121, 61, 48, 10, 101, 110, 100, 10], false),
  ([115, 99, 101, 110, 101, 10, 101, 10, 112, 111, 115, 32, 120, 61, 32, 121, 61, 48, 10, 101, 110, 100, 10], false),
  ([115, 99, 101, 110, 101, 10, 101, 10, 112, 111, 115, 32, 120, 61, 57, 50, 50, 51, 51, 55, 50, 48, 51, 54, 56, 53, 52, 55, 55, 53, 56, 48, 56, 32, 121, 61, 48, 10, 101, 110, 100, 10], false),
  ([115, 99, 101, 110, 101, 10, 101, 10, 112, 111, 115, 32, 120, 61, 48, 120, 49, 32, 121, 61, 48, 10, 101, 110, 100, 10], false),
  ([115, 99, 101, 110, 101, 10, 101, 10, 110, 97, 109, 101, 32, 115, 61, 34, 97, 98, 10, 101, 110, 100, 10], false),
  ([115, 99, 101, 110, 101, 10, 101, 10, 110, 97, 109, 101, 32, 115, 61, 34, 97, 32, 98, 34, 10, 101, 110, 100, 10], false),
  ([115, 99, 101, 110, 101, 10, 101, 10, 110, 97, 109, 101, 32, 115, 61, 34, 92, 120, 52, 49, 34, 10, 101, 110, 100, 10], false),
  ([115, 99, 101, 110, 101, 10, 101, 10, 110, 97, 109, 101, 32, 115, 61, 34, 92, 120, 50, 71, 34, 10, 101, 110, 100, 10], false),
  ([115, 99, 101, 110, 101, 10, 101, 10, 110, 97, 109, 101, 32, 115, 61, 34, 92, 120, 65, 66, 34, 10, 101, 110, 100, 10], false),
  ([115, 99, 101, 110, 101, 10, 101, 10, 110, 97, 109, 101, 32, 115, 61, 34, 92, 120, 97, 98, 34, 10, 101, 110, 100, 10], true),
  ([115, 99, 101, 110, 101, 10, 101, 10, 110, 97, 109, 101, 32, 115, 61, 34, 97, 98, 99, 100, 101, 102, 103, 104, 105, 106, 107, 108, 109, 34, 10, 101, 110, 100, 10], false),
  ([115, 99, 101, 110, 101, 10, 101, 10, 110, 97, 109, 101, 32, 115, 61, 34, 97, 98, 99, 100, 101, 102, 103, 104, 105, 106, 107, 108, 34, 10, 101, 110, 100, 10], true),
  ([115, 99, 101, 110, 101, 10, 101, 10, 110, 97, 109, 101, 32, 115, 61, 34, 34, 34, 10, 101, 110, 100, 10], false),
  ([115, 99, 101, 110, 101, 10, 101, 10, 108, 105, 110, 107, 32, 116, 111, 61, 64, 49, 32, 110, 101, 120, 116, 61, 45, 10, 101, 110, 100, 10], false),
  ([115, 99, 101, 110, 101, 10, 101, 10, 108, 105, 110, 107, 32, 116, 111, 61, 64, 45, 49, 32, 110, 101, 120, 116, 61, 45, 10, 101, 110, 100, 10], false),
  ([115, 99, 101, 110, 101, 10, 101, 10, 108, 105, 110, 107, 32, 116, 111, 61, 64, 48, 48, 32, 110, 101, 120, 116, 61, 45, 10, 101, 110, 100, 10], false),
  ([115, 99, 101, 110, 101, 10, 101, 10, 108, 105, 110, 107, 32, 116, 111, 61, 48, 32, 110, 101, 120, 116, 61, 45, 10, 101, 110, 100, 10], false),
  ([115, 99, 101, 110, 101, 10, 101, 10, 102, 108, 97, 103, 32, 111, 110, 61, 49, 10, 101, 110, 100, 10], false),
  ([115, 99, 101, 110, 101, 10, 101, 10, 98, 97, 103, 32, 108, 61, 91, 49, 44, 50, 44, 51, 44, 52, 44, 53, 93, 10, 101, 110, 100, 10], false),
  ([115, 99, 101, 110, 101, 10, 101, 10, 98, 97, 103, 32, 108, 61, 91, 49, 44, 93, 10, 101, 110, 100, 10], false),
  ([115, 99, 101, 110, 101, 10, 101, 10, 98, 97, 103, 32, 108, 61, 91, 44, 93, 10, 101, 110, 100, 10], false),
  ([115, 99, 101, 110, 101, 10, 101, 10, 98, 97, 103, 32, 108, 61, 49, 10, 101, 110, 100, 10], false),
  ([115, 99, 101, 110, 101, 10, 101, 10, 109, 97, 114, 107, 32, 120, 61, 49, 10, 101, 110, 100, 10], false),
  ([115, 99, 101, 110, 101, 10, 101, 10, 109, 97, 114, 107, 10, 109, 97, 114, 107, 10, 101, 110, 100, 10], false),
  ([115, 99, 101, 110, 101, 10, 101, 10, 109, 97, 114, 107, 10, 112, 111, 115, 32, 120, 61, 48, 32, 121, 61, 48, 10, 101, 110, 100, 10], false),
  ([115, 99, 101, 110, 101, 10, 101, 10, 109, 97, 114, 107, 115, 10, 101, 110, 100, 10], false),
  ([115, 99, 101, 110, 101, 10, 101, 10, 101, 110, 100, 10, 101, 110, 100, 10], false),
  ([115, 99, 101, 110, 101, 10, 101, 10, 10, 101, 110, 100, 10], false)]
def pckK : List (List UInt8 × Bool) := [([83, 67, 49, 0], true),
  ([83, 67, 49, 1, 0, 1, 0], true),
  ([83, 67, 49, 2, 0, 1, 1, 32, 1, 0], true),
  ([83, 67, 49, 1, 1, 1, 0, 6, 9], true),
  ([83, 67, 49, 2, 4, 2, 0, 0, 2, 0, 1, 2], true),
  ([83, 67, 49, 1, 2, 1, 0, 2, 97, 0], true),
  ([83, 67, 49, 1, 16, 1, 0, 2, 128, 1, 127], true),
  ([83, 67, 49, 1, 1, 1, 0, 255, 255, 255, 255, 255, 255, 255, 255, 255, 1, 0], true),
  ([], false),
  ([83, 67, 49], false),
  ([83, 67, 50, 0], false),
  ([83, 67, 49, 0, 0], false),
  ([83, 67, 49, 128, 0], false),
  ([83, 67, 49, 1], false),
  ([83, 67, 49, 1, 0, 0], false),
  ([83, 67, 49, 1, 0, 2, 0, 0], false),
  ([83, 67, 49, 1, 0, 1, 1], false),
  ([83, 67, 49, 1, 64, 1, 0], false),
  ([83, 67, 49, 2, 32, 1, 1, 0, 1, 0], false),
  ([83, 67, 49, 2, 0, 1, 0, 0, 1, 1], false),
  ([83, 67, 49, 2, 0, 1, 0, 32, 1, 0], false),
  ([83, 67, 49, 21, 0, 21], false),
  ([83, 67, 49, 1, 1, 1, 0, 6], false),
  ([83, 67, 49, 1, 1, 1, 0, 134, 0, 9], false),
  ([83, 67, 49, 1, 8, 1, 0, 2], false),
  ([83, 67, 49, 1, 8, 1, 0, 1], true),
  ([83, 67, 49, 1, 4, 1, 0, 2, 0], false),
  ([83, 67, 49, 1, 2, 1, 0, 13, 97, 98, 99, 100, 101, 102, 103, 104, 105, 106, 107, 108, 109], false),
  ([83, 67, 49, 1, 16, 1, 0, 5, 0, 0, 0, 0, 0], false),
  ([83, 67, 49, 1, 1, 1, 0, 255, 255, 255, 255, 255, 255, 255, 255, 255, 2, 0], false)]
def lawL : List CompS := [([112, 111, 115], [([120], 1), ([121], 1)]), ([110, 97, 109, 101], [([115], 3)]), ([108, 105, 110, 107], [([116, 111], 4), ([110, 101, 120, 116], 4)]), ([102, 108, 97, 103], [([111, 110], 2)]), ([98, 97, 103], [([108], 5)]), ([109, 97, 114, 107], [])]
set_option maxRecDepth 100000
theorem law_sch : schemaL lawSch = some lawL := by decide +kernel
theorem sch_all : (schK.all fun x => (schemaL x.1).isSome == x.2) = true := by decide +kernel
theorem scn_all : (scnK.all fun x => textB lawL x.1 x.2) = true := by decide +kernel
theorem pck_all : (pckK.all fun x => packB lawL x.1 x.2) = true := by decide +kernel
theorem scn_len : (scnK.all fun x => decide (x.1.length ≤ 1000)) = true := by decide +kernel
theorem pck_len : (pckK.all fun x => decide (x.1.length ≤ 1000)) = true := by decide +kernel
theorem sch_len : (schK.all fun x => decide (x.1.length ≤ 1000)) = true := by decide +kernel
end Go.Proofs.YthkbeaffkcfgiabGreatDoor

namespace Go.Proofs.YthkbeaffkcfgiabGreatDoor
open Go.RowKit

theorem glob_pow {w : World} (h : Glob w) : PowB w.heap.size w := fun w' hb => (h.below h.size hb hb.size).tab
theorem sane_nought (L : List CompS) : Sane L St.nought := fun i _ h => by cases h

/-- What a world tells that holds nobody. -/
theorem empty_tells {w : World} {b g lc : Nat} {L : List CompS} (hW : WT w (ownB b) b g lc 1 L St.nought) (hG : Glob w) :
    Calls Tryz.prog 17 #[.pointer (some ⟨b, 0, none⟩)] w (fun e w' => e = .returned (.string ⟨#[115, 99, 101, 110, 101, 10, 101, 110, 100, 10]⟩) ∧ Below w.heap.size w w') :=
  save_wt (ownB b) b g lc 1 L St.nought w hW (sane_nought L) (fun j hj => absurd hj (Nat.not_lt_zero _)) (glob_pow hG)
theorem bytes_nought (L : List CompS) : bytesTx L (backL L St.nought) = [83, 67, 49, 0] := by
  have e : backL L St.nought = [] := rfl
  have h : ∀ c, setTx L [] c = [] := fun c => rfl
  have hz : ∀ xs : List Nat, xs.flatMap (fun _ => ([] : List UInt8)) = [] := fun xs => by induction xs with | nil => rfl | cons x xs ih => rw [List.flatMap_cons, ih]; rfl
  rw [e]
  unfold bytesTx setsTx
  simp only [h, hz]
  rfl
theorem empty_packs {w : World} {b g lc : Nat} {L : List CompS} (hW : WT w (ownB b) b g lc 1 L St.nought) :
    Calls Tryz.prog 18 #[.pointer (some ⟨b, 0, none⟩)] w (fun e w' => e = .returned (.string ⟨#[83, 67, 49, 0]⟩) ∧ Below w.heap.size w w') := by
  have h := pack_wt (ownB b) b g lc 1 L St.nought w hW (sane_nought L) (fun j hj => absurd hj (Nat.not_lt_zero _))
  rw [bytes_nought] at h
  exact h

/-- What is left of a world that a card was laid into: of one that it takes. -/
theorem textB_some {L : List CompS} {t : List UInt8} (h : textB L t true = true) : ∃ sc, readTextL L t = some sc ∧ backT L sc t := by
  unfold textB at h
  split at h
  · rename_i sc hsc
    exact ⟨sc, hsc, by simpa using h⟩
  · cases h
theorem textB_none {L : List CompS} {t : List UInt8} (h : textB L t false = true) : readTextL L t = none := by
  unfold textB at h
  split at h
  · cases h
  · assumption
theorem packB_some {L : List CompS} {t : List UInt8} (h : packB L t true = true) : ∃ sc, readBytesL L t = some sc ∧ backB L sc t := by
  unfold packB at h
  split at h
  · rename_i sc hsc
    exact ⟨sc, hsc, by simpa using h⟩
  · cases h
theorem packB_none {L : List CompS} {t : List UInt8} (h : packB L t false = true) : readBytesL L t = none := by
  unfold packB at h
  split at h
  · cases h
  · assumption

/-- How a world stands after a card that it takes. -/
theorem settled_kept {w w' : World} {b g lc : Nat} {L : List CompS} {sc : List Ent} {v : Value} (h : SettledAt w b g lc L sc v w') (hG : Glob w) (hb : 11 ≤ b) (hbl : b < w.heap.size) : Glob w' ∧ Below b w w' := by
  obtain ⟨⟨w1, h1, h2, _⟩, _⟩ := h
  have hG1 := hG.below hG.size h1 h1.size
  refine ⟨hG1.turns h2 fun k hk => ?_, ⟨h2.os.trans h1.os, h2.tape.trans h1.tape, h2.output.trans h1.output, Nat.le_trans h1.size h2.size, fun k hkb => ?_⟩⟩
  · unfold Tur ownB at hk
    split at hk <;> omega
  · refine (h2.block k (by have := h1.size; omega) fun hk' => ?_).trans (h1.block k (by omega))
    unfold Tur ownB at hk'
    rw [if_neg (by omega)] at hk'
    omega
theorem settled_saves {w w' : World} {b g lc : Nat} {L : List CompS} {sc : List Ent} {v : Value} {t : List UInt8} (h : SettledAt w b g lc L sc v w') (hG : Glob w') (hB : backT L sc t) (W : World) (hb : Below w'.heap.size w' W) :
    Calls Tryz.prog 17 #[.pointer (some ⟨b, 0, none⟩)] W (fun e w2 => e = .returned (.string (mk t)) ∧ Below W.heap.size W w2) := by
  obtain ⟨_, own', lv', hW⟩ := h
  obtain ⟨h1, h2, h3, h4, h5⟩ := hB
  have hs := sane_of hW.lay.few hW.lay.kl h2 h3
  have := save_wt own' b g lc _ L _ W (hW.below hb) hs h4 (glob_pow (hG.below hG.size hb hb.size))
  rw [show backL L { settled L sc with lv := lv' } = backL L (settled L sc) from rfl, h5] at this
  exact this
theorem settled_packs {w w' : World} {b g lc : Nat} {L : List CompS} {sc : List Ent} {v : Value} {t : List UInt8} (h : SettledAt w b g lc L sc v w') (hB : backB L sc t) (W : World) (hb : Below w'.heap.size w' W) :
    Calls Tryz.prog 18 #[.pointer (some ⟨b, 0, none⟩)] W (fun e w2 => e = .returned (.string (mk t)) ∧ Below W.heap.size W w2) := by
  obtain ⟨_, own', lv', hW⟩ := h
  obtain ⟨h1, h2, h3, h4, h5⟩ := hB
  have hs := sane_of hW.lay.few hW.lay.kl h2 h3
  have := pack_wt own' b g lc _ L _ W (hW.below hb) hs h4
  rw [show backL L { settled L sc with lv := lv' } = backL L (settled L sc) from rfl, h5] at this
  exact this

/-- New, of the law's schema. -/
theorem new_law (w : World) (hG : Glob w) : Calls Tryz.prog 34 #[.string (mk lawSch)] w fun e w' => ∃ b g lc, e = .returned (.tuple #[.pointer (some ⟨b, 0, none⟩), .int .i64 0]) ∧ w.heap.size ≤ b ∧ WT w' (ownB b) b g lc 1 lawL St.nought ∧ Below w.heap.size w w' := by
  obtain ⟨m, hm⟩ := hG.most
  refine (new_n lawSch m w (by decide +kernel) hm).mono ?_
  rintro e w' ⟨⟨cs, h1, b, g, c, rfl, h2, h3, h4, h5, h6, h7, h8, h9, h10⟩ | ⟨h1, _⟩, hb⟩
  · rw [law_sch] at h1
    cases h1
    exact ⟨b, g, c, rfl, h2, wt_new h4 h5 h6 h7 h9 h10, hb⟩
  · rw [law_sch] at h1
    cases h1
end Go.Proofs.YthkbeaffkcfgiabGreatDoor
