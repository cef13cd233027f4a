import Derived.Test.YthkbeaffkcfgiaaGreatDoorCards
import Derived.Test.YthkbeaffkcfgiaaGreatDoorTie
import Derived.Test.YthkbeaffkcfgiaaGreatDoorNil
import Derived.Test.YthkbeaffkcfgiaaGreatDoorGoes
import Derived.ProofKit
import Derived.OpenShut
import Derived.Carry
import Derived.Deep.DeepHandedRow
namespace Go.Proofs.YthkbeaffkcfgiaaGreatDoor
open Go.ChangeShapes Go.WideShapes Go.ChangeAt Go.RowKit

theorem own : ownKnob Tryz.prog.godebug = none := by kernel_rfl
theorem laidOut : laidOutB Tryz.prog = true := by kernel_rfl

set_option maxHeartbeats 800000 in
theorem law_script (ad : Addr) (ops : List OpV) (cap : Nat) (w : World) (M : Int) (hM : w.cell? ⟨0, 0, none⟩ = some (.int .i64 M)) (hS : Script w ad ops) (hn : ops.length ≤ cap) (hb : ops.length ≤ 2 ^ 50) (he : ∀ o ∈ ops, o.s.length ≤ 2 ^ 50 ∧ o.t.length ≤ 2 ^ 50 ∧ o.ln ≤ 2 ^ 50) (hr : ∀ o ∈ ops, InRange o) :
    Calls Tryz.prog 3 #[.slice (some ad) ops.length cap] w fun e w' => e = .returned (.bool true) ∧ Below w.heap.size w w' := by
  have h00 : 0 < w.heap.size := World.block_lt_of_cell? _ _ hM
  have HM : Hid (w.cell? ⟨0, 0, none⟩ = some (.int .i64 M)) := hM
  have HS : Hid (Script w ad ops) := hS
  have HR : Hid (∀ o ∈ ops, InRange o) := hr
  have HSm : Hid _ := small_any ad ops cap w hS hn hb he
  have HN : Hid (ops.length ≤ cap) := hn
  clear hM hS hr hn hb he
  go_enter Tryz.func3, Tryz.ntmps3
  go_wp2_with fail
  refine Calls.mono HSm.out ?_
  rintro e w1 ⟨⟨r, rfl, hr⟩, hb1⟩
  have HB1 : Hid (Below w.heap.size w w1) := hb1
  cases r with
  | false =>
    clear hr hb1
    go_wp2_with fail
    go_ret
    exact ⟨rfl, HB1.out⟩
  | true =>
    have HL : Hid (ops.length ≤ 1048576 ∧ ∀ o ∈ ops, o.s.length ≤ 1048576) := hr rfl
    clear hr hb1
    go_wp2_with fail
    refine (upTo_any 1 (by omega) (by omega) ad ops cap w1 M ((HB1.out.cell (p := ⟨0, 0, none⟩) h00).trans HM.out) (HS.out.below HB1.out) HN.out HL.out.1 HL.out.2 HR.out).mono ?_
    rintro e w2 ⟨rfl, hb2⟩
    have HB2 : Hid (Below w.heap.size w w2) := HB1.out.trans (hb2.mono HB1.out.size)
    clear hb2
    go_wp2_with fail
    go_ret
    exact ⟨rfl, HB2.out⟩

set_option maxHeartbeats 800000 in
theorem law_nil (w : World) : Calls Tryz.prog 3 #[.slice none 0 0] w fun e w' => e = .returned (.bool true) ∧ Below w.heap.size w w' := by
  go_enter Tryz.func3, Tryz.ntmps3
  go_wp2_with fail
  refine (small_nil w).mono ?_
  rintro e w1 ⟨rfl, rfl⟩
  go_wp2_with fail
  refine (upTo_nil 1 w).mono ?_
  rintro e w2 ⟨rfl, hb2⟩
  have HB2 : Hid (Below w.heap.size w w2) := hb2
  clear hb2
  go_wp2_with fail
  go_ret
  exact ⟨rfl, HB2.out⟩

set_option maxRecDepth 100000 in
/-- What the walk gives, for every script and every world of the program's shape. -/
theorem contract (H : Type) (enc : TypeId × Value → H) (W : World) (base : Nat) (args : Array Value) (ds gs : List (DataW H)) (before : List MemPlace)
    (hval : ∀ (j : Nat) t v, Tryz.f3.params[j]? = some t → args[j]? = some v → Value.okWide Tryz.prog W .any base t v)
    (hW : DataW.Whole enc Tryz.prog Tryz.f3.params.toList Rows.newsSpec.vars false W args.toList ds gs before)
    (hwt : ∀ d, ds = [d] → ∀ n ∈ d.weights Tryz.prog 22, n ≤ reachBytes) (hsh : W.ShapedOpen Tryz.prog) :
    Calls Tryz.prog 3 args W fun e W' => ∃ v, e = .returned v ∧ Rows.newsSpec.post enc Tryz.prog Tryz.f3 false true false false W args v W' := by
  have hW' := hW
  obtain ⟨p, q, hA0, hV, rfl, hfz, hnd⟩ := hW
  have hA : DataW.TrodAll enc Tryz.prog W 0 (fun _ => true) true Tryz.f3.params.toList args.toList ds p := hA0
  rw [Tryz.params3] at hA hval
  obtain ⟨v0, d0, rfl, rfl, h0⟩ := trodAll_one hA
  obtain ⟨rfl, rfl⟩ := trodVars_none hV
  clear hA0
  simp only [List.append_nil] at hW'
  have hlt : ∀ x ∈ p, x.block < W.heap.size := fun x hx => by simpa using hW'.lt x hx
  obtain ⟨m, hm⟩ := Tryz.laysM219.s1_3 W hsh
  have hok : Value.okWide Tryz.prog W .any base 22 v0 := hval 0 22 v0 rfl rfl
  have hsl : ∃ a l k, v0 = .slice a l k := okWide_slice Tryz.underlying22 hok
  have hcall : Calls Tryz.prog 3 #[v0] W fun e W' => e = .returned (.bool true) ∧ Below W.heap.size W W' := by
    rcases script_read h0 hsl (hwt d0 rfl) with h | ⟨ad, ops, cap, h, hS, hn, hb, he, hr⟩
    · rw [h]; exact law_nil W
    · rw [h]; exact law_script ad ops cap W m hm hS hn hb he hr
  refine hcall.mono fun e W' ⟨he, hb⟩ => ?_
  subst he
  exact ⟨_, rfl, _, _, _, [], p, [], hW', trodAll_mk1 (shut_bool Tryz.underlying4 _), trodAll_mk1 (Below.trod laidOut (by kernel_rfl) (of_decide_eq_true (by kernel_rfl)) h0 hb hlt), rfl, hb.frame _, fun h => by cases h⟩

theorem laid_met (os : Os) : laidMet Tryz.prog Rows.newsRow.laid (({ World.holding Tryz.prog os ⟨errBlocks, #[], []⟩ with heap := laidHeap (World.settled Tryz.prog os).heap.size (World.holding Tryz.prog os ⟨errBlocks, #[], []⟩).heap } : World).forCall (fun _ _ => 0) ⟨#[], #[.slice none 0 0], []⟩).memory :=
  laidMet_of_run' 8 (by kernel_rfl) (by kernel_rfl)
theorem reads (os : Os) {H : Type} (enc : TypeId × Value → H) : ∃ places, DataW.whole enc Tryz.prog (({ World.holding Tryz.prog os ⟨errBlocks, #[], []⟩ with heap := laidHeap (World.settled Tryz.prog os).heap.size (World.holding Tryz.prog os ⟨errBlocks, #[], []⟩).heap } : World).forCall (fun _ _ => 0) ⟨#[], #[.slice none 0 0], []⟩).memory Tryz.f3.params.toList Rows.newsSpec.vars false #[Value.slice none 0 0].toList 8 = some ([.nil], [], places) :=
  ⟨[], by kernel_rfl⟩

set_option maxRecDepth 100000 in
theorem lifted (os : Os) (started : os.Started) (H : Type) (enc : TypeId × Value → H) (F : Stop.Interp) :
    ReturnsInHanded {} Tryz.checked os 3 .any ((OpenSpec.ofChange Rows.newsSpec).preRow enc Tryz.prog Tryz.f3 Rows.newsRow.domain false Rows.newsRow.laid) (((OpenSpec.ofChange Rows.newsSpec).at F).post enc Tryz.prog Tryz.f3 false true false false) := by
  obtain ⟨places, hx⟩ := reads os enc
  refine returnsInHanded_of_row (C := Tryz.checked) (s := OpenSpec.ofChange Rows.newsSpec) own started (by kernel_rfl) Tryz.func3
    (witness_row_at (enc := enc) (C := Tryz.checked) false ({ World.holding Tryz.prog os ⟨errBlocks, #[], []⟩ with heap := laidHeap (World.settled Tryz.prog os).heap.size (World.holding Tryz.prog os ⟨errBlocks, #[], []⟩).heap } : World) #[.slice none 0 0] rfl (by kernel_rfl) (by kernel_rfl) (by kernel_rfl)
      (OpenSpec.preRow_of_cond 8 hx (by kernel_rfl) (fun k hk => by cases hk) (by kernel_rfl) (laid_met os))) ?_
  intro W base args ds gs before hval hW _ _ hwt _ hsh _
  refine contract H enc W base args ds gs before hval hW (fun d hd n hn => ?_) hsh
  have hmem : n ∈ DataW.weightsEach Tryz.prog (Tryz.f3.params.toList ++ (OpenSpec.ofChange Rows.newsSpec).bare.plain.varTypes Tryz.prog) (ds ++ gs) :=
    DataW.weights_mem_each (j := 0) (t := 22) (d := d) (by rw [Tryz.params3]; rfl) (by rw [hd]; rfl) n hn
  simpa using List.all_eq_true.1 hwt n hmem

/-- The row's lists are the program's own: one fact a theorem, for the kernel's memory. -/
theorem fact_inPlace : (Rows.newsRow.inPlace == Tryz.prog.inPlace 3) = true := by kernel_rfl
theorem fact_unfollowed : (Rows.newsRow.unfollowed == Tryz.prog.unfollowed 3) = true := by kernel_rfl
theorem fact_recurses : (Rows.newsRow.recurses == Tryz.prog.recurses 3) = true := by kernel_rfl
theorem fact_named : (Rows.newsRow.named == Tryz.prog.varsNamed 3) = true := by kernel_rfl
theorem facts : joinedFacts Tryz.prog 3 Tryz.f3 (OpenSpec.ofChange Rows.newsSpec).bare Rows.newsRow = true := by
  unfold joinedFacts
  rw [fact_inPlace, fact_unfollowed, fact_recurses, fact_named]
  kernel_rfl

theorem said : Rows.NewsSaid :=
  OpenClaim.holds_of_cond 3 Tryz.f3 rfl rfl rfl rfl rfl rfl rfl ⟨rfl, rfl, rfl, rfl, rfl⟩ rfl rfl rfl rfl rfl (by kernel_rfl) Tryz.func3 facts
    (of_decide_eq_true (by kernel_rfl)) (by unfold Func.isWrapper; first | (rw [if_pos (by decide +kernel)]; kernel_rfl) | (rw [if_neg (by decide +kernel)]; exact ⟨rfl, rfl⟩))
    (fun os started H enc _ F => by rw [OpenClaim.pre_eq_preRow]; exact lifted os started H enc F)

/-- No parameter wants a stand-in: what the card asks. -/
theorem plain (f : FuncId) (fn : Func) (hf : Tryz.pinned.checked.prog.funcNamed "scenes/sceneslaw.News" = some f) (hfn : Tryz.pinned.checked.prog.funcs[f]? = some fn) :
    true = Tryz.pinned.checked.prog.looks [] ∧ ∀ (j : Nat) t, fn.params[j]? = some t → Tryz.pinned.checked.prog.wantsStandIn t = false := by
  obtain rfl : f = 3 := Option.some.inj ((show Tryz.prog.funcNamed "scenes/sceneslaw.News" = some 3 by kernel_rfl).symm.trans hf) |>.symm
  obtain rfl : fn = Tryz.f3 := (Option.some.inj (Tryz.func3.symm.trans hfn)).symm
  refine ⟨by kernel_rfl, fun j t ht => ?_⟩
  rw [Tryz.params3] at ht
  obtain rfl : t = 22 := by simpa using Array.mem_of_getElem? ht
  exact (show Tryz.prog.wantsStandIn 22 = false by kernel_rfl)

/-- THE CARD. -/
theorem news_card : Rows.NewsCardSaid :=
  holds_tied_goes .later _ _ _ _ said (by kernel_rfl) news_row_tie rfl ⟨rfl, rfl⟩ (by kernel_rfl) rfl plain (by kernel_rfl)

#print axioms news_card
end Go.Proofs.YthkbeaffkcfgiaaGreatDoor
