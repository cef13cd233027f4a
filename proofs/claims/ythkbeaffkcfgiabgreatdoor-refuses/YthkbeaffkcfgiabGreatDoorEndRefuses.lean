import Derived.ProofKit
import Derived.OpenShut
import Derived.Deep.DeepHandedRow
import Derived.Test.YthkbeaffkcfgiabGreatDoorCards
import Derived.Test.YthkbeaffkcfgiabGreatDoorTie
import Derived.Test.YthkbeaffkcfgiabGreatDoorR46
import Derived.Test.YthkbeaffkcfgiabGreatDoorGoes
set_option linter.unusedSimpArgs false
set_option linter.unusedVariables false
namespace Go.Proofs.YthkbeaffkcfgiabGreatDoor
open Go.ChangeShapes Go.WideShapes Go.ChangeAt Go.RowKit
theorem own:ownKnob Tryz.prog.godebug = none:=by kernel_rfl
theorem tab_laid {W:World} (hlaid:laidMet Tryz.prog Rows.refusesRow.laid W):Lib.TabIs Tryz.prog W "internal/strconv.uint64pow10" .u64 Lib.pow10Tab:=by
 obtain ⟨g,t,cs,fuel,p,h1,h2,h3,h4⟩:=Lib.laidMet.reads hlaid (n := "internal/strconv.uint64pow10") (d:=Rows.laid_internal_strconv_uint64pow10) (by simp [Rows.refusesRow])
 have e1:g = 6:=Option.some.inj (h1.symm.trans (by kernel_rfl))
 subst e1
 have e2:t = 412:=Option.some.inj (h2.symm.trans (by kernel_rfl))
 subst e2
 have e:(Rows.laid_internal_strconv_uint64pow10:DataW Unit) = Lib.tabData .u64 Lib.pow10Tab:=rfl
 rw [e] at h4
 unfold Lib.TabIs
 rw [h3,← Lib.cells_of_tab (n:=20) (e:=178) (by kernel_rfl) (by kernel_rfl) (by kernel_rfl) (by kernel_rfl) h4]
set_option maxRecDepth 100000 in
theorem contract (H:Type) (enc:TypeId × Value → H) (W:World) (base:Nat) (args:Array Value) (ds gs:List (DataW H)) (before:List MemPlace)
 (hval:∀ (j:Nat) t v,Tryz.f13.params[j]? = some t → args[j]? = some v → Value.okWide Tryz.prog W .any base t v)
 (hW:DataW.Whole enc Tryz.prog Tryz.f13.params.toList Rows.refusesSpec.vars false W args.toList ds gs before) (hsh:W.ShapedOpen Tryz.prog) (hlaid:laidMet Tryz.prog Rows.refusesRow.laid W) :
 Calls Tryz.prog 13 args W fun e W' => ∃ v,e = .returned v ∧ Rows.refusesSpec.post enc Tryz.prog Tryz.f13 false true false false W args v W':=by
 have hW':=hW
 obtain ⟨p,q,hA0,hV,rfl,hfz,hnd⟩:=hW
 have hA:DataW.TrodAll enc Tryz.prog W 0 (fun _ => true) true Tryz.f13.params.toList args.toList ds p:=hA0
 rw [Tryz.params13] at hA hval
 obtain ⟨rfl,rfl,rfl⟩:=trodAll_none hA
 obtain ⟨rfl,rfl⟩:=trodVars_none hV
 clear hA0
 simp only [List.append_nil] at hW'
 have htab:Lib.TabIs Tryz.prog W "internal/strconv.uint64pow10" .u64 Lib.pow10Tab:=tab_laid hlaid
 have hG:Glob W:=glob_laid W hsh htab (Lib.laidMet.reads hlaid (n := "strconv.ErrSyntax") (d:=Rows.laid_strconv_ErrSyntax) (by simp [Rows.refusesRow])) (Lib.laidMet.reads hlaid (n := "strconv.ErrRange") (d:=Rows.laid_strconv_ErrRange) (by simp [Rows.refusesRow]))
 refine (refuses_any W hG).mono fun e W' ⟨he,hb⟩ => ?_
 subst he
 exact ⟨_,rfl,_,_,_,[],[],[],hW',trodAll_mk1 (shut_bool Tryz.underlying4 _),trodAll_mk0,rfl,hb.frame _,fun h => by cases h⟩
theorem laid_met (os:Os):laidMet Tryz.prog Rows.refusesRow.laid (({ World.holding Tryz.prog os ⟨errBlocks,#[],[]⟩ with heap:=laidHeap (World.settled Tryz.prog os).heap.size (World.holding Tryz.prog os ⟨errBlocks,#[],[]⟩).heap }:World).forCall (fun _ _ => 0) ⟨#[],#[],[]⟩).memory :=
 laidMet_of_run' 8 (by kernel_rfl) (by kernel_rfl)
theorem reads (os:Os) {H:Type} (enc:TypeId × Value → H):∃ places,DataW.whole enc Tryz.prog (({ World.holding Tryz.prog os ⟨errBlocks,#[],[]⟩ with heap:=laidHeap (World.settled Tryz.prog os).heap.size (World.holding Tryz.prog os ⟨errBlocks,#[],[]⟩).heap }:World).forCall (fun _ _ => 0) ⟨#[],#[],[]⟩).memory Tryz.f13.params.toList Rows.refusesSpec.vars false (#[]:Array Value).toList 8 = some ([],[],places) :=
 ⟨[],by kernel_rfl⟩
set_option maxRecDepth 100000 in
theorem lifted (os:Os) (started:os.Started) (H:Type) (enc:TypeId × Value → H) (F:Stop.Interp) :
 ReturnsInHanded {} Tryz.checked os 13 .any ((OpenSpec.ofChange Rows.refusesSpec).preRow enc Tryz.prog Tryz.f13 Rows.refusesRow.domain false Rows.refusesRow.laid) (((OpenSpec.ofChange Rows.refusesSpec).at F).post enc Tryz.prog Tryz.f13 false true false false):=by
 obtain ⟨places,hx⟩:=reads os enc
 refine returnsInHanded_of_row (C:=Tryz.checked) (s:=OpenSpec.ofChange Rows.refusesSpec) own started (by kernel_rfl) Tryz.func13
  (witness_row_at (enc:=enc) (C:=Tryz.checked) false ({ World.holding Tryz.prog os ⟨errBlocks,#[],[]⟩ with heap:=laidHeap (World.settled Tryz.prog os).heap.size (World.holding Tryz.prog os ⟨errBlocks,#[],[]⟩).heap }:World) #[] rfl (by kernel_rfl) (by kernel_rfl) (by kernel_rfl)
   (OpenSpec.preRow_of_cond 8 hx (by kernel_rfl) (fun k hk => by cases hk) (by kernel_rfl) (laid_met os))) ?_
 intro W base args ds gs before hval hW _ _ _ hlaid hsh _
 exact contract H enc W base args ds gs before hval hW hsh hlaid
theorem fact_inPlace:(Rows.refusesRow.inPlace == Tryz.prog.inPlace 13) = true:=by kernel_rfl
theorem fact_unfollowed:(Rows.refusesRow.unfollowed == Tryz.prog.unfollowed 13) = true:=by kernel_rfl
theorem fact_recurses:(Rows.refusesRow.recurses == Tryz.prog.recurses 13) = true:=by kernel_rfl
theorem fact_named:(Rows.refusesRow.named == Tryz.prog.varsNamed 13) = true:=by kernel_rfl
theorem facts:joinedFacts Tryz.prog 13 Tryz.f13 (OpenSpec.ofChange Rows.refusesSpec).bare Rows.refusesRow = true:=by
 unfold joinedFacts
 rw [fact_inPlace,fact_unfollowed,fact_recurses,fact_named]
 kernel_rfl
theorem said:Rows.RefusesSaid :=
 OpenClaim.holds_of_cond 13 Tryz.f13 rfl rfl rfl rfl rfl rfl rfl ⟨rfl,rfl,rfl,rfl,rfl⟩ rfl rfl rfl rfl rfl (by kernel_rfl) Tryz.func13 facts
  (of_decide_eq_true (by kernel_rfl)) (by unfold Func.isWrapper;first | (rw [if_pos (by decide +kernel)];kernel_rfl) | (rw [if_neg (by decide +kernel)];exact ⟨rfl,rfl⟩))
  (fun os started H enc _ F => by rw [OpenClaim.pre_eq_preRow];exact lifted os started H enc F)
theorem plain (f:FuncId) (fn:Func) (hf:Tryz.pinned.checked.prog.funcNamed "scenes/sceneskeep.Refuses" = some f) (hfn:Tryz.pinned.checked.prog.funcs[f]? = some fn) :
 true = Tryz.pinned.checked.prog.looks [] ∧ ∀ (j:Nat) t,fn.params[j]? = some t → Tryz.pinned.checked.prog.wantsStandIn t = false:=by
 obtain rfl:f = 13:=Option.some.inj ((show Tryz.prog.funcNamed "scenes/sceneskeep.Refuses" = some 13 by kernel_rfl).symm.trans hf) |>.symm
 obtain rfl:fn = Tryz.f13:=(Option.some.inj (Tryz.func13.symm.trans hfn)).symm
 refine ⟨by kernel_rfl,fun j t ht => ?_⟩
 rw [Tryz.params13] at ht
 simp at ht
theorem refuses_card:Rows.RefusesCardSaid :=
 holds_tied_goes .later _ _ _ _ said (by kernel_rfl) refuses_row_tie rfl ⟨rfl,rfl⟩ (by kernel_rfl) rfl plain (by kernel_rfl)
#print axioms refuses_card
end Go.Proofs.YthkbeaffkcfgiabGreatDoor
