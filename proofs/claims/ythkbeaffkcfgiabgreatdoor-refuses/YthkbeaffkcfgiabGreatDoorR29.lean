import Derived.Defers
import Derived.Recover
import Derived.Test.YthkbeaffkcfgiabGreatDoorR28
set_option linter.unusedSimpArgs false
set_option linter.unusedVariables false
namespace Go.Proofs.YthkbeaffkcfgiabGreatDoor
open Go.RowKit
theorem catchS_idle (p q:Value) (w:World) :
 CallsD Tryz.prog 180 #[p,q] .returning w fun e u' w' => e = .returned (.tuple #[]) ∧ u' = .returning ∧ w' = w:=by
 refine callsD_of_wpS Tryz.func180 rfl fun c₀ cs hu => ?_
 apply wpS_seq
 apply wpS_region
 simp [wpOpsS,go_sem,recoverD,hu,Tryz.ntmps180,Exit.thenS]
 apply wpS_seq
 refine wpS_of_wp ?_
 go_wp2
 simp only [Exit.thenS]
 refine wpS_cond (t:=false) (by simp [Act.eval]) ?_
 simp only [Bool.false_eq_true,if_false]
 refine wpS_of_wp (wp_skip ?_)
 cases c₀
 simp_all [bodyPostS,results,Tryz.results180]
set_option maxHeartbeats 800000 in
set_option maxRecDepth 20000 in
theorem catchS_wrong (b1 b2:Nat) (v0:Option Addr) (n0 c0:Nat) (b0:Bool) (w:World) (hp:w.cell? ⟨b1,0,none⟩ = some (.slice v0 n0 c0)) (hq:w.cell? ⟨b2,0,none⟩ = some (.bool b0)) (fp:w.frozen? ⟨b1,0,none⟩ = false) (fq:w.frozen? ⟨b2,0,none⟩ = false) (hpq:b1 < b2) (hqs:b2 < w.heap.size) :
 CallsD Tryz.prog 180 #[.pointer (some ⟨b1,0,none⟩),.pointer (some ⟨b2,0,none⟩)] (.panicking wrongS) w fun e u' w' => e = .returned (.tuple #[]) ∧ u' = .panicking [{ v:=.iface 262 (.agg #[]),recovered:=true }] ∧ w' = ((w.alloc (.cells #[] 262)).setCell ⟨b1,0,none⟩ (.slice none 0 0)).setCell ⟨b2,0,none⟩ (.bool false):=by
 unfold wrongS
 have hta:∀ W:World,Sem.run Tryz.prog (Instr.typeAssert (.iface 262 (.agg #[])) 20 262 true) W = .ok (.tuple #[.agg #[],.bool true]) W:=fun _ => by kernel_rfl
 have hp2:(w.alloc (.cells #[] 262)).cell? ⟨b1,0,none⟩ = some (.slice v0 n0 c0):=(World.cell?_alloc_lt _ _ _ (by simp;omega)).trans hp
 have hq2:(w.alloc (.cells #[] 262)).cell? ⟨b2,0,none⟩ = some (.bool b0):=(World.cell?_alloc_lt _ _ _ hqs).trans hq
 have fp2:(w.alloc (.cells #[] 262)).frozen? ⟨b1,0,none⟩ = false:=(World.frozen?_of_block (a:=⟨b1,0,none⟩) (Below.heap_alloc w _ b1 (by omega))).trans fp
 have fq2:(w.alloc (.cells #[] 262)).frozen? ⟨b2,0,none⟩ = false:=(World.frozen?_of_block (a:=⟨b2,0,none⟩) (Below.heap_alloc w _ b2 (by omega))).trans fq
 have hne:¬ b1 = b2:=by omega
 have hne2:¬ b2 = b1:=by omega
 refine callsD_of_wpS Tryz.func180 rfl fun c₀ cs hu => ?_
 apply wpS_seq
 apply wpS_region
 simp [wpOpsS,go_sem,recoverD,hu,Tryz.ntmps180,Exit.thenS]
 apply wpS_seq
 refine wpS_of_wp ?_
 go_wp2
 simp only [Exit.thenS]
 refine wpS_cond (t:=true) (by simp [Act.eval]) ?_
 simp only [if_true]
 refine wpS_of_wp ?_
 go_wp2
 simp [bodyPostS,results,Tryz.results180]
def AEnds (w:World) (r:Option (List Ent)) (e:Ending) (w':World):Prop :=
 ((∃ sc sa vc sls lvs,r = some sc ∧ e = .returned (.tuple #[.slice sa sc.length vc,.bool true]) ∧ SceneOwn w' w.heap.size (.slice sa sc.length vc) sc sls lvs) ∨ (r = none ∧ e = .returned (.tuple #[.slice none 0 0,.bool false]))) ∧ Below w.heap.size w w'
set_option maxHeartbeats 1600000 in
theorem attempt_any (nf:Nat) (cap:Array Value) (r:Option (List Ent)) (w:World) (hrun:∀ args w,(callFunc nf args).run Tryz.prog w = .ok (.enter nf args) w)
 (hC:Calls Tryz.prog nf cap ((w.alloc (.cells #[.slice none 0 0] 99)).alloc (.cells #[.bool false] 4)) (SEnds ((w.alloc (.cells #[.slice none 0 0] 99)).alloc (.cells #[.bool false] 4)) r)) :
 Calls Tryz.prog 112 #[.func (.func nf) #[] cap] w (AEnds w r):=by
 have HC:Hid (Calls Tryz.prog nf cap ((w.alloc (.cells #[.slice none 0 0] 99)).alloc (.cells #[.bool false] 4)) (SEnds ((w.alloc (.cells #[.slice none 0 0] 99)).alloc (.cells #[.bool false] 4)) r)):=hC
 clear hC
 have hmf:∀ (fn:Fn) (first cap:Array Value) (w:World),(Instr.makeFunc fn first cap).run Tryz.prog w = .ok (.func fn first cap) w:=fun _ _ _ _ => rfl
 go_enter_defers Tryz.func112,Tryz.ntmps112
 go_wp2_with fail
 have HC2:Hid (Calls Tryz.prog nf (#[] ++ cap) ((w.alloc (.cells #[.slice none 0 0] 99)).alloc (.cells #[.bool false] 4)) (SEnds ((w.alloc (.cells #[.slice none 0 0] 99)).alloc (.cells #[.bool false] 4)) r)):=by
  rw [Array.empty_append];exact HC
 first | refine Calls.mono HC.out ?_ | refine Calls.mono HC2.out ?_
 rintro e w1 ⟨hends,hb⟩
 have HB:Hid (Below w.heap.size w w1):=(below_two _ _ _).trans (hb.mono (by simp;omega))
 have b0:w1.heap[w.heap.size]? = some (.cells #[.slice none 0 0] 99 (0,0)):=by
  rw [hb.block w.heap.size (by simp;omega),Below.heap_alloc _ _ _ (by simp)];exact heap_alloc_at rfl _
 have b1:w1.heap[w.heap.size + 1]? = some (.cells #[.bool false] 4 (0,0)):=by
  rw [hb.block (w.heap.size + 1) (by simp)];exact heap_alloc_at (by simp) _
 have c0:w1.cell? ⟨w.heap.size,0,none⟩ = some (.slice none 0 0):=by rw [cell_row b0];rfl
 have c1:w1.cell? ⟨w.heap.size + 1,0,none⟩ = some (.bool false):=by rw [cell_row b1];rfl
 have f0:w1.frozen? ⟨w.heap.size,0,none⟩ = false:=frozen_row b0 _
 have f1:w1.frozen? ⟨w.heap.size + 1,0,none⟩ = false:=frozen_row b1 _
 have hs1:w.heap.size + 1 < w1.heap.size:=(Array.getElem?_eq_some_iff.1 b1).1
 clear hb b0 b1
 rcases hends with ⟨sc,sa,vc,sls,lvs,hr,rfl,hS⟩ | ⟨hr,rfl⟩
 · have HR:Hid (r = some sc):=hr
   have HS:Hid (SceneOwn w1 (w.heap.size + 2) (.slice sa sc.length vc) sc sls lvs):=by
    have e:((w.alloc (.cells #[.slice none 0 0] 99)).alloc (.cells #[.bool false] 4)).heap.size = w.heap.size + 2:=by simp
    rw [e] at hS
    exact hS
   clear hr hS
   go_wp2
   refine leaves_cons (f:=180) (args:=#[.pointer (some ⟨w.heap.size,0,none⟩),.pointer (some ⟨w.heap.size + 1,0,none⟩)]) (by simp) (by simp [go_sem]) ?_
   refine (catchS_idle _ _ _).mono ?_
   rintro e u' w'' ⟨rfl,rfl,rfl⟩
   simp only [Leaves,settle]
   refine ⟨.tuple #[.slice sa sc.length vc,.bool true],by simp [results,Tryz.results112,go_sem,c0,c1],Or.inl ⟨sc,sa,vc,sls,lvs,HR.out,rfl,?_⟩,(HB.out.setCell (by simp) _).setCell (by simp) _⟩
   exact (HS.out.keep fun i h1 h2 => (heapSet (by omega)).trans (heapSet (by omega))).base (by omega)
 · have HR:Hid (r = none):=hr
   clear hr
   go_wp2_with fail
   refine leaves_cons (f:=180) (args:=#[.pointer (some ⟨w.heap.size,0,none⟩),.pointer (some ⟨w.heap.size + 1,0,none⟩)]) (by simp) (by simp [go_sem]) ?_
   refine (catchS_wrong w.heap.size (w.heap.size + 1) none 0 0 false w1 c0 c1 f0 f1 (by omega) hs1).mono ?_
   rintro e u' w'' ⟨rfl,rfl,rfl⟩
   simp only [Leaves,settle,List.dropWhile_nil]
   have hl:w.heap.size < w1.heap.size:=by omega
   have t0:(((w1.alloc (.cells #[] 262)).setCell ⟨w.heap.size,0,none⟩ (.slice none 0 0)).setCell ⟨w.heap.size + 1,0,none⟩ (.bool false)).cell? ⟨w.heap.size,0,none⟩ = some (.slice none 0 0):=by
    rw [set_other _ (by omega),set_same (u:=.slice none 0 0) _ (by rw [World.cell?_alloc_lt _ _ _ hl];exact c0)]
   have t1:(((w1.alloc (.cells #[] 262)).setCell ⟨w.heap.size,0,none⟩ (.slice none 0 0)).setCell ⟨w.heap.size + 1,0,none⟩ (.bool false)).cell? ⟨w.heap.size + 1,0,none⟩ = some (.bool false):=by
    rw [set_same (u:=.bool false) _ (by rw [set_other _ (by omega),World.cell?_alloc_lt _ _ _ hs1];exact c1)]
   refine ⟨.tuple #[.slice none 0 0,.bool false],by simp [results,Tryz.results112,go_sem,t0,t1],Or.inr ⟨HR.out,rfl⟩,((HB.out.alloc HB.out.size _).setCell (by simp) _).setCell (by simp) _⟩
set_option maxHeartbeats 1600000 in
theorem fromText1_any (b0 g:Nat) (L:List CompS) (lc:Nat) (text:List UInt8) (p1 p2:Nat) (w:World) (h1:w.cell? ⟨p1,0,none⟩ = some (.string (mk text))) (h2:w.cell? ⟨p2,0,none⟩ = some (.slice (some ⟨g,0,none⟩) L.length lc)) (hl:text.length ≤ 2 ^ 40) (hG:Glob w) (hL:LayN w b0 g L) (hlc:L.length ≤ lc) :
 Calls Tryz.prog 113 #[.pointer (some ⟨p1,0,none⟩),.pointer (some ⟨p2,0,none⟩)] w (SEnds w (readTextL L text)):=by
 have HC:Hid (Calls Tryz.prog 114 #[.string (mk text),.slice (some ⟨g,0,none⟩) L.length lc] w (SEnds w (readTextL L text))):=readText_any b0 g L lc text w hl hG hL hlc
 clear hG hL
 generalize L.length = n at h2 HC hlc
 generalize readTextL L text = r at HC ⊢
 go_enter Tryz.func113,Tryz.ntmps113
 go_wp2_with fail
 refine Calls.mono HC.out ?_
 rintro e w1 ⟨⟨sc,sa,vc,sls,lvs,hr,rfl,hS⟩ | ⟨hr,rfl⟩,hb⟩
 · go_wp2_with fail
   go_ret
   exact ⟨Or.inl ⟨sc,sa,vc,sls,lvs,hr,rfl,hS⟩,hb⟩
 · go_wp2_with fail
   exact ⟨rfl,Or.inr ⟨by first | exact hr | rfl,rfl⟩,hb⟩
set_option maxHeartbeats 1600000 in
theorem fromText_any (b0 g:Nat) (L:List CompS) (lc:Nat) (text:List UInt8) (w:World) (hl:text.length ≤ 2 ^ 40) (hG:Glob w) (hL:LayN w b0 g L) (hlc:L.length ≤ lc) :
 Calls Tryz.prog 55 #[.string (mk text),.slice (some ⟨g,0,none⟩) L.length lc] w (AEnds w (readTextL L text)):=by
 obtain ⟨W1,hW1⟩:∃ W1,W1 = (w.alloc (.cells #[.string (mk text)] 9)).alloc (.cells #[.slice (some ⟨g,0,none⟩) L.length lc] 103):=⟨_,rfl⟩
 have hB1:Below w.heap.size w W1:=by rw [hW1];exact below_two _ _ _
 have hs1:W1.heap.size = w.heap.size + 2:=by rw [hW1];simp
 have q0:W1.heap[w.heap.size]? = some (.cells #[.string (mk text)] 9 (0,0)):=by rw [hW1,Below.heap_alloc _ _ _ (by simp)];exact heap_alloc_at rfl _
 have q1:W1.heap[w.heap.size + 1]? = some (.cells #[.slice (some ⟨g,0,none⟩) L.length lc] 103 (0,0)):=by rw [hW1];exact heap_alloc_at (by simp) _
 have HA:Hid (Calls Tryz.prog 112 #[.func (.func 113) #[] #[.pointer (some ⟨w.heap.size,0,none⟩),.pointer (some ⟨w.heap.size + 1,0,none⟩)]] W1 (AEnds w (readTextL L text))):=by
  have hB2:Below W1.heap.size W1 ((W1.alloc (.cells #[.slice none 0 0] 99)).alloc (.cells #[.bool false] 4)):=below_two _ _ _
  have hB3:=hB1.trans (hB2.mono hB1.size)
  refine (attempt_any 113 #[.pointer (some ⟨w.heap.size,0,none⟩),.pointer (some ⟨w.heap.size + 1,0,none⟩)] (readTextL L text) W1 (fun _ _ => by kernel_rfl) (fromText1_any b0 g L lc text w.heap.size (w.heap.size + 1) _ ?_ ?_ hl (hG.below hG.size hB3 hB3.size) (hL.below hB3.size fun k hk => hB3.block k (by have:=hL.le;omega)) hlc)).mono ?_
  · rw [cell_row ((hB2.block _ (by omega)).trans q0)];rfl
  · rw [cell_row ((hB2.block _ (by omega)).trans q1)];rfl
  · rintro e w' ⟨⟨sc,sa,vc,sls,lvs,hr,rfl,hS⟩ | ⟨hr,rfl⟩,hb⟩
    · exact ⟨Or.inl ⟨sc,sa,vc,sls,lvs,hr,rfl,hS.base (by omega)⟩,hB1.trans (hb.mono (by omega))⟩
    · exact ⟨Or.inr ⟨hr,rfl⟩,hB1.trans (hb.mono (by omega))⟩
 rw [hW1] at HA
 clear hG hL hB1 hs1 q0 q1 hW1
 generalize L.length = n at HA hlc ⊢
 generalize readTextL L text = r at HA ⊢
 have hmf:∀ (fn:Fn) (first cap:Array Value) (w:World),(Instr.makeFunc fn first cap).run Tryz.prog w = .ok (.func fn first cap) w:=fun _ _ _ _ => rfl
 go_enter Tryz.func55,Tryz.ntmps55
 go_wp2_with fail
 refine Calls.mono HA.out ?_
 rintro e w1 ⟨⟨sc,sa,vc,sls,lvs,hr,rfl,hS⟩ | ⟨hr,rfl⟩,hb⟩
 · go_wp2_with fail
   go_ret2
   exact ⟨Or.inl ⟨sc,sa,vc,sls,lvs,hr,rfl,hS⟩,hb⟩
 · go_wp2_with fail
   go_ret2
   exact ⟨Or.inr ⟨hr,rfl⟩,hb⟩
end Go.Proofs.YthkbeaffkcfgiabGreatDoor
