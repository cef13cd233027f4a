import Derived.Laws.Rows
import Derived.Test.YthkbeaffkcfgiabGreatDoorR17
import Derived.Test.YthkbeaffkcfgiabGreatDoorR08
import Derived.Test.YthkbeaffkcfgiabGreatDoorR01
import Derived.Test.YthkbeaffkcfgiabGreatDoorR04
import Derived.Test.YthkbeaffkcfgiabGreatDoorR16
import Derived.Test.YthkbeaffkcfgiabGreatDoorR05
set_option linter.unusedSimpArgs false
set_option linter.unusedVariables false
namespace Go.Proofs.YthkbeaffkcfgiabGreatDoor
open Go.RowKit
theorem flat_len {α:Type} (f:Nat → List α) (m:Nat) (hf:∀ j,(f j).length = m) (n:Nat):((List.range n).flatMap f).length = n * m:=by
 induction n with
 | zero => simp
 | succ n ih => rw [List.range_succ,List.flatMap_append,List.length_append,ih];simp [hf,Nat.succ_mul]
theorem flat_get {α:Type} (f:Nat → List α) (m:Nat) (hf:∀ j,(f j).length = m) (n j o:Nat) (hj:j < n) (ho:o < m):((List.range n).flatMap f)[j * m + o]? = (f j)[o]?:=by
 induction n with
 | zero => omega
 | succ n ih =>
  rw [List.range_succ,List.flatMap_append]
  by_cases h:j < n
  · have hl:j * m + o < ((List.range n).flatMap f).length:=by
     rw [flat_len f m hf]
     calc j * m + o < j * m + m:=by omega
      _ = (j + 1) * m:=by rw [Nat.succ_mul]
      _ ≤ n * m:=Nat.mul_le_mul_right _ (by omega)
    rw [List.getElem?_append_left hl]
    exact ih h
  · have e:j = n:=by omega
    subst e
    rw [List.getElem?_append_right (by rw [flat_len f m hf];omega),flat_len f m hf]
    simp
def entAt (sc:List Ent) (j:Nat):Ent:=sc.getD j ⟨0,[]⟩
def sceneCells (sc:List Ent) (sls:Nat → Nat → Value):List Value:=(List.range sc.length).flatMap fun j => entCells (entAt sc j).c (sls j)
structure SceneOwn (W:World) (B:Nat) (v:Value) (sc:List Ent) (sls:Nat → Nat → Value) (lvs:Nat → Nat → List Value):Prop where
 row:W.ownsRow B 164 7 v sc.length (sceneCells sc sls)
 ents:∀ j,j < sc.length → (entAt sc j).c < 64 ∧ (entAt sc j).vs.length = 6 ∧ EntOwn W B (entAt sc j) (sls j) (lvs j)
theorem SceneOwn.nil (W:World) (B:Nat):SceneOwn W B (.slice none 0 0) [] (fun _ _ => .slice none 0 0) (fun _ _ => []):=⟨World.ownsRow_nil _ _ _ _,fun j h => by simp at h⟩
theorem SceneOwn.keepT {W W':World} {B:Nat} {v:Value} {sc:List Ent} {sls:Nat → Nat → Value} {lvs:Nat → Nat → List Value} (h:SceneOwn W B v sc sls lvs) (hb:∀ i cs t,B ≤ i → W.heap[i]? = some (.cells cs t (0,0)) → (t = 164 ∨ t = 56 ∨ t = 3) → W'.heap[i]? = W.heap[i]?):SceneOwn W' B v sc sls lvs :=
 ⟨own_keepT h.row fun i cs h1 h2 => hb i cs 164 h1 h2 (Or.inl rfl),fun j hj => ⟨(h.ents j hj).1,(h.ents j hj).2.1,fun k hk => ((h.ents j hj).2.2 k hk).keepT fun i cs t h1 h2 h3 => hb i cs t h1 h2 (Or.inr h3)⟩⟩
theorem SceneOwn.keep {W W':World} {B:Nat} {v:Value} {sc:List Ent} {sls:Nat → Nat → Value} {lvs:Nat → Nat → List Value} (h:SceneOwn W B v sc sls lvs) (hb:∀ i,B ≤ i → i < W.heap.size → W'.heap[i]? = W.heap[i]?):SceneOwn W' B v sc sls lvs :=
 h.keepT fun i _ _ h1 h2 _ => hb i h1 (Array.getElem?_eq_some_iff.1 h2).1
theorem SceneOwn.base {W:World} {B B':Nat} {v:Value} {sc:List Ent} {sls:Nat → Nat → Value} {lvs:Nat → Nat → List Value} (h:SceneOwn W B v sc sls lvs) (hb:B' ≤ B):SceneOwn W B' v sc sls lvs :=
 ⟨own_base h.row hb,fun j hj => ⟨(h.ents j hj).1,(h.ents j hj).2.1,fun k hk => ((h.ents j hj).2.2 k hk).base hb⟩⟩
theorem entAt_left (sc:List Ent) (x:Ent) (j:Nat) (h:j < sc.length):entAt (sc ++ [x]) j = entAt sc j:=by
 unfold entAt;simp [List.getD,List.getElem?_append_left h]
theorem entAt_last (sc:List Ent) (x:Ent):entAt (sc ++ [x]) sc.length = x:=by
 unfold entAt;simp [List.getD]
theorem entAt_get (sc:List Ent) (j:Nat) (h:j < sc.length):entAt sc j = sc[j]:=by
 unfold entAt;simp [List.getD,h]
theorem SceneOwn.push {W W':World} {B:Nat} {v v':Value} {sc:List Ent} {sls:Nat → Nat → Value} {lvs:Nat → Nat → List Value} {x:Ent} {sl:Nat → Value} {lv:Nat → List Value} (h:SceneOwn W B v sc sls lvs) (h1:x.c < 64) (h2:x.vs.length = 6) (hx:EntOwn W B x sl lv)
 (hr:W'.ownsRow B 164 7 v' (sc.length + 1) (sceneCells sc sls ++ entCells x.c sl)) (hg:W.grownBy W' v.ownBlock):SceneOwn W' B v' (sc ++ [x]) (upd sls sc.length sl) (upd lvs sc.length lv):=by
 have hk:∀ {y:Ent} {s:Nat → Value} {l:Nat → List Value},EntOwn W B y s l → EntOwn W' B y s l:=fun {y s l} hy k hk => (hy k hk).keepT fun i cs t a b c => by
  refine hg.block i (Array.getElem?_eq_some_iff.1 b).1 (fun e => ?_)
  rcases h.row.2 with ⟨q1,_⟩ | ⟨g,cap,cur,q1,_,q3,_⟩
  · rw [q1] at e;cases e
  · rw [q1] at e;simp [Value.ownBlock] at e;subst e;exact type_ne b q3 (by rcases c with rfl | rfl <;> decide) rfl
 refine ⟨?_,fun j hj => ?_⟩
 · have e:sceneCells (sc ++ [x]) (upd sls sc.length sl) = sceneCells sc sls ++ entCells x.c sl:=by
    unfold sceneCells
    rw [List.length_append,List.length_singleton,List.range_succ,List.flatMap_append]
    congr 1
    · rw [List.flatMap_def,List.flatMap_def]
      congr 1
      refine List.map_congr_left fun j hj => ?_
      have:=List.mem_range.1 hj
      rw [entAt_left _ _ _ this,upd_ne _ _ _ (by omega)]
    · simp [entAt_last,upd_same]
   rw [e]
   simpa using hr
 · simp only [List.length_append,List.length_singleton] at hj
   by_cases e:j = sc.length
   · subst e
     rw [entAt_last,upd_same,upd_same]
     exact ⟨h1,h2,hk hx⟩
   · rw [entAt_left _ _ _ (by omega),upd_ne _ _ _ e,upd_ne _ _ _ e]
     have:=h.ents j (by omega)
     exact ⟨this.1,this.2.1,hk this.2.2⟩
theorem SceneOwn.cell {W:World} {B:Nat} {v:Value} {sc:List Ent} {sls:Nat → Nat → Value} {lvs:Nat → Nat → List Value} (h:SceneOwn W B v sc sls lvs) (j:Nat) (hj:j < sc.length):∃ g cap,v = .slice (some ⟨g,0,none⟩) sc.length cap ∧ B ≤ g ∧ g < W.heap.size ∧ sc.length ≤ cap ∧
 ∀ o,o < 7 → W.cell? ⟨g,j * 7 + o,none⟩ = (entCells (entAt sc j).c (sls j))[o]?:=by
 rcases h.row.2 with ⟨_,q⟩ | ⟨g,cap,cur,q1,q2,q3,q4,_,_,q7⟩
 · omega
 · refine ⟨g,cap,q1,q2,(Array.getElem?_eq_some_iff.1 q3).1,q4,fun o ho => ?_⟩
   have hb:j * 7 + o < sc.length * 7:=by omega
   rw [cell_row q3,← Array.getElem?_toList,← List.getElem?_take_of_lt hb,q7]
   exact flat_get (fun j => entCells (entAt sc j).c (sls j)) 7 (fun _ => rfl) sc.length j o hj ho
theorem ValsOwn.cell {W:World} {B:Nat} {v:Value} {vs:List SV} {lvs:List Value} (h:ValsOwn W B v vs lvs) (i:Nat) (hi:i < vs.length):∃ g cap lv,v = .slice (some ⟨g,0,none⟩) vs.length cap ∧ B ≤ g ∧ g < W.heap.size ∧ vs.length ≤ cap ∧ lvs[i]? = some lv ∧
 W.ownsRow B 3 1 lv vs[i].l.length (vs[i].l.map (Value.int .i64)) ∧ ∀ o,o < 6 → W.cell? ⟨g,i * 6 + o,none⟩ = (svCells vs[i] lv)[o]?:=by
 have hi':i < lvs.length:=by rw [h.len];exact hi
 rcases h.row.2 with ⟨_,q⟩ | ⟨g,cap,cur,q1,q2,q3,q4,_,_,q7⟩
 · omega
 · refine ⟨g,cap,lvs[i],q1,q2,(Array.getElem?_eq_some_iff.1 q3).1,q4,List.getElem?_eq_getElem hi',h.lists i hi hi',fun o ho => ?_⟩
   have hb:i * 6 + o < vs.length * 6:=by omega
   rw [cell_row q3,← Array.getElem?_toList,← List.getElem?_take_of_lt hb,q7]
   have e:flatSV vs lvs = (List.range vs.length).flatMap fun j => svCells (vs.getD j ⟨0,0,[],[]⟩) (lvs.getD j (.slice none 0 0)):=by
    unfold flatSV
    rw [List.flatMap_def]
    congr 1
    apply List.ext_getElem
    · simp [h.len]
    · intro j h1 h2
      have h3:j < vs.length:=by simpa using h2
      have h4:j < lvs.length:=by rw [h.len];exact h3
      simp [List.getD,h3,h4]
   rw [e,flat_get (fun j => svCells (vs.getD j ⟨0,0,[],[]⟩) (lvs.getD j (.slice none 0 0))) 6 (fun _ => rfl) vs.length i o hi ho]
   simp [List.getD,hi,hi']
theorem index162 (cs:Array Value) (k:Nat) (hk:k < 6) (v:Value) (hv:cs[k]? = some v) (w:World):(Instr.index 162 (.agg cs) (.int .i64 k)).run Tryz.prog w = .ok v w:=by
 simp [Instr.index,asIntOf,run_underlying Tryz.underlying162,part,hv]
 intro h;omega
def okV (n:Nat) (v:SV):Bool:=!(decide (v.k = 4) && decide ((n:Int) < v.n))
def closedL (sc:List Ent):Bool:=sc.all fun e => e.vs.all fun vs => vs.all (okV sc.length)
theorem closed_no {sc:List Ent} {j k i:Nat} (hj:j < sc.length) (hk:k < (entAt sc j).vs.length) (hi:i < ((entAt sc j).vs.getD k []).length) (h:okV sc.length ((entAt sc j).vs.getD k [])[i] = false):closedL sc = false:=by
 rw [← Bool.not_eq_true]
 intro hc
 unfold closedL at hc
 rw [List.all_eq_true] at hc
 have h1:=hc (entAt sc j) (by rw [entAt_get _ _ hj];exact List.getElem_mem hj)
 rw [List.all_eq_true] at h1
 have e:(entAt sc j).vs.getD k [] = (entAt sc j).vs[k]:=by simp [List.getD,hk]
 have h2:=h1 ((entAt sc j).vs.getD k []) (by rw [e];exact List.getElem_mem hk)
 rw [List.all_eq_true] at h2
 have h3:=h2 _ (List.getElem_mem hi)
 rw [h] at h3
 cases h3
theorem closed_yes {sc:List Ent} (h:∀ j,j < sc.length → ∀ k,k < (entAt sc j).vs.length → ∀ i (hi:i < ((entAt sc j).vs.getD k []).length),okV sc.length ((entAt sc j).vs.getD k [])[i] = true):closedL sc = true:=by
 unfold closedL
 rw [List.all_eq_true]
 intro e he
 obtain ⟨j,hj,rfl⟩:=List.getElem_of_mem he
 rw [List.all_eq_true]
 intro vs hvs
 obtain ⟨k,hk,rfl⟩:=List.getElem_of_mem hvs
 rw [List.all_eq_true]
 intro v hv
 obtain ⟨i,hi,rfl⟩:=List.getElem_of_mem hv
 have:=h j hj k (by rw [entAt_get _ _ hj];exact hk) i (by rw [entAt_get _ _ hj];simpa [List.getD,hk] using hi)
 simpa [entAt_get _ _ hj,List.getD,hk] using this
set_option maxHeartbeats 6400000 in
set_option maxRecDepth 20000 in
theorem closed_any (B:Nat) (v:Value) (sc:List Ent) (sls:Nat → Nat → Value) (lvs:Nat → Nat → List Value) (w:World) (hS:SceneOwn w B v sc sls lvs) (hn:sc.length ≤ 20) (hv:∀ j,j < sc.length → ∀ k,k < 6 → ((entAt sc j).vs.getD k []).length ≤ 4) :
 Calls Tryz.prog 185 #[v] w fun e w' => e = .returned (.bool (closedL sc)) ∧ Below w.heap.size w w':=by
 obtain ⟨va,vc,rfl⟩:=own_form hS.row
 have HS:Hid (SceneOwn w B (.slice va sc.length vc) sc sls lvs):=hS
 have HV:Hid (∀ j,j < sc.length → ∀ k,k < 6 → ((entAt sc j).vs.getD k []).length ≤ 4):=hv
 obtain ⟨n,hnn⟩:∃ n,n = sc.length:=⟨_,rfl⟩
 have HN:Hid (n = sc.length):=hnn
 rw [← hnn] at hn HS ⊢
 clear hS hv hnn
 go_enter Tryz.func185,Tryz.ntmps185
 go_wp2_with fail
 go_loopw [11] (fun t wr => ∃ j:Nat,j ≤ n ∧ t = .int .i64 j ∧ Hid (∀ j',j' < j → ∀ k,k < (entAt sc j').vs.length → ∀ i (hi:i < ((entAt sc j').vs.getD k []).length),okV n ((entAt sc j').vs.getD k [])[i] = true) ∧ Hid (Below w.heap.size w wr)) (fun t _ => n - (intOf t).toNat)
 case atStart => exact ⟨0,by omega,rfl,fun j h => by omega,Below.refl _ _⟩
 case round =>
  obtain ⟨j,hj,rfl,HJ,HB⟩:=hrel
  by_cases hlt:j < n
  · have hjs:j < sc.length:=by rw [← HN.out];exact hlt
    have HSr:Hid (SceneOwn wr B (.slice va n vc) sc sls lvs):=HS.out.keep fun i _ hi => HB.out.block i hi
    obtain ⟨g,cap,hg1,hg2,hg3,hg4,hg5⟩:=HSr.out.cell j hjs
    obtain ⟨he1,he2,he3⟩:=HSr.out.ents j hjs
    rw [← HN.out] at hg4
    simp only [Value.slice.injEq] at hg1
    obtain ⟨rfl,_,rfl⟩:=hg1
    have r0:=hg5 0 (by omega)
    have r1:=hg5 1 (by omega)
    have r2:=hg5 2 (by omega)
    have r3:=hg5 3 (by omega)
    have r4:=hg5 4 (by omega)
    have r5:=hg5 5 (by omega)
    have r6:=hg5 6 (by omega)
    simp only [entCells,List.getElem?_cons_zero,List.getElem?_cons_succ] at r0 r1 r2 r3 r4 r5 r6
    rw [Nat.add_zero] at r0
    have hform:∀ k,k < 6 → ∃ a m d,sls j k = .slice a m d:=fun k hk => by
     obtain ⟨a,d,h⟩:=own_form (he3 k hk).row
     exact ⟨a,_,d,h⟩
    have HE3:Hid (EntOwn w B (entAt sc j) (sls j) (lvs j)):=(HS.out.ents j hjs).2.2
    have HE2:Hid ((entAt sc j).vs.length = 6):=he2
    have hbr:=HB.out.size
    clear hg5 he3 he2
    generalize sls j = sl at r0 r1 r2 r3 r4 r5 r6 hform HE3
    have HForm:Hid (∀ k,k < 6 → ∃ a m d,sl k = .slice a m d):=hform
    obtain ⟨a0,m0,d0,s0⟩:=hform 0 (by omega)
    obtain ⟨a1,m1,d1,s1⟩:=hform 1 (by omega)
    obtain ⟨a2,m2,d2,s2⟩:=hform 2 (by omega)
    obtain ⟨a3,m3,d3,s3⟩:=hform 3 (by omega)
    obtain ⟨a4,m4,d4,s4⟩:=hform 4 (by omega)
    obtain ⟨a5,m5,d5,s5⟩:=hform 5 (by omega)
    have HSl:Hid (∀ k,k < 6 → (#[Value.slice a0 m0 d0,.slice a1 m1 d1,.slice a2 m2 d2,.slice a3 m3 d3,.slice a4 m4 d4,.slice a5 m5 d5]:Array Value)[k]? = some (sl k)):=fun k hk => by
     have h:k = 0 ∨ k = 1 ∨ k = 2 ∨ k = 3 ∨ k = 4 ∨ k = 5:=by omega
     rcases h with rfl | rfl | rfl | rfl | rfl | rfl
     · rw [s0];rfl
     · rw [s1];rfl
     · rw [s2];rfl
     · rw [s3];rfl
     · rw [s4];rfl
     · rw [s5];rfl
    rw [s0] at r1
    rw [s1] at r2
    rw [s2] at r3
    rw [s3] at r4
    rw [s4] at r5
    rw [s5] at r6
    clear hform s0 s1 s2 s3 s4 s5
    have hgw:g < w.heap.size:=by
     have:=HS.out.row.lt g rfl
     exact this.2
    have hdj:decide ((j:Int) < (n:Int)) = true:=decide_eq_true (by omega)
    go_wp2_with fail
    go_loopw [17] (fun t wk => ∃ k:Nat,k ≤ 6 ∧ t = .int .i64 k ∧ Hid (∀ k',k' < k → ∀ i (hi:i < ((entAt sc j).vs.getD k' []).length),okV n ((entAt sc j).vs.getD k' [])[i] = true) ∧ Hid (Below w.heap.size w wk)) (fun t _ => 6 - (intOf t).toNat)
    case atStart => exact ⟨0,by omega,rfl,fun k h => by omega,HB.out.alloc hbr _⟩
    case round =>
     obtain ⟨k,hk,rfl,HK,HBk⟩:=hrel
     by_cases hk6:k < 6
     · have hid:∀ W,(Instr.index 162 (.agg #[.slice a0 m0 d0,.slice a1 m1 d1,.slice a2 m2 d2,.slice a3 m3 d3,.slice a4 m4 d4,.slice a5 m5 d5]) (.int .i64 k)).run Tryz.prog W = .ok (sl k) W:=fun W => index162 _ k hk6 _ (HSl.out k hk6) W
       have hkI:(k:Int) < 6:=by omega
       have hdk:decide ((k:Int) < 6) = true:=decide_eq_true hkI
       have HVw:Hid (ValsOwn w B (sl k) ((entAt sc j).vs.getD k []) (lvs j k)):=HE3.out k hk6
       obtain ⟨a,d,hsl⟩:=own_form HVw.out.row
       have hm4:=HV.out j hjs k hk6
       have hvk:k < (entAt sc j).vs.length:=by rw [HE2.out];exact hk6
       have HNo:Hid (∀ i (hi:i < ((entAt sc j).vs.getD k []).length),okV n ((entAt sc j).vs.getD k [])[i] = false → closedL sc = false):=fun i hi h => closed_no hjs hvk hi (by rw [← HN.out];exact h)
       rw [hsl] at hid HVw
       have HKn:Hid ((∀ i (hi:i < ((entAt sc j).vs.getD k []).length),okV n ((entAt sc j).vs.getD k [])[i] = true) → ∀ k',k' < k + 1 → ∀ i (hi:i < ((entAt sc j).vs.getD k' []).length),okV n ((entAt sc j).vs.getD k' [])[i] = true):=fun h k' hk' => by
        by_cases e:k' = k
        · subst e;exact h
        · exact HK.out k' (by omega)
       clear hsl hvk
       generalize (entAt sc j).vs.getD k [] = vs at HVw hid hm4 HNo HKn
       obtain ⟨m,hm⟩:∃ m,m = vs.length:=⟨_,rfl⟩
       have HM:Hid (m = vs.length):=hm
       rw [← hm] at hid hm4 HVw
       clear hm
       go_wp2_with fail
       go_loopw [22] (fun t wk => ∃ i:Nat,i ≤ m ∧ t = .int .i64 i ∧ Hid (∀ i' (hi:i' < vs.length),i' < i → okV n vs[i'] = true) ∧ Hid (Below w.heap.size w wk)) (fun t _ => m - (intOf t).toNat)
       case atStart => exact ⟨0,by omega,rfl,fun i _ h => by omega,HBk⟩
       case round =>
        obtain ⟨i,hi,rfl,HI,HBi⟩:=hrel
        by_cases him:i < m
        · have hiv:i < vs.length:=by rw [← HM.out];exact him
          obtain ⟨gv,cv,lv,hv1,hv2,hv3,hv4,_,hv6,hv5⟩:=HVw.out.cell i hiv
          simp only [Value.slice.injEq] at hv1
          obtain ⟨rfl,_,rfl⟩:=hv1
          rw [← HM.out] at hv4
          have HB5:Hid (∀ o,o < 6 → wr.cell? ⟨gv,i * 6 + o,none⟩ = (svCells vs[i] lv)[o]?):=fun o ho => (HBi.out.cell (p:=⟨gv,i * 6 + o,none⟩) hv3).trans (hv5 o ho)
          obtain ⟨la,ld,rfl⟩:=own_form hv6
          have HNo2:Hid (okV n vs[i] = false → closedL sc = false):=HNo.out i hiv
          have HI2:Hid (okV n vs[i] = true → ∀ i' (hi:i' < vs.length),i' < i + 1 → okV n vs[i'] = true):=fun h i' hi' hlt' => by
           by_cases e:i' = i
           · subst e;exact h
           · exact HI.out i' hi' (by omega)
          have hbi:=HBi.out.size
          have hdi:decide ((i:Int) < (m:Int)) = true:=decide_eq_true (by omega)
          have hgn:gv ≠ wr.heap.size:=by omega
          clear hv5 hv6
          generalize vs[i] = x at HB5 HNo2 HI2
          generalize x.l.length = xll at HB5
          obtain ⟨xk,xn,xs,xl⟩:=x
          have r0:=HB5.out 0 (by omega)
          have r1:=HB5.out 1 (by omega)
          have r2:=HB5.out 2 (by omega)
          have r3:=HB5.out 3 (by omega)
          have r4:=HB5.out 4 (by omega)
          have r5:=HB5.out 5 (by omega)
          simp only [svCells,List.getElem?_cons_zero,List.getElem?_cons_succ] at r0 r1 r2 r3 r4 r5
          rw [Nat.add_zero] at r0
          clear HB5
          by_cases h4:xk = 4
          · subst h4
            by_cases hgt:(n:Int) < xn
            · have HF:Hid (closedL sc = false):=HNo2.out (by simp [okV,hgt])
              go_wp2_with fail
              go_ret
              rw [HF.out]
              exact ⟨rfl,HBi.out.alloc hbi _⟩
            · have HT:=HI2.out (by simp [okV];omega)
              go_wp2_with fail
              exact ⟨⟨i + 1,by omega,by go_num,HT,HBi.out.alloc hbi _⟩,by simp [intOf];omega⟩
          · have HT:=HI2.out (by simp [okV,h4])
            have h4':¬ ((xk:Int) = 4):=by omega
            have h4b:((xk:Int) == 4) = false:=by simp;omega
            go_wp2_with fail
            exact ⟨⟨i + 1,by omega,by go_num,HT,HBi.out.alloc hbi _⟩,by simp [intOf];omega⟩
        · have HT:=HKn.out (fun i' hi' => HI.out i' hi' (by rw [HM.out] at him;omega))
          go_wp2_with fail
          exact ⟨⟨k + 1,by omega,by go_num,HT,HBi⟩,by simp [intOf];omega⟩
     · have HT:Hid (∀ j',j' < j + 1 → ∀ k,k < (entAt sc j').vs.length → ∀ i (hi:i < ((entAt sc j').vs.getD k []).length),okV n ((entAt sc j').vs.getD k [])[i] = true):=fun j' hj' k' hk' => by
        by_cases e:j' = j
        · subst e;exact HK.out k' (by rw [HE2.out] at hk';omega)
        · exact HJ.out j' (by omega) k' hk'
       go_wp2_with fail
       exact ⟨⟨j + 1,by omega,by go_num,HT,HBk⟩,by simp [intOf];omega⟩
  · have HF:Hid (closedL sc = true):=closed_yes fun j' hj' => by
     rw [← HN.out]
     exact HJ.out j' (by rw [HN.out] at hlt;omega)
    go_wp2_with fail
    go_ret
    rw [HF.out]
    exact ⟨rfl,HB.out⟩
def entsGoL (L:List CompS):Nat → List Ent → List UInt8 → Option (List Ent)
 | 0,acc,l => if l = [] then some acc else none
 | n + 1,acc,l => if l = [] then some acc else
  match entityL L l with
  | none => none
  | some (x,r) => entsGoL L n (acc ++ [x]) r
def sceneHead:List UInt8:=[115,99,101,110,101,10]
def sceneEnd:List UInt8:=[101,110,100,10]
def readTextL (L:List CompS) (text:List UInt8):Option (List Ent) :=
 if Lib.hasPrefix text sceneHead = true ∧ Lib.hasSuffix (Lib.trimPrefix text sceneHead) sceneEnd = true then
  match entsGoL L 20 [] (Lib.trimSuffix (Lib.trimPrefix text sceneHead) sceneEnd) with
  | none => none
  | some sc => if closedL sc then some sc else none
 else none
theorem entsGoL_nil (L:List CompS) (n:Nat) (acc:List Ent):entsGoL L n acc [] = some acc:=by cases n <;> simp [entsGoL]
theorem entsGoL_full (L:List CompS) (acc:List Ent) {l:List UInt8} (h:l ≠ []):entsGoL L 0 acc l = none:=by simp [entsGoL,h]
theorem entsGoL_none (L:List CompS) (n:Nat) (acc:List Ent) {l:List UInt8} (h:l ≠ []) (he:entityL L l = none):entsGoL L (n + 1) acc l = none:=by simp [entsGoL,h,he]
theorem entsGoL_some (L:List CompS) (n:Nat) (acc:List Ent) {l r:List UInt8} {x:Ent} (h:l ≠ []) (he:entityL L l = some (x,r)):entsGoL L (n + 1) acc l = entsGoL L n (acc ++ [x]) r:=by simp [entsGoL,h,he]
theorem fieldsGoL_count:∀ (fs:List (List UInt8 × Nat)) (acc:List SV) (l:List UInt8) {vs:List SV} {r:List UInt8},fieldsGoL fs acc l = some (vs,r) → vs.length = acc.length + fs.length
 | [],acc,l,vs,r,h => by simp [fieldsGoL] at h;rw [← h.1];simp
 | f :: fs,acc,l,vs,r,h => by
  rw [fieldsGoL] at h
  split at h
  · split at h
    · cases h
    · have:=fieldsGoL_count fs _ _ h
      rw [this];simp;omega
  · cases h
theorem lineL_count {c:CompS} {l r:List UInt8} {vs:List SV} (h:lineL c l = some (vs,r)):vs.length = c.2.length:=by
 unfold lineL at h
 split at h
 · split at h
   · cases h
   · rename_i ws q hb
     split at h
     · simp at h
       have h1:=fieldsGoL_count _ _ _ hb
       rw [← h.1,h1];simp
     · cases h
 · cases h
theorem getD_set (vs:List (List SV)) (k j:Nat) (v:List SV):(vs.set k v).getD j [] = if j = k ∧ k < vs.length then v else vs.getD j []:=by
 by_cases e:j = k
 · subst e
   by_cases h:j < vs.length
   · simp [List.getD,h]
   · rw [if_neg (fun x => h x.2)]
     simp [List.getD,h]
 · rw [if_neg (fun x => e x.1)]
   simp [List.getD,List.getElem?_set_ne (Ne.symm e)]
theorem compsGoL_small:∀ (k:Nat) (L:List CompS) (e:Ent) (l:List UInt8) {x:Ent} {r:List UInt8},compsGoL k L e l = some (x,r) → (∀ c ∈ L,c.2.length ≤ 4) → (∀ j,(e.vs.getD j []).length ≤ 4) → (∀ j,(x.vs.getD j []).length ≤ 4) ∧ r.length ≤ l.length
 | k,[],e,l,x,r,h,_,he => by simp [compsGoL] at h;obtain ⟨rfl,rfl⟩:=h;exact ⟨he,Nat.le_refl _⟩
 | k,c :: cs,e,l,x,r,h,hL,he => by
  rw [compsGoL] at h
  split at h
  · split at h
    · cases h
    · rename_i vs q hb
      have h1:=compsGoL_small (k + 1) cs _ _ h (fun c hc => hL c (List.mem_cons_of_mem _ hc)) (fun j => by
       show ((e.vs.set k vs).getD j []).length ≤ 4
       rw [getD_set]
       split
       · rw [lineL_count hb];exact hL c (List.mem_cons_self ..)
       · exact he j)
      have h2:=lineL_len hb
      exact ⟨h1.1,by omega⟩
  · exact compsGoL_small (k + 1) cs _ _ h (fun c hc => hL c (List.mem_cons_of_mem _ hc)) he
theorem entityL_small {L:List CompS} {l r:List UInt8} {x:Ent} (h:entityL L l = some (x,r)) (hL:∀ c ∈ L,c.2.length ≤ 4):(∀ j,(x.vs.getD j []).length ≤ 4) ∧ r.length < l.length:=by
 unfold entityL at h
 split at h
 · rename_i hp
   have h1:=compsGoL_small 0 L _ _ h hL (fun j => by
    by_cases hj:j < 6
    · have h:j = 0 ∨ j = 1 ∨ j = 2 ∨ j = 3 ∨ j = 4 ∨ j = 5:=by omega
      rcases h with rfl | rfl | rfl | rfl | rfl | rfl <;> simp
    · simp [List.getD,List.getElem?_replicate,hj])
   refine ⟨h1.1,?_⟩
   have h2:(Lib.trimPrefix l [101,10]).length < l.length:=by
    unfold Lib.trimPrefix
    rw [if_pos hp]
    unfold Lib.hasPrefix at hp
    have:=(List.isPrefixOf_iff_prefix.1 hp).length_le
    simp at this ⊢;omega
   omega
 · cases h
theorem entCells_one (c:Nat) {sl:Nat → Value} (h:∀ k,k < 6 → ∃ a n d,sl k = .slice a n d):∀ u ∈ entCells c sl,u.oneCell' = true:=by
 intro u hu
 simp only [entCells,List.mem_cons,List.not_mem_nil,or_false] at hu
 have key:∀ k,k < 6 → (sl k).oneCell' = true:=fun k hk => by obtain ⟨a,n,d,e⟩:=h k hk;rw [e];rfl
 rcases hu with rfl | rfl | rfl | rfl | rfl | rfl | rfl
 · rfl
 · exact key 0 (by omega)
 · exact key 1 (by omega)
 · exact key 2 (by omega)
 · exact key 3 (by omega)
 · exact key 4 (by omega)
 · exact key 5 (by omega)
theorem Tryz.info164:(Tryz.prog.info? 164).map (fun i => (i.zero,i.size,i.bytes)) = some (some (.agg #[.int .u64 0,.slice none 0 0,.slice none 0 0,.slice none 0 0,.slice none 0 0,.slice none 0 0,.slice none 0 0]),7,152):=by kernel_rfl
def SEnds (w:World) (r:Option (List Ent)) (e:Ending) (w':World):Prop :=
 ((∃ sc sa vc sls lvs,r = some sc ∧ e = .returned (.slice sa sc.length vc) ∧ SceneOwn w' w.heap.size (.slice sa sc.length vc) sc sls lvs) ∨ (r = none ∧ e = .panicked wrongS)) ∧ Below w.heap.size w w'
set_option maxHeartbeats 6400000 in
set_option maxRecDepth 20000 in
theorem readText_any (b0 g:Nat) (L:List CompS) (lc:Nat) (text:List UInt8) (w:World) (hl:text.length ≤ 2 ^ 40) (hG:Glob w) (hL:LayN w b0 g L) (hlc:L.length ≤ lc) :
 Calls Tryz.prog 114 #[.string (mk text),.slice (some ⟨g,0,none⟩) L.length lc] w (SEnds w (readTextL L text)):=by
 obtain ⟨i0,hi0,hz0,hz1,hz2⟩:=info_parts Tryz.info164
 have hg11:=hG.size
 have hb0:=hL.le
 have HGl:Hid (Glob w):=hG
 have HL:Hid (LayN w b0 g L):=hL
 have HLs:Hid (∀ c ∈ L,c.2.length ≤ 4):=fun c hc => by
  obtain ⟨j,hj,rfl⟩:=List.getElem_of_mem hc
  exact (hL.comp j hj).1.2.1
 have HP:Hid (Calls Tryz.prog 181 #[.string (mk text),.string (mk sceneHead)] w fun e w' => e = .returned (.tuple #[.string (mk (Lib.trimPrefix text sceneHead)),.bool (Lib.hasPrefix text sceneHead)]) ∧ w' = w):=by
  have:=Tryz.strings_CutPrefix (mk text) (mk sceneHead) w
  rw [data_mk,data_mk] at this
  exact this
 have HSf:Hid (Calls Tryz.prog 182 #[.string (mk (Lib.trimPrefix text sceneHead)),.string (mk sceneEnd)] w fun e w' => e = .returned (.tuple #[.string (mk (Lib.trimSuffix (Lib.trimPrefix text sceneHead) sceneEnd)),.bool (Lib.hasSuffix (Lib.trimPrefix text sceneHead) sceneEnd)]) ∧ w' = w):=by
  have:=Tryz.strings_CutSuffix (mk (Lib.trimPrefix text sceneHead)) (mk sceneEnd) w (by rw [size_mk];have:=trim_len text sceneHead;omega)
  rw [data_mk,data_mk] at this
  exact this
 have hbl:(Lib.trimSuffix (Lib.trimPrefix text sceneHead) sceneEnd).length ≤ 2 ^ 40:=by
  have h1:=trim_len text sceneHead
  have h2:∀ a b:List UInt8,(Lib.trimSuffix a b).length ≤ a.length:=fun a b => by unfold Lib.trimSuffix;split <;> simp
  have:=h2 (Lib.trimPrefix text sceneHead) sceneEnd
  omega
 obtain ⟨n,hn⟩:∃ n,n = L.length:=⟨_,rfl⟩
 have HN:Hid (n = L.length):=hn
 rw [← hn] at hlc ⊢
 clear hG hL hn
 by_cases hpp:Lib.hasPrefix text sceneHead = true ∧ Lib.hasSuffix (Lib.trimPrefix text sceneHead) sceneEnd = true
 · have HRd:Hid (readTextL L text = match entsGoL L 20 [] (Lib.trimSuffix (Lib.trimPrefix text sceneHead) sceneEnd) with
    | none => none
    | some sc => if closedL sc then some sc else none):=by show _ = _;unfold readTextL;rw [if_pos hpp]
   rw [hpp.1] at HP
   rw [hpp.2] at HSf
   clear hpp
   generalize Lib.trimSuffix (Lib.trimPrefix text sceneHead) sceneEnd = body at HSf HRd hbl
   go_enter Tryz.func114,Tryz.ntmps114
   go_wp2_with (first | (go_at_call 181;refine Calls.mono HP.out ?_;rintro e w2 ⟨rfl,h2⟩;obtain rfl:=h2.symm) | (go_at_call 182;refine Calls.mono HSf.out ?_;rintro e w2 ⟨rfl,h2⟩;obtain rfl:=h2.symm) | (go_at_call 183;refine (needS_yes _ _ (by simp)).mono ?_;rintro e w6 ⟨rfl,h2⟩;obtain rfl:=h2))
   go_loopw [9] (fun s wr => ∃ (q:Nat) (sa:Option Addr) (vc:Nat) (acc:List Ent) (r:List UInt8) (sls:Nat → Nat → Value) (lvs:Nat → Nat → List Value),q ≤ 20 ∧ s = .slice sa q vc ∧ r.length ≤ 2 ^ 40 ∧ w.heap.size < wr.heap.size ∧ Hid (q = acc.length) ∧ Hid (entsGoL L 20 [] body = entsGoL L (20 - q) acc r) ∧ Hid (∀ j,j < acc.length → ∀ k,((entAt acc j).vs.getD k []).length ≤ 4) ∧ Hid (SceneOwn wr (w.heap.size + 1) (.slice sa q vc) acc sls lvs) ∧ Hid (RdAt wr w.heap.size 271 [] r) ∧ Hid (Below w.heap.size w wr)) (fun s _ => 21 - lenV s)
   case atStart => exact ⟨0,none,0,[],body,_,_,by omega,rfl,hbl,by simp,rfl,rfl,fun j h => by simp at h,SceneOwn.nil _ _,heap_alloc_at rfl _,(Below.refl _ _).alloc (Nat.le_refl _) _⟩
   case round =>
    obtain ⟨q,sa,vc,acc,r,sls,lvs,hq,rfl,hr,hsr,HQ,HGo,HSm,HS,HR,HB⟩:=hrel
    have hc:=HR.out.cell
    by_cases hre:r = []
    · subst hre
      have hE:((mk []).toList == ([]:List UInt8)) = true:=by rw [toList_mk];rfl
      have HGe:Hid (entsGoL L 20 [] body = some acc):=by show _ = _;rw [HGo.out,entsGoL_nil]
      have HCl:Hid (Calls Tryz.prog 185 #[.slice sa q vc] wr fun e w' => e = .returned (.bool (closedL acc)) ∧ Below wr.heap.size wr w'):=by
       exact closed_any (w.heap.size + 1) (.slice sa q vc) acc sls lvs wr HS.out (by rw [← HQ.out];exact hq) (fun j hj k _ => HSm.out j hj k)
      cases hcl:closedL acc with
      | true =>
       rw [hcl] at HCl
       have HRe:Hid (readTextL L text = some acc):=by show _ = _;rw [HRd.out,HGe.out];simp [hcl]
       go_wp2_with (first | (go_at_call 185;refine Calls.mono HCl.out ?_;rintro e w3 ⟨rfl,hb3⟩) | (go_at_call 183;refine (needS_yes _ _ (by simp)).mono ?_;rintro e w6 ⟨rfl,h2⟩;obtain rfl:=h2))
       go_ret
       refine ⟨Or.inl ⟨acc,sa,vc,sls,lvs,HRe.out,by rw [← HQ.out];rfl,?_⟩,HB.out.trans (hb3.mono (by omega))⟩
       rw [← HQ.out]
       exact (HS.out.keep fun i _ hi => hb3.block i hi).base (Nat.le_succ _)
      | false =>
       rw [hcl] at HCl
       have HRe:Hid (readTextL L text = none):=by show _ = _;rw [HRd.out,HGe.out];simp [hcl]
       go_wp2_with (first | (go_at_call 185;refine Calls.mono HCl.out ?_;rintro e w3 ⟨rfl,hb3⟩) | (go_at_call 183;refine (needS_no _ _ (by simp)).mono ?_;rintro e w6 ⟨rfl,h2⟩;obtain rfl:=h2))
       exact ⟨rfl,Or.inr ⟨HRe.out,rfl⟩,HB.out.trans (hb3.mono (by omega))⟩
    · have hE:((mk r).toList == ([]:List UInt8)) = false:=by rw [toList_mk,beq_eq_false_iff_ne];exact hre
      by_cases h20:q < 20
      · have hsub:20 - q = (19 - q) + 1:=by omega
        have HEn:Hid (Calls Tryz.prog 184 #[.pointer (some ⟨w.heap.size,0,none⟩),.slice (some ⟨g,0,none⟩) L.length lc] wr _):=entity_any w.heap.size b0 g L lc r wr HR.out hr (HGl.out.below hg11 HB.out HB.out.size) (by omega) (HL.out.below HB.out.size fun j hj => HB.out.block j (by omega)) hb0 (by rw [← HN.out];exact hlc)
        rw [← HN.out] at HEn
        go_wp2_with (go_at_call 183;refine (needS_yes _ _ (by simp <;> omega)).mono ?_;rintro e w6 ⟨rfl,h2⟩;obtain rfl:=h2)
        refine Calls.mono HEn.out ?_
        rintro e w3 (⟨x,r3,sl,lv,hx,rfl,hx1,hx2,hr3,ho3⟩ | ⟨hn3,rfl,ht3⟩)
        · have hsm:=entityL_small hx HLs.out
          have HGo3:Hid (entsGoL L 20 [] body = entsGoL L (19 - q) (acc ++ [x]) r3):=by show _ = _;rw [HGo.out,hsub,entsGoL_some L _ _ hre hx]
          have hs3:wr.heap.size ≤ w3.heap.size:=hr3.turns.size
          have hnr:∀ (i:Nat) (cs:Array Value) (t:TypeId),wr.heap[i]? = some (Obj.cells cs t (0,0)) → (t = 164 ∨ t = 56 ∨ t = 3) → w3.heap[i]? = wr.heap[i]?:=fun i cs t h1 h2 => hr3.turns.block i (Array.getElem?_eq_some_iff.1 h1).1 (type_ne h1 HR.out (by rcases h2 with rfl | rfl | rfl <;> decide))
          have HS3:Hid (SceneOwn w3 (w.heap.size + 1) (.slice sa q vc) acc sls lvs):=HS.out.keepT fun i cs t _ h1 h2 => hnr i cs t h1 h2
          have HX:Hid (EntOwn w3 (w.heap.size + 1) x sl lv):=fun k hk => (ho3 k hk).base (by omega)
          have HR3:Hid (RdAt w3 w.heap.size 271 [] r3):=hr3.rest
          have HB3:Hid (Below w.heap.size w w3):=⟨hr3.turns.os.trans HB.out.os,hr3.turns.tape.trans HB.out.tape,hr3.turns.output.trans HB.out.output,by omega,fun i hi => (hr3.turns.block i (by omega) (by omega)).trans (HB.out.block i hi)⟩
          have hform:∀ k,k < 6 → ∃ a m d,sl k = .slice a m d:=fun k hk => by
           obtain ⟨a,d,h⟩:=own_form (ho3 k hk).row
           exact ⟨a,_,d,h⟩
          have HFo:Hid (∀ k,k < 6 → ∃ a m d,sl k = .slice a m d):=hform
          have HRow:Hid (w3.ownsRow (w.heap.size + 1) 164 7 (.slice sa q vc) q (sceneCells acc sls)):=by
           have:=HS3.out.row
           rw [← HQ.out] at this
           exact this
          have HXs:Hid (x.c < 64 ∧ x.vs.length = 6):=⟨hx1,hx2⟩
          obtain ⟨hsm1,hsm2⟩:=hsm
          have HSx:Hid (∀ j,(x.vs.getD j []).length ≤ 4):=hsm1
          clear hx hr3 ho3 hnr hform hx1 hx2 hsm1
          simp only [entCells]
          go_wp2_with (at_builtin;refine wpList_append_own_at _ rfl _ _ 99 rfl (w.heap.size + 1) 164 i0 _ 7 152 Tryz.underlying99 hi0 hz0 hz1 hz2 rfl (by decide) _ _ _ rfl (HRow.out.alloc _) ⟨w3.heap.size,0,none⟩ 1 1 (entCells x.c sl) rfl rfl (new_cells (entCells x.c sl)) (entCells_one x.c HFo.out) (by unfold maxLen;omega) (by omega) (by simp;omega) ?_;intro v' w6 hown6 hgrow6 _ _;obtain ⟨sa',sc',rfl⟩:=own_form hown6;have HO6:Hid (w6.ownsRow (w.heap.size + 1) 164 7 (.slice sa' (q + 1) sc') (q + 1) (sceneCells acc sls ++ entCells x.c sl)):=hown6;have HG6:Hid ((w3.alloc (.cells (entCells x.c sl).toArray 164)).grownBy w6 (Value.slice sa q vc).ownBlock):=hgrow6;clear hown6 hgrow6)
          have hrow:∀ j,(Value.slice sa q vc).ownBlock = some j → w.heap.size + 1 ≤ j:=fun j hj => (HRow.out.lt j hj).1
          have hsz:=HG6.out.size
          simp at hsz
          refine ⟨⟨q + 1,sa',sc',acc ++ [x],r3,upd sls acc.length sl,upd lvs acc.length lv,by omega,rfl,by omega,by omega,?_,?_,?_,?_,?_,?_⟩,by simp [lenV];omega⟩
          · show _ = _;rw [HQ.out];simp
          · show _ = _;rw [HGo3.out,show 20 - (q + 1) = 19 - q by omega]
          · intro j hj k
            simp only [List.length_append,List.length_singleton] at hj
            by_cases e:j = acc.length
            · subst e;rw [entAt_last];exact HSx.out k
            · rw [entAt_left _ _ _ (by omega)];exact HSm.out j (by omega) k
          · refine SceneOwn.push (W:=w3.alloc (.cells (entCells x.c sl).toArray 164)) (HS3.out.keep fun i _ hi => Below.heap_alloc _ _ _ hi) HXs.out.1 HXs.out.2 (fun k hk => (HX.out k hk).keep fun i _ hi => Below.heap_alloc _ _ _ hi) ?_ HG6.out
            rw [← HQ.out];exact HO6.out
          · exact HR3.out.keep ((HG6.out.block w.heap.size (by simp;omega) (fun e => by have:=hrow _ e.symm;omega)).trans (Below.heap_alloc _ _ _ (by omega)))
          · exact Below.grown (HB3.out.alloc (by omega) _) HG6.out (by simp;omega) (fun j hj => by have:=hrow j hj;omega)
        · go_wp2_with fail
          refine ⟨rfl,Or.inr ⟨?_,rfl⟩,⟨ht3.os.trans HB.out.os,ht3.tape.trans HB.out.tape,ht3.output.trans HB.out.output,Nat.le_trans HB.out.size ht3.size,fun i hi => (ht3.block i (by omega) (by omega)).trans (HB.out.block i hi)⟩⟩
          rw [HRd.out,HGo.out,hsub,entsGoL_none L _ _ hre hn3]
      · have HRe:Hid (readTextL L text = none):=by
         show _ = _
         rw [HRd.out,HGo.out,show 20 - q = 0 by omega,entsGoL_full L _ hre]
        go_wp2_with (go_at_call 183;refine (needS_no _ _ (by simp <;> omega)).mono ?_;rintro e w6 ⟨rfl,h2⟩;obtain rfl:=h2)
        exact ⟨rfl,Or.inr ⟨HRe.out,rfl⟩,HB.out⟩
 · have HRd:Hid (readTextL L text = none):=by show _ = _;unfold readTextL;rw [if_neg hpp]
   have hq:∃ a b,Lib.hasPrefix text sceneHead = a ∧ Lib.hasSuffix (Lib.trimPrefix text sceneHead) sceneEnd = b ∧ (a && b) = false:=⟨_,_,rfl,rfl,by
    rw [← Bool.not_eq_true]
    intro h
    rw [Bool.and_eq_true] at h
    exact hpp h⟩
   obtain ⟨a,b,ha,hb,hab⟩:=hq
   rw [ha] at HP
   rw [hb] at HSf
   clear hpp ha hb
   cases a with
   | false =>
    go_enter Tryz.func114,Tryz.ntmps114
    go_wp2_with (first | (go_at_call 181;refine Calls.mono HP.out ?_;rintro e w2 ⟨rfl,h2⟩;obtain rfl:=h2.symm) | (go_at_call 182;refine Calls.mono HSf.out ?_;rintro e w2 ⟨rfl,h2⟩;obtain rfl:=h2.symm) | (go_at_call 183;refine (needS_no _ _ (by simp)).mono ?_;rintro e w6 ⟨rfl,h2⟩;obtain rfl:=h2))
    exact ⟨rfl,Or.inr ⟨HRd.out,rfl⟩,Below.refl _ _⟩
   | true =>
    obtain rfl:b = false:=by simpa using hab
    go_enter Tryz.func114,Tryz.ntmps114
    go_wp2_with (first | (go_at_call 181;refine Calls.mono HP.out ?_;rintro e w2 ⟨rfl,h2⟩;obtain rfl:=h2.symm) | (go_at_call 182;refine Calls.mono HSf.out ?_;rintro e w2 ⟨rfl,h2⟩;obtain rfl:=h2.symm) | (go_at_call 183;refine (needS_no _ _ (by simp)).mono ?_;rintro e w6 ⟨rfl,h2⟩;obtain rfl:=h2))
    exact ⟨rfl,Or.inr ⟨HRd.out,rfl⟩,Below.refl _ _⟩
theorem entsA_succ (bg:Nat → Nat) (tk:Nat → Bool) (k:Nat):entsA bg tk (k + 1) = entsA bg tk k ++ (if tk k then [((k:Int) + 1,(bg k:Int))] else []):=by
 unfold entsA
 rw [List.range_succ,List.filter_append,List.map_append]
 cases h:tk k <;> simp [h]
theorem entsA_all (bg:Nat → Nat) (tk:Nat → Bool):entsA bg tk 20 = entsOf bg tk:=rfl
set_option maxHeartbeats 1600000 in
set_option maxRecDepth 20000 in
theorem living_any (b:Nat) (bg:Nat → Nat) (tk:Nat → Bool) (cp:Nat → Nat) (w:World) (hp:PlacesAt w b bg tk cp) (hbg:∀ i,i < 20 → bg i ≤ 3) :
 Calls Tryz.prog 95 #[.pointer (some ⟨b,0,none⟩)] w fun e w' => ∃ sa sc,e = .returned (.slice sa (entsOf bg tk).length sc) ∧ w'.ownsRow w.heap.size 46 2 (.slice sa (entsOf bg tk).length sc) (entsOf bg tk).length (eCells (entsOf bg tk)) ∧ Below w.heap.size w w':=by
 obtain ⟨i0,hi0,hz0,hz1,hz2⟩:=info_parts Tryz.info46
 have HP:Hid (PlacesAt w b bg tk cp):=hp
 have HG:Hid (∀ i,i < 20 → bg i ≤ 3):=hbg
 clear hp hbg
 go_enter Tryz.func95,Tryz.ntmps95
 go_wp2
 go_loopw [3,6] (fun v t wr => ∃ (k q:Nat) (sa:Option Addr) (sc:Nat),k ≤ 20 ∧ q ≤ k ∧ t = .int .i64 k ∧ v = .slice sa q sc ∧ Hid (q = (entsA bg tk k).length) ∧ wr.ownsRow w.heap.size 46 2 (.slice sa q sc) q (eCells (entsA bg tk k)) ∧ Below w.heap.size w wr)
  (fun _ t _ => 20 - (intOf t).toNat)
 case atStart => exact ⟨0,0,none,0,by omega,by omega,rfl,rfl,rfl,World.ownsRow_nil _ _ _ _,Below.refl _ _⟩
 case round =>
  obtain ⟨k,q,sa,sc,hk,hqk,rfl,rfl,HQ,hown,hb⟩:=hrel
  have HB:Hid (Below w.heap.size w wr):=hb
  have HO:Hid (wr.ownsRow w.heap.size 46 2 (.slice sa q sc) q (eCells (entsA bg tk k))):=hown
  have hws:w.heap.size ≤ wr.heap.size:=hb.size
  by_cases hlt:k < 20
  · obtain ⟨a1,a2,_,_,_,_⟩:=(HP.out.below HB.out).2 k hlt
    have HS:Hid (entsA bg tk (k + 1) = entsA bg tk k ++ (if tk k then [((k:Int) + 1,(bg k:Int))] else [])):=entsA_succ bg tk k
    have hbk:bg k ≤ 3:=HG.out k hlt
    clear hb hown
    cases ht:tk k with
    | false =>
     rw [ht] at a2
     have HS1:Hid (entsA bg tk (k + 1) = entsA bg tk k):=by
      show _ = _
      rw [HS.out,ht];simp
     go_wp2_with fail
     go_roundw
     case rel => exact ⟨k + 1,q,sa,sc,by omega,by omega,by go_num,rfl,by rw [HS1.out];exact HQ,by rw [HS1.out];exact HO.out,HB.out⟩
     case measure => simp [intOf];omega
    | true =>
     rw [ht] at a2
     have HS1:Hid (entsA bg tk (k + 1) = entsA bg tk k ++ [((k:Int) + 1,(bg k:Int))]):=by
      show _ = _
      rw [HS.out,ht];simp
     have HN:Hid (∀ j u,(hNews ((k:Int) + 1) (bg k:Int))[j]? = some u → (wr.alloc (.cells #[.int .i64 ((k:Int) + 1),.int .i64 (bg k:Int)] 46)).cell? ((⟨wr.heap.size,0,none⟩:Addr).add j) = some u):=fun j u hj => by
      rw [Addr.add_lit,Nat.zero_add]
      match j with
      | 0 => simp [hNews] at hj;rw [← hj];simp
      | 1 => simp [hNews] at hj;rw [← hj];simp
      | j + 2 => simp [hNews] at hj
     have HE:Hid (eCells (entsA bg tk (k + 1)) = eCells (entsA bg tk k) ++ hNews ((k:Int) + 1) (bg k:Int)):=by
      show _ = _
      rw [HS1.out,eCells_append];simp [eCells]
     have HL:Hid (q + 1 = (entsA bg tk (k + 1)).length):=by
      show _ = _
      rw [HS1.out,List.length_append,← HQ.out];rfl
     go_wp2_with (at_builtin;refine wpList_append_own_at _ rfl _ _ 29 rfl w.heap.size 46 i0 _ 2 16 Tryz.underlying29 hi0 hz0 hz1 hz2 rfl (by decide) _ _ _ rfl (HO.out.alloc _) ⟨wr.heap.size,0,none⟩ 1 1 (hNews ((k:Int) + 1) (bg k:Int)) rfl rfl HN.out (hNews_one _ _) (by unfold maxLen;omega) (by omega) (by simp;omega) ?_;intro v' w6 hown6 hgrow6 _ _;obtain ⟨sa',sc',rfl⟩:=own_form hown6;have HO6:Hid (w6.ownsRow w.heap.size 46 2 (.slice sa' (q + 1) sc') (q + 1) (eCells (entsA bg tk k) ++ hNews ((k:Int) + 1) (bg k:Int))):=hown6;have HB6:Hid (Below w.heap.size w w6):=Below.grown (HB.out.alloc hws _) hgrow6 (by simp;omega) (fun j hj => (HO.out.lt j hj).1);clear hown6 hgrow6)
     go_roundw
     case rel => exact ⟨k + 1,q + 1,sa',sc',by omega,by omega,by go_num,rfl,HL.out,by rw [HE.out];exact HO6.out,HB6.out⟩
     case measure => simp [intOf];omega
  · obtain rfl:k = 20:=by omega
    go_wp2_with fail
    go_ret
    rw [← entsA_all,← HQ.out]
    exact ⟨sa,sc,rfl,HO.out,HB.out⟩
def cntsL (ents:List (Int × Int)):List Int:=ents.zipIdx.foldl (fun c z => c.set z.1.1.toNat ((z.2:Int) + 1)) (List.replicate 21 0)
theorem foldl_set_len (l:List ((Int × Int) × Nat)):∀ c:List Int,(l.foldl (fun c z => c.set z.1.1.toNat ((z.2:Int) + 1)) c).length = c.length:=by
 induction l with
 | nil => intro c;rfl
 | cons a l ih => intro c;rw [List.foldl_cons,ih,List.length_set]
theorem cntsL_len (ents:List (Int × Int)):(cntsL ents).length = 21:=by
 unfold cntsL;rw [foldl_set_len];simp
theorem cntsL_succ (ents:List (Int × Int)) (j:Nat) (h:j < ents.length):cntsL (ents.take (j + 1)) = (cntsL (ents.take j)).set ents[j].1.toNat ((j:Int) + 1):=by
 unfold cntsL
 rw [List.take_succ_eq_append_getElem h,List.zipIdx_append,List.foldl_append,List.length_take,Nat.min_eq_left (Nat.le_of_lt h)]
 simp
def cntCells (ents:List (Int × Int)):List Value:=(cntsL ents).map (Value.int .i64)
theorem Tryz.info160:(Tryz.prog.info? 160).map (·.size) = some 21:=by kernel_rfl
set_option maxHeartbeats 1600000 in
set_option maxRecDepth 20000 in
theorem counts_any (ga:Nat) (sc:Nat) (ents:List (Int × Int)) (w:World) (hc:∀ j (h:j < ents.length),w.cell? ⟨ga,j * 2,none⟩ = some (.int .i64 ents[j].1) ∧ w.cell? ⟨ga,j * 2 + 1,none⟩ = some (.int .i64 ents[j].2)) (hga:ga < w.heap.size) (hsc:ents.length ≤ sc)
 (hl:ents.length ≤ 20) (hp:∀ z ∈ ents,1 ≤ z.1 ∧ z.1 ≤ 20) :
 Calls Tryz.prog 96 #[.slice (some ⟨ga,0,none⟩) ents.length sc] w fun e w' => e = .returned (.agg (cntCells ents).toArray) ∧ Below w.heap.size w w':=by
 have HC:Hid (∀ j (h:j < ents.length),w.cell? ⟨ga,j * 2,none⟩ = some (.int .i64 ents[j].1) ∧ w.cell? ⟨ga,j * 2 + 1,none⟩ = some (.int .i64 ents[j].2)):=hc
 have HP:Hid (∀ z ∈ ents,1 ≤ z.1 ∧ z.1 ≤ 20):=hp
 obtain ⟨n,hn⟩:∃ n,n = ents.length:=⟨_,rfl⟩
 rw [← hn] at hsc hl ⊢
 have HN:Hid (n = ents.length):=hn
 clear hc hp hn
 go_enter Tryz.func96,Tryz.ntmps96
 go_wp2
 go_loopw [8] (fun t wr => ∃ j:Nat,j ≤ n ∧ t = .int .i64 j ∧ w.heap.size + 1 < wr.heap.size ∧ wr.heap[w.heap.size + 1]? = some (.cells (cntCells (ents.take j)).toArray 160 (0,0)) ∧ wr.heap[w.heap.size]? = some (.cells (cntCells []).toArray 160 (0,0)) ∧ Below w.heap.size w wr) (fun t _ => n - (intOf t).toNat)
 case atStart => exact ⟨0,by omega,rfl,by simp,by rw [List.take_zero];exact heap_alloc_at (by simp) _,by rw [Below.heap_alloc _ _ _ (by simp)];exact heap_alloc_at rfl _,((Below.refl _ _).alloc (Nat.le_refl _) _).alloc (by simp) _⟩
 case round =>
  obtain ⟨j,hj,rfl,hs,h1,h0,hb⟩:=hrel
  have HB:Hid (Below w.heap.size w wr):=hb
  have H1:Hid (wr.heap[w.heap.size + 1]? = some (.cells (cntCells (ents.take j)).toArray 160 (0,0))):=h1
  have H0:Hid (wr.heap[w.heap.size]? = some (.cells (cntCells []).toArray 160 (0,0))):=h0
  by_cases hlt:j < n
  · have hje:j < ents.length:=by rw [← HN.out];exact hlt
    obtain ⟨c0,c1⟩:=HC.out j hje
    obtain ⟨q0,q1⟩:=HP.out ents[j] (List.getElem_mem hje)
    have HS:Hid (cntsL (ents.take (j + 1)) = (cntsL (ents.take j)).set ents[j].1.toNat ((j:Int) + 1)):=cntsL_succ ents j hje
    have hcl:(cntCells (ents.take j)).length = 21:=by unfold cntCells;rw [List.length_map,cntsL_len]
    generalize ents[j] = z at c0 c1 q0 q1 HS
    obtain ⟨p,l⟩:=z
    simp only at c0 c1 q0 q1 HS
    obtain ⟨pn,rfl⟩:∃ pn:Nat,p = (pn:Int):=⟨p.toNat,by omega⟩
    have hpn:pn ≤ 20:=by omega
    have d0:wr.cell? ⟨ga,j * 2,none⟩ = some (.int .i64 (pn:Int)):=(hb.cell (p:=⟨ga,j * 2,none⟩) hga).trans c0
    have d1:wr.cell? ⟨ga,j * 2 + 1,none⟩ = some (.int .i64 l):=(hb.cell (p:=⟨ga,j * 2 + 1,none⟩) hga).trans c1
    have e0:∃ u,wr.cell? ⟨w.heap.size + 1,pn,none⟩ = some u:=by
     rw [cell_row h1]
     exact ⟨_,Array.getElem?_eq_getElem (by simp [hcl];omega)⟩
    obtain ⟨u,e0⟩:=e0
    have e1:wr.frozen? ⟨w.heap.size + 1,pn,none⟩ = false:=frozen_row h1 _
    have hne:w.heap.size + 1 ≠ wr.heap.size:=by omega
    clear h1 h0 hb c0 c1
    go_wp2_with fail
    have hz:(wr.setCell ⟨w.heap.size + 1,pn,none⟩ (.int .i64 ((j:Int) + 1))).heap.size = wr.heap.size:=by simp [World.setCell]
    refine ⟨⟨j + 1,by omega,by go_num,by simp;omega,?_,?_,(HB.out.setCell (by simp) _).alloc (by rw [hz];omega) _⟩,by simp [intOf];omega⟩
    · rw [Below.heap_alloc _ _ _ (by rw [hz];exact hs),setCell_block _ H1.out]
      unfold cntCells
      rw [HS.out,List.map_set]
      simp
    · rw [Below.heap_alloc _ _ _ (by rw [hz];omega),Below.heap_setCell _ _ _ _ (by simp)]
      exact H0.out
  · obtain rfl:j = n:=by omega
    have HT:Hid (ents.take j = ents):=by
     show _ = _
     rw [HN.out,List.take_length]
    rw [HT.out] at h1
    have H1':Hid (wr.heap[w.heap.size + 1]? = some (.cells (cntCells ents).toArray 160 (0,0))):=h1
    clear h1 h0 hb
    have hsz:(cntCells ents).length = 21:=by simp [cntCells,cntsL_len]
    have hso:((cntCells ents).toArray.all (·.oneCell')) = true:=by
     simp only [Array.all_eq_true_iff_forall_mem]
     intro v hv
     simp [cntCells] at hv
     obtain ⟨x,_,rfl⟩:=hv
     rfl
    go_wp2_with (first
     | refine wpList_load_row rfl 160 _ rfl _ rfl 160 _ _ _ H1'.out Tryz.underlying160 rfl (by rw [Tryz.info160];simp [hsz]) ?_
     | refine wpList_store_row rfl 160 _ _ rfl _ _ rfl rfl 160 _ H0.out (by rw [Tryz.info160];simp [hsz]) (by simp [cntCells,cntsL_len]) hso ?_)
    refine bodyPost_ret_by (v:=.agg (cntCells ents).toArray) ?_ rfl ⟨rfl,?_⟩
    · exact results_cell_row (p:=2) (ty:=160) rfl _ _ w.heap.size 160 _ (0,0) _ rfl (setRow_heap _ _ _ _ _ _ H0.out) Tryz.underlying160 rfl (by rw [Tryz.info160];simp [hsz])
    · exact ⟨HB.out.os,HB.out.tape,HB.out.output,by simpa [World.setRow] using HB.out.size,fun k hk => (setRow_other _ _ _ _ (by omega)).trans (HB.out.block k hk)⟩
end Go.Proofs.YthkbeaffkcfgiabGreatDoor
