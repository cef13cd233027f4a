import Derived.Test.YthkbeaffkcfgiabGreatDoorR26
set_option linter.unusedSimpArgs false
set_option linter.unusedVariables false
namespace Go.Proofs.YthkbeaffkcfgiabGreatDoor
open Go.RowKit
theorem step_call2 {ops:Array Oper} {o:Oper} {a:Act} {w:World} {K:Act → World → Prop} {Q:Exit → Act → World → Prop} {E:Prop}
 (hg:o.guard = none) (f:FuncId) (x y:Operand) (t1 t2:TypeId) (hop:o.op = Op.call { callee:=Callee.value (Operand.func f),args:=#[x,y],argTypes:=#[t1,t2] }) (u1 u2:Value) (hx:a.eval x = u1) (hy:a.eval y = u2)
 (hm:(callFunc f #[u1,u2]).run Tryz.prog w = .ok (.enter f #[u1,u2]) w) (h:Calls Tryz.prog f #[u1,u2] w fun e w' => ∃ v',e = .returned v' ∧ K (a.put o.dst v') w') :
 if Region.wanted o (yielded ops a.tmps) = true then Oper.wp Tryz.prog o a w K Q else E:=by
 have hw:Region.wanted o (yielded ops a.tmps) = true:=by simp [Region.wanted,hg]
 rw [if_pos hw]
 unfold Oper.wp
 have e:(execOp a.eval o).run Tryz.prog w = .ok (.enter f #[u1,u2]) w:=by
  have ef:a.eval (Operand.func f) = .func (.func f) #[] #[]:=rfl
  simp only [execOp,hop,resolve,ef,Deferred.ofValue,invoke,Sem.run_bind,Sem.run_pure,Result.andThen_ok,List.map_toArray,List.map_cons,List.map_nil,hx,hy]
  rw [show (#[] ++ #[u1,u2] ++ #[]:Array Value) = #[u1,u2] from rfl]
  exact hm
 rw [e,Oper.upon_enter]
 refine h.mono ?_
 rintro e w' ⟨v',rfl,hk⟩
 exact hk
theorem runs130 (args:Array Value) (w:World):(callFunc 130 args).run Tryz.prog w = .ok (.enter 130 args) w:=by kernel_rfl
set_option maxHeartbeats 4000000 in
set_option maxRecDepth 100000 in
theorem set_tabC (own:Nat → Nat) (base tb s:Nat) (cks:List (List Nat)) (ents:List (Int × Int)) (xs:Nat → Nat → List Value) (p lf:Int) (k f kd:Nat) (q x:Int) (sb:List UInt8) (vp vq:Int) (vl:Value) (ls:List Int) (w:World) (hT:TabC w own base tb s cks ents xs) (hkl:∀ k,(cks.getD k []).length ≤ 4) (hk:k < 6) (hh:hasC s cks k = true) (hf:(cks.getD k [])[f]? = some kd) (hkd:1 ≤ kd ∧ kd ≤ 5)
 (hl:ents.length ≤ 99) (hsort:ents.Pairwise fun a b => a.1 < b.1) (hin:ahead ents p < ents.length) (hsb:sb.length ≤ 1000) (hls:ls.length ≤ 100) (hvl:kd = 5 → IntsAt w vl ls) (hvf:∃ a n c,vl = .slice a n c) :
 Calls Tryz.prog 75 #[.pointer (some ⟨tb,0,none⟩),.agg #[.int .i64 p,.int .i64 lf],.int .i64 k,.int .i64 f,.agg #[.int .i64 q,.int .i64 x,.string (mk sb),.int .i64 vp,.int .i64 vq,vl]] w fun e w' => e = .returned (.tuple #[]) ∧ Turns w w' (fun b => own b = base + lCol k f) ∧ ∃ v',ListNew w' w.heap.size v' (if kd = 5 then ls else []) ∧
  TabC w' own base tb s cks ents (upd2 xs k f (putAt (xs k f) (ahead ents p * kSz kd) (fvCells kd ⟨x,sb,vp,vq,ls⟩ v'))):=by
 obtain ⟨ev,sl,g,c,cb,h1,h2,h3,h4,h5,h6,h7,h8,h9,h10⟩:=hT.col hkl k f kd hk hh hf
 have hfl:f < (cks.getD k []).length:=(List.getElem?_eq_some_iff.1 hf).1
 obtain ⟨nk,hnk⟩:∃ nk,nk = (cks.getD k []).length:=⟨_,rfl⟩
 rw [← hnk] at h4 h5 hfl
 have hn4:nk ≤ 4:=by rw [hnk];exact hkl k
 obtain ⟨va,vn,vc,rfl⟩:=hvf
 obtain ⟨W1,hW1⟩:∃ W1,W1 = (w.alloc (.cells #[.int .i64 p,.int .i64 lf] 46)).alloc (.cells #[.int .i64 q,.int .i64 x,.string (mk sb),.int .i64 vp,.int .i64 vq,.slice va vn vc] 56):=⟨_,rfl⟩
 have hB1:Below w.heap.size w W1:=by rw [hW1];exact ((Below.refl _ _).alloc (Nat.le_refl _) _).alloc (by simp) _
 have hs1:W1.heap.size = w.heap.size + 2:=by rw [hW1];simp
 have hck:w.cell? ⟨tb,1 + k,none⟩ = some (.slice (some ⟨g,0,none⟩) nk c):=by rw [h3 k hk,h4]
 obtain ⟨r,hr⟩:∃ r,r = ahead ents p:=⟨_,rfl⟩
 have HR:Hid (ahead ents p = r):=hr.symm
 have e1:W1.cell? ⟨tb,1 + k,none⟩ = some (.slice (some ⟨g,0,none⟩) nk c):=(hB1.cell (p:=⟨tb,1 + k,none⟩) h8).trans hck
 have e2:W1.cell? ⟨g,f,none⟩ = some (colVal kd cb):=(hB1.cell (p:=⟨g,f,none⟩) h7).trans h6
 have HRow:Hid (∀ W,W = W1.drew → Calls Tryz.prog 130 #[.pointer (some ⟨tb,0,none⟩),.agg #[.int .i64 p,.int .i64 lf]] W fun e w' => e = .returned (.int .i64 r) ∧ w'.cell? ⟨tb,1 + k,none⟩ = some (.slice (some ⟨g,0,none⟩) nk c) ∧ w'.cell? ⟨g,f,none⟩ = some (colVal kd cb) ∧ w'.cell? ⟨w.heap.size + 1,0,none⟩ = some (.int .i64 q) ∧ w'.cell? ⟨w.heap.size + 1,1,none⟩ = some (.int .i64 x) ∧ w'.cell? ⟨w.heap.size + 1,2,none⟩ = some (.string (mk sb)) ∧ w'.cell? ⟨w.heap.size + 1,3,none⟩ = some (.int .i64 vp) ∧ w'.cell? ⟨w.heap.size + 1,4,none⟩ = some (.int .i64 vq) ∧ w'.cell? ⟨w.heap.size + 1,5,none⟩ = some (.slice va vn vc) ∧
  Hid (Calls Tryz.prog (setFn kd) #[.pointer (some ⟨cb,0,none⟩),.int .i64 r,.agg #[.int .i64 q,.int .i64 x,.string (mk sb),.int .i64 vp,.int .i64 vq,.slice va vn vc]] w' fun e w3 => e = .returned (.tuple #[]) ∧ Hid (Turns w w3 (fun b => own b = base + lCol k f) ∧ ∃ v',ListNew w3 w.heap.size v' (if kd = 5 then ls else []) ∧ TabC w3 own base tb s cks ents (upd2 xs k f (putAt (xs k f) (ahead ents p * kSz kd) (fvCells kd ⟨x,sb,vp,vq,ls⟩ v')))))):=by
  rintro W rfl
  refine (row_any tb ev ents p lf W1.drew ((hB1.cell (p:=⟨tb,0,none⟩) h8).trans h1) ((own_ents h2).below ⟨hB1.os,hB1.tape,hB1.output,hB1.size,hB1.block⟩) (by omega) hsort).mono ?_
  rw [HR.out]
  rintro e w' ⟨rfl,hb⟩
  have hb':Below W1.heap.size W1 w':=⟨hb.os,hb.tape,hb.output,hb.size,hb.block⟩
  have hbw:Below w.heap.size w w':=hB1.trans (hb'.mono hB1.size)
  have hv:∀ o,w'.cell? ⟨w.heap.size + 1,o,none⟩ = W1.cell? ⟨w.heap.size + 1,o,none⟩:=fun o => hb'.cell (p:=⟨w.heap.size + 1,o,none⟩) (by show w.heap.size + 1 < W1.heap.size;omega)
  have hblk:W1.heap[w.heap.size + 1]? = some (.cells #[.int .i64 q,.int .i64 x,.string (mk sb),.int .i64 vp,.int .i64 vq,.slice va vn vc] 56 (0,0)):=by rw [hW1];exact heap_alloc_at (by simp) _
  refine ⟨rfl,(hb'.cell (p:=⟨tb,1 + k,none⟩) (by show tb < _;omega)).trans e1,(hb'.cell (p:=⟨g,f,none⟩) (by show g < _;omega)).trans e2,(hv 0).trans (by rw [cell_row hblk];rfl),(hv 1).trans (by rw [cell_row hblk];rfl),(hv 2).trans (by rw [cell_row hblk];rfl),(hv 3).trans (by rw [cell_row hblk];rfl),(hv 4).trans (by rw [cell_row hblk];rfl),(hv 5).trans (by rw [cell_row hblk];rfl),?_⟩
  have hC:=h9.turn (W':=w') (F':=fun b => own b = base + lCol k f) fun j hj hjl => ⟨hbw.block j hjl,hj⟩
  refine (setcol_any kd hkd.1 hkd.2 cb ents.length r (xs k f) q x sb vp vq _ ls w' hC (by rw [hr];exact hin) (by omega) hsb hls (fun e => (hvl e).below hbw)).mono ?_
  rintro e w3 ⟨rfl,t1,v',t2,t3⟩
  have ht:Turns w w3 (fun b => own b = base + lCol k f):=(Turns.ofBelow _ hbw).trans' t1
  exact ⟨rfl,ht,v',own_base t2 hbw.size,h10 w3 _ ht t3⟩
 have hIv:=callSet_any kd hkd.1 hkd.2 cb
 rw [hW1] at e1 e2 HRow
 have hf4:(f:Int) < (nk:Int):=by omega
 have hk6:(k:Int) < 6:=by omega
 clear hT h9 h10 hW1 hB1 hsort hin hvl hck h1 h2 h3 h4 h6 hr hnk hf hh hs1
 go_enter Tryz.func75,Tryz.ntmps75
 go_wp2_with fail
 go_region_law (first | (refine step_call2 rfl 130 (.tmp 19) (.tmp 20) 125 46 rfl (.pointer (some ⟨tb,0,none⟩)) (.agg #[.int .i64 p,.int .i64 lf]) (by simp [Act.eval,Act.put]) (by simp [Act.eval,Act.put]) (runs130 _ _) ?_;refine (HRow.out _ rfl).mono ?_;rintro e w2 ⟨rfl,r1,r2,r3,r4,r5,r6,r7,r8,HSet⟩;refine ⟨_,rfl,?_⟩) | (refine step_invoke2 rfl (.tmp 24) (.tmp 21) (.tmp 22) "Set" 3 56 rfl (colVal kd cb) (.int .i64 r) (.agg #[.int .i64 q,.int .i64 x,.string (mk sb),.int .i64 vp,.int .i64 vq,.slice va vn vc]) (by simp [Act.eval,Act.put]) (by simp [Act.eval,Act.put]) (by simp [Act.eval,Act.put]) (setFn kd) _ (hIv _ _ _) ?_;refine HSet.out.mono ?_;rintro e w3 ⟨rfl,HP⟩;refine ⟨_,rfl,?_⟩))
 all_goals go_end0
 all_goals exact ⟨rfl,HP.out⟩
end Go.Proofs.YthkbeaffkcfgiabGreatDoor
