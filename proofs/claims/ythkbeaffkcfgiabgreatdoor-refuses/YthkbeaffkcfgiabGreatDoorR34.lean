import Derived.Test.YthkbeaffkcfgiabGreatDoorR27
import Derived.Test.YthkbeaffkcfgiabGreatDoorR31
import Derived.Test.YthkbeaffkcfgiabGreatDoorR28
import Derived.Test.YthkbeaffkcfgiabGreatDoorR33
import Derived.Test.YthkbeaffkcfgiabGreatDoorR08
import Derived.Test.YthkbeaffkcfgiabGreatDoorR21
set_option linter.unusedSimpArgs false
set_option linter.unusedVariables false
namespace Go.Proofs.YthkbeaffkcfgiabGreatDoor
open Go.RowKit
def svAt (e:Ent) (k f:Nat):SV:=(e.vs.getD k []).getD f ⟨0,0,[],[]⟩
def EntFit (L:List CompS) (m:Nat) (e:Ent):Prop:=e.c < 64 ∧ ∀ k,k < 6 → ((hasC e.c (kinds L) k = true ∧ (e.vs.getD k []).length = ((kinds L).getD k []).length) ∨ (hasC e.c (kinds L) k = false ∧ e.vs.getD k [] = [])) ∧
 ∀ f,f < (e.vs.getD k []).length → (svAt e k f).k = kindAt L k f ∧ SVOk (svAt e k f) ∧ ((svAt e k f).k = 4 → (svAt e k f).n ≤ m)
def refOf (hs:List (Int × Int)) (x:SV):Int × Int:=if x.k = 4 ∧ 0 < x.n then hs.getD (x.n - 1).toNat (0,0) else (0,0)
def fvOf (hs:List (Int × Int)) (x:SV):FV:=⟨x.n,x.s,(refOf hs x).1,(refOf hs x).2,x.l⟩
def fillV (L:List CompS) (V:Nat → Nat → Nat → FV) (i:Nat) (e:Ent) (hs:List (Int × Int)) (k f:Nat):Nat → Nat → Nat → FV :=
 fun i' k' f' => if i' = i ∧ (k' < k ∨ (k' = k ∧ f' < f)) ∧ f' < (e.vs.getD k' []).length then (fvOf hs (svAt e k' f')).norm (kindAt L k' f') else V i' k' f'
theorem fillV_zero (L:List CompS) (V:Nat → Nat → Nat → FV) (i:Nat) (e:Ent) (hs:List (Int × Int)):fillV L V i e hs 0 0 = V:=by
 funext i' k' f'
 unfold fillV
 rw [if_neg (by omega)]
theorem fillV_next (L:List CompS) (V:Nat → Nat → Nat → FV) (i:Nat) (e:Ent) (hs:List (Int × Int)) (k:Nat):fillV L V i e hs k (e.vs.getD k []).length = fillV L V i e hs (k + 1) 0:=by
 funext i' k' f'
 unfold fillV
 by_cases h:k' = k
 · subst h
   by_cases h2:i' = i ∧ f' < (e.vs.getD k' []).length
   · rw [if_pos ⟨h2.1,Or.inr ⟨rfl,h2.2⟩,h2.2⟩,if_pos ⟨h2.1,Or.inl (by omega),h2.2⟩]
   · rw [if_neg (fun q => h2 ⟨q.1,q.2.2⟩),if_neg (fun q => h2 ⟨q.1,q.2.2⟩)]
 · have e1:(k' < k ∨ k' = k ∧ f' < (e.vs.getD k []).length) ↔ (k' < k + 1 ∨ k' = k + 1 ∧ f' < 0):=by omega
   simp only [e1]
theorem fillV_step (L:List CompS) (V:Nat → Nat → Nat → FV) (i:Nat) (e:Ent) (hs:List (Int × Int)) (k f:Nat) (hf:f < (e.vs.getD k []).length) :
 (fun i' k' f' => if i' = i ∧ k' = k ∧ f' = f then (fvOf hs (svAt e k f)).norm (kindAt L k f) else fillV L V i e hs k f i' k' f') = fillV L V i e hs k (f + 1):=by
 funext i' k' f'
 by_cases h:i' = i ∧ k' = k ∧ f' = f
 · obtain ⟨rfl,rfl,rfl⟩:=h
   unfold fillV
   rw [if_pos ⟨rfl,rfl,rfl⟩,if_pos ⟨rfl,Or.inr ⟨rfl,by omega⟩,hf⟩]
 · rw [if_neg h]
   unfold fillV
   have e1:(i' = i ∧ (k' < k ∨ (k' = k ∧ f' < f)) ∧ f' < (e.vs.getD k' []).length) ↔ (i' = i ∧ (k' < k ∨ (k' = k ∧ f' < f + 1)) ∧ f' < (e.vs.getD k' []).length):=by
    constructor
    · rintro ⟨a,b,c⟩;exact ⟨a,by omega,c⟩
    · rintro ⟨a,b,c⟩;exact ⟨a,by omega,c⟩
   simp only [e1]
def FillAt (w:World) (own:Nat → Nat) (b g lc N:Nat) (L:List CompS) (S:St) (i:Nat) (e:Ent) (hs:List (Int × Int)) (tb k f:Nat) (wr:World):Prop :=
 Turns w wr (fun j => 32 ≤ own j) ∧ TabOf wr b (S.cp i) tb ∧ ∃ own' lv',(∀ j,j < w.heap.size → own' j = own j) ∧ WT wr own' b g lc N L { S with vals:=fillV L S.vals i e hs k f,lv:=lv' }
theorem ints_own {W:World} {B:Nat} {v:Value} {l:List Int} (h:W.ownsRow B 3 1 v l.length (l.map (Value.int .i64))):IntsAt W v l:=by
 rcases h.2 with ⟨h1,h2⟩ | ⟨g,cap,cur,h1,h2,h3,h4,h5,h6,h7⟩
 · exact Or.inl ⟨h1,List.eq_nil_of_length_eq_zero h2⟩
 · subst h1
   refine Or.inr ⟨g,cap,rfl,(Array.getElem?_eq_some_iff.1 h3).1,fun j hj => ?_⟩
   rw [h.cellAt j (by omega)]
   simp [hj]
theorem kind_get {L:List CompS} {k f:Nat} (hf:f < ((kinds L).getD k []).length):((kinds L).getD k [])[f]? = some (kindAt L k f):=by
 unfold kindAt
 generalize (kinds L).getD k [] = l at hf ⊢
 rw [List.getElem?_eq_getElem hf]
 simp [List.getD,hf]
theorem FillAt.set {w wr W:World} {own:Nat → Nat} {b g lc N:Nat} {L:List CompS} {S:St} {i:Nat} {e:Ent} {hs:List (Int × Int)} {tb k f:Nat} (h:FillAt w own b g lc N L S i e hs tb k f wr) (hb:Below wr.heap.size wr W) (hi:i < 20) (ht:S.tk i = true) (hcp:S.cp i = e.c) (hk:k < 6) (hfit:EntFit L hs.length e) (hf:f < (e.vs.getD k []).length) (lf:Int) (vl:Value) (B:Nat)
 (hvl:W.ownsRow B 3 1 vl (svAt e k f).l.length ((svAt e k f).l.map (Value.int .i64))) :
 Calls Tryz.prog 75 #[.pointer (some ⟨tb,0,none⟩),.agg #[.int .i64 ((i:Int) + 1),.int .i64 lf],.int .i64 k,.int .i64 f,.agg #[.int .i64 (svAt e k f).k,.int .i64 (svAt e k f).n,.string (mk (svAt e k f).s),.int .i64 (refOf hs (svAt e k f)).1,.int .i64 (refOf hs (svAt e k f)).2,vl]] W fun e' w3 => e' = .returned (.tuple #[]) ∧ FillAt w own b g lc N L S i e hs tb k (f + 1) w3:=by
 obtain ⟨hT,hO,own',lv',ho,hW⟩:=h
 have hW2:=hW.below hb
 have hO2:=hO.below hb
 obtain ⟨hc64,hfit⟩:=hfit
 obtain ⟨hor,hvs⟩:=hfit k hk
 obtain ⟨hkd,hok,_⟩:=hvs f hf
 have hh:hasC e.c (kinds L) k = true ∧ (e.vs.getD k []).length = ((kinds L).getD k []).length:=by
  rcases hor with q | ⟨_,q⟩
  · exact q
  · rw [q] at hf;simp at hf
 have hfk:f < ((kinds L).getD k []).length:=by omega
 have hkl:=hW.lay.kl
 have hkk:=hW.lay.kk
 have hkd5:1 ≤ kindAt L k f ∧ kindAt L k f ≤ 5:=by rw [← hkd];exact hok.kind
 obtain ⟨bm,n,m,q1,q2,q3,q4⟩:=hW2.tabAt i hi ht hO2
 obtain ⟨va,vc,hvf⟩:=own_form hvl
 have hls:=hok.few
 have hst:=hok.text
 refine (set_tabC own' (32 * (1 + S.cp i)) tb (S.cp i) (kinds L) _ _ ((i:Int) + 1) lf k f (kindAt L k f) _ _ (svAt e k f).s _ _ vl (svAt e k f).l W q4 hkl hk (by rw [hcp];exact hh.1) (kind_get hfk) hkd5 (Nat.le_trans (ents_lenS _ _) (by omega)) (ents_sortS _ _) (ahead_in _ i hi ht) (by omega) (by omega) (fun _ => ints_own hvl) ⟨va,_,vc,hvf⟩).mono ?_
 rintro e' w3 ⟨rfl,t1,v',t2,t3⟩
 have hk4:=hkl k
 obtain ⟨own2,o1,o2⟩:=hW2.put i k f hi ht (by omega) hk ((fvOf hs (svAt e k f)).norm (kindAt L k f)) v' bm n tb m q1 q2 q3 t1 t2 t3
 have t4:Turns W w3 (fun j => 32 ≤ own' j):=⟨t1.os,t1.tape,t1.output,t1.size,fun j hj hn => t1.block j hj fun q => hn (by have q':own' j = 32 * (1 + S.cp i) + lCol k f:=q;omega)⟩
 have hsz:=hT.size
 have hsz2:=hb.size
 refine ⟨rfl,?_,hO2.turn hW2 t4,own2,fun i' k' f' => if i' = i ∧ k' = k ∧ f' = f then v' else lv' i' k' f',fun j hj => (o1 j (by omega)).trans (ho j hj),?_⟩
 · refine hT.trans ⟨t4.os.trans hb.os,t4.tape.trans hb.tape,t4.output.trans hb.output,Nat.le_trans hb.size t4.size,fun j hj hn => ?_⟩
   rw [t4.block j (by omega) ?_,hb.block j hj]
   intro q
   refine hn ?_
   by_cases hq:j < w.heap.size
   · refine Or.inl ?_
     show 32 ≤ own j
     rw [← ho j hq];exact q
   · exact Or.inr ⟨by omega,by omega⟩
 · have hv:=fillV_step L S.vals i e hs k f hf
   rw [← hv]
   exact o2
theorem FillAt.next {w wr:World} {own:Nat → Nat} {b g lc N:Nat} {L:List CompS} {S:St} {i:Nat} {e:Ent} {hs:List (Int × Int)} {tb k:Nat} (h:FillAt w own b g lc N L S i e hs tb k (e.vs.getD k []).length wr):FillAt w own b g lc N L S i e hs tb (k + 1) 0 wr:=by
 unfold FillAt at h ⊢
 rw [fillV_next] at h
 exact h
def gN (kd:Nat) (x:FV):Int:=if kd = 1 then x.n else if kd = 2 then (if x.n == 1 then 1 else 0) else 0
def gS (kd:Nat) (x:FV):List UInt8:=if kd = 3 then x.s else []
def gP (kd:Nat) (x:FV):Int:=if kd = 4 then x.p else 0
def gQ (kd:Nat) (x:FV):Int:=if kd = 4 then x.l else 0
def gL (kd:Nat) (x:FV):List Int:=if kd = 5 then x.ls else []
def gCells (kd:Nat) (x:FV) (v:Value):List Value:=[.int .i64 kd,.int .i64 (gN kd x),.string (mk (gS kd x)),.int .i64 (gP kd x),.int .i64 (gQ kd x),v]
def getFn (kd:Nat):Nat:=if kd = 1 then 361 else if kd = 2 then 372 else if kd = 3 then 383 else if kd = 4 then 394 else 399
theorem callGet1 (cb:Nat) (u:Value) (w:World):(callMethod (colVal 1 cb) "Get" #[u]).run Tryz.prog w = .ok (.enter 361 #[.pointer (some ⟨cb,0,none⟩),u]) w:=by kernel_rfl
theorem callGet2 (cb:Nat) (u:Value) (w:World):(callMethod (colVal 2 cb) "Get" #[u]).run Tryz.prog w = .ok (.enter 372 #[.pointer (some ⟨cb,0,none⟩),u]) w:=by kernel_rfl
theorem callGet3 (cb:Nat) (u:Value) (w:World):(callMethod (colVal 3 cb) "Get" #[u]).run Tryz.prog w = .ok (.enter 383 #[.pointer (some ⟨cb,0,none⟩),u]) w:=by kernel_rfl
theorem callGet4 (cb:Nat) (u:Value) (w:World):(callMethod (colVal 4 cb) "Get" #[u]).run Tryz.prog w = .ok (.enter 394 #[.pointer (some ⟨cb,0,none⟩),u]) w:=by kernel_rfl
theorem callGet5 (cb:Nat) (u:Value) (w:World):(callMethod (colVal 5 cb) "Get" #[u]).run Tryz.prog w = .ok (.enter 399 #[.pointer (some ⟨cb,0,none⟩),u]) w:=by kernel_rfl
theorem callGet_any (kd:Nat) (h1:1 ≤ kd) (h5:kd ≤ 5) (cb:Nat) (u:Value) (w:World):(callMethod (colVal kd cb) "Get" #[u]).run Tryz.prog w = .ok (.enter (getFn kd) #[.pointer (some ⟨cb,0,none⟩),u]) w:=by
 have h:kd = 1 ∨ kd = 2 ∨ kd = 3 ∨ kd = 4 ∨ kd = 5:=by omega
 rcases h with rfl | rfl | rfl | rfl | rfl
 · exact callGet1 cb u w
 · exact callGet2 cb u w
 · exact callGet3 cb u w
 · exact callGet4 cb u w
 · exact callGet5 cb u w
theorem getcol_any {F:Nat → Prop} (kd:Nat) (h1:1 ≤ kd) (h5:kd ≤ 5) (cb n r:Nat) (xs:List Value) (x:FV) (v:Value) (w:World) (hC:ColAt w F cb (kStr kd) (kElt kd) (kSz kd) n xs) (hr:r < n) (hn:n ≤ 100) (hrow:∀ o,o < kSz kd → xs[r * kSz kd + o]? = (fvCells kd x v)[o]?) (hv:IntsAt w v x.ls) (hl:x.ls.length ≤ 100) :
 Calls Tryz.prog (getFn kd) #[.pointer (some ⟨cb,0,none⟩),.int .i64 r] w fun e w' => ∃ v',e = .returned (.agg (gCells kd x v').toArray) ∧ ListNew w' w.heap.size v' (gL kd x) ∧ Below w.heap.size w w':=by
 obtain ⟨g,cap,_,_,_,c0,h3,hx⟩:=col_open hC hr
 have h:kd = 1 ∨ kd = 2 ∨ kd = 3 ∨ kd = 4 ∨ kd = 5:=by omega
 rcases h with rfl | rfl | rfl | rfl | rfl
 · have e0:=hrow 0 (by decide)
   have c1:=h3.cellAt r (by show r < n * 1;omega)
   rw [show r * kSz 1 + 0 = r from Nat.mul_one r] at e0
   rw [e0] at c1
   refine (get_int cb g r n cap x.n w c0 hr hn c1).mono ?_
   rintro e w' ⟨rfl,hb⟩
   exact ⟨.slice none 0 0,rfl,World.ownsRow_nil _ _ _ _,hb⟩
 · have e0:=hrow 0 (by decide)
   have c1:=h3.cellAt r (by show r < n * 1;omega)
   rw [show r * kSz 2 + 0 = r from Nat.mul_one r] at e0
   rw [e0] at c1
   refine (get_bool cb g r n cap (x.n == 1) w c0 hr hn c1).mono ?_
   rintro e w' ⟨rfl,hb⟩
   exact ⟨.slice none 0 0,rfl,World.ownsRow_nil _ _ _ _,hb⟩
 · have e0:=hrow 0 (by decide)
   have c1:=h3.cellAt r (by show r < n * 1;omega)
   rw [show r * kSz 3 + 0 = r from Nat.mul_one r] at e0
   rw [e0] at c1
   refine (get_text cb g r n cap (mk x.s) w c0 hr hn c1).mono ?_
   rintro e w' ⟨rfl,hb⟩
   exact ⟨.slice none 0 0,rfl,World.ownsRow_nil _ _ _ _,hb⟩
 · have e0:=hrow 0 (by decide)
   have e1:=hrow 1 (by decide)
   have c1:=h3.cellAt (r * 2) (by show r * 2 < n * 2;omega)
   have c2:=h3.cellAt (r * 2 + 1) (by show r * 2 + 1 < n * 2;omega)
   rw [show r * kSz 4 + 0 = r * 2 from rfl] at e0
   rw [show r * kSz 4 + 1 = r * 2 + 1 from rfl] at e1
   rw [e0] at c1
   rw [e1] at c2
   refine (get_ref cb g r n cap x.p x.l w c0 hr hn c1 c2).mono ?_
   rintro e w' ⟨rfl,hb⟩
   exact ⟨.slice none 0 0,rfl,World.ownsRow_nil _ _ _ _,hb⟩
 · have e0:=hrow 0 (by decide)
   have c1:=h3.cellAt r (by show r < n * 1;omega)
   rw [show r * kSz 5 + 0 = r from Nat.mul_one r] at e0
   rw [e0] at c1
   refine (get_list cb g r n cap v x.ls w c0 hr hn c1 hv hl).mono ?_
   rintro e w' ⟨sa,sc,rfl,ho,hb⟩
   exact ⟨.slice sa x.ls.length sc,rfl,own_base ho (Nat.le_succ _),hb⟩
theorem cells_row (bg:Nat → Nat) (q:Nat → Bool) (g:Nat → List Value) (sz i o:Nat) (hi:i < 20) (hq:q i = true) (hl:∀ j,(g j).length = sz) (ho:o < sz):(cellsOf q g)[ahead (entsOf bg q) ((i:Int) + 1) * sz + o]? = (g i)[o]?:=by
 rw [aheadS bg q i hi,cells_split q g i hi,hq]
 have hlen:((List.range i).filter q).length * sz = (((List.range i).filter q).flatMap g).length:=(flatV_len g sz _ fun j _ => hl j).symm
 have hgi:=hl i
 rw [hlen]
 simp only [if_true]
 rw [List.append_assoc,List.getElem?_append_right (by omega),show (((List.range i).filter q).flatMap g).length + o - (((List.range i).filter q).flatMap g).length = o by omega,List.getElem?_append_left (by omega)]
def ValMore (w:World) (A k kd m B:Nat) (sv:Value) (ys:List Value) (x:FV) (w':World):Prop :=
 ∃ sv' lv' w6,w' = w6.setCell ⟨A,k,none⟩ sv' ∧ w6.ownsRow B 56 6 sv' (m + 1) (ys ++ gCells kd x lv') ∧ Turns w w6 (fun j => sv.ownBlock = some j) ∧ (sv'.ownBlock = sv.ownBlock ∨ ∃ j,sv'.ownBlock = some j ∧ w.heap.size ≤ j) ∧ ListNew w6 w.heap.size lv' (gL kd x)
theorem frozen_of_grown {w2 w6:World} {o:Obj} {A k:Nat} {row:Option Nat} (hg:(w2.alloc o).grownBy w6 row) (hf:w2.frozen? ⟨A,k,none⟩ = false) (hA:A < w2.heap.size) (hne:some A ≠ row):w6.frozen? ⟨A,k,none⟩ = false :=
 (World.frozen?_of_block (a:=⟨A,k,none⟩) ((hg.block A (by simp;omega) hne).trans (Below.heap_alloc _ _ _ hA))).trans hf
theorem val_more {w w2 w6:World} {A k kd m B:Nat} {sa sa6:Option Addr} {sc sc6:Nat} {ys:List Value} {x:FV} {la:Option Addr} {ln lc:Nat} {en ep eq:Int} {es:List UInt8} {o:Obj} (hcl:∀ u,gCells kd x u = [.int .i64 kd,.int .i64 en,.string (mk es),.int .i64 ep,.int .i64 eq,u])
 (hG:w2.ownsRow B 56 6 (.slice sa m sc) m ys ∧ Below w.heap.size w w2 ∧ ListNew w2 w.heap.size (.slice la ln lc) (gL kd x)) (hown:w6.ownsRow B 56 6 (.slice sa6 (m + 1) sc6) (m + 1) (ys ++ [.int .i64 kd,.int .i64 en,.string (mk es),.int .i64 ep,.int .i64 eq,.slice la ln lc])) (hg:(w2.alloc o).grownBy w6 (Value.slice sa m sc).ownBlock)
 (hwh:(Value.slice sa6 (m + 1) sc6).ownBlock = (Value.slice sa m sc).ownBlock ∨ (Value.slice sa6 (m + 1) sc6).ownBlock = some (w2.alloc o).heap.size):ValMore w A k kd m B (.slice sa m sc) ys x (w6.setCell ⟨A,k,none⟩ (.slice sa6 (m + 1) sc6)):=by
 obtain ⟨h1,h2,h3⟩:=hG
 have hz:=h2.size
 refine ⟨_,.slice la ln lc,w6,rfl,by rw [hcl];exact hown,⟨hg.os.trans h2.os,hg.tape.trans h2.tape,hg.output.trans h2.output,by have:=hg.size;simp at this;omega,fun j hj hn => ?_⟩,?_,?_⟩
 · rw [hg.block j (by simp;omega) (fun e => hn e.symm),Below.heap_alloc _ _ _ (by omega),h2.block j hj]
 · rcases hwh with q | q
   · exact Or.inl q
   · exact Or.inr ⟨_,q,by simp;omega⟩
 · refine own_turn h3 fun j hj hjl => ?_
   rw [hg.block j (by simp;omega) (fun e => ?_),Below.heap_alloc _ _ _ hjl]
   have a1:=h3.2
   have a2:=h1.2
   rcases a1 with ⟨q,_⟩ | ⟨g1,c1,u1,q,_,q3,_⟩
   · rw [q] at hj;cases hj
   · rcases a2 with ⟨p,_⟩ | ⟨g2,c2,u2,p,_,p3,_⟩
     · rw [p] at e;cases e
     · rw [q] at hj
       rw [p] at e
       simp [Value.ownBlock] at hj e
       subst hj
       rw [e,p3] at q3
       simp at q3
set_option maxHeartbeats 3200000 in
set_option maxRecDepth 100000 in
theorem values1_any {F:Nat → Prop} (kd:Nat) (h1:1 ≤ kd) (h5:kd ≤ 5) (A rb r k f cb n m B:Nat) (xs ys:List Value) (x:FV) (v sv:Value) (w:World) (hk:k < 6) (hC:ColAt w F cb (kStr kd) (kElt kd) (kSz kd) n xs) (hr:r < n) (hn:n ≤ 100) (hrow:∀ o,o < kSz kd → xs[r * kSz kd + o]? = (fvCells kd x v)[o]?) (hv:IntsAt w v x.ls) (hl:x.ls.length ≤ 100)
 (hA:w.cell? ⟨A,k,none⟩ = some sv) (hAf:w.frozen? ⟨A,k,none⟩ = false) (hrb:w.cell? ⟨rb,0,none⟩ = some (.int .i64 r)) (hown:w.ownsRow B 56 6 sv m ys) (hm:m ≤ 100) (hB:B ≤ w.heap.size) (hAo:sv.ownBlock ≠ some A) :
 Calls Tryz.prog 215 #[.int .i64 k,.int .i64 f,colVal kd cb,.pointer (some ⟨A,0,none⟩),.pointer (some ⟨rb,0,none⟩)] w fun e w' => e = .returned (.tuple #[]) ∧ ValMore w A k kd m B sv ys x w':=by
 obtain ⟨i0,hi0,hz0,hz1,hz2⟩:=info_parts Tryz.info56
 have hAl:A < w.heap.size:=World.block_lt_of_cell? w ⟨A,k,none⟩ hA
 obtain ⟨sa,sc,hsf⟩:=own_form hown
 subst hsf
 have HO:Hid (w.ownsRow B 56 6 (.slice sa m sc) m ys):=hown
 have HGet:Hid (∀ W,W = w.drew → Calls Tryz.prog (getFn kd) #[.pointer (some ⟨cb,0,none⟩),.int .i64 r] W fun e w2 => ∃ la ln lc,e = .returned (.agg #[.int .i64 kd,.int .i64 (gN kd x),.string (mk (gS kd x)),.int .i64 (gP kd x),.int .i64 (gQ kd x),.slice la ln lc]) ∧ w2.cell? ⟨A,k,none⟩ = some (.slice sa m sc) ∧ w2.frozen? ⟨A,k,none⟩ = false ∧ w.heap.size ≤ w2.heap.size ∧ A < w2.heap.size ∧ Hid (w2.ownsRow B 56 6 (.slice sa m sc) m ys ∧ Below w.heap.size w w2 ∧ ListNew w2 w.heap.size (.slice la ln lc) (gL kd x))):=by
  rintro W rfl
  refine (getcol_any (F:=F) kd h1 h5 cb n r xs x v w.drew (hC.turn fun j hj _ => ⟨rfl,hj⟩) hr hn hrow (hv.below ((Below.refl _ _).drew)) hl).mono ?_
  rintro e w2 ⟨v',rfl,g1,g2⟩
  have hb:Below w.heap.size w w2:=⟨g2.os,g2.tape,g2.output,g2.size,g2.block⟩
  obtain ⟨la,lc,rfl⟩:=own_form g1
  exact ⟨la,_,lc,rfl,(hb.cell (p:=⟨A,k,none⟩) hAl).trans hA,(hb.frozen (p:=⟨A,k,none⟩) hAl).trans hAf,hb.size,Nat.lt_of_lt_of_le hAl hb.size,own_turn hown fun j _ hj => hb.block j hj,hb,g1⟩
 have hIv:=callGet_any kd h1 h5 cb
 have hk6:(k:Int) < 6:=by omega
 have HAo:Hid ((Value.slice sa m sc).ownBlock ≠ some A):=hAo
 clear hC hrow hv hown hAo
 obtain ⟨en,hen⟩:∃ en,en = gN kd x:=⟨_,rfl⟩
 obtain ⟨es,hes⟩:∃ es,es = gS kd x:=⟨_,rfl⟩
 obtain ⟨ep,hep⟩:∃ ep,ep = gP kd x:=⟨_,rfl⟩
 obtain ⟨eq,heq⟩:∃ eq,eq = gQ kd x:=⟨_,rfl⟩
 rw [← hen,← hes,← hep,← heq] at HGet
 have HCl:Hid (∀ u,gCells kd x u = [.int .i64 kd,.int .i64 en,.string (mk es),.int .i64 ep,.int .i64 eq,u]):=fun u => by unfold gCells;rw [hen,hes,hep,heq]
 clear hen hes hep heq
 go_enter Tryz.func215,Tryz.ntmps215
 go_region_law (first
  | (refine step_invoke1 rfl (.tmp 12) (.tmp 13) "Get" 3 rfl (colVal kd cb) (.int .i64 r) (by simp [Act.eval,Act.put]) (by simp [Act.eval,Act.put]) (getFn kd) _ (hIv _ _) ?_;refine (HGet.out _ rfl).mono ?_;rintro e w2 ⟨la,ln,lc,rfl,q1,q2,q3,q4,HG⟩;refine ⟨_,rfl,?_⟩)
  | (refine step_append_own_at rfl (.tmp 11) (.tmp 15) 40 rfl B 56 i0 _ 6 72 Tryz.underlying40 hi0 hz0 hz1 hz2 rfl (by decide) (.slice sa m sc) m ys (by simp [Act.eval,Act.put]) (HG.out.1.alloc _) ⟨w2.heap.size,0,none⟩ 1 1 [.int .i64 kd,.int .i64 en,.string (mk es),.int .i64 ep,.int .i64 eq,.slice la ln lc] (by simp [Act.eval,Act.put]) rfl (new_cells [.int .i64 kd,.int .i64 en,.string (mk es),.int .i64 ep,.int .i64 eq,.slice la ln lc]) (by simp [Value.oneCell']) (by unfold maxLen;omega) (by omega) (by simp;omega) ?_;intro v6 w6 hown6 hgrow6 hwh;obtain ⟨sa6,sc6,rfl⟩:=own_form hown6;have c6:w6.cell? ⟨A,k,none⟩ = some (.slice sa m sc):=hgrow6.cell (by rw [World.cell?_alloc_lt _ _ _ (by show A < w2.heap.size;omega)];exact q1) (fun e => HAo.out e.symm);have f6:w6.frozen? ⟨A,k,none⟩ = false:=frozen_of_grown hgrow6 q2 (by omega) (fun e => HAo.out e.symm);have H6:Hid (ValMore w A k kd m B (.slice sa m sc) ys x (w6.setCell ⟨A,k,none⟩ (.slice sa6 (m + 1) sc6))):=val_more HCl.out HG.out hown6 hgrow6 hwh;clear hown6 hgrow6 hwh))
 all_goals go_end0
 all_goals exact ⟨rfl,H6.out⟩
def rowG (L:List CompS) (x:Nat → Nat → FV) (lv:Nat → Nat → Value) (k n:Nat):List Value:=(List.range n).flatMap fun f => gCells (kindAt L k f) (x k f) (lv k f)
theorem rowG_succ (L:List CompS) (x:Nat → Nat → FV) (lv:Nat → Nat → Value) (k n:Nat):rowG L x lv k (n + 1) = rowG L x lv k n ++ gCells (kindAt L k n) (x k n) (lv k n):=by
 unfold rowG
 rw [List.range_succ,List.flatMap_append]
 simp
theorem rowG_congr (L:List CompS) (x:Nat → Nat → FV) {lv lv':Nat → Nat → Value} (k n:Nat) (h:∀ f,f < n → lv' k f = lv k f):rowG L x lv' k n = rowG L x lv k n:=by
 unfold rowG
 refine flatV_congr _ fun f hf => ?_
 rw [h f (List.mem_range.1 hf)]
structure VAt (w W:World) (B A rb r:Nat) (L:List CompS) (x:Nat → Nat → FV) (c:Nat → Nat) (sl:Nat → Value) (lv:Nat → Nat → Value):Prop where
 blk:W.heap[A]? = some (.cells (colArr sl) 162 (0,0))
 rbx:W.heap[rb]? = some (.cells #[.int .i64 r] 3 (0,0))
 rows:∀ k,k < 6 → W.ownsRow B 56 6 (sl k) (c k) (rowG L x lv k (c k))
 apart:∀ k,k < 6 → ∀ k',k' < 6 → k ≠ k' → ∀ j,(sl k).ownBlock = some j → (sl k').ownBlock ≠ some j
 lists:∀ k,k < 6 → ∀ f,f < c k → W.ownsRow B 3 1 (lv k f) (gL (kindAt L k f) (x k f)).length ((gL (kindAt L k f) (x k f)).map (Value.int .i64))
 below:Below B w W
 lo:B ≤ A
theorem row56 {W:World} {B n:Nat} {v:Value} {xs:List Value} (h:W.ownsRow B 56 6 v n xs) {j:Nat} (hj:v.ownBlock = some j):∃ cs,W.heap[j]? = some (.cells cs 56 (0,0)):=by
 rcases h.2 with ⟨q,_⟩ | ⟨g,cap,cur,q,_,q3,_⟩
 · rw [q] at hj;cases hj
 · rw [q] at hj;simp [Value.ownBlock] at hj;subst hj;exact ⟨cur,q3⟩
theorem row3 {W:World} {B n:Nat} {v:Value} {xs:List Value} (h:W.ownsRow B 3 1 v n xs) {j:Nat} (hj:v.ownBlock = some j):∃ cs,W.heap[j]? = some (.cells cs 3 (0,0)):=by
 rcases h.2 with ⟨q,_⟩ | ⟨g,cap,cur,q,_,q3,_⟩
 · rw [q] at hj;cases hj
 · rw [q] at hj;simp [Value.ownBlock] at hj;subst hj;exact ⟨cur,q3⟩
theorem colArr_set (sl:Nat → Value) (k:Nat) (v:Value) (hk:k < 6):(colArr sl).setIfInBounds k v = colArr (upd sl k v):=by
 have h:k = 0 ∨ k = 1 ∨ k = 2 ∨ k = 3 ∨ k = 4 ∨ k = 5:=by omega
 rcases h with rfl | rfl | rfl | rfl | rfl | rfl <;> rfl
theorem VAt.more {w W W':World} {B A rb r:Nat} {L:List CompS} {x:Nat → Nat → FV} {c:Nat → Nat} {sl:Nat → Value} {lv:Nat → Nat → Value} (h:VAt w W B A rb r L x c sl lv) (hB:B ≤ w.heap.size) (k:Nat) (hk:k < 6) (hm:ValMore W A k (kindAt L k (c k)) (c k) B (sl k) (rowG L x lv k (c k)) (x k (c k)) W') :
 ∃ sl' lv',VAt w W' B A rb r L x (upd c k (c k + 1)) sl' lv':=by
 obtain ⟨sv',lw,w6,rfl,m1,m2,m3,m4⟩:=hm
 have hAl:A < W.heap.size:=(Array.getElem?_eq_some_iff.1 h.blk).1
 have hrl:rb < W.heap.size:=(Array.getElem?_eq_some_iff.1 h.rbx).1
 have hW:=h.below.size
 have nA:(sl k).ownBlock ≠ some A:=fun e => by
  obtain ⟨cs,q⟩:=row56 (h.rows k hk) e
  rw [h.blk] at q;simp at q
 have nrb:(sl k).ownBlock ≠ some rb:=fun e => by
  obtain ⟨cs,q⟩:=row56 (h.rows k hk) e
  rw [h.rbx] at q;simp at q
 have hrA:rb ≠ A:=fun e => by
  have q:=h.rbx
  rw [e,h.blk] at q;simp at q
 have b6:w6.heap[A]? = some (.cells (colArr sl) 162 (0,0)):=(m2.block A hAl nA).trans h.blk
 have hset:∀ j,j ≠ A → (w6.setCell ⟨A,k,none⟩ sv').heap[j]? = w6.heap[j]?:=fun j hj => Below.heap_setCell _ _ _ _ hj
 have hkeep:∀ j,j < W.heap.size → (sl k).ownBlock ≠ some j → j ≠ A → (w6.setCell ⟨A,k,none⟩ sv').heap[j]? = W.heap[j]?:=fun j h1 h2 h3 => (hset j h3).trans (m2.block j h1 h2)
 have hz:(w6.setCell ⟨A,k,none⟩ sv').heap.size = w6.heap.size:=by simp [World.setCell]
 refine ⟨upd sl k sv',fun k' f' => if k' = k ∧ f' = c k then lw else lv k' f',⟨?_,(hkeep rb hrl nrb hrA).trans h.rbx,fun k' hk' => ?_,fun k' hk' k'' hk'' hne j hj => ?_,fun k' hk' f' hf' => ?_,?_,h.lo⟩⟩
 · rw [setCell_block _ b6,colArr_set sl k sv' hk]
 · by_cases e:k' = k
   · subst e
     rw [upd_same,upd_same,rowG_succ,rowG_congr L x k' (c k') (fun f hf => if_neg (by omega)),if_pos ⟨rfl,rfl⟩]
     refine own_turn m1 fun j hj _ => hset j ?_
     rintro rfl
     obtain ⟨cs,q⟩:=row56 m1 hj
     rw [b6] at q;simp at q
   · rw [upd_ne _ _ _ e,upd_ne _ _ _ e,rowG_congr L x k' (c k') (fun f hf => if_neg (by omega))]
     refine own_turn (h.rows k' hk') fun j hj hjl => hkeep j hjl (fun q => h.apart k' hk' k hk e j hj q) ?_
     rintro rfl
     obtain ⟨cs,q⟩:=row56 (h.rows k' hk') hj
     rw [h.blk] at q;simp at q
 · by_cases e:k' = k
   · subst e
     rw [upd_same] at hj
     rw [upd_ne _ _ _ (Ne.symm hne)]
     intro q
     rcases m3 with m3 | ⟨g,m3,m3'⟩
     · rw [m3] at hj;exact h.apart k' hk' k'' hk'' hne j hj q
     · rw [m3] at hj
       simp at hj
       have:=((h.rows k'' hk'').lt j q).2
       omega
   · rw [upd_ne _ _ _ e] at hj
     by_cases e2:k'' = k
     · subst e2
       rw [upd_same]
       intro q
       rcases m3 with m3 | ⟨g,m3,m3'⟩
       · rw [m3] at q;exact h.apart k' hk' k'' hk'' hne j hj q
       · rw [m3] at q
         simp at q
         have:=((h.rows k' hk').lt j hj).2
         omega
     · rw [upd_ne _ _ _ e2];exact h.apart k' hk' k'' hk'' hne j hj
 · by_cases e:k' = k ∧ f' = c k
   · obtain ⟨rfl,rfl⟩:=e
     simp only [and_self,if_true]
     refine own_turn (own_base m4 (by omega)) fun j hj _ => hset j ?_
     have:=(m4.lt j hj).1
     omega
   · rw [if_neg e]
     have hf2:f' < c k':=by
      by_cases e2:k' = k
      · subst e2
        rw [upd_same] at hf'
        omega
      · rw [upd_ne _ _ _ e2] at hf';exact hf'
     have hl:=h.lists k' hk' f' hf2
     refine own_turn hl fun j hj hjl => hkeep j hjl (fun q => ?_) ?_
     · obtain ⟨c1,q1⟩:=row3 hl hj
       obtain ⟨c2,q2⟩:=row56 (h.rows k hk) q
       rw [q1] at q2;simp at q2
     · rintro rfl
       obtain ⟨c1,q1⟩:=row3 hl hj
       rw [h.blk] at q1;simp at q1
 · have hb6:Below B w w6:=⟨m2.os.trans h.below.os,m2.tape.trans h.below.tape,m2.output.trans h.below.output,by have:=m2.size;omega,fun j hj => (m2.block j (by omega) (fun q => by have:=((h.rows k hk).lt j q).1;omega)).trans (h.below.block j hj)⟩
   exact hb6.setCell (by simpa using h.lo) _
def cntAt (c:Nat → Nat) (k f:Nat):Nat → Nat:=fun k' => if k' < k then c k' else if k' = k then f else 0
theorem cntAt_zero (c:Nat → Nat):cntAt c 0 0 = fun _ => 0:=by
 funext k'
 unfold cntAt
 rw [if_neg (by omega)]
 split <;> rfl
theorem cntAt_next (c:Nat → Nat) (k:Nat):cntAt c k (c k) = cntAt c (k + 1) 0:=by
 funext k'
 unfold cntAt
 by_cases h:k' < k
 · rw [if_pos h,if_pos (by omega)]
 · rw [if_neg h]
   by_cases e:k' = k
   · subst e;rw [if_pos rfl,if_pos (by omega)]
   · rw [if_neg e,if_neg (by omega)]
     split <;> rfl
theorem cntAt_step (c:Nat → Nat) (k f:Nat):upd (cntAt c k f) k (cntAt c k f k + 1) = cntAt c k (f + 1):=by
 funext k'
 unfold cntAt upd
 by_cases e:k' = k
 · subst e;simp
 · simp [e]
theorem cntAt_at (c:Nat → Nat) (k f:Nat):cntAt c k f k = f:=by simp [cntAt]
def cntC (s:Nat) (L:List CompS) (k:Nat):Nat:=if hasC s (kinds L) k then ((kinds L).getD k []).length else 0
structure ValsG (W:World) (B:Nat) (L:List CompS) (x:Nat → Nat → FV) (c:Nat → Nat) (sl:Nat → Value) (lv:Nat → Nat → Value):Prop where
 rows:∀ k,k < 6 → W.ownsRow B 56 6 (sl k) (c k) (rowG L x lv k (c k))
 apart:∀ k,k < 6 → ∀ k',k' < 6 → k ≠ k' → ∀ j,(sl k).ownBlock = some j → (sl k').ownBlock ≠ some j
 lists:∀ k,k < 6 → ∀ f,f < c k → W.ownsRow B 3 1 (lv k f) (gL (kindAt L k f) (x k f)).length ((gL (kindAt L k f) (x k f)).map (Value.int .i64))
theorem runs215 (args:Array Value) (w:World):(callFunc 215 args).run Tryz.prog w = .ok (.enter 215 args) w:=by kernel_rfl
theorem each_values (own:Nat → Nat) (base tb s:Nat) (L:List CompS) (ents:List (Int × Int)) (xs:Nat → Nat → List Value) (p:Int) (x:Nat → Nat → FV) (lvw:Nat → Nat → Value) (w W3:World) (A rb:Nat) (hT:TabC w own base tb s (kinds L) ents xs) (hkl:∀ k,((kinds L).getD k []).length ≤ 4) (hkk:∀ k,∀ y ∈ (kinds L).getD k [],1 ≤ y ∧ y ≤ 5) (hl:ents.length ≤ 99) (hin:ahead ents p < ents.length)
 (hrow:∀ k f,hasC s (kinds L) k = true → f < ((kinds L).getD k []).length → ∀ o,o < kSz (kindAt L k f) → (xs k f)[ahead ents p * kSz (kindAt L k f) + o]? = (fvCells (kindAt L k f) (x k f) (lvw k f))[o]?) (hints:∀ k f,IntsAt w (lvw k f) (x k f).ls ∧ (x k f).ls.length ≤ 100)
 (hb:Below w.heap.size w W3) (hA:W3.heap[A]? = some (.cells (colArr fun _ => .slice none 0 0) 162 (0,0))) (hrb:W3.heap[rb]? = some (.cells #[.int .i64 (ahead ents p)] 3 (0,0))) (B:Nat) (hBA:B ≤ A) (hwB:w.heap.size ≤ B) :
 Calls Tryz.prog 124 #[.pointer (some ⟨tb,0,none⟩),.func (.func 215) #[] #[.pointer (some ⟨A,0,none⟩),.pointer (some ⟨rb,0,none⟩)]] W3 fun e w' => e = .returned (.tuple #[]) ∧ ∃ sl lv,VAt W3 w' B A rb (ahead ents p) L x (cntAt (cntC s L) 6 0) sl lv:=by
 obtain ⟨hme,ev,slc,hb0,hown,hevb,hcols⟩:=hT
 obtain ⟨cbs,hM⟩:=mix_of hcols
 have hlt:tb < w.heap.size:=(Array.getElem?_eq_some_iff.1 hb0).1
 have hAl:A < W3.heap.size:=(Array.getElem?_eq_some_iff.1 hA).1
 have hcl:∀ k,k < 6 → (colList s (kinds L) cbs k).length = cntC s L k:=fun k hk => by
  have h0:=hM k hk
  unfold colList cntC
  by_cases hq:hasC s (kinds L) k = true
  · rw [if_pos hq] at h0
    rw [if_pos hq,if_pos hq,List.length_zipWith,h0.len];simp
  · rw [if_neg hq,if_neg hq];rfl
 have E:=each_any 215 #[.pointer (some ⟨A,0,none⟩),.pointer (some ⟨rb,0,none⟩)] tb slc (colList s (kinds L) cbs) (fun k f W => ∃ sl lv,VAt W3 W B A rb (ahead ents p) L x (cntAt (cntC s L) k f) sl lv) W3 runs215
  (fun k hk => by
   rw [cell_row ((hb.block tb hlt).trans hb0)]
   have:k = 0 ∨ k = 1 ∨ k = 2 ∨ k = 3 ∨ k = 4 ∨ k = 5:=by omega
   rcases this with rfl | rfl | rfl | rfl | rfl | rfl <;> rfl) ?_ ?_ ?_ ?_
 · exact E
 · intro k hk
   have h0:=hM k hk
   by_cases hq:hasC s (kinds L) k = true
   · rw [if_pos hq] at h0
     have hcl2:=hcl k hk
     unfold cntC at hcl2
     rw [if_pos hq] at hcl2
     have h4:=hkl k
     rcases h0.row.2 with ⟨h1,h2⟩ | ⟨g,cap,cur,h1,_,h3,h4',_⟩
     · refine Or.inl ⟨h1,?_⟩
       exact List.length_eq_zero_iff.1 (by omega)
     · refine Or.inr ⟨g,cap,by rw [hcl2];exact h1,by omega,by omega,?_⟩
       rintro f W ⟨sl,lv,hV⟩ j hj
       have hgl:g < w.heap.size:=(Array.getElem?_eq_some_iff.1 h3).1
       have hrw:=h0.row
       rw [h1] at hrw
       rw [World.cell?_of_block (a:=⟨g,j,none⟩) ((hV.below.block g (by omega)).trans (hb.block g hgl)),hrw.cellAt j (by omega)]
       unfold colList
       simp only [if_pos hq]
       rw [List.getElem?_eq_getElem]
   · rw [if_neg hq] at h0
     exact Or.inl ⟨h0,by unfold colList;rw [if_neg hq]⟩
 · refine ⟨fun _ => .slice none 0 0,fun _ _ => .slice none 0 0,?_⟩
   rw [cntAt_zero]
   exact ⟨hA,hrb,fun k _ => World.ownsRow_nil _ _ _ _,fun k _ k' _ _ j hj => (by cases hj),fun k _ f hf => (by omega),Below.refl _ _,hBA⟩
 · rintro k W hk ⟨sl,lv,hV⟩
   rw [hcl k hk,cntAt_next] at hV
   exact ⟨sl,lv,hV⟩
 · rintro k f hk hf W ⟨sl,lv,hV⟩
   have hq:hasC s (kinds L) k = true:=by
    have:=hcl k hk
    unfold cntC at this
    by_cases hq:hasC s (kinds L) k = true
    · exact hq
    · rw [if_neg hq] at this;omega
   have h0:=hM k hk
   rw [if_pos hq] at h0
   have hfl:f < ((kinds L).getD k []).length:=by
    have:=hcl k hk
    unfold cntC at this
    rw [if_pos hq] at this
    omega
   have hfc:f < (cbs k).length:=by rw [h0.len];exact hfl
   have hfk:((kinds L).getD k [])[f] = kindAt L k f:=by
    have:=kind_get hfl
    rw [List.getElem?_eq_getElem hfl] at this
    exact Option.some.inj this
   have hce:(colList s (kinds L) cbs k)[f] = colVal (kindAt L k f) (cbs k)[f]:=by
    unfold colList
    simp only [if_pos hq,List.getElem_zipWith,hfk]
   have hkd:=hkk k _ (List.getElem_mem hfl)
   rw [hfk] at hkd
   have hcol:=h0.col f hfl hfc
   rw [hfk] at hcol
   have hbW:Below w.heap.size w W:=hb.trans (hV.below.mono hwB)
   have hcW:=hcol.turn (W':=W) (F':=fun b => own b = base + lCol k f) fun j hj hjl => ⟨hbW.block j hjl,hj⟩
   have hm:cntAt (cntC s L) k f k = f:=cntAt_at _ _ _
   have hr:=hV.rows k hk
   have hAW:A < W.heap.size:=(Array.getElem?_eq_some_iff.1 hV.blk).1
   rw [hm] at hr
   rw [hce]
   have h4:=hkl k
   refine (values1_any (kindAt L k f) hkd.1 hkd.2 A rb (ahead ents p) k f (cbs k)[f] ents.length f B (xs k f) _ (x k f) (lvw k f) (sl k) W hk hcW hin (by omega) (hrow k f hq hfl) ((hints k f).1.below hbW) (hints k f).2 (by rw [cell_row hV.blk];exact colArr_get sl k hk) (frozen_row hV.blk _) (by rw [cell_row hV.rbx];rfl) hr (by omega) (by omega) (fun e => by
    obtain ⟨cs,q⟩:=row56 hr e
    rw [hV.blk] at q;simp at q)).mono ?_
   rintro e w' ⟨rfl,hmo⟩
   refine ⟨rfl,?_⟩
   have hmo2:ValMore W A k (kindAt L k (cntAt (cntC s L) k f k)) (cntAt (cntC s L) k f k) B (sl k) (rowG L x lv k (cntAt (cntC s L) k f k)) (x k (cntAt (cntC s L) k f k)) w':=by rw [hm];exact hmo
   obtain ⟨sl',lv',h9⟩:=hV.more (by omega) k hk hmo2
   rw [cntAt_step] at h9
   exact ⟨sl',lv',h9⟩
theorem Tryz.size162:(Tryz.prog.info? 162).map (·.size) = some 6:=by kernel_rfl
theorem cnt_end (s:Nat) (L:List CompS) (k:Nat) (hk:k < 6):cntAt (cntC s L) 6 0 k = cntC s L k:=by unfold cntAt;rw [if_pos hk]
set_option maxHeartbeats 1600000 in
set_option maxRecDepth 100000 in
theorem values_any (own:Nat → Nat) (base tb s:Nat) (L:List CompS) (ents:List (Int × Int)) (xs:Nat → Nat → List Value) (p lf:Int) (x:Nat → Nat → FV) (lvw:Nat → Nat → Value) (w:World) (hT:TabC w own base tb s (kinds L) ents xs) (hkl:∀ k,((kinds L).getD k []).length ≤ 4) (hkk:∀ k,∀ y ∈ (kinds L).getD k [],1 ≤ y ∧ y ≤ 5) (hl:ents.length ≤ 99) (hsort:ents.Pairwise fun a b => a.1 < b.1) (hin:ahead ents p < ents.length)
 (hrow:∀ k f,hasC s (kinds L) k = true → f < ((kinds L).getD k []).length → ∀ o,o < kSz (kindAt L k f) → (xs k f)[ahead ents p * kSz (kindAt L k f) + o]? = (fvCells (kindAt L k f) (x k f) (lvw k f))[o]?) (hints:∀ k f,IntsAt w (lvw k f) (x k f).ls ∧ (x k f).ls.length ≤ 100) :
 Calls Tryz.prog 147 #[.pointer (some ⟨tb,0,none⟩),.agg #[.int .i64 p,.int .i64 lf]] w fun e w' => ∃ sl lv,e = .returned (.agg (colArr sl)) ∧ ValsG w' w.heap.size L x (cntC s L) sl lv ∧ Below w.heap.size w w':=by
 obtain ⟨W1,hW1⟩:∃ W1,W1 = ((w.alloc (.cells #[.int .i64 p,.int .i64 lf] 46)).alloc (.cells #[.slice none 0 0,.slice none 0 0,.slice none 0 0,.slice none 0 0,.slice none 0 0,.slice none 0 0] 162)).alloc (.cells #[.slice none 0 0,.slice none 0 0,.slice none 0 0,.slice none 0 0,.slice none 0 0,.slice none 0 0] 162):=⟨_,rfl⟩
 have hB1:Below w.heap.size w W1:=by rw [hW1];exact (((Below.refl _ _).alloc (Nat.le_refl _) _).alloc (by simp) _).alloc (by simp;omega) _
 have hs1:W1.heap.size = w.heap.size + 3:=by rw [hW1];simp
 have hr1:W1.heap[w.heap.size + 1]? = some (.cells (colArr fun _ => .slice none 0 0) 162 (0,0)):=by rw [hW1,Below.heap_alloc _ _ _ (by simp)];exact heap_alloc_at (by simp) _
 have hr2:W1.heap[w.heap.size + 2]? = some (.cells (colArr fun _ => .slice none 0 0) 162 (0,0)):=by rw [hW1];exact heap_alloc_at (by simp) _
 obtain ⟨ev,sl0,q1,q2⟩:∃ (ev:Value) (sl0:Nat → Value),w.heap[tb]? = some (.cells #[ev,sl0 0,sl0 1,sl0 2,sl0 3,sl0 4,sl0 5] 204 (0,0)) ∧ w.ownsRow 0 46 2 ev ents.length (eCells ents):=by
  obtain ⟨_,ev,sl0,q1,q2,_⟩:=hT
  exact ⟨ev,sl0,q1,q2⟩
 have htb:tb < w.heap.size:=(Array.getElem?_eq_some_iff.1 q1).1
 obtain ⟨r,hr⟩:∃ r,r = ahead ents p:=⟨_,rfl⟩
 have HRow:Hid (Calls Tryz.prog 130 #[.pointer (some ⟨tb,0,none⟩),.agg #[.int .i64 p,.int .i64 lf]] W1 fun e w2 => e = .returned (.int .i64 r) ∧ Hid (w.heap.size + 3 ≤ w2.heap.size) ∧ Hid (Calls Tryz.prog 124 #[.pointer (some ⟨tb,0,none⟩),.func (.func 215) #[] #[.pointer (some ⟨w.heap.size + 2,0,none⟩),.pointer (some ⟨w2.heap.size,0,none⟩)]] (w2.alloc (.cells #[.int .i64 r] 3)) fun e w' => e = .returned (.tuple #[]) ∧ ∃ sl lv,Hid (w'.heap[w.heap.size + 2]? = some (.cells (colArr sl) 162 (0,0))) ∧ Hid (w'.heap[w.heap.size + 1]? = some (.cells (colArr fun _ => .slice none 0 0) 162 (0,0))) ∧ Hid (ValsG w' (w.heap.size + 2) L x (cntC s L) sl lv ∧ Below w.heap.size w w' ∧ ∀ k,k < 6 → ∃ a n c,sl k = .slice a n c))):=by
  refine (row_any tb ev ents p lf W1 (by rw [cell_row ((hB1.block tb htb).trans q1)];rfl) ((own_ents q2).below hB1) (by omega) hsort).mono ?_
  rw [← hr]
  rintro e w2 ⟨rfl,hb2⟩
  have hz2:=hb2.size
  have hb3:Below w.heap.size w (w2.alloc (.cells #[.int .i64 r] 3)):=(hB1.trans (hb2.mono hB1.size)).alloc (by omega) _
  have hk3:∀ j,j < W1.heap.size → (w2.alloc (.cells #[.int .i64 r] 3)).heap[j]? = W1.heap[j]?:=fun j hj => (Below.heap_alloc _ _ _ (by omega)).trans (hb2.block j hj)
  refine ⟨rfl,(by rw [hs1] at hz2;exact hz2),?_⟩
  have E:=each_values own base tb s L ents xs p x lvw w (w2.alloc (.cells #[.int .i64 r] 3)) (w.heap.size + 2) w2.heap.size hT hkl hkk hl hin hrow hints hb3 ((hk3 _ (by omega)).trans hr2) (by rw [← hr];exact heap_alloc_at rfl _) (w.heap.size + 2) (Nat.le_refl _) (by omega)
  refine E.mono ?_
  rintro e w' ⟨rfl,sl,lv,hV⟩
  have hc:∀ k,k < 6 → cntAt (cntC s L) 6 0 k = cntC s L k:=cnt_end s L
  refine ⟨rfl,sl,lv,hV.blk,(hV.below.block _ (by omega)).trans ((hk3 _ (by omega)).trans hr1),⟨fun k hk => by have:=hV.rows k hk;rw [hc k hk] at this;exact this,hV.apart,fun k hk f hf => hV.lists k hk f (by rw [hc k hk];exact hf)⟩,hb3.trans (hV.below.mono (by omega)),fun k hk => ?_⟩
  obtain ⟨a,c,z⟩:=own_form (hV.rows k hk)
  exact ⟨a,_,c,z⟩
 rw [hW1] at HRow
 clear hT hrow hints hsort hin q1 q2 hr hB1 hr1 hr2 hs1 hW1
 have hmf:∀ (fn:Fn) (first cap:Array Value) (w:World),(Instr.makeFunc fn first cap).run Tryz.prog w = .ok (.func fn first cap) w:=fun _ _ _ _ => rfl
 go_enter Tryz.func147,Tryz.ntmps147
 go_wp2_with (first
  | (go_at_call 130;refine HRow.out.mono ?_;rintro e w2 ⟨rfl,HZ,HE⟩)
  | (go_at_call 124;refine HE.out.mono ?_;rintro e w3 ⟨rfl,sl,lv,H2,H1,HV⟩)
  | refine wpList_load_row rfl 162 _ rfl _ rfl 162 _ _ _ H2.out Tryz.underlying162 rfl (by rw [Tryz.size162];rfl) ?_
  | refine wpList_store_row rfl 162 _ _ rfl _ _ rfl rfl 162 _ H1.out (by rw [Tryz.size162];rfl) rfl (by obtain ⟨a0,b0,c0,s0⟩:=HV.out.2.2 0 (by omega);obtain ⟨a1,b1,c1,s1⟩:=HV.out.2.2 1 (by omega);obtain ⟨a2,b2,c2,s2⟩:=HV.out.2.2 2 (by omega);obtain ⟨a3,b3,c3,s3⟩:=HV.out.2.2 3 (by omega);obtain ⟨a4,b4,c4,s4⟩:=HV.out.2.2 4 (by omega);obtain ⟨a5,b5,c5,s5⟩:=HV.out.2.2 5 (by omega);simp [colArr,s0,s1,s2,s3,s4,s5,Value.oneCell']) ?_)
 refine bodyPost_ret_by (v:=.agg (colArr sl)) ?_ rfl ⟨sl,lv,rfl,?_,?_⟩
 · exact results_cell_row (p:=4) (ty:=162) rfl _ _ (w.heap.size + 1) 162 _ (0,0) _ rfl (setRow_heap _ _ _ _ _ _ H1.out) Tryz.underlying162 rfl (by rw [Tryz.size162];rfl)
 · obtain ⟨hG,_,_⟩:=HV.out
   have hne:∀ j,w.heap.size + 2 ≤ j → (w3.setRow (w.heap.size + 1) (colArr sl)).heap[j]? = w3.heap[j]?:=fun j hj => setRow_other _ _ _ _ (by omega)
   exact ⟨fun k hk => own_base (own_turn (hG.rows k hk) fun j hj _ => hne j ((hG.rows k hk).lt j hj).1) (by omega),hG.apart,fun k hk f hf => own_base (own_turn (hG.lists k hk f hf) fun j hj _ => hne j ((hG.lists k hk f hf).lt j hj).1) (by omega)⟩
 · obtain ⟨_,⟨b1,b2,b3,b4,b5⟩,_⟩:=HV.out
   exact ⟨b1,b2,b3,by simpa [World.setRow] using b4,fun k hk => (setRow_other _ _ _ _ (by omega)).trans (b5 k hk)⟩
theorem ValsG.below {W W':World} {B:Nat} {L:List CompS} {x:Nat → Nat → FV} {c:Nat → Nat} {sl:Nat → Value} {lv:Nat → Nat → Value} (h:ValsG W B L x c sl lv) (hb:Below W.heap.size W W'):ValsG W' B L x c sl lv :=
 ⟨fun k hk => own_turn (h.rows k hk) fun j _ hj => hb.block j hj,h.apart,fun k hk f hf => own_turn (h.lists k hk f hf) fun j _ hj => hb.block j hj⟩
theorem ValsG.base {W:World} {B B':Nat} {L:List CompS} {x:Nat → Nat → FV} {c:Nat → Nat} {sl:Nat → Value} {lv:Nat → Nat → Value} (h:ValsG W B L x c sl lv) (hb:B' ≤ B):ValsG W B' L x c sl lv :=
 ⟨fun k hk => own_base (h.rows k hk) hb,h.apart,fun k hk f hf => own_base (h.lists k hk f hf) hb⟩
def svOf (cnts:List Int) (kd:Nat) (x:FV):SV:=if kd = 4 then ⟨4,cnts.getD x.p.toNat 0,[],[]⟩ else ⟨kd,gN kd x,gS kd x,gL kd x⟩
def hLv (kd:Nat) (v:Value):Value:=if kd = 4 then .slice none 0 0 else v
theorem svOf_cells (cnts:List Int) (kd:Nat) (x:FV) (v:Value) (h:kd ≠ 4):svCells (svOf cnts kd x) (hLv kd v) = gCells kd x v:=by
 unfold svOf hLv gCells svCells gP gQ
 simp [h]
def rowH (L:List CompS) (x:Nat → Nat → FV) (cnts:List Int) (lv:Nat → Nat → Value) (k f k' n:Nat):List Value :=
 (List.range n).flatMap fun f' => if k' < k ∨ (k' = k ∧ f' < f) then svCells (svOf cnts (kindAt L k' f') (x k' f')) (hLv (kindAt L k' f') (lv k' f')) else gCells (kindAt L k' f') (x k' f') (lv k' f')
theorem rowH_zero (L:List CompS) (x:Nat → Nat → FV) (cnts:List Int) (lv:Nat → Nat → Value) (k' n:Nat):rowH L x cnts lv 0 0 k' n = rowG L x lv k' n:=by
 unfold rowH rowG
 refine flatV_congr _ fun f _ => ?_
 rw [if_neg (by omega)]
theorem rowH_next (L:List CompS) (x:Nat → Nat → FV) (cnts:List Int) (lv:Nat → Nat → Value) (k k' n c:Nat) (h:k' = k → n = c):rowH L x cnts lv k c k' n = rowH L x cnts lv (k + 1) 0 k' n:=by
 unfold rowH
 refine flatV_congr _ fun f hf => ?_
 have:=List.mem_range.1 hf
 have e:(k' < k ∨ k' = k ∧ f < c) ↔ (k' < k + 1 ∨ k' = k + 1 ∧ f < 0):=by
  constructor
  · intro q;omega
  · intro q
    by_cases e:k' = k
    · have:=h e;omega
    · omega
 simp only [e]
theorem rowH_same (L:List CompS) (x:Nat → Nat → FV) (cnts:List Int) (lv:Nat → Nat → Value) (k f k' n:Nat) (h:k' = k → kindAt L k f ≠ 4):rowH L x cnts lv k (f + 1) k' n = rowH L x cnts lv k f k' n:=by
 unfold rowH
 refine flatV_congr _ fun f' _ => ?_
 by_cases e:k' = k ∧ f' = f
 · obtain ⟨rfl,rfl⟩:=e
   rw [if_pos (by omega),if_neg (by omega),svOf_cells _ _ _ _ (h rfl)]
 · have e2:(k' < k ∨ k' = k ∧ f' < f + 1) ↔ (k' < k ∨ k' = k ∧ f' < f):=by omega
   simp only [e2]
theorem range_put (g g':Nat → List Value) (sz n f:Nat) (hf:f < n) (hl:∀ j,(g j).length = sz) (hl':(g' f).length = sz) (hg:∀ j,j ≠ f → g' j = g j):(List.range n).flatMap g' = putAt ((List.range n).flatMap g) (f * sz) (g' f):=by
 have hr:List.range n = List.range f ++ f :: List.range' (f + 1) (n - (f + 1)):=by
  have h1:List.range n = List.range' 0 n:=List.range_eq_range'
  have h2:List.range f = List.range' 0 f:=List.range_eq_range'
  rw [h1,h2]
  have h3:List.range' f (n - f) = f :: List.range' (f + 1) (n - (f + 1)):=by
   rw [show n - f = (n - (f + 1)) + 1 by omega,List.range'_succ]
  rw [← h3]
  have:=List.range'_append (s:=0) (m:=f) (n:=n - f) (step:=1)
  simp only [Nat.zero_add,Nat.one_mul] at this
  rw [this,show f + (n - f) = n by omega]
 rw [hr,List.flatMap_append,List.flatMap_cons,List.flatMap_append,List.flatMap_cons]
 have e3:(List.range f).flatMap g' = (List.range f).flatMap g:=flatV_congr _ fun j hj => hg j (by have:=List.mem_range.1 hj;omega)
 have e4:(List.range' (f + 1) (n - (f + 1))).flatMap g' = (List.range' (f + 1) (n - (f + 1))).flatMap g:=flatV_congr _ fun j hj => hg j (by have:=List.mem_range'_1.1 hj;omega)
 rw [e3,e4]
 have hlen:f * sz = ((List.range f).flatMap g).length:=by rw [flatV_len g sz _ fun j _ => hl j,List.length_range]
 have hgi:=hl f
 rw [hlen]
 generalize (List.range f).flatMap g = X
 generalize (List.range' (f + 1) (n - (f + 1))).flatMap g = Y
 unfold putAt
 rw [hl',← hgi]
 generalize g f = G
 simp [List.take_append,List.drop_append]
theorem rowH_len (L:List CompS) (x:Nat → Nat → FV) (cnts:List Int) (lv:Nat → Nat → Value) (k f k' n:Nat):(rowH L x cnts lv k f k' n).length = n * 6:=by
 unfold rowH
 rw [flatV_len _ 6 _ fun j _ => by split <;> rfl,List.length_range]
theorem rowH_put (L:List CompS) (x:Nat → Nat → FV) (cnts:List Int) (lv:Nat → Nat → Value) (k f n:Nat) (hf:f < n):rowH L x cnts lv k (f + 1) k n = putAt (rowH L x cnts lv k f k n) (f * 6) (svCells (svOf cnts (kindAt L k f) (x k f)) (hLv (kindAt L k f) (lv k f))):=by
 unfold rowH
 have h:=range_put (fun f' => if k < k ∨ (k = k ∧ f' < f) then svCells (svOf cnts (kindAt L k f') (x k f')) (hLv (kindAt L k f') (lv k f')) else gCells (kindAt L k f') (x k f') (lv k f'))
  (fun f' => if k < k ∨ (k = k ∧ f' < f + 1) then svCells (svOf cnts (kindAt L k f') (x k f')) (hLv (kindAt L k f') (lv k f')) else gCells (kindAt L k f') (x k f') (lv k f')) 6 n f hf (fun j => by split <;> rfl) (by split <;> rfl) (fun j hj => by
   have e:(j < f + 1) ↔ (j < f):=by omega
   simp only [e])
 rw [h]
 congr 1
 rw [if_pos (by omega)]
theorem rowH_get (L:List CompS) (x:Nat → Nat → FV) (cnts:List Int) (lv:Nat → Nat → Value) (k f n o:Nat) (hf:f < n) (ho:o < 6):(rowH L x cnts lv k f k n)[f * 6 + o]? = (gCells (kindAt L k f) (x k f) (lv k f))[o]?:=by
 unfold rowH
 have:=flat_get (fun f' => if k < k ∨ (k = k ∧ f' < f) then svCells (svOf cnts (kindAt L k f') (x k f')) (hLv (kindAt L k f') (lv k f')) else gCells (kindAt L k f') (x k f') (lv k f')) 6 (fun j => by split <;> rfl) n f o hf ho
 rw [this]
 simp
theorem set_six {α:Type} (a r:List α) (x0 x1 x2 x3 x4 x5 y0 y1 y2 y3 y4 y5:α):((((((a ++ x0 :: x1 :: x2 :: x3 :: x4 :: x5 :: r).set a.length y0).set (a.length + 1) y1).set (a.length + 2) y2).set (a.length + 3) y3).set (a.length + 4) y4).set (a.length + 5) y5 = a ++ y0 :: y1 :: y2 :: y3 :: y4 :: y5 :: r:=by simp [List.set_append]
theorem putAt_six {α:Type} (l:List α) (o:Nat) (y0 y1 y2 y3 y4 y5:α) (h:o + 5 < l.length):((((((l.set o y0).set (o + 1) y1).set (o + 2) y2).set (o + 3) y3).set (o + 4) y4).set (o + 5) y5) = putAt l o [y0,y1,y2,y3,y4,y5]:=by
 have e:l = l.take o ++ l[o] :: l[o + 1] :: l[o + 2] :: l[o + 3] :: l[o + 4] :: l[o + 5] :: l.drop (o + 6):=by rw [← List.drop_eq_getElem_cons,← List.drop_eq_getElem_cons,← List.drop_eq_getElem_cons,← List.drop_eq_getElem_cons,← List.drop_eq_getElem_cons,← List.drop_eq_getElem_cons,List.take_append_drop]
 have hl:(l.take o).length = o:=by simp;omega
 have:=set_six (l.take o) (l.drop (o + 6)) l[o] l[o + 1] l[o + 2] l[o + 3] l[o + 4] l[o + 5] y0 y1 y2 y3 y4 y5
 rw [← e,hl] at this
 rw [this]
 simp [putAt]
structure EV (w W:World) (B:Nat) (L:List CompS) (x:Nat → Nat → FV) (cnts:List Int) (c:Nat → Nat) (sl:Nat → Value) (lv:Nat → Nat → Value) (k f:Nat):Prop where
 rows:∀ k',k' < 6 → W.ownsRow B 56 6 (sl k') (c k') (rowH L x cnts lv k f k' (c k'))
 apart:∀ k,k < 6 → ∀ k',k' < 6 → k ≠ k' → ∀ j,(sl k).ownBlock = some j → (sl k').ownBlock ≠ some j
 lists:∀ k,k < 6 → ∀ f,f < c k → W.ownsRow B 3 1 (lv k f) (gL (kindAt L k f) (x k f)).length ((gL (kindAt L k f) (x k f)).map (Value.int .i64))
 turns:Turns w W (fun j => ∃ k',k' < 6 ∧ (sl k').ownBlock = some j)
theorem EV.start {w:World} {B:Nat} {L:List CompS} {x:Nat → Nat → FV} (cnts:List Int) {c:Nat → Nat} {sl:Nat → Value} {lv:Nat → Nat → Value} (h:ValsG w B L x c sl lv):EV w w B L x cnts c sl lv 0 0 :=
 ⟨fun k' hk' => by rw [rowH_zero];exact h.rows k' hk',h.apart,h.lists,⟨rfl,rfl,rfl,Nat.le_refl _,fun _ _ _ => rfl⟩⟩
theorem EV.next {w W:World} {B:Nat} {L:List CompS} {x:Nat → Nat → FV} {cnts:List Int} {c:Nat → Nat} {sl:Nat → Value} {lv:Nat → Nat → Value} {k:Nat} (h:EV w W B L x cnts c sl lv k (c k)):EV w W B L x cnts c sl lv (k + 1) 0 :=
 ⟨fun k' hk' => by rw [← rowH_next L x cnts lv k k' (c k') (c k) (fun e => by rw [e])];exact h.rows k' hk',h.apart,h.lists,h.turns⟩
theorem EV.below {w W W':World} {B:Nat} {L:List CompS} {x:Nat → Nat → FV} {cnts:List Int} {c:Nat → Nat} {sl:Nat → Value} {lv:Nat → Nat → Value} {k f:Nat} (h:EV w W B L x cnts c sl lv k f) (hb:Below W.heap.size W W'):EV w W' B L x cnts c sl lv k f :=
 ⟨fun k' hk' => own_turn (h.rows k' hk') fun j _ hj => hb.block j hj,h.apart,fun k hk f hf => own_turn (h.lists k hk f hf) fun j _ hj => hb.block j hj,h.turns.trans (Turns.ofBelow _ hb)⟩
theorem EV.skip {w W:World} {B:Nat} {L:List CompS} {x:Nat → Nat → FV} {cnts:List Int} {c:Nat → Nat} {sl:Nat → Value} {lv:Nat → Nat → Value} {k f:Nat} (h:EV w W B L x cnts c sl lv k f) (h4:kindAt L k f ≠ 4):EV w W B L x cnts c sl lv k (f + 1) :=
 ⟨fun k' hk' => by rw [rowH_same L x cnts lv k f k' (c k') (fun _ => h4)];exact h.rows k' hk',h.apart,h.lists,h.turns⟩
def set6 (W:World) (g o:Nat) (y0 y1 y2 y3 y4 y5:Value):World:=(((((W.setCell ⟨g,o,none⟩ y0).setCell ⟨g,o + 1,none⟩ y1).setCell ⟨g,o + 2,none⟩ y2).setCell ⟨g,o + 3,none⟩ y3).setCell ⟨g,o + 4,none⟩ y4).setCell ⟨g,o + 5,none⟩ y5
theorem set6_other (W:World) (g o:Nat) (y0 y1 y2 y3 y4 y5:Value) (j:Nat) (h:j ≠ g):(set6 W g o y0 y1 y2 y3 y4 y5).heap[j]? = W.heap[j]?:=by
 unfold set6
 rw [Below.heap_setCell _ _ _ _ h,Below.heap_setCell _ _ _ _ h,Below.heap_setCell _ _ _ _ h,Below.heap_setCell _ _ _ _ h,Below.heap_setCell _ _ _ _ h,Below.heap_setCell _ _ _ _ h]
theorem EV.put {w W:World} {B:Nat} {L:List CompS} {x:Nat → Nat → FV} {cnts:List Int} {c:Nat → Nat} {sl:Nat → Value} {lv:Nat → Nat → Value} {k f g cap:Nat} (h:EV w W B L x cnts c sl lv k f) (hk:k < 6) (hf:f < c k) (h4:kindAt L k f = 4) (hs:sl k = .slice (some ⟨g,0,none⟩) (c k) cap) :
 EV w (set6 W g (f * 6) (.int .i64 4) (.int .i64 (cnts.getD (x k f).p.toNat 0)) (.string ⟨#[]⟩) (.int .i64 0) (.int .i64 0) (.slice none 0 0)) B L x cnts c sl lv k (f + 1):=by
 have hr:=h.rows k hk
 rw [hs] at hr
 have hob:(sl k).ownBlock = some g:=by rw [hs];rfl
 have hne:∀ j,j ≠ g → (set6 W g (f * 6) (.int .i64 4) (.int .i64 (cnts.getD (x k f).p.toNat 0)) (.string ⟨#[]⟩) (.int .i64 0) (.int .i64 0) (.slice none 0 0)).heap[j]? = W.heap[j]?:=fun j hj => set6_other W g (f * 6) _ _ _ _ _ _ j hj
 refine ⟨fun k' hk' => ?_,h.apart,fun k' hk' f' hf' => ?_,?_⟩
 · by_cases e:k' = k
   · subst e
     rw [hs,rowH_put L x cnts lv k' f (c k') hf,h4]
     have hl:=rowH_len L x cnts lv k' f k' (c k')
     have q:=stored1 (stored1 (stored1 (stored1 (stored1 (stored1 hr (f * 6) (.int .i64 4)) (f * 6 + 1) (.int .i64 (cnts.getD (x k' f).p.toNat 0))) (f * 6 + 2) (.string ⟨#[]⟩)) (f * 6 + 3) (.int .i64 0)) (f * 6 + 4) (.int .i64 0)) (f * 6 + 5) (.slice none 0 0)
     rw [putAt_six _ _ _ _ _ _ _ _ (by omega)] at q
     have e3:svCells (svOf cnts 4 (x k' f)) (hLv 4 (lv k' f)) = [.int .i64 4,.int .i64 (cnts.getD (x k' f).p.toNat 0),.string ⟨#[]⟩,.int .i64 0,.int .i64 0,.slice none 0 0]:=rfl
     rw [e3]
     unfold set6
     exact q
   · have e2:rowH L x cnts lv k (f + 1) k' (c k') = rowH L x cnts lv k f k' (c k'):=rowH_same L x cnts lv k f k' (c k') (fun q => absurd q e)
     rw [e2]
     refine own_turn (h.rows k' hk') fun j hj _ => hne j ?_
     rintro rfl
     exact h.apart k' hk' k hk e j hj hob
 · refine own_turn (h.lists k' hk' f' hf') fun j hj _ => hne j ?_
   rintro rfl
   obtain ⟨c1,q1⟩:=row3 (h.lists k' hk' f' hf') hj
   obtain ⟨c2,q2⟩:=row56 (h.rows k hk) hob
   rw [q1] at q2;simp at q2
 · have hF:g < w.heap.size → (fun j => ∃ k',k' < 6 ∧ (sl k').ownBlock = some j) g:=fun _ => ⟨k,hk,hob⟩
   unfold set6
   exact (((((h.turns.set g _ _ hF).set g _ _ hF).set g _ _ hF).set g _ _ hF).set g _ _ hF).set g _ _ hF
def entOf (L:List CompS) (s:Nat) (x:Nat → Nat → FV) (cnts:List Int):Ent:=⟨s,(List.range 6).map fun k => (List.range (cntC s L k)).map fun f => svOf cnts (kindAt L k f) (x k f)⟩
theorem entOf_vs (L:List CompS) (s:Nat) (x:Nat → Nat → FV) (cnts:List Int) (k:Nat) (hk:k < 6):(entOf L s x cnts).vs.getD k [] = (List.range (cntC s L k)).map fun f => svOf cnts (kindAt L k f) (x k f):=by
 simp [entOf,List.getD,hk]
theorem EV.own {w W:World} {B s:Nat} {L:List CompS} {x:Nat → Nat → FV} {cnts:List Int} {sl:Nat → Value} {lv:Nat → Nat → Value} (h:EV w W B L x cnts (cntC s L) sl lv 6 0):EntOwn W B (entOf L s x cnts) sl (fun k => (List.range (cntC s L k)).map fun f => hLv (kindAt L k f) (lv k f)):=by
 intro k hk
 rw [entOf_vs L s x cnts k hk]
 refine ⟨by simp,?_,fun j hj hj' => ?_⟩
 · have hr:=h.rows k hk
   have e:rowH L x cnts lv 6 0 k (cntC s L k) = flatSV ((List.range (cntC s L k)).map fun f => svOf cnts (kindAt L k f) (x k f)) ((List.range (cntC s L k)).map fun f => hLv (kindAt L k f) (lv k f)):=by
    unfold rowH flatSV
    rw [List.zipWith_map,List.zipWith_self,← List.flatMap_def]
    refine flatV_congr _ fun f _ => ?_
    rw [if_pos (by omega)]
   rw [e] at hr
   simpa using hr
 · have hj2:j < cntC s L k:=by simpa using hj
   simp only [List.getElem_map,List.getElem_range]
   have hl:=h.lists k hk j hj2
   unfold svOf hLv
   by_cases h4:kindAt L k j = 4
   · rw [if_pos h4,if_pos h4]
     exact World.ownsRow_nil _ _ _ _
   · rw [if_neg h4,if_neg h4]
     exact hl
end Go.Proofs.YthkbeaffkcfgiabGreatDoor
