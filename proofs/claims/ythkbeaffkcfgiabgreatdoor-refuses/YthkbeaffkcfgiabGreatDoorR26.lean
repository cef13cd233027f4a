import Derived.Deep.RegionLaw
import Derived.Test.YthkbeaffkcfgiabGreatDoorR25
import Derived.Test.YthkbeaffkcfgiabGreatDoorR20
import Derived.Test.YthkbeaffkcfgiabGreatDoorR16
import Derived.Test.YthkbeaffkcfgiabGreatDoorR18
import Derived.Test.YthkbeaffkcfgiabGreatDoorR13
set_option linter.unusedSimpArgs false
set_option linter.unusedVariables false
namespace Go.Proofs.YthkbeaffkcfgiabGreatDoor
open Go.RowKit
structure FV where
 n:Int
 s:List UInt8
 p:Int
 l:Int
 ls:List Int
def FV.zero:FV:=⟨0,[],0,0,[]⟩
def fvCells (kd:Nat) (x:FV) (v:Value):List Value:=if kd = 1 then [.int .i64 x.n] else if kd = 2 then [.bool (x.n == 1)] else if kd = 3 then [.string (mk x.s)] else if kd = 4 then [.int .i64 x.p,.int .i64 x.l] else [v]
theorem fvCells_len (kd:Nat) (x:FV) (v:Value):(fvCells kd x v).length = kSz kd:=by
 unfold fvCells kSz
 split
 · rename_i h;subst h;rfl
 · split
   · rename_i h;subst h;rfl
   · split
     · rename_i h;subst h;rfl
     · split <;> rfl
theorem fvCells_zero (kd:Nat):fvCells kd .zero (.slice none 0 0) = kZero kd:=by
 unfold fvCells kZero FV.zero
 split
 · rfl
 · split
   · rfl
   · split
     · rfl
     · split <;> rfl
theorem fvCells_one (kd:Nat) (x:FV) {v:Value} (h:∃ a n c,v = .slice a n c):∀ u ∈ fvCells kd x v,u.oneCell' = true:=by
 obtain ⟨a,n,c,rfl⟩:=h
 intro u hu
 unfold fvCells at hu
 split at hu
 · simp at hu;rw [hu];rfl
 · split at hu
   · simp at hu;rw [hu];rfl
   · split at hu
     · simp at hu;rw [hu];rfl
     · split at hu
       · simp at hu;rcases hu with rfl | rfl <;> rfl
       · simp at hu;rw [hu];rfl
structure St where
 bg:Nat → Nat
 tk:Nat → Bool
 cp:Nat → Nat
 vals:Nat → Nat → Nat → FV
 lv:Nat → Nat → Nat → Value
def St.sel (S:St) (s i:Nat):Bool:=S.tk i && decide (S.cp i = s)
def St.ents (S:St) (s:Nat):List (Int × Int):=entsOf S.bg (S.sel s)
def cellsOf (q:Nat → Bool) (g:Nat → List Value):List Value:=((List.range 20).filter q).flatMap g
def St.cells (S:St) (L:List CompS) (s k f:Nat):List Value:=cellsOf (S.sel s) fun i => fvCells (kindAt L k f) (S.vals i k f) (S.lv i k f)
def St.spawn (S:St) (i s:Nat):St:=⟨upd S.bg i (S.bg i + 1),upd S.tk i true,upd S.cp i s,upd S.vals i (fun _ _ => .zero),upd S.lv i (fun _ _ => .slice none 0 0)⟩
theorem cells_split (q:Nat → Bool) (g:Nat → List Value) (i:Nat) (hi:i < 20):cellsOf q g = ((List.range i).filter q).flatMap g ++ (if q i then g i else []) ++ ((List.range' (i + 1) (19 - i)).filter q).flatMap g:=by
 unfold cellsOf
 rw [range_split ⟨i,hi⟩,List.filter_append,List.filter_cons]
 cases h:q i <;> simp
theorem flatV_len (g:Nat → List Value) (sz:Nat):∀ l:List Nat,(∀ j ∈ l,(g j).length = sz) → (l.flatMap g).length = l.length * sz
 | [],_ => by simp
 | x :: l,h => by
   rw [List.flatMap_cons,List.length_append,h x (by simp),flatV_len g sz l fun j hj => h j (by simp [hj]),List.length_cons,Nat.add_mul];omega
theorem flatV_congr {g g':Nat → List Value}:∀ l:List Nat,(∀ j ∈ l,g' j = g j) → l.flatMap g' = l.flatMap g
 | [],_ => rfl
 | x :: l,h => by rw [List.flatMap_cons,List.flatMap_cons,h x (by simp),flatV_congr l fun j hj => h j (by simp [hj])]
theorem aheadS (bg:Nat → Nat) (q:Nat → Bool) (i:Nat) (hi:i < 20):ahead (entsOf bg q) ((i:Int) + 1) = ((List.range i).filter q).length:=by
 rw [ahead_ents bg q i hi];simp [entsA]
theorem cells_spawn (bg:Nat → Nat) (q:Nat → Bool) (g g':Nat → List Value) (sz i:Nat) (hi:i < 20) (hq:q i = false) (hg:∀ j,j ≠ i → g' j = g j) (hl:∀ j,(g j).length = sz) :
 cellsOf (upd q i true) g' = setIn (cellsOf q g) (ahead (entsOf bg q) ((i:Int) + 1) * sz) (g' i):=by
 rw [aheadS bg q i hi,cells_split (upd q i true) g' i hi,cells_split q g i hi,upd_same,hq]
 have e1:(List.range i).filter (upd q i true) = (List.range i).filter q:=List.filter_congr fun x hx => upd_ne _ _ _ (by have:=List.mem_range.1 hx;omega)
 have e2:(List.range' (i + 1) (19 - i)).filter (upd q i true) = (List.range' (i + 1) (19 - i)).filter q:=List.filter_congr fun x hx => upd_ne _ _ _ (by have:=List.mem_range'_1.1 hx;omega)
 have e3:((List.range i).filter q).flatMap g' = ((List.range i).filter q).flatMap g:=flatV_congr _ fun j hj => hg j (by have:=List.mem_range.1 (List.mem_filter.1 hj).1;omega)
 have e4:((List.range' (i + 1) (19 - i)).filter q).flatMap g' = ((List.range' (i + 1) (19 - i)).filter q).flatMap g:=flatV_congr _ fun j hj => hg j (by have:=List.mem_range'_1.1 (List.mem_filter.1 hj).1;omega)
 rw [e1,e2,e3,e4]
 have hlen:((List.range i).filter q).length * sz = (((List.range i).filter q).flatMap g).length:=(flatV_len g sz _ fun j _ => hl j).symm
 rw [hlen]
 simp [setIn]
theorem cells_same {q:Nat → Bool} {g g':Nat → List Value} (h:∀ j,q j = true → g' j = g j):cellsOf q g' = cellsOf q g:=flatV_congr _ fun j hj => h j (List.mem_filter.1 hj).2
theorem ents_same {bg bg':Nat → Nat} {q:Nat → Bool} (h:∀ j,q j = true → bg' j = bg j):entsOf bg' q = entsOf bg q:=by
 unfold entsOf
 refine List.map_congr_left fun x hx => ?_
 rw [h x (List.mem_filter.1 hx).2]
theorem sel_spawn (S:St) (i s s':Nat) (ht:S.tk i = false):(S.spawn i s).sel s' = if s' = s then upd (S.sel s) i true else S.sel s':=by
 funext j
 by_cases e:j = i
 · subst e
   by_cases e':s' = s
   · subst e';simp [St.sel,St.spawn,upd]
   · simp [St.sel,St.spawn,upd,e',ht];omega
 · by_cases e':s' = s
   · subst e';simp [St.sel,St.spawn,upd,e]
   · simp [St.sel,St.spawn,upd,e,e']
theorem sel_off (S:St) (s i:Nat) (ht:S.tk i = false):S.sel s i = false:=by simp [St.sel,ht]
theorem ents_spawnS (S:St) (i s:Nat) (hi:i < 20) (ht:S.tk i = false):upd S.ents s (setIn (S.ents s) (ahead (S.ents s) ((i:Int) + 1)) [((i:Int) + 1,(S.bg i:Int) + 1)]) = (S.spawn i s).ents:=by
 funext s'
 unfold St.ents
 rw [sel_spawn S i s s' ht]
 by_cases e:s' = s
 · subst e
   rw [upd_same,if_pos rfl]
   exact (ents_spawn S.bg (S.sel s') i hi (sel_off S s' i ht)).symm
 · rw [upd_ne _ _ _ e,if_neg e]
   refine (ents_same fun j hj => upd_ne _ _ _ ?_).symm
   rintro rfl
   rw [sel_off S s' j ht] at hj;cases hj
theorem cells_spawnS (S:St) (L:List CompS) (i s:Nat) (hi:i < 20) (ht:S.tk i = false) :
 upd (S.cells L) s (fun k f => setIn (S.cells L s k f) (ahead (S.ents s) ((i:Int) + 1) * kSz (kindAt L k f)) (kZero (kindAt L k f))) = (S.spawn i s).cells L:=by
 funext s' k f
 unfold St.cells
 rw [sel_spawn S i s s' ht]
 by_cases e:s' = s
 · subst e
   rw [upd_same,if_pos rfl,cells_spawn S.bg (S.sel s') (fun i => fvCells (kindAt L k f) (S.vals i k f) (S.lv i k f)) _ (kSz (kindAt L k f)) i hi (sel_off S s' i ht) (fun j hj => by simp [St.spawn,upd,hj]) (fun j => fvCells_len _ _ _)]
   simp only [St.spawn,upd_same,fvCells_zero]
   rfl
 · rw [upd_ne _ _ _ e,if_neg e]
   refine (cells_same fun j hj => ?_).symm
   have hne:j ≠ i:=by rintro rfl;rw [sel_off S s' j ht] at hj;cases hj
   simp [St.spawn,upd,hne]
structure WT (W:World) (own:Nat → Nat) (b g lc N:Nat) (L:List CompS) (S:St):Prop where
 me:own b = 1
 low:∀ k,k < b → own k = 0
 out:∀ k,W.heap.size ≤ k → own k = 0
 blk:∃ arr,W.heap[b]? = some (.cells arr 111 (0,0)) ∧ arr.size = 62
 places:PlacesAt W b S.bg S.tk S.cp
 bgs:∀ i,i < 20 → S.bg i ≤ 3
 cps:∀ i,i < 20 → S.tk i = true → S.cp i < 64
 c0:W.cell? ⟨b,0,none⟩ = some (.slice (some ⟨g,0,none⟩) L.length lc)
 lcle:L.length ≤ lc
 lay:LayN W b g L
 tabs:TabsW W own b N L S.ents (S.cells L)
 lists:∀ i,i < 20 → ∀ k f,W.ownsRow 0 3 1 (S.lv i k f) (S.vals i k f).ls.length ((S.vals i k f).ls.map (Value.int .i64)) ∧ ∀ j,(S.lv i k f).ownBlock = some j → own j = 4
theorem WT.lt {W:World} {own:Nat → Nat} {b g lc N:Nat} {L:List CompS} {S:St} (h:WT W own b g lc N L S):b < W.heap.size:=h.places.1
theorem WT.turn {W W':World} {own:Nat → Nat} {b g lc N:Nat} {L:List CompS} {S:St} (h:WT W own b g lc N L S) (hs:W.heap.size ≤ W'.heap.size) (hb:∀ k,k < W.heap.size → (k < b ∨ 1 ≤ own k) → W'.heap[k]? = W.heap[k]?):WT W' own b g lc N L S:=by
 have hlt:=h.lt
 have eb:=hb b hlt (Or.inr (by rw [h.me];omega))
 obtain ⟨arr,h1,h2⟩:=h.blk
 exact { me:=h.me,low:=h.low,out:=fun k hk => h.out k (by omega),blk:=⟨arr,eb.trans h1,h2⟩,places:=h.places.kept hs eb,bgs:=h.bgs,cps:=h.cps,c0:=(World.cell?_of_block (a:=⟨b,0,none⟩) eb).trans h.c0,lcle:=h.lcle,lay:=h.lay.below hs (fun k hk => hb k (by omega) (Or.inl hk)),tabs:=h.tabs.turn h.lay.kl (World.cell?_of_block (a:=⟨b,61,none⟩) eb) (fun k hk h3 => ⟨hb k hk (Or.inr (by omega)),rfl⟩),
         lists:=fun i hi k f => ⟨own_turn (h.lists i hi k f).1 fun j hj hjl => hb j hjl (Or.inr (by rw [(h.lists i hi k f).2 j hj];omega)),(h.lists i hi k f).2⟩ }
theorem WT.below {W W':World} {own:Nat → Nat} {b g lc N:Nat} {L:List CompS} {S:St} (h:WT W own b g lc N L S) (hb:Below W.heap.size W W'):WT W' own b g lc N L S:=h.turn hb.size fun k hk _ => hb.block k hk
theorem WT.ones {W:World} {own:Nat → Nat} {b g lc N:Nat} {L:List CompS} {S:St} (h:WT W own b g lc N L S) (s k f:Nat):∀ u ∈ S.cells L s k f,u.oneCell' = true:=by
 intro u hu
 obtain ⟨i,hi,hu⟩:=List.mem_flatMap.1 hu
 have h20:=List.mem_range.1 (List.mem_filter.1 hi).1
 obtain ⟨a,c,e⟩:=own_form (h.lists i h20 k f).1
 exact fvCells_one _ _ ⟨a,_,c,e⟩ u hu
def SpawnT (w:World) (own:Nat → Nat) (b g lc N:Nat) (L:List CompS) (S:St) (i s:Nat) (e:Ending) (w':World):Prop :=
 e = .returned (.tuple #[.agg #[.int .i64 ((i:Int) + 1),.int .i64 ((S.bg i:Int) + 1)],.int .i64 0]) ∧ Turns w w' (Tur own) ∧ ∃ own',(∀ k,k < w.heap.size → own' k = own k) ∧ WT w' own' b g lc (N + 1) L (S.spawn i s)
theorem PlacesAt.begunS {w:World} {b:Nat} {bg:Nat → Nat} {tk:Nat → Bool} {cp:Nat → Nat} (h:PlacesAt w b bg tk cp) (i s:Nat) (hi:i < 20) :
 PlacesAt (((w.setCell ⟨b,1 + i * 3,none⟩ (.int .i64 ((bg i:Int) + 1))).setCell ⟨b,1 + i * 3 + 1,none⟩ (.bool true)).setCell ⟨b,1 + i * 3 + 2,none⟩ (.int .u64 (s:Int))) b (upd bg i (bg i + 1)) (upd tk i true) (upd cp i s):=by
 refine ⟨by simpa [World.setCell] using h.1,fun j hj => ?_⟩
 obtain ⟨a1,a2,a3,a4,a5,a6⟩:=h.2 j hj
 refine ⟨?_,?_,?_,by simpa using a4,by simpa using a5,by simpa using a6⟩
 · rw [set_other _ (by omega),set_other _ (by omega)]
   by_cases e:j = i
   · subst e;rw [set_same _ a1];simp [upd]
   · rw [set_other _ (by omega)];simpa [upd,e] using a1
 · rw [set_other _ (by omega)]
   by_cases e:j = i
   · subst e;rw [set_same (u:=.bool (tk j)) _ (by rw [set_other _ (by omega)];exact a2)];simp [upd]
   · rw [set_other _ (by omega),set_other _ (by omega)];simpa [upd,e] using a2
 · by_cases e:j = i
   · subst e;rw [set_same (u:=.int .u64 (cp j)) _ (by rw [set_other _ (by omega),set_other _ (by omega)];exact a3)];simp [upd]
   · rw [set_other _ (by omega),set_other _ (by omega),set_other _ (by omega)];simpa [upd,e] using a3
theorem spawnT_mid {own:Nat → Nat} {b g lc N k s:Nat} {L:List CompS} {S:St} {w V:World} (hk:k < 20) (hs:s < 64) (hP:WT w own b g lc N L S) (ht:S.tk k = false) (hg:S.bg k < 3)
 (hV:V = (((((w.setCell ⟨b,1 + k * 3,none⟩ (.int .i64 ((S.bg k:Int) + 1))).setCell ⟨b,1 + k * 3 + 1,none⟩ (.bool true)).setCell ⟨b,1 + k * 3 + 2,none⟩ (.int .u64 (s:Int))).alloc (.cells #[.int .i64 0,.int .i64 0] 46)).alloc (.cells #[.int .i64 ((k:Int) + 1),.int .i64 ((S.bg k:Int) + 1)] 46))) :
 V.cell? ⟨b,0,none⟩ = some (.slice (some ⟨g,0,none⟩) L.length lc) ∧ LayN V b g L ∧ (∃ arr,V.heap[b]? = some (.cells arr 111 (0,0)) ∧ arr.size = 62) ∧ TabsW V own b N L S.ents (S.cells L) ∧ V.heap.size = w.heap.size + 2 ∧
  V.cell? ⟨w.heap.size + 1,0,none⟩ = some (.int .i64 ((k:Int) + 1)) ∧ V.cell? ⟨w.heap.size + 1,1,none⟩ = some (.int .i64 ((S.bg k:Int) + 1)) ∧ V.cell? ⟨b,1 + k * 3 + 2,none⟩ = some (.int .u64 (s:Int)) ∧
  ∀ w',EnterT V own b N L S.ents (S.cells L) s ((k:Int) + 1) ((S.bg k:Int) + 1) (.returned (.tuple #[])) w' →
    w'.cell? ⟨w.heap.size + 1,0,none⟩ = some (.int .i64 ((k:Int) + 1)) ∧ w'.cell? ⟨w.heap.size + 1,1,none⟩ = some (.int .i64 ((S.bg k:Int) + 1)) ∧ w'.cell? ⟨w.heap.size,0,none⟩ = some (.int .i64 0) ∧ w'.cell? ⟨w.heap.size,1,none⟩ = some (.int .i64 0) ∧ w'.frozen? ⟨w.heap.size,0,none⟩ = false ∧ w'.frozen? ⟨w.heap.size,1,none⟩ = false ∧
    ∀ u0 u1,SpawnT w own b g lc N L S k s (.returned (.tuple #[.agg #[.int .i64 ((k:Int) + 1),.int .i64 ((S.bg k:Int) + 1)],.int .i64 0])) ((w'.setCell ⟨w.heap.size,0,none⟩ u0).setCell ⟨w.heap.size,1,none⟩ u1):=by
 have hlt:=hP.lt
 have hme:=hP.me
 obtain ⟨arr,hb0,hbs⟩:=hP.blk
 obtain ⟨W1,hW1⟩:∃ W1,W1 = ((w.setCell ⟨b,1 + k * 3,none⟩ (.int .i64 ((S.bg k:Int) + 1))).setCell ⟨b,1 + k * 3 + 1,none⟩ (.bool true)).setCell ⟨b,1 + k * 3 + 2,none⟩ (.int .u64 (s:Int)):=⟨_,rfl⟩
 rw [← hW1] at hV
 have hs1:W1.heap.size = w.heap.size:=by rw [hW1];simp [World.setCell]
 have hB:Below w.heap.size W1 V:=by rw [hV];exact (((Below.refl w.heap.size W1).alloc (by omega) _).alloc (by simp;omega) _)
 have hsV:V.heap.size = w.heap.size + 2:=by rw [hV];simp [hs1]
 have hR:V.heap[w.heap.size]? = some (.cells #[.int .i64 0,.int .i64 0] 46 (0,0)):=by
  rw [hV,Below.heap_alloc _ _ _ (by simp;omega)];exact heap_alloc_at hs1.symm _
 have hH:V.heap[w.heap.size + 1]? = some (.cells #[.int .i64 ((k:Int) + 1),.int .i64 ((S.bg k:Int) + 1)] 46 (0,0)):=by
  rw [hV];exact heap_alloc_at (by simp [hs1]) _
 obtain ⟨arr',hb1,hbs1⟩:∃ arr',W1.heap[b]? = some (.cells arr' 111 (0,0)) ∧ arr'.size = arr.size:=by rw [hW1];exact set3_block hb0
 have hbV:V.heap[b]? = some (.cells arr' 111 (0,0)):=(hB.block b hlt).trans hb1
 have hoth:∀ j,j < w.heap.size → j ≠ b → V.heap[j]? = w.heap[j]?:=fun j hj hn => (hB.block j hj).trans (by
  rw [hW1,Below.heap_setCell _ _ _ _ hn,Below.heap_setCell _ _ _ _ hn,Below.heap_setCell _ _ _ _ hn])
 have hcell:∀ o,o ≠ 1 + k * 3 → o ≠ 1 + k * 3 + 1 → o ≠ 1 + k * 3 + 2 → V.cell? ⟨b,o,none⟩ = w.cell? ⟨b,o,none⟩:=fun o h1 h2 h3 => (hB.cell (p:=⟨b,o,none⟩) hlt).trans (by
  rw [hW1,set_other _ (Or.inr h3),set_other _ (Or.inr h2),set_other _ (Or.inr h1)])
 have hplV:PlacesAt V b (upd S.bg k (S.bg k + 1)) (upd S.tk k true) (upd S.cp k s):=by
  have h:=hP.places.begunS k s hk
  rw [← hW1] at h
  exact h.kept (by omega) (hB.block b hlt)
 have hTV:TabsW V own b N L S.ents (S.cells L):=hP.tabs.turn hP.lay.kl (hcell 61 (by omega) (by omega) (by omega)) (fun j hj h3 => ⟨hoth j hj (by rintro rfl;omega),rfl⟩)
 have hTu:Turns w V (Tur own):=⟨hB.os.trans (by rw [hW1];rfl),hB.tape.trans (by rw [hW1];rfl),hB.output.trans (by rw [hW1];rfl),by omega,fun j hj hn => hoth j hj (fun e => hn (by rw [e];exact Or.inl hme))⟩
 have hLV:LayN V b g L:=hP.lay.below (by omega) (fun j hj => hoth j (by omega) (by omega))
 refine ⟨(hcell 0 (by omega) (by omega) (by omega)).trans hP.c0,hLV,⟨arr',hbV,by omega⟩,hTV,hsV,by rw [cell_row hH];rfl,by rw [cell_row hH];rfl,?_,?_⟩
 · have:=(hplV.2 k hk).2.2.1
   simpa [upd] using this
 · rintro w' ⟨_,t1,t2,⟨arr2,t3,t4⟩,own',t5,t6,t7⟩
   have hnF:∀ j,w.heap.size ≤ j → ¬ Tur own j:=fun j hj h => by
    have:=hP.out j hj
    unfold Tur at h;omega
   have eH:w'.heap[w.heap.size + 1]? = V.heap[w.heap.size + 1]?:=t1.block _ (by omega) (hnF _ (by omega))
   have eR:w'.heap[w.heap.size]? = V.heap[w.heap.size]?:=t1.block _ (by omega) (hnF _ (Nat.le_refl _))
   have hR':=eR.trans hR
   refine ⟨by rw [cell_row (eH.trans hH)];rfl,by rw [cell_row (eH.trans hH)];rfl,by rw [cell_row hR'];rfl,by rw [cell_row hR'];rfl,frozen_row hR' 0,frozen_row hR' 1,fun u0 u1 => ?_⟩
   obtain ⟨W4,hW4⟩:∃ W4,W4 = (w'.setCell ⟨w.heap.size,0,none⟩ u0).setCell ⟨w.heap.size,1,none⟩ u1:=⟨_,rfl⟩
   rw [← hW4]
   have hs4:W4.heap.size = w'.heap.size:=by rw [hW4];simp [World.setCell]
   have h4:∀ j,j ≠ w.heap.size → W4.heap[j]? = w'.heap[j]?:=fun j hj => by rw [hW4,Below.heap_setCell _ _ _ _ hj,Below.heap_setCell _ _ _ _ hj]
   have eb4:W4.heap[b]? = w'.heap[b]?:=h4 b (by omega)
   have hsz:V.heap.size ≤ w'.heap.size:=t1.size
   have h1:Turns w w' (Tur own):=hTu.trans' t1
   have hT4:Turns w W4 (Tur own):=⟨by rw [hW4];exact h1.os,by rw [hW4];exact h1.tape,by rw [hW4];exact h1.output,by omega,fun j hj hn => (h4 j (by omega)).trans (h1.block j hj hn)⟩
   have hcell4:∀ o,o ≠ 61 → W4.cell? ⟨b,o,none⟩ = V.cell? ⟨b,o,none⟩:=fun o ho => (World.cell?_of_block (a:=⟨b,o,none⟩) eb4).trans (t2 o ho)
   have hz:own' w.heap.size = 0:=(t5 _ (by omega)).trans (hP.out _ (Nat.le_refl _))
   refine ⟨rfl,hT4,own',fun j hj => t5 j (by omega),?_⟩
   refine { me:=(t5 b (by omega)).trans hme,low:=fun j hj => (t5 j (by omega)).trans (hP.low j hj),out:=fun j hj => t6 j (by omega),blk:=⟨arr2,eb4.trans t3,t4⟩,places:=⟨by omega,fun j hj => ?_⟩,bgs:=fun j hj => ?_,cps:=fun j hj htj => ?_,c0:=(hcell4 0 (by decide)).trans ((hcell 0 (by omega) (by omega) (by omega)).trans hP.c0),lcle:=hP.lcle,lay:=hP.lay.below (by omega) (fun j hj => hT4.block j (by omega) (by have:=hP.low j hj;unfold Tur;omega)),tabs:=?_,lists:=fun j hj k' f' => ?_ }
   · obtain ⟨p1,p2,p3,_,_,_⟩:=hplV.2 j hj
     exact ⟨(hcell4 _ (by omega)).trans p1,(hcell4 _ (by omega)).trans p2,(hcell4 _ (by omega)).trans p3,frozen_row (eb4.trans t3) _,frozen_row (eb4.trans t3) _,frozen_row (eb4.trans t3) _⟩
   · show upd S.bg k (S.bg k + 1) j ≤ 3
     by_cases e:j = k
     · rw [e,upd_same];omega
     · rw [upd_ne _ _ _ e];exact hP.bgs j hj
   · show upd S.cp k s j < 64
     replace htj:upd S.tk k true j = true:=htj
     by_cases e:j = k
     · rw [e,upd_same];exact hs
     · rw [upd_ne _ _ _ e];rw [upd_ne _ _ _ e] at htj;exact hP.cps j hj htj
   · rw [ents_spawnS S k s hk ht,cells_spawnS S L k s hk ht] at t7
     refine t7.turn hP.lay.kl (World.cell?_of_block (a:=⟨b,61,none⟩) eb4) (fun j hj h3 => ⟨h4 j (by rintro rfl;omega),rfl⟩)
   · by_cases e:j = k
     · subst e
       simp only [St.spawn,upd_same]
       exact ⟨World.ownsRow_nil _ _ _ _,fun j hj => by simp [Value.ownBlock] at hj⟩
     · simp only [St.spawn,upd_ne _ _ _ e]
       obtain ⟨l1,l2⟩:=hP.lists j hj k' f'
       refine ⟨own_turn l1 fun i hi hil => hT4.block i hil (by have:=l2 i hi;unfold Tur;omega),fun i hi => (t5 i (by have:=(l1.lt i hi).2;omega)).trans (l2 i hi)⟩
theorem ents_lenS (S:St) (s:Nat):(S.ents s).length ≤ 20:=ents_len S.bg (S.sel s)
theorem ents_sortS (S:St) (s:Nat):(S.ents s).Pairwise fun a b => a.1 < b.1:=ents_sort S.bg (S.sel s)
set_option maxHeartbeats 4000000 in
set_option maxRecDepth 100000 in
theorem spawn_wt (own:Nat → Nat) (b g lc N i s:Nat) (L:List CompS) (S:St) (w:World) (hi:i < 20) (hs:s < 64) (hN:N ≤ 1000) (hN1:1 ≤ N) (hP:WT w own b g lc N L S) (hf:∀ j,j < i → shutAt S.bg S.tk j) (ht:S.tk i = false) (hg:S.bg i < 3) :
 Calls Tryz.prog 58 #[.pointer (some ⟨b,0,none⟩),.int .u64 (s:Int)] w (SpawnT w own b g lc N L S i s):=by
 have HPr:Hid (WT w own b g lc N L S):=hP
 have hpl:=hP.places
 have HP1:Hid (PlacesAt (w.alloc (.cells #[.int .i64 0,.int .i64 0] 46)) b S.bg S.tk S.cp):=hpl.below ((Below.refl _ _).alloc (Nat.le_refl _) _)
 have HF:Hid (∀ j,j < i → shutAt S.bg S.tk j):=hf
 have HT:Hid (S.tk i = false):=ht
 have hb:=hP.lt
 clear hP hpl hf ht
 go_enter Tryz.func58,Tryz.ntmps58
 go_wp2
 go_loop [12] (fun t => ∃ k:Nat,k ≤ i ∧ t = .int .i64 k) (fun t => 20 - (intOf t).toNat)
 case atStart => exact ⟨0,by omega,rfl⟩
 case round =>
  obtain ⟨k,hk,rfl⟩:=hrel
  by_cases hlt:k < i
  · have hk20:k < 20:=by omega
    go_wp2_with (go_at_call 119;refine (free_shut b (1 + k * 3) (S.bg k) (S.tk k) _ (HP1.out.2 k hk20).1 (HP1.out.2 k hk20).2.1 (HF.out k hlt)).mono ?_;rintro e w' ⟨rfl,rfl⟩)
    go_round
    case rel => exact ⟨k + 1,by omega,by go_num⟩
    case measure => simp [intOf];omega
  · obtain rfl:k = i:=by omega
    go_wp2_with (first | (go_at_call 119;refine (free_open b (1 + k * 3) (S.bg k) _ (HP1.out.2 k hi).1 (by have hh:=(HP1.out.2 k hi).2.1;rw [HT.out] at hh;exact hh) hg).mono ?_;rintro e w' ⟨rfl,rfl⟩) | (go_at_call 120;refine (begin_any b (1 + k * 3) (S.bg k) false (.int .u64 (S.cp k)) s _ (by omega) (HP1.out.2 k hi).1 (by have hh:=(HP1.out.2 k hi).2.1;rw [HT.out] at hh;exact hh) (HP1.out.2 k hi).2.2.1 (HP1.out.2 k hi).2.2.2.1 (HP1.out.2 k hi).2.2.2.2.1 (HP1.out.2 k hi).2.2.2.2.2).mono ?_;rintro e w' ⟨rfl,rfl⟩))
    obtain ⟨V,hV⟩:∃ V,V = (((((w.setCell ⟨b,1 + k * 3,none⟩ (.int .i64 ((S.bg k:Int) + 1))).setCell ⟨b,1 + k * 3 + 1,none⟩ (.bool true)).setCell ⟨b,1 + k * 3 + 2,none⟩ (.int .u64 (s:Int))).alloc (.cells #[.int .i64 0,.int .i64 0] 46)).alloc (.cells #[.int .i64 ((k:Int) + 1),.int .i64 ((S.bg k:Int) + 1)] 46)):=⟨_,rfl⟩
    obtain ⟨m1,m3,m5,m6,m8,m9,m10,m11,m12⟩:=spawnT_mid hi hs HPr.out HT.out hg hV
    have HM:Hid (Calls Tryz.prog 121 #[.pointer (some ⟨b,0,none⟩),.agg #[.int .i64 ((k:Int) + 1),.int .i64 ((S.bg k:Int) + 1)],.int .u64 (s:Int)] V fun e w' => e = .returned (.tuple #[]) ∧ w'.cell? ⟨w.heap.size + 1,0,none⟩ = some (.int .i64 ((k:Int) + 1)) ∧ w'.cell? ⟨w.heap.size + 1,1,none⟩ = some (.int .i64 ((S.bg k:Int) + 1)) ∧ w'.cell? ⟨w.heap.size,0,none⟩ = some (.int .i64 0) ∧ w'.cell? ⟨w.heap.size,1,none⟩ = some (.int .i64 0) ∧ w'.frozen? ⟨w.heap.size,0,none⟩ = false ∧ w'.frozen? ⟨w.heap.size,1,none⟩ = false ∧
     Hid (∀ u0 u1,SpawnT w own b g lc N L S k s (.returned (.tuple #[.agg #[.int .i64 ((k:Int) + 1),.int .i64 ((S.bg k:Int) + 1)],.int .i64 0])) ((w'.setCell ⟨w.heap.size,0,none⟩ u0).setCell ⟨w.heap.size,1,none⟩ u1))):=by
     refine (enter_wt own b g lc N s L S.ents (S.cells L) _ _ V HPr.out.me m5 m1 HPr.out.lcle m3 m6 hN hN1 hs (Nat.le_trans (ents_lenS S s) (by omega)) (ents_sortS S s) (fun k f => HPr.out.ones s k f)).mono ?_
     intro e w' he
     obtain ⟨rfl,t1,t2,t3,t4⟩:=he
     obtain ⟨q1,q2,q3,q4,q5,q6,q7⟩:=m12 w' ⟨rfl,t1,t2,t3,t4⟩
     exact ⟨rfl,q1,q2,q3,q4,q5,q6,q7⟩
    have HV:Hid ((((((w.setCell ⟨b,1 + k * 3,none⟩ (.int .i64 ((S.bg k:Int) + 1))).setCell ⟨b,1 + k * 3 + 1,none⟩ (.bool true)).setCell ⟨b,1 + k * 3 + 2,none⟩ (.int .u64 (s:Int))).alloc (.cells #[.int .i64 0,.int .i64 0] 46)).alloc (.cells #[.int .i64 ((k:Int) + 1),.int .i64 ((S.bg k:Int) + 1)] 46)) = V):=hV.symm
    clear hV m1 m3 m5 m6 m12
    rw [HV.out]
    go_wp2_with (go_at_call 121;refine HM.out.mono ?_;rintro e w2 ⟨rfl,q1,q2,q3,q4,q5,q6,HQ⟩)
    exact bodyPost_ret (v:=.tuple #[.agg #[.int .i64 ((k:Int) + 1),.int .i64 ((S.bg k:Int) + 1)],.int .i64 0]) (by simp [results,Tryz.results58,go_sem,q3,q4]) rfl (HQ.out _ _)
def putAt {α:Type} (l:List α) (o:Nat) (vs:List α):List α:=l.take o ++ vs ++ l.drop (o + vs.length)
theorem putAt_one {α:Type} (l:List α) (o:Nat) (v:α) (h:o < l.length):l.set o v = putAt l o [v]:=by
 unfold putAt
 rw [List.set_eq_take_append_cons_drop,if_pos h]
 simp
theorem set_two {α:Type} (a r:List α) (x y v u:α):((a ++ x :: y :: r).set a.length v).set (a.length + 1) u = a ++ v :: u :: r:=by simp [List.set_append]
theorem putAt_two {α:Type} (l:List α) (o:Nat) (v u:α) (h:o + 1 < l.length):(l.set o v).set (o + 1) u = putAt l o [v,u]:=by
 have h0:o < l.length:=by omega
 have e:l = l.take o ++ l[o] :: l[o + 1] :: l.drop (o + 2):=by rw [← List.drop_eq_getElem_cons,← List.drop_eq_getElem_cons,List.take_append_drop]
 have hl:(l.take o).length = o:=by simp;omega
 have:=set_two (l.take o) (l.drop (o + 2)) l[o] l[o + 1] v u
 rw [← e,hl] at this
 rw [this]
 simp [putAt]
def ListNew (W:World) (B:Nat) (v:Value) (ls:List Int):Prop:=W.ownsRow B 3 1 v ls.length (ls.map (Value.int .i64))
theorem col_put {F:Nat → Prop} {w w':World} {cb ct et sz n g cap:Nat} {ys:List Value} (h1:F cb) (h2:w.heap[cb]? = some (.cells #[.slice (some ⟨g,0,none⟩) n cap] ct (0,0))) (h4:F g ∧ g ≠ cb) (hT:Turns w w' (fun k => k = g)) (h5:w'.ownsRow 0 et sz (.slice (some ⟨g,0,none⟩) n cap) n ys):Turns w w' F ∧ ColAt w' F cb ct et sz n ys:=by
 refine ⟨⟨hT.os,hT.tape,hT.output,hT.size,fun k hk hn => hT.block k hk fun e => hn (by rw [e];exact h4.1)⟩,h1,_,(hT.block cb (Array.getElem?_eq_some_iff.1 h2).1 (Ne.symm h4.2)).trans h2,h5,fun k hk => ?_⟩
 simp [Value.ownBlock] at hk
 rw [← hk];exact h4
theorem col_open {w:World} {F:Nat → Prop} {cb ct et sz n r:Nat} {xs:List Value} (hC:ColAt w F cb ct et sz n xs) (hr:r < n):∃ g cap,F cb ∧ w.heap[cb]? = some (.cells #[.slice (some ⟨g,0,none⟩) n cap] ct (0,0)) ∧ (F g ∧ g ≠ cb) ∧ w.cell? ⟨cb,0,none⟩ = some (.slice (some ⟨g,0,none⟩) n cap) ∧ w.ownsRow 0 et sz (.slice (some ⟨g,0,none⟩) n cap) n xs ∧ xs.length = n * sz:=by
 obtain ⟨h1,v,h2,h3,h4⟩:=hC
 have hx:=h3.1
 rcases h3.2 with ⟨_,q⟩ | ⟨g,cap,cur,q,_⟩
 · omega
 · subst q
   exact ⟨g,cap,h1,h2,h4 g rfl,by rw [cell_row h2];rfl,h3,hx⟩
theorem stored1 {w:World} {base et sz g n cap:Nat} {xs:List Value} (h:w.ownsRow base et sz (.slice (some ⟨g,0,none⟩) n cap) n xs) (j:Nat) (u:Value):(w.setCell ⟨g,j,none⟩ u).ownsRow base et sz (.slice (some ⟨g,0,none⟩) n cap) n (xs.set j u):=(h.stored j u).1
theorem turns_one (w:World) (g o:Nat) (u:Value):Turns w (w.setCell ⟨g,o,none⟩ u) (fun k => k = g):=(Turns.ofBelow _ (Below.refl _ _)).set g o u fun _ => rfl
theorem callSet1 (cb:Nat) (u v:Value) (w:World):(callMethod (colVal 1 cb) "Set" #[u,v]).run Tryz.prog w = .ok (.enter 363 #[.pointer (some ⟨cb,0,none⟩),u,v]) w:=by kernel_rfl
theorem callSet2 (cb:Nat) (u v:Value) (w:World):(callMethod (colVal 2 cb) "Set" #[u,v]).run Tryz.prog w = .ok (.enter 374 #[.pointer (some ⟨cb,0,none⟩),u,v]) w:=by kernel_rfl
theorem callSet3 (cb:Nat) (u v:Value) (w:World):(callMethod (colVal 3 cb) "Set" #[u,v]).run Tryz.prog w = .ok (.enter 385 #[.pointer (some ⟨cb,0,none⟩),u,v]) w:=by kernel_rfl
theorem callSet4 (cb:Nat) (u v:Value) (w:World):(callMethod (colVal 4 cb) "Set" #[u,v]).run Tryz.prog w = .ok (.enter 396 #[.pointer (some ⟨cb,0,none⟩),u,v]) w:=by kernel_rfl
theorem callSet5 (cb:Nat) (u v:Value) (w:World):(callMethod (colVal 5 cb) "Set" #[u,v]).run Tryz.prog w = .ok (.enter 401 #[.pointer (some ⟨cb,0,none⟩),u,v]) w:=by kernel_rfl
theorem setcol1 {F:Nat → Prop} (cb n r:Nat) (xs:List Value) (k x:Int) (s:ByteArray) (p l:Int) (vl:Value) (ls:List Int) (w:World) (hC:ColAt w F cb (kStr 1) (kElt 1) (kSz 1) n xs) (hr:r < n) (hn:n ≤ 100) (hs:s.size ≤ 1000) (hls:ls.length ≤ 100) (hvl:1 = 5 → IntsAt w vl ls) :
 Calls Tryz.prog 363 #[.pointer (some ⟨cb,0,none⟩),.int .i64 r,.agg #[.int .i64 k,.int .i64 x,.string s,.int .i64 p,.int .i64 l,vl]] w fun e w' => e = .returned (.tuple #[]) ∧ Turns w w' F ∧ ∃ v',ListNew w' w.heap.size v' (if 1 = 5 then ls else []) ∧ ColAt w' F cb (kStr 1) (kElt 1) (kSz 1) n (putAt xs (r * kSz 1) ([.int .i64 x])):=by
 obtain ⟨g,cap,h1,h2,h4,c0,h3,hx⟩:=col_open hC hr
 have hsz:kSz 1 = 1:=rfl
 rw [hsz] at hx h3 ⊢
 have c1:=h3.cellAt r (by omega)
 have hu:r < xs.length:=by omega
 rw [List.getElem?_eq_getElem hu] at c1
 refine (set_int cb g r n cap k x s p l vl _ w c0 hr hn c1 (h3.frozenAt r)).mono ?_
 rintro e w' ⟨rfl,rfl⟩
 have h5:=((stored1 h3 r (.int .i64 x)).alloc (.cells #[.int .i64 k,.int .i64 x,.string s,.int .i64 p,.int .i64 l,vl] 56)).drew
 rw [putAt_one _ _ _ hu] at h5
 have:=col_put h1 h2 h4 (((turns_one w g r _).alloc _).drew) h5
 exact ⟨rfl,this.1,.slice none 0 0,World.ownsRow_nil _ _ _ _,by simpa using this.2⟩
theorem setcol2 {F:Nat → Prop} (cb n r:Nat) (xs:List Value) (k x:Int) (s:ByteArray) (p l:Int) (vl:Value) (ls:List Int) (w:World) (hC:ColAt w F cb (kStr 2) (kElt 2) (kSz 2) n xs) (hr:r < n) (hn:n ≤ 100) (hs:s.size ≤ 1000) (hls:ls.length ≤ 100) (hvl:2 = 5 → IntsAt w vl ls) :
 Calls Tryz.prog 374 #[.pointer (some ⟨cb,0,none⟩),.int .i64 r,.agg #[.int .i64 k,.int .i64 x,.string s,.int .i64 p,.int .i64 l,vl]] w fun e w' => e = .returned (.tuple #[]) ∧ Turns w w' F ∧ ∃ v',ListNew w' w.heap.size v' (if 2 = 5 then ls else []) ∧ ColAt w' F cb (kStr 2) (kElt 2) (kSz 2) n (putAt xs (r * kSz 2) ([.bool (x == 1)])):=by
 obtain ⟨g,cap,h1,h2,h4,c0,h3,hx⟩:=col_open hC hr
 have hsz:kSz 2 = 1:=rfl
 rw [hsz] at hx h3 ⊢
 have c1:=h3.cellAt r (by omega)
 have hu:r < xs.length:=by omega
 rw [List.getElem?_eq_getElem hu] at c1
 refine (set_bool cb g r n cap k x s p l vl _ w c0 hr hn c1 (h3.frozenAt r)).mono ?_
 rintro e w' ⟨rfl,rfl⟩
 have h5:=((stored1 h3 r (.bool (x == 1))).alloc (.cells #[.int .i64 k,.int .i64 x,.string s,.int .i64 p,.int .i64 l,vl] 56)).drew
 rw [putAt_one _ _ _ hu] at h5
 have:=col_put h1 h2 h4 (((turns_one w g r _).alloc _).drew) h5
 exact ⟨rfl,this.1,.slice none 0 0,World.ownsRow_nil _ _ _ _,by simpa using this.2⟩
theorem setcol3 {F:Nat → Prop} (cb n r:Nat) (xs:List Value) (k x:Int) (s:ByteArray) (p l:Int) (vl:Value) (ls:List Int) (w:World) (hC:ColAt w F cb (kStr 3) (kElt 3) (kSz 3) n xs) (hr:r < n) (hn:n ≤ 100) (hs:s.size ≤ 1000) (hls:ls.length ≤ 100) (hvl:3 = 5 → IntsAt w vl ls) :
 Calls Tryz.prog 385 #[.pointer (some ⟨cb,0,none⟩),.int .i64 r,.agg #[.int .i64 k,.int .i64 x,.string s,.int .i64 p,.int .i64 l,vl]] w fun e w' => e = .returned (.tuple #[]) ∧ Turns w w' F ∧ ∃ v',ListNew w' w.heap.size v' (if 3 = 5 then ls else []) ∧ ColAt w' F cb (kStr 3) (kElt 3) (kSz 3) n (putAt xs (r * kSz 3) ([.string s])):=by
 obtain ⟨g,cap,h1,h2,h4,c0,h3,hx⟩:=col_open hC hr
 have hsz:kSz 3 = 1:=rfl
 rw [hsz] at hx h3 ⊢
 have c1:=h3.cellAt r (by omega)
 have hu:r < xs.length:=by omega
 rw [List.getElem?_eq_getElem hu] at c1
 refine (set_text cb g r n cap k x s p l vl _ w c0 hr hn hs c1 (h3.frozenAt r)).mono ?_
 rintro e w' ⟨rfl,W,hB,rfl⟩
 have h3W:=own_turn h3 (W':=W) fun j _ hj => hB.block j hj
 have h5:=stored1 h3W r (.string s)
 rw [putAt_one _ _ _ hu] at h5
 have:=col_put h1 h2 h4 ((Turns.ofBelow _ hB).set g r (.string s) fun _ => rfl) h5
 exact ⟨rfl,this.1,.slice none 0 0,World.ownsRow_nil _ _ _ _,by simpa using this.2⟩
theorem setcol4 {F:Nat → Prop} (cb n r:Nat) (xs:List Value) (k x:Int) (s:ByteArray) (p l:Int) (vl:Value) (ls:List Int) (w:World) (hC:ColAt w F cb (kStr 4) (kElt 4) (kSz 4) n xs) (hr:r < n) (hn:n ≤ 100) (hs:s.size ≤ 1000) (hls:ls.length ≤ 100) (hvl:4 = 5 → IntsAt w vl ls) :
 Calls Tryz.prog 396 #[.pointer (some ⟨cb,0,none⟩),.int .i64 r,.agg #[.int .i64 k,.int .i64 x,.string s,.int .i64 p,.int .i64 l,vl]] w fun e w' => e = .returned (.tuple #[]) ∧ Turns w w' F ∧ ∃ v',ListNew w' w.heap.size v' (if 4 = 5 then ls else []) ∧ ColAt w' F cb (kStr 4) (kElt 4) (kSz 4) n (putAt xs (r * kSz 4) ([.int .i64 p,.int .i64 l])):=by
 obtain ⟨g,cap,h1,h2,h4,c0,h3,hx⟩:=col_open hC hr
 have hsz:kSz 4 = 2:=rfl
 rw [hsz] at hx h3 ⊢
 have c1:=h3.cellAt (r * 2) (by omega)
 have c2:=h3.cellAt (r * 2 + 1) (by omega)
 have hu:r * 2 < xs.length:=by omega
 have hu2:r * 2 + 1 < xs.length:=by omega
 rw [List.getElem?_eq_getElem hu] at c1
 rw [List.getElem?_eq_getElem hu2] at c2
 refine (set_ref cb g r n cap k x s p l vl _ _ w c0 hr hn c1 c2 (h3.frozenAt _) (h3.frozenAt _)).mono ?_
 rintro e w' ⟨rfl,rfl⟩
 have h5:=((stored1 (stored1 h3 (r * 2) (.int .i64 p)) (r * 2 + 1) (.int .i64 l)).alloc (.cells #[.int .i64 k,.int .i64 x,.string s,.int .i64 p,.int .i64 l,vl] 56)).drew
 rw [putAt_two _ _ _ _ hu2] at h5
 have:=col_put h1 h2 h4 ((((turns_one w g (r * 2) (.int .i64 p)).set g (r * 2 + 1) (.int .i64 l) fun _ => rfl).alloc _).drew) h5
 exact ⟨rfl,this.1,.slice none 0 0,World.ownsRow_nil _ _ _ _,this.2⟩
theorem setcol5 {F:Nat → Prop} (cb n r:Nat) (xs:List Value) (k x:Int) (s:ByteArray) (p l:Int) (vl:Value) (ls:List Int) (w:World) (hC:ColAt w F cb (kStr 5) (kElt 5) (kSz 5) n xs) (hr:r < n) (hn:n ≤ 100) (hs:s.size ≤ 1000) (hls:ls.length ≤ 100) (hvl:5 = 5 → IntsAt w vl ls) :
 Calls Tryz.prog 401 #[.pointer (some ⟨cb,0,none⟩),.int .i64 r,.agg #[.int .i64 k,.int .i64 x,.string s,.int .i64 p,.int .i64 l,vl]] w fun e w' => e = .returned (.tuple #[]) ∧ Turns w w' F ∧ ∃ v',ListNew w' w.heap.size v' (if 5 = 5 then ls else []) ∧ ColAt w' F cb (kStr 5) (kElt 5) (kSz 5) n (putAt xs (r * kSz 5) ([v'])):=by
 obtain ⟨g,cap,h1,h2,h4,c0,h3,hx⟩:=col_open hC hr
 have hsz:kSz 5 = 1:=rfl
 rw [hsz] at hx h3 ⊢
 have c1:=h3.cellAt r (by omega)
 have hu:r < xs.length:=by omega
 rw [List.getElem?_eq_getElem hu] at c1
 refine (set_list cb g r n cap k x s p l vl _ ls w c0 hr hn (hvl rfl) hls c1 (h3.frozenAt r)).mono ?_
 rintro e w' ⟨rfl,W,sa,sc,hB,hN,rfl⟩
 have h3W:=own_turn h3 (W':=W) fun j _ hj => hB.block j hj
 have h5:=stored1 h3W r (.slice sa ls.length sc)
 rw [putAt_one _ _ _ hu] at h5
 have:=col_put h1 h2 h4 ((Turns.ofBelow _ hB).set g r (.slice sa ls.length sc) fun _ => rfl) h5
 have hgl:g < w.heap.size:=(h3.lt g rfl).2
 refine ⟨rfl,this.1,.slice sa ls.length sc,?_,by simpa using this.2⟩
 rw [if_pos rfl]
 exact own_base (own_turn hN fun j hj _ => Below.heap_setCell _ _ _ _ (by have:=(hN.lt j hj).1;show j ≠ g;omega)) (Nat.le_succ _)
def setFn (kd:Nat):Nat:=if kd = 1 then 363 else if kd = 2 then 374 else if kd = 3 then 385 else if kd = 4 then 396 else 401
theorem callSet_any (kd:Nat) (h1:1 ≤ kd) (h5:kd ≤ 5) (cb:Nat) (u v:Value) (w:World):(callMethod (colVal kd cb) "Set" #[u,v]).run Tryz.prog w = .ok (.enter (setFn kd) #[.pointer (some ⟨cb,0,none⟩),u,v]) w:=by
 have h:kd = 1 ∨ kd = 2 ∨ kd = 3 ∨ kd = 4 ∨ kd = 5:=by omega
 rcases h with rfl | rfl | rfl | rfl | rfl
 · exact callSet1 cb u v w
 · exact callSet2 cb u v w
 · exact callSet3 cb u v w
 · exact callSet4 cb u v w
 · exact callSet5 cb u v w
theorem setcol_any {F:Nat → Prop} (kd:Nat) (h1:1 ≤ kd) (h5:kd ≤ 5) (cb n r:Nat) (xs:List Value) (k x:Int) (s:List UInt8) (p l:Int) (vl:Value) (ls:List Int) (w:World) (hC:ColAt w F cb (kStr kd) (kElt kd) (kSz kd) n xs) (hr:r < n) (hn:n ≤ 100) (hs:s.length ≤ 1000) (hls:ls.length ≤ 100) (hvl:kd = 5 → IntsAt w vl ls) :
 Calls Tryz.prog (setFn kd) #[.pointer (some ⟨cb,0,none⟩),.int .i64 r,.agg #[.int .i64 k,.int .i64 x,.string (mk s),.int .i64 p,.int .i64 l,vl]] w fun e w' => e = .returned (.tuple #[]) ∧ Turns w w' F ∧ ∃ v',ListNew w' w.heap.size v' (if kd = 5 then ls else []) ∧ ColAt w' F cb (kStr kd) (kElt kd) (kSz kd) n (putAt xs (r * kSz kd) (fvCells kd ⟨x,s,p,l,ls⟩ v')):=by
 have hsz:(mk s).size ≤ 1000:=by rw [size_mk];exact hs
 have h:kd = 1 ∨ kd = 2 ∨ kd = 3 ∨ kd = 4 ∨ kd = 5:=by omega
 rcases h with rfl | rfl | rfl | rfl | rfl
 · exact setcol1 cb n r xs k x (mk s) p l vl ls w hC hr hn hsz hls hvl
 · exact setcol2 cb n r xs k x (mk s) p l vl ls w hC hr hn hsz hls hvl
 · exact setcol3 cb n r xs k x (mk s) p l vl ls w hC hr hn hsz hls hvl
 · exact setcol4 cb n r xs k x (mk s) p l vl ls w hC hr hn hsz hls hvl
 · exact setcol5 cb n r xs k x (mk s) p l vl ls w hC hr hn hsz hls hvl
theorem TabC.col {W:World} {own:Nat → Nat} {base tb s:Nat} {cks:List (List Nat)} {ents:List (Int × Int)} {xs:Nat → Nat → List Value} (h:TabC W own base tb s cks ents xs) (hkl:∀ k,(cks.getD k []).length ≤ 4) (k f kd:Nat) (hk:k < 6) (hh:hasC s cks k = true) (hf:(cks.getD k [])[f]? = some kd) :
 ∃ (ev:Value) (sl:Nat → Value) (g c cb:Nat),W.cell? ⟨tb,0,none⟩ = some ev ∧ W.ownsRow 0 46 2 ev ents.length (eCells ents) ∧ (∀ j,j < 6 → W.cell? ⟨tb,1 + j,none⟩ = some (sl j)) ∧ sl k = .slice (some ⟨g,0,none⟩) (cks.getD k []).length c ∧ (cks.getD k []).length ≤ c ∧ W.cell? ⟨g,f,none⟩ = some (colVal kd cb) ∧ g < W.heap.size ∧ tb < W.heap.size ∧
   ColAt W (fun b => own b = base + lCol k f) cb (kStr kd) (kElt kd) (kSz kd) ents.length (xs k f) ∧
   ∀ W' ys,Turns W W' (fun b => own b = base + lCol k f) → ColAt W' (fun b => own b = base + lCol k f) cb (kStr kd) (kElt kd) (kSz kd) ents.length ys → TabC W' own base tb s cks ents (upd2 xs k f ys):=by
 obtain ⟨h1,ev,sl,h2,h3,h4,h5⟩:=h
 have htb:tb < W.heap.size:=(Array.getElem?_eq_some_iff.1 h2).1
 have hfl:f < (cks.getD k []).length:=(List.getElem?_eq_some_iff.1 hf).1
 have hfe:(cks.getD k [])[f] = kd:=(List.getElem?_eq_some_iff.1 hf).2
 have h6:=h5 k hk
 rw [if_pos hh] at h6
 obtain ⟨cbs,c1,c2,c3,c4⟩:=h6
 have hfc:f < cbs.length:=by omega
 have hcol:=c4 f hfl hfc
 rw [hfe] at hcol
 have hk4:=hkl k
 have hrow:∃ g c,sl k = .slice (some ⟨g,0,none⟩) (cks.getD k []).length c ∧ (cks.getD k []).length ≤ c:=by
  rcases c2.2 with ⟨_,q⟩ | ⟨g,cap,cur,q,_,_,q2,_⟩
  · omega
  · exact ⟨g,cap,q,q2⟩
 obtain ⟨g,c,hg,hgc⟩:=hrow
 have hcell:W.cell? ⟨g,f,none⟩ = some (colVal kd cbs[f]):=by
  have q:=c2
  rw [hg] at q
  have hz:f < (List.zipWith colVal (cks.getD k []) cbs).length:=by rw [List.length_zipWith];omega
  rw [q.cellAt f (by omega),List.getElem?_eq_getElem hz,List.getElem_zipWith,hfe]
 refine ⟨ev,sl,g,c,cbs[f],by rw [cell_row h2];rfl,h3,fun j hj => ?_,hg,hgc,hcell,?_,htb,hcol,fun W' ys hT hC => ?_⟩
 · rw [cell_row h2]
   have e:j = 0 ∨ j = 1 ∨ j = 2 ∨ j = 3 ∨ j = 4 ∨ j = 5:=by omega
   rcases e with rfl | rfl | rfl | rfl | rfl | rfl <;> rfl
 · exact (c2.lt g (by rw [hg];rfl)).2
 · refine ⟨h1,ev,sl,(hT.block tb htb (by rw [h1];unfold lCol;omega)).trans h2,own_turn h3 fun j hj hjl => hT.block j hjl (by rw [h4 j hj];unfold lCol;omega),h4,fun k' hk' => ?_⟩
   by_cases e:k' = k
   · subst e
     rw [if_pos hh]
     refine ⟨cbs,c1,own_turn c2 fun j hj hjl => hT.block j hjl (by rw [c3 j hj];unfold lCol lCols;omega),c3,fun f' hf' hf'' => ?_⟩
     by_cases e2:f' = f
     · subst e2
       have:upd2 xs k' f' ys k' f' = ys:=by simp [upd2]
       rw [this]
       have e3:(cks.getD k' [])[f'] = kd:=hfe
       rw [e3];exact hC
     · have:upd2 xs k' f ys k' f' = xs k' f':=by simp [upd2,e2]
       rw [this]
       exact (c4 f' hf' hf'').turn fun b hb hbl => ⟨hT.block b hbl (by rw [hb];unfold lCol;omega),hb⟩
   · have hq:=h5 k' hk'
     have hk4':=hkl k'
     split
     · rename_i hh'
       rw [if_pos hh'] at hq
       obtain ⟨cbs',q⟩:=hq
       refine ⟨cbs',?_⟩
       have q2:ColsAt W' own base k' (sl k') (cks.getD k' []) cbs' (fun _ => ents.length) (xs k'):=q.turn fun b hb hb2 => ⟨hT.block b hb (by
        rcases hb2 with e2 | ⟨f',hf',e2⟩ <;> rw [e2] <;> unfold lCol <;> (try unfold lCols) <;> omega),rfl⟩
       exact q2.same (fun _ _ => rfl) (fun f' _ => by simp [upd2,e])
     · rename_i hh'
       rw [if_neg hh'] at hq
       exact hq
theorem cells_put (bg:Nat → Nat) (q:Nat → Bool) (g g':Nat → List Value) (sz i:Nat) (hi:i < 20) (hq:q i = true) (hg:∀ j,j ≠ i → g' j = g j) (hl:∀ j,(g j).length = sz) (hl':(g' i).length = sz) :
 cellsOf q g' = putAt (cellsOf q g) (ahead (entsOf bg q) ((i:Int) + 1) * sz) (g' i):=by
 rw [aheadS bg q i hi,cells_split q g' i hi,cells_split q g i hi,hq]
 have e3:((List.range i).filter q).flatMap g' = ((List.range i).filter q).flatMap g:=flatV_congr _ fun j hj => hg j (by have:=List.mem_range.1 (List.mem_filter.1 hj).1;omega)
 have e4:((List.range' (i + 1) (19 - i)).filter q).flatMap g' = ((List.range' (i + 1) (19 - i)).filter q).flatMap g:=flatV_congr _ fun j hj => hg j (by have:=List.mem_range'_1.1 (List.mem_filter.1 hj).1;omega)
 rw [e3,e4]
 have hlen:((List.range i).filter q).length * sz = (((List.range i).filter q).flatMap g).length:=(flatV_len g sz _ fun j _ => hl j).symm
 have hgi:=hl i
 rw [hlen]
 generalize ((List.range i).filter q).flatMap g = A
 generalize ((List.range' (i + 1) (19 - i)).filter q).flatMap g = B
 unfold putAt
 simp only [if_true]
 rw [hl',← hgi]
 generalize g i = G
 simp [List.take_append,List.drop_append]
def St.put (S:St) (i k f:Nat) (x:FV) (v:Value):St:={ S with vals:=fun i' k' f' => if i' = i ∧ k' = k ∧ f' = f then x else S.vals i' k' f',lv:=fun i' k' f' => if i' = i ∧ k' = k ∧ f' = f then v else S.lv i' k' f' }
def FV.norm (kd:Nat) (x:FV):FV:={ x with ls:=if kd = 5 then x.ls else [] }
theorem cells_putS (S:St) (L:List CompS) (i k f:Nat) (x:FV) (v:Value) (hi:i < 20) (ht:S.tk i = true) :
 (S.put i k f x v).cells L = upd (S.cells L) (S.cp i) (upd2 (S.cells L (S.cp i)) k f (putAt (S.cells L (S.cp i) k f) (ahead (S.ents (S.cp i)) ((i:Int) + 1) * kSz (kindAt L k f)) (fvCells (kindAt L k f) x v))):=by
 funext s k' f'
 by_cases e:s = S.cp i
 · subst e
   rw [upd_same]
   have hq:S.sel (S.cp i) i = true:=by simp [St.sel,ht]
   by_cases e2:k' = k ∧ f' = f
   · obtain ⟨rfl,rfl⟩:=e2
     have h:=cells_put S.bg (S.sel (S.cp i)) (fun j => fvCells (kindAt L k' f') (S.vals j k' f') (S.lv j k' f')) (fun j => fvCells (kindAt L k' f') ((S.put i k' f' x v).vals j k' f') ((S.put i k' f' x v).lv j k' f')) (kSz (kindAt L k' f')) i hi hq (fun j hj => by simp [St.put,hj]) (fun j => fvCells_len _ _ _) (fvCells_len _ _ _)
     simp only [upd2,and_self,if_true]
     refine Eq.trans h ?_
     simp only [St.put,and_self,if_true]
     rfl
   · have:upd2 (S.cells L (S.cp i)) k f (putAt (S.cells L (S.cp i) k f) (ahead (S.ents (S.cp i)) ((i:Int) + 1) * kSz (kindAt L k f)) (fvCells (kindAt L k f) x v)) k' f' = S.cells L (S.cp i) k' f':=by simp only [upd2,if_neg e2]
     rw [this]
     refine cells_same fun j _ => ?_
     have e3:¬ (j = i ∧ k' = k ∧ f' = f):=fun h => e2 h.2
     simp only [St.put,if_neg e3]
 · rw [upd_ne _ _ _ e]
   refine cells_same fun j hj => ?_
   have hne:j ≠ i:=by
    rintro rfl
    replace hj:S.sel s j = true:=hj
    simp [St.sel] at hj
    exact e hj.2.symm
   simp [St.put,hne]
theorem WT.tab {W:World} {own:Nat → Nat} {b g lc N:Nat} {L:List CompS} {S:St} (h:WT W own b g lc N L S) (i:Nat) (hi:i < 20) (ht:S.tk i = true):∃ bm n m tb,TabsIn W own b bm n m L S.ents (S.cells L) ∧ n ≤ N ∧ m (S.cp i) = some tb ∧ TabC W own (32 * (1 + S.cp i)) tb (S.cp i) (kinds L) (S.ents (S.cp i)) (S.cells L (S.cp i)):=by
 have hs:=h.cps i hi ht
 have hmem:((i:Int) + 1,(S.bg i:Int)) ∈ S.ents (S.cp i):=List.mem_map.2 ⟨i,List.mem_filter.2 ⟨List.mem_range.2 hi,by simp [St.sel,ht]⟩,rfl⟩
 rcases h.tabs with ⟨_,q⟩ | ⟨bm,n,m,q,hn⟩
 · rw [(q _ hs).1] at hmem;simp at hmem
 · rcases q.tab _ hs with ⟨_,q2,_⟩ | ⟨tb,q1,q2⟩
   · rw [q2] at hmem;simp at hmem
   · exact ⟨bm,n,m,tb,q,hn,q1,q2⟩
theorem ahead_in (S:St) (i:Nat) (hi:i < 20) (ht:S.tk i = true):ahead (S.ents (S.cp i)) ((i:Int) + 1) < (S.ents (S.cp i)).length :=
 (ents_despawn S.bg (S.sel (S.cp i)) i hi (by simp [St.sel,ht])).1
theorem WT.put {W W':World} {own:Nat → Nat} {b g lc N:Nat} {L:List CompS} {S:St} (h:WT W own b g lc N L S) (i k f:Nat) (hi:i < 20) (ht:S.tk i = true) (hf:f < 4) (hk:k < 6) (x:FV) (v:Value) (bm n tb:Nat) (m:Nat → Option Nat) (hTI:TabsIn W own b bm n m L S.ents (S.cells L)) (hn:n ≤ N) (hm:m (S.cp i) = some tb)
 (hT:Turns W W' (fun j => own j = 32 * (1 + S.cp i) + lCol k f)) (hl:ListNew W' W.heap.size v x.ls)
 (hC:TabC W' own (32 * (1 + S.cp i)) tb (S.cp i) (kinds L) (S.ents (S.cp i)) (upd2 (S.cells L (S.cp i)) k f (putAt (S.cells L (S.cp i) k f) (ahead (S.ents (S.cp i)) ((i:Int) + 1) * kSz (kindAt L k f)) (fvCells (kindAt L k f) x v)))) :
 ∃ own',(∀ j,j < W.heap.size → own' j = own j) ∧ WT W' own' b g lc N L (S.put i k f x v):=by
 have hs:=hT.size
 have hlt:=h.lt
 have hme:=h.me
 have hkl:=h.lay.kl
 have hne:∀ j,own j < 32 → own j ≠ 32 * (1 + S.cp i) + lCol k f:=fun j hj => by omega
 have eb:W'.heap[b]? = W.heap[b]?:=hT.block b hlt (hne b (by omega))
 obtain ⟨own',ho⟩:∃ own':Nat → Nat,own' = fun j => if j < W.heap.size then own j else if v.ownBlock = some j then 4 else 0:=⟨_,rfl⟩
 have ho1:∀ j,j < W.heap.size → own' j = own j:=fun j hj => by rw [ho];exact if_pos hj
 have ho2:∀ j,W.heap.size ≤ j → own' j = if v.ownBlock = some j then 4 else 0:=fun j hj => by rw [ho];exact if_neg (by omega)
 obtain ⟨arr,a1,a2⟩:=h.blk
 refine ⟨own',ho1,{ me:=(ho1 b hlt).trans hme,low:=fun j hj => (ho1 j (by omega)).trans (h.low j hj),out:=fun j hj => ?_,blk:=⟨arr,eb.trans a1,a2⟩,places:=h.places.kept hs eb,bgs:=h.bgs,cps:=h.cps,c0:=(World.cell?_of_block (a:=⟨b,0,none⟩) eb).trans h.c0,lcle:=h.lcle,lay:=h.lay.below hs (fun j hj => hT.block j (by omega) (hne j (by rw [h.low j hj];omega))),tabs:=?_,lists:=fun i' hi' k' f' => ?_ }⟩
 · rw [ho2 j (by omega),if_neg]
   intro e
   have:=(hl.lt j e).2
   omega
 · rw [cells_putS S L i k f x v hi ht]
   refine Or.inr ⟨bm,n,m,⟨(World.cell?_of_block (a:=⟨b,61,none⟩) eb).trans hTI.c61,(ho1 bm hTI.map.lt).trans hTI.lab,hTI.map.turn (hT.block bm hTI.map.lt (hne bm (by rw [hTI.lab];omega))),fun s' hs' => ?_⟩,hn⟩
   by_cases e:s' = S.cp i
   · subst e
     rw [upd_same]
     refine Or.inr ⟨tb,hm,hC.turn hkl fun j hj h3 h4 => ⟨rfl,?_⟩⟩
     by_cases hq:j < W.heap.size
     · exact ho1 j hq
     · rw [h.out j (by omega)] at h3;omega
   · rw [upd_ne _ _ _ e]
     rcases hTI.tab s' hs' with q | ⟨tb',q1,q2⟩
     · exact Or.inl q
     · refine Or.inr ⟨tb',q1,q2.turn hkl fun j hj h3 h4 => ⟨hT.block j hj ?_,ho1 j hj⟩⟩
       unfold lCol;omega
 · by_cases e:i' = i ∧ k' = k ∧ f' = f
   · simp only [St.put,if_pos e]
     refine ⟨own_base hl (Nat.zero_le _),fun j hj => ?_⟩
     rw [ho2 j (hl.lt j hj).1,if_pos hj]
   · simp only [St.put,if_neg e]
     obtain ⟨l1,l2⟩:=h.lists i' hi' k' f'
     exact ⟨own_turn l1 fun j hj hjl => hT.block j hjl (hne j (by rw [l2 j hj];omega)),fun j hj => (ho1 j (l1.lt j hj).2).trans (l2 j hj)⟩
theorem step_invoke2 {ops:Array Oper} {o:Oper} {a:Act} {w:World} {K:Act → World → Prop} {Q:Exit → Act → World → Prop} {E:Prop}
 (hg:o.guard = none) (r x y:Operand) (name:String) (t1 t2:TypeId) (hop:o.op = Op.call { callee:=Callee.invoke r name,args:=#[x,y],argTypes:=#[t1,t2] }) (v u1 u2:Value) (hr:a.eval r = v) (hx:a.eval x = u1) (hy:a.eval y = u2) (f:FuncId) (args:Array Value)
 (hm:(callMethod v name #[u1,u2]).run Tryz.prog w = .ok (.enter f args) w) (h:Calls Tryz.prog f args w fun e w' => ∃ v',e = .returned v' ∧ K (a.put o.dst v') w') :
 if Region.wanted o (yielded ops a.tmps) = true then Oper.wp Tryz.prog o a w K Q else E:=by
 have hw:Region.wanted o (yielded ops a.tmps) = true:=by simp [Region.wanted,hg]
 rw [if_pos hw]
 unfold Oper.wp
 have e:(execOp a.eval o).run Tryz.prog w = .ok (.enter f args) w:=by
  simp only [execOp,hop,resolve,invoke,Sem.run_bind,Sem.run_pure,Result.andThen_ok,List.map_toArray,List.map_cons,List.map_nil,hr,hx,hy]
  exact hm
 rw [e,Oper.upon_enter]
 refine h.mono ?_
 rintro e w' ⟨v',rfl,hk⟩
 exact hk
theorem step_invoke1 {ops:Array Oper} {o:Oper} {a:Act} {w:World} {K:Act → World → Prop} {Q:Exit → Act → World → Prop} {E:Prop}
 (hg:o.guard = none) (r x:Operand) (name:String) (t1:TypeId) (hop:o.op = Op.call { callee:=Callee.invoke r name,args:=#[x],argTypes:=#[t1] }) (v u1:Value) (hr:a.eval r = v) (hx:a.eval x = u1) (f:FuncId) (args:Array Value)
 (hm:(callMethod v name #[u1]).run Tryz.prog w = .ok (.enter f args) w) (h:Calls Tryz.prog f args w fun e w' => ∃ v',e = .returned v' ∧ K (a.put o.dst v') w') :
 if Region.wanted o (yielded ops a.tmps) = true then Oper.wp Tryz.prog o a w K Q else E:=by
 have hw:Region.wanted o (yielded ops a.tmps) = true:=by simp [Region.wanted,hg]
 rw [if_pos hw]
 unfold Oper.wp
 have e:(execOp a.eval o).run Tryz.prog w = .ok (.enter f args) w:=by
  simp only [execOp,hop,resolve,invoke,Sem.run_bind,Sem.run_pure,Result.andThen_ok,List.map_toArray,List.map_cons,List.map_nil,hr,hx]
  exact hm
 rw [e,Oper.upon_enter]
 refine h.mono ?_
 rintro e w' ⟨v',rfl,hk⟩
 exact hk
def TabOf (W:World) (b s tb:Nat):Prop:=∃ bm n m,W.cell? ⟨b,61,none⟩ = some (.map (some bm)) ∧ MapM W bm n m ∧ m s = some tb
theorem MapM.same {W:World} {bm n n':Nat} {m m':Nat → Option Nat} (h:MapM W bm n m) (h':MapM W bm n' m') (s:Nat) (hs:s < 64):m s = m' s:=by
 have e:=(h.look s hs).symm.trans (h'.look s hs)
 cases h1:m s <;> cases h2:m' s <;> simp [h1,h2] at e ⊢
 exact e
theorem WT.tabAt {W:World} {own:Nat → Nat} {b g lc N tb:Nat} {L:List CompS} {S:St} (h:WT W own b g lc N L S) (i:Nat) (hi:i < 20) (ht:S.tk i = true) (hT:TabOf W b (S.cp i) tb):∃ bm n m,TabsIn W own b bm n m L S.ents (S.cells L) ∧ n ≤ N ∧ m (S.cp i) = some tb ∧ TabC W own (32 * (1 + S.cp i)) tb (S.cp i) (kinds L) (S.ents (S.cp i)) (S.cells L (S.cp i)):=by
 obtain ⟨bm,n,m,tb',h1,h2,h3,h4⟩:=h.tab i hi ht
 obtain ⟨bm',n',m',q1,q2,q3⟩:=hT
 rw [h1.c61] at q1
 cases q1
 have:=h1.map.same q2 (S.cp i) (h.cps i hi ht)
 rw [h3,q3] at this
 cases this
 exact ⟨bm,n,m,h1,h2,h3,h4⟩
theorem WT.tabOf {W:World} {own:Nat → Nat} {b g lc N:Nat} {L:List CompS} {S:St} (h:WT W own b g lc N L S) (i:Nat) (hi:i < 20) (ht:S.tk i = true):∃ tb,TabOf W b (S.cp i) tb:=by
 obtain ⟨bm,n,m,tb,h1,_,h3,_⟩:=h.tab i hi ht
 exact ⟨tb,bm,n,m,h1.c61,h1.map,h3⟩
theorem TabOf.turn {W W':World} {own:Nat → Nat} {b g lc N s tb:Nat} {L:List CompS} {S:St} (h:TabOf W b s tb) (hW:WT W own b g lc N L S) (hT:Turns W W' (fun j => 32 ≤ own j)):TabOf W' b s tb:=by
 obtain ⟨bm,n,m,q1,q2,q3⟩:=h
 have hlab:own bm = 2:=by
  rcases hW.tabs with ⟨q,_⟩ | ⟨bm',n',m',q,_⟩
  · rw [q] at q1;cases q1
  · have:=q.c61.symm.trans q1
    cases this
    exact q.lab
 refine ⟨bm,n,m,(World.cell?_of_block (a:=⟨b,61,none⟩) (hT.block b hW.lt (by rw [hW.me];omega))).trans q1,q2.turn (hT.block bm q2.lt (by omega)),q3⟩
theorem TabOf.below {W W':World} {b s tb:Nat} (h:TabOf W b s tb) (hb:Below W.heap.size W W'):TabOf W' b s tb:=by
 obtain ⟨bm,n,m,q1,q2,q3⟩:=h
 exact ⟨bm,n,m,(hb.cell (p:=⟨b,61,none⟩) (World.block_lt_of_cell? W ⟨b,61,none⟩ q1)).trans q1,q2.turn (hb.block bm q2.lt),q3⟩
set_option maxHeartbeats 1600000 in
theorem tableOf_wt (own:Nat → Nat) (b g lc N i tb:Nat) (lf:Int) (L:List CompS) (S:St) (w:World) (hW:WT w own b g lc N L S) (hi:i < 20) (ht:S.tk i = true) (hT:TabOf w b (S.cp i) tb) :
 Calls Tryz.prog 74 #[.pointer (some ⟨b,0,none⟩),.agg #[.int .i64 ((i:Int) + 1),.int .i64 lf]] w fun e w' => e = .returned (.pointer (some ⟨tb,0,none⟩)) ∧ Below w.heap.size w w':=by
 have hlt:=hW.lt
 have hcp:=hW.cps i hi ht
 obtain ⟨bm,n,m,q1,q2,q3⟩:=hT
 obtain ⟨W1,hW1⟩:∃ W1,W1 = w.alloc (.cells #[.int .i64 ((i:Int) + 1),.int .i64 lf] 46):=⟨_,rfl⟩
 have hB1:Below w.heap.size w W1:=by rw [hW1];exact (Below.refl _ _).alloc (Nat.le_refl _) _
 have c61:W1.cell? ⟨b,61,none⟩ = some (.map (some bm)):=(hB1.cell (p:=⟨b,61,none⟩) hlt).trans q1
 have HPl:Hid (∀ W,W = W1.drew → Calls Tryz.prog 59 #[.pointer (some ⟨b,0,none⟩),.agg #[.int .i64 ((i:Int) + 1),.int .i64 lf]] W fun e w' => e = .returned (.pointer (some ⟨b,1 + i * 3,none⟩)) ∧ w'.cell? ⟨b,1 + i * 3 + 2,none⟩ = some (.int .u64 (S.cp i)) ∧ w'.cell? ⟨b,61,none⟩ = some (.map (some bm)) ∧ (Instr.lookup 109 (.map (some bm)) (.int .u64 (S.cp i:Int)) false).run Tryz.prog w' = .ok (.pointer (some ⟨tb,0,none⟩)) w' ∧ Hid (Below w.heap.size w w')):=by
  rintro W rfl
  refine (placeOf_any b i (.int .i64 lf) W1.drew hi).mono ?_
  rintro e w' ⟨rfl,hb⟩
  have hb':Below w.heap.size w w':=hB1.trans ((⟨hb.os,hb.tape,hb.output,hb.size,hb.block⟩:Below W1.heap.size W1 w').mono hB1.size)
  have hl:=(q2.turn (W':=w') (hb'.block bm q2.lt)).look (S.cp i) hcp
  rw [q3] at hl
  exact ⟨rfl,(hb'.cell (p:=⟨b,1 + i * 3 + 2,none⟩) hlt).trans (hW.places.2 i hi).2.2.1,(hb'.cell (p:=⟨b,61,none⟩) hlt).trans q1,hl,hb'⟩
 rw [hW1] at c61 HPl
 generalize S.cp i = cp at HPl
 clear hW q1 q2 hB1 hW1 ht hcp q3
 go_enter Tryz.func74,Tryz.ntmps74
 go_wp2_with fail
 go_region_with (go_at_call 59;refine (HPl.out _ rfl).mono ?_;rintro e w2 ⟨rfl,d1,d2,d3,HB⟩)
 all_goals go_wp2_with fail
 all_goals go_ret
 all_goals exact ⟨rfl,HB.out⟩
end Go.Proofs.YthkbeaffkcfgiabGreatDoor
