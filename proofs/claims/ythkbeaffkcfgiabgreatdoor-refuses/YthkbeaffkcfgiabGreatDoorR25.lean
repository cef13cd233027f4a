import Derived.Test.YthkbeaffkcfgiabGreatDoorR24
import Derived.Test.YthkbeaffkcfgiabGreatDoorR22
import Derived.Test.YthkbeaffkcfgiabGreatDoorR23
import Derived.Test.YthkbeaffkcfgiabGreatDoorR16
import Derived.Test.YthkbeaffkcfgiabGreatDoorR20
set_option linter.unusedSimpArgs false
set_option linter.unusedVariables false
namespace Go.Proofs.YthkbeaffkcfgiabGreatDoor
open Go.RowKit
set_option maxHeartbeats 1600000 in
theorem read_n (text:List UInt8) (m:Int) (w:World) (hsz:text.length ≤ 1000000000) (hm:w.cell? ⟨3,0,none⟩ = some (.int .i64 m)) :
 Calls Tryz.prog 64 #[.string (mk text)] w fun e w' => ((∃ cs,schemaL text = some cs ∧ ∃ g c,e = .returned (.tuple #[.slice (some ⟨g,0,none⟩) cs.length c,.bool true]) ∧ w.heap.size ≤ g ∧ cs.length ≤ c ∧ LayN w' w'.heap.size g cs) ∨ (schemaL text = none ∧ e = .returned (.tuple #[.slice none 0 0,.bool false]))) ∧ Below w.heap.size w w':=by
 have h0:3 < w.heap.size:=World.block_lt_of_cell? w ⟨3,0,none⟩ hm
 have HM:Hid (∀ o1 o2:Obj,((w.alloc o1).alloc o2).cell? ⟨3,0,none⟩ = some (.int .i64 m)):=fun o1 o2 => ((below_two w o1 o2).cell (p:=⟨3,0,none⟩) h0).trans hm
 clear hm
 have hmf:∀ (fn:Fn) (first cap:Array Value) (w:World),(Instr.makeFunc fn first cap).run Tryz.prog w = .ok (.func fn first cap) w:=fun _ _ _ _ => rfl
 go_enter_defers Tryz.func64,Tryz.ntmps64
 go_wp2_with fail
 refine (readLayout_n text m _ hsz (HM.out _ _)).mono ?_
 rintro e w1 ⟨hends,hb⟩
 have HB:Hid (Below w.heap.size w w1):=(below_two _ _ _).trans (hb.mono (by simp;omega))
 have c0:w1.cell? ⟨w.heap.size,0,none⟩ = some (.slice none 0 0):=by rw [hb.cell (p:=⟨w.heap.size,0,none⟩) (by simp;omega),World.cell?_alloc_lt _ _ _ (by simp)];simp
 have c1:w1.cell? ⟨w.heap.size + 1,0,none⟩ = some (.bool false):=by
  rw [hb.cell (p:=⟨w.heap.size + 1,0,none⟩) (by simp)]
  have:=World.cell?_alloc_new (w.alloc (.cells #[.slice none 0 0] 103)) #[.bool false] 4 0
  rw [World.size_alloc] at this
  rw [this];rfl
 have f0:w1.frozen? ⟨w.heap.size,0,none⟩ = false:=by rw [hb.frozen (p:=⟨w.heap.size,0,none⟩) (by simp;omega)];simp
 have f1:w1.frozen? ⟨w.heap.size + 1,0,none⟩ = false:=by rw [hb.frozen (p:=⟨w.heap.size + 1,0,none⟩) (by simp)];simp
 have hs1:w.heap.size + 1 < w1.heap.size:=by have:=hb.size;simp at this;omega
 clear hb
 rcases hends with ⟨cs,hcs,g,sc,rfl,hg1,hc1,hlay,hlo⟩ | ⟨hcs,rfl⟩
 · have HS:Hid (schemaL text = some cs):=hcs
   have HLd:Hid (∀ u0 u1,LayN ((w1.setCell ⟨w.heap.size,0,none⟩ u0).setCell ⟨w.heap.size + 1,0,none⟩ u1) ((w1.setCell ⟨w.heap.size,0,none⟩ u0).setCell ⟨w.heap.size + 1,0,none⟩ u1).heap.size g cs):=fun u0 u1 => by
    have hsz:((w1.setCell ⟨w.heap.size,0,none⟩ u0).setCell ⟨w.heap.size + 1,0,none⟩ u1).heap.size = w1.heap.size:=by simp [World.setCell]
    rw [hsz]
    simp at hg1 hlo
    exact hlay.keep2 hlo hg1 (by rw [hsz];exact Nat.le_refl _) fun k hk1 hk2 => by
     rw [Below.heap_setCell _ _ _ _ (by show k ≠ w.heap.size + 1;omega),Below.heap_setCell _ _ _ _ (by show k ≠ w.heap.size;omega)]
   have HG1:Hid (w.heap.size ≤ g ∧ cs.length ≤ sc):=by simp at hg1;exact ⟨by omega,hc1⟩
   clear hcs hlay hlo hg1 hc1
   obtain ⟨sn,hsn⟩:∃ sn,sn = cs.length:=⟨_,rfl⟩
   rw [← hsn]
   have HSn:Hid (sn = cs.length):=hsn
   clear hsn
   go_wp2
   refine leaves_cons (f:=126) (args:=#[.pointer (some ⟨w.heap.size,0,none⟩),.pointer (some ⟨w.heap.size + 1,0,none⟩)]) (by simp) (by simp [go_sem]) ?_
   refine (catch_idle _ _ _).mono ?_
   rintro e u' w'' ⟨rfl,rfl,rfl⟩
   simp only [Leaves,settle]
   refine ⟨.tuple #[.slice (some ⟨g,0,none⟩) sn sc,.bool true],by simp [results,Tryz.results64,go_sem,c0,c1],Or.inl ⟨cs,HS.out,g,sc,by rw [HSn.out],HG1.out.1,HG1.out.2,HLd.out _ _⟩,(HB.out.setCell (by simp) _).setCell (by simp) _⟩
 · have HS:Hid (schemaL text = none):=hcs
   clear hcs
   go_wp2_with fail
   refine leaves_cons (f:=126) (args:=#[.pointer (some ⟨w.heap.size,0,none⟩),.pointer (some ⟨w.heap.size + 1,0,none⟩)]) (by simp) (by simp [go_sem]) ?_
   refine (catch_wrong w.heap.size (w.heap.size + 1) none 0 0 false w1 c0 c1 f0 f1 (by omega) hs1).mono ?_
   rintro e u' w'' ⟨rfl,rfl,rfl⟩
   simp only [Leaves,settle,List.dropWhile_nil]
   have hl:w.heap.size < w1.heap.size:=by omega
   have t0:(((w1.alloc (.cells #[] 197)).setCell ⟨w.heap.size,0,none⟩ (.slice none 0 0)).setCell ⟨w.heap.size + 1,0,none⟩ (.bool false)).cell? ⟨w.heap.size,0,none⟩ = some (.slice none 0 0):=by
    rw [set_other _ (by omega),set_same (u:=.slice none 0 0) _ (by rw [World.cell?_alloc_lt _ _ _ hl];exact c0)]
   have t1:(((w1.alloc (.cells #[] 197)).setCell ⟨w.heap.size,0,none⟩ (.slice none 0 0)).setCell ⟨w.heap.size + 1,0,none⟩ (.bool false)).cell? ⟨w.heap.size + 1,0,none⟩ = some (.bool false):=by
    rw [set_same (u:=.bool false) _ (by rw [set_other _ (by omega),World.cell?_alloc_lt _ _ _ hs1];exact c1)]
   refine ⟨.tuple #[.slice none 0 0,.bool false],by simp [results,Tryz.results64,go_sem,t0,t1],Or.inr ⟨HS.out,rfl⟩,((HB.out.alloc HB.out.size _).setCell (by simp) _).setCell (by simp) _⟩
def NewDoneN (w:World) (text:List UInt8) (e:Ending) (w':World):Prop :=
 (∃ cs,schemaL text = some cs ∧ ∃ b g c,e = .returned (.tuple #[.pointer (some ⟨b,0,none⟩),.int .i64 0]) ∧ w.heap.size ≤ b ∧ b < w'.heap.size ∧ (∃ arr,w'.heap[b]? = some (.cells arr 111 (0,0)) ∧ arr.size = 62) ∧ PlacesAt w' b (fun _ => 0) (fun _ => false) (fun _ => 0) ∧ w'.cell? ⟨b,0,none⟩ = some (.slice (some ⟨g,0,none⟩) cs.length c) ∧ cs.length ≤ c ∧ w.heap.size ≤ g ∧ LayN w' b g cs ∧ w'.cell? ⟨b,61,none⟩ = some (.map none)) ∨ (schemaL text = none ∧ e = .returned (.tuple #[.pointer none,.int .i64 1]))
set_option maxHeartbeats 1600000 in
theorem new_n (text:List UInt8) (m:Int) (w:World) (hsz:text.length ≤ 1000000000) (hm:w.cell? ⟨3,0,none⟩ = some (.int .i64 m)) :
 Calls Tryz.prog 34 #[.string (mk text)] w fun e w' => NewDoneN w text e w' ∧ Below w.heap.size w w':=by
 have HR:Hid _:=read_n text m w hsz hm
 clear hm
 go_enter Tryz.func34,Tryz.ntmps34
 go_wp2_with fail
 refine Calls.mono HR.out ?_
 rintro e w1 ⟨hends,hb⟩
 have HB:Hid (Below w.heap.size w w1):=hb
 clear hb
 rcases hends with ⟨cs,hcs,g,sc,rfl,hg1,hc1,hld⟩ | ⟨hcs,rfl⟩
 · have HS:Hid (schemaL text = some cs):=hcs
   have HLd:Hid (LayN w1 w1.heap.size g cs):=hld
   obtain ⟨sn,hsn⟩:∃ sn,sn = cs.length:=⟨_,rfl⟩
   rw [← hsn] at hc1 ⊢
   have HSn:Hid (sn = cs.length):=hsn
   clear hcs hld hsn
   go_wp2
   go_ret2
   refine ⟨Or.inl ⟨cs,HS.out,w1.heap.size,g,sc,rfl,HB.out.size,by simp,⟨_,_root_.Go.heap_alloc_new _ _,rfl⟩,⟨by simp,fun i hi => ?_⟩,by rw [cell_row (_root_.Go.heap_alloc_new _ _),← HSn.out];rfl,by rw [← HSn.out];exact hc1,hg1,HLd.out.below (by simp) fun k hk => Below.heap_alloc _ _ _ hk,by rw [cell_row (_root_.Go.heap_alloc_new _ _)];rfl⟩,HB.out.alloc HB.out.size _⟩
   have hi':i = 0 ∨ i = 1 ∨ i = 2 ∨ i = 3 ∨ i = 4 ∨ i = 5 ∨ i = 6 ∨ i = 7 ∨ i = 8 ∨ i = 9 ∨ i = 10 ∨ i = 11 ∨ i = 12 ∨ i = 13 ∨ i = 14 ∨ i = 15 ∨ i = 16 ∨ i = 17 ∨ i = 18 ∨ i = 19:=by omega
   rcases hi' with rfl | rfl | rfl | rfl | rfl | rfl | rfl | rfl | rfl | rfl | rfl | rfl | rfl | rfl | rfl | rfl | rfl | rfl | rfl | rfl <;> simp
 · have HS:Hid (schemaL text = none):=hcs
   clear hcs
   go_wp2
   go_ret2
   exact ⟨Or.inr ⟨HS.out,rfl⟩,HB.out⟩
theorem TabC.turn {W W':World} {own own':Nat → Nat} {base tb s:Nat} {cks:List (List Nat)} {ents:List (Int × Int)} {xs:Nat → Nat → List Value} (h:TabC W own base tb s cks ents xs) (hkl:∀ k,(cks.getD k []).length ≤ 4)
 (hb:∀ b,b < W.heap.size → base ≤ own b → own b < base + 32 → W'.heap[b]? = W.heap[b]? ∧ own' b = own b):TabC W' own' base tb s cks ents xs:=by
 obtain ⟨h1,ev,sl,h2,h3,h4,h5⟩:=h
 have htb:tb < W.heap.size:=(Array.getElem?_eq_some_iff.1 h2).1
 have e1:=hb tb htb (by omega) (by omega)
 refine ⟨e1.2.trans h1,ev,sl,e1.1.trans h2,own_turn h3 fun b hb1 hb2 => (hb b hb2 (by rw [h4 b hb1];omega) (by rw [h4 b hb1];omega)).1,fun b hb1 => ?_,fun k hk => ?_⟩
 · exact (hb b (h3.lt b hb1).2 (by rw [h4 b hb1];omega) (by rw [h4 b hb1];omega)).2.trans (h4 b hb1)
 · have:=h5 k hk
   split
   · rename_i hq
     rw [if_pos hq] at this
     obtain ⟨cbs,hc⟩:=this
     refine ⟨cbs,hc.turn fun b hb1 hb2 => ?_⟩
     have:=hkl k
     refine hb b hb1 ?_ ?_
     · rcases hb2 with e | ⟨f,_,e⟩ <;> rw [e] <;> omega
     · rcases hb2 with e | ⟨f,hf,e⟩ <;> rw [e]
       · unfold lCols;omega
       · unfold lCol;omega
   · rename_i hq
     rw [if_neg hq] at this
     exact this
def kinds (L:List CompS):List (List Nat):=L.map fun c => c.2.map Prod.snd
def kindAt (L:List CompS) (k f:Nat):Nat:=((kinds L).getD k []).getD f 0
theorem kinds_get (L:List CompS) (k:Nat) (h:k < L.length):(kinds L).getD k [] = L[k].2.map Prod.snd:=by simp [kinds,List.getD,h]
theorem kinds_out (L:List CompS) (k:Nat) (h:L.length ≤ k):(kinds L).getD k [] = []:=by simp [kinds,List.getD,h]
theorem LayN.kl {w:World} {b0 g:Nat} {L:List CompS} (h:LayN w b0 g L) (k:Nat):((kinds L).getD k []).length ≤ 4:=by
 by_cases hk:k < L.length
 · rw [kinds_get L k hk];simpa using (h.comp k hk).1.2.1
 · rw [kinds_out L k (by omega)];simp
theorem LayN.kk {w:World} {b0 g:Nat} {L:List CompS} (h:LayN w b0 g L) (k:Nat):∀ x ∈ (kinds L).getD k [],1 ≤ x ∧ x ≤ 5:=by
 by_cases hk:k < L.length
 · rw [kinds_get L k hk]
   intro x hx
   obtain ⟨f,hf,rfl⟩:=List.mem_map.1 hx
   exact ((h.comp k hk).1.2.2 f hf).2
 · rw [kinds_out L k (by omega)];simp
theorem FieldsN.fieldsAt {w:World} {s:Value} {fl:List (List UInt8 × Nat)} (h:FieldsN w s fl):FieldsAt w s (fl.map Prod.snd):=by
 rcases h with ⟨h1,rfl⟩ | ⟨g,c,h1,_,h3,h4⟩
 · exact Or.inl ⟨h1,rfl⟩
 · refine Or.inr ⟨g,c,by simpa using h1,h3,fun j hj => ?_⟩
   have hj':j < fl.length:=by simpa using hj
   exact ⟨_,(h4 j hj').1,by simpa using (h4 j hj').2⟩
theorem LayN.layK {w:World} {b0 g:Nat} {L:List CompS} (h:LayN w b0 g L):LayK w g (kinds L):=by
 refine ⟨Nat.lt_of_lt_of_le h.lt h.le,by simpa [kinds] using h.few,fun ks hks => ?_,fun j hj => ?_⟩
 · obtain ⟨c,hc,rfl⟩:=List.mem_map.1 hks
   obtain ⟨j,hj,rfl⟩:=List.mem_iff_getElem.1 hc
   refine ⟨by simpa using (h.comp j hj).1.2.1,fun k hk => ?_⟩
   obtain ⟨f,hf,rfl⟩:=List.mem_map.1 hk
   exact ((h.comp j hj).1.2.2 f hf).2
 · have hj':j < L.length:=by simpa [kinds] using hj
   obtain ⟨_,h2,fs,h3,h4,_⟩:=h.comp j hj'
   rw [kinds_get L j hj']
   exact ⟨_,fs,h2,h3,h4.fieldsAt⟩
structure TabsIn (W:World) (own:Nat → Nat) (b bm n:Nat) (m:Nat → Option Nat) (L:List CompS) (ents:Nat → List (Int × Int)) (xs:Nat → Nat → Nat → List Value):Prop where
 c61:W.cell? ⟨b,61,none⟩ = some (.map (some bm))
 lab:own bm = 2
 map:MapM W bm n m
 tab:∀ s,s < 64 → (m s = none ∧ ents s = [] ∧ xs s = fun _ _ => []) ∨ ∃ tb,m s = some tb ∧ TabC W own (32 * (1 + s)) tb s (kinds L) (ents s) (xs s)
def TabsW (W:World) (own:Nat → Nat) (b N:Nat) (L:List CompS) (ents:Nat → List (Int × Int)) (xs:Nat → Nat → Nat → List Value):Prop :=
 (W.cell? ⟨b,61,none⟩ = some (.map none) ∧ ∀ s,s < 64 → ents s = [] ∧ xs s = fun _ _ => []) ∨ ∃ bm n m,TabsIn W own b bm n m L ents xs ∧ n ≤ N
theorem TabsIn.turn {W W':World} {own own':Nat → Nat} {b bm n:Nat} {m:Nat → Option Nat} {L:List CompS} {ents:Nat → List (Int × Int)} {xs:Nat → Nat → Nat → List Value} (h:TabsIn W own b bm n m L ents xs) (hkl:∀ k,((kinds L).getD k []).length ≤ 4)
 (hc:W'.cell? ⟨b,61,none⟩ = W.cell? ⟨b,61,none⟩) (hb:∀ k,k < W.heap.size → (own k = 2 ∨ 32 ≤ own k) → W'.heap[k]? = W.heap[k]? ∧ own' k = own k):TabsIn W' own' b bm n m L ents xs:=by
 have e:=hb bm h.map.lt (Or.inl h.lab)
 refine ⟨hc.trans h.c61,e.2.trans h.lab,h.map.turn e.1,fun s hs => ?_⟩
 rcases h.tab s hs with h1 | ⟨tb,h1,h2⟩
 · exact Or.inl h1
 · exact Or.inr ⟨tb,h1,h2.turn hkl fun k hk h3 _ => hb k hk (Or.inr (by omega))⟩
theorem TabsW.turn {W W':World} {own own':Nat → Nat} {b N:Nat} {L:List CompS} {ents:Nat → List (Int × Int)} {xs:Nat → Nat → Nat → List Value} (h:TabsW W own b N L ents xs) (hkl:∀ k,((kinds L).getD k []).length ≤ 4)
 (hc:W'.cell? ⟨b,61,none⟩ = W.cell? ⟨b,61,none⟩) (hb:∀ k,k < W.heap.size → (own k = 2 ∨ 32 ≤ own k) → W'.heap[k]? = W.heap[k]? ∧ own' k = own k):TabsW W' own' b N L ents xs:=by
 rcases h with ⟨h1,h2⟩ | ⟨bm,n,m,h1,h2⟩
 · exact Or.inl ⟨hc.trans h1,h2⟩
 · exact Or.inr ⟨bm,n,m,h1.turn hkl hc hb,h2⟩
def Tur (own:Nat → Nat):Nat → Prop:=fun k => own k = 1 ∨ own k = 2 ∨ 32 ≤ own k
def EnterT (w:World) (own:Nat → Nat) (b N:Nat) (L:List CompS) (ents:Nat → List (Int × Int)) (xs:Nat → Nat → Nat → List Value) (s:Nat) (p l:Int) (e:Ending) (w':World):Prop :=
 e = .returned (.tuple #[]) ∧ Turns w w' (Tur own) ∧ (∀ o,o ≠ 61 → w'.cell? ⟨b,o,none⟩ = w.cell? ⟨b,o,none⟩) ∧ (∃ arr,w'.heap[b]? = some (.cells arr 111 (0,0)) ∧ arr.size = 62) ∧ ∃ own',(∀ k,k < w.heap.size → own' k = own k) ∧ (∀ k,w'.heap.size ≤ k → own' k = 0) ∧
   TabsW w' own' b (N + 1) L (upd ents s (setIn (ents s) (ahead (ents s) p) [(p,l)])) (upd xs s fun k f => setIn (xs s k f) (ahead (ents s) p * kSz (kindAt L k f)) (kZero (kindAt L k f)))
theorem enterT_end {w W1 w':World} {own own1 own2:Nat → Nat} {b N bm n tb s:Nat} {m:Nat → Option Nat} {L:List CompS} {ents:Nat → List (Int × Int)} {xs:Nat → Nat → Nat → List Value} {p l:Int} (hs:s < 64) (hkl:∀ k,((kinds L).getD k []).length ≤ 4)
 (hT1:Turns w W1 (Tur own)) (hc1:∀ o,o ≠ 61 → W1.cell? ⟨b,o,none⟩ = w.cell? ⟨b,o,none⟩) (hblk:∃ arr,W1.heap[b]? = some (.cells arr 111 (0,0)) ∧ arr.size = 62) (hme:own b = 1) (hlt:b < w.heap.size) (ho1:∀ k,k < w.heap.size → own1 k = own k)
 (hTI:TabsIn W1 own1 b bm n m L ents xs) (hn:n ≤ N + 1) (hm:m s = some tb) (hT2:Turns W1 w' (fun k => 32 * (1 + s) ≤ own1 k ∧ own1 k < 32 * (1 + s) + 32)) (ho2:∀ k,k < W1.heap.size → own2 k = own1 k)
 (hTC:TabC w' own2 (32 * (1 + s)) tb s (kinds L) (setIn (ents s) (ahead (ents s) p) [(p,l)]) (fun k f => setIn (xs s k f) (ahead (ents s) p * kSz (kindAt L k f)) (kZero (kindAt L k f)))) :
 EnterT w own b N L ents xs s p l (.returned (.tuple #[])) w':=by
 have hs1:=hT1.size
 have hs2:=hT2.size
 have hb1:own1 b = 1:=(ho1 b hlt).trans hme
 have eb:w'.heap[b]? = W1.heap[b]?:=hT2.block b (by omega) (by omega)
 have hml:=hTI.map.lt
 have hlab:=hTI.lab
 have em:w'.heap[bm]? = W1.heap[bm]?:=hT2.block bm hml (by omega)
 obtain ⟨arr,hb2,hb3⟩:=hblk
 have ho3:∀ k,k < w'.heap.size → (fun k => if k < w'.heap.size then own2 k else 0) k = own2 k:=fun k hk => if_pos hk
 refine ⟨rfl,?_,fun o ho => (World.cell?_of_block (a:=⟨b,o,none⟩) eb).trans (hc1 o ho),⟨arr,eb.trans hb2,hb3⟩,fun k => if k < w'.heap.size then own2 k else 0,fun k hk => ?_,fun k hk => if_neg (by omega),Or.inr ⟨bm,n,m,⟨?_,?_,hTI.map.turn em,fun s' hs' => ?_⟩,hn⟩⟩
 · refine hT1.trans ⟨hT2.os,hT2.tape,hT2.output,hT2.size,fun k hk hn => hT2.block k hk fun h => hn ?_⟩
   by_cases h:k < w.heap.size
   · refine Or.inl (Or.inr (Or.inr ?_))
     rw [← ho1 k h];omega
   · exact Or.inr ⟨by omega,hk⟩
 · exact (ho3 k (by omega)).trans ((ho2 k (by omega)).trans (ho1 k hk))
 · exact (World.cell?_of_block (a:=⟨b,61,none⟩) eb).trans hTI.c61
 · exact (ho3 bm (by omega)).trans ((ho2 bm hml).trans hlab)
 · by_cases e:s' = s
   · subst e
     rw [upd_same,upd_same]
     exact Or.inr ⟨tb,hm,hTC.turn hkl fun k hk _ _ => ⟨rfl,ho3 k hk⟩⟩
   · rw [upd_ne _ _ _ e,upd_ne _ _ _ e]
     rcases hTI.tab s' hs' with h | ⟨tb',h1,h2⟩
     · exact Or.inl h
     · refine Or.inr ⟨tb',h1,h2.turn hkl fun k hk h3 h4 => ⟨hT2.block k hk (by omega),?_⟩⟩
       exact (ho3 k (by omega)).trans (ho2 k hk)
structure ReadyT (w V:World) (own own0:Nat → Nat) (b bm n g lc N:Nat) (m:Nat → Option Nat) (L:List CompS) (ents:Nat → List (Int × Int)) (xs:Nat → Nat → Nat → List Value) (p l:Int):Prop where
 tabs:TabsIn V own0 b bm n m L ents xs
 c0:V.cell? ⟨b,0,none⟩ = some (.slice (some ⟨g,0,none⟩) L.length lc)
 h0:V.cell? ⟨w.heap.size,0,none⟩ = some (.int .i64 p)
 h1:V.cell? ⟨w.heap.size,1,none⟩ = some (.int .i64 l)
 lay:LayN V b g L
 turns:Turns w V (Tur own)
 cells:∀ o,o ≠ 61 → V.cell? ⟨b,o,none⟩ = w.cell? ⟨b,o,none⟩
 blk:∃ arr,V.heap[b]? = some (.cells arr 111 (0,0)) ∧ arr.size = 62
 labs:∀ k,k < w.heap.size → own0 k = own k
 me:own b = 1
 lt:b < w.heap.size
 more:w.heap.size < V.heap.size
 few:n ≤ N
def mapPut (m:Nat → Option Nat) (s tb:Nat):Nat → Option Nat:=fun x => if x = s then some tb else m x
theorem ReadyT.made {w V W1:World} {own own0 own1:Nat → Nat} {b bm n g lc N s:Nat} {m:Nat → Option Nat} {L:List CompS} {ents:Nat → List (Int × Int)} {xs:Nat → Nat → Nat → List Value} {p l:Int} (h:ReadyT w V own own0 b bm n g lc N m L ents xs p l) (hN:N ≤ 1000) (hs:s < 64) (hms:m s = none)
 (hb:Below V.heap.size V W1) (ho:∀ k,k < V.heap.size → own1 k = own0 k) (ht:TabC W1 own1 (32 * (1 + s)) V.heap.size s (kinds L) [] (fun _ _ => [])) :
 ∃ W2,(Instr.mapUpdate 109 (.map (some bm)) (.int .u64 (s:Int)) (.pointer (some ⟨V.heap.size,0,none⟩))).run Tryz.prog W1 = .ok () W2 ∧ W2.cell? ⟨w.heap.size,0,none⟩ = some (.int .i64 p) ∧ W2.cell? ⟨w.heap.size,1,none⟩ = some (.int .i64 l) ∧
   Turns w W2 (Tur own) ∧ (∀ o,o ≠ 61 → W2.cell? ⟨b,o,none⟩ = w.cell? ⟨b,o,none⟩) ∧ (∃ arr,W2.heap[b]? = some (.cells arr 111 (0,0)) ∧ arr.size = 62) ∧ TabsIn W2 own1 b bm (n + 1) (mapPut m s V.heap.size) L ents xs ∧ (ents s = [] ∧ xs s = fun _ _ => []) ∧ TabC W2 own1 (32 * (1 + s)) V.heap.size s (kinds L) [] (fun _ _ => []):=by
 have hkl:=h.lay.kl
 have hml:=h.tabs.map.lt
 have hlab:=h.tabs.lab
 have hM1:MapM W1 bm n m:=h.tabs.map.turn (hb.block bm hml)
 have hfew:=h.few
 obtain ⟨W2,r,hM2,htn⟩:=hM1.put (by unfold maxLen;omega) s V.heap.size hs
 have hgr:=htn.grown
 have hbV:b < V.heap.size:=Nat.lt_of_lt_of_le h.lt h.turns.size
 obtain ⟨arr,hblk,hsz⟩:=h.blk
 have hmb:b ≠ bm:=fun e => by have:=h.labs b h.lt;rw [h.me,e,hlab] at this;omega
 have hW1:V.heap.size < W1.heap.size:=by obtain ⟨_,_,_,q,_⟩:=ht;exact (Array.getElem?_eq_some_iff.1 q).1
 have hother:∀ k,k < W1.heap.size → k ≠ bm → W2.heap[k]? = W1.heap[k]?:=fun k hk hn => hgr.block k hk (fun e => hn (by simpa using e))
 have hold:∀ k,k < V.heap.size → k ≠ bm → W2.heap[k]? = V.heap[k]?:=fun k hk hn => (hother k (Nat.lt_of_lt_of_le hk hb.size) hn).trans (hb.block k hk)
 have ebb:=hold b hbV hmb
 have hmh:w.heap.size ≠ bm:=fun e => by
  obtain ⟨D,⟨es,clock,hh,_⟩,_⟩:=h.tabs.map
  have:=h.h0
  rw [e] at this
  simp [World.cell?,hh] at this
 have ehh:=hold w.heap.size h.more hmh
 have hs2:V.heap.size < W2.heap.size:=Nat.lt_of_lt_of_le hW1 hgr.size
 have hlab1:own1 bm = 2:=(ho bm hml).trans hlab
 have hemp:ents s = [] ∧ xs s = fun _ _ => []:=by
  rcases h.tabs.tab s hs with ⟨_,q⟩ | ⟨tb,q,_⟩
  · exact q
  · rw [hms] at q;cases q
 have hT2:TabC W2 own1 (32 * (1 + s)) V.heap.size s (kinds L) [] (fun _ _ => []):=ht.turn hkl fun k hk h3 _ => ⟨hother k hk (by rintro rfl;omega),rfl⟩
 refine ⟨W2,r,(World.cell?_of_block (a:=⟨w.heap.size,0,none⟩) ehh).trans h.h0,(World.cell?_of_block (a:=⟨w.heap.size,1,none⟩) ehh).trans h.h1,?_,fun o ho => (World.cell?_of_block (a:=⟨b,o,none⟩) ebb).trans (h.cells o ho),⟨arr,ebb.trans hblk,hsz⟩,⟨(World.cell?_of_block (a:=⟨b,61,none⟩) ebb).trans h.tabs.c61,hlab1,hM2,fun s' hs' => ?_⟩,hemp,hT2⟩
 · refine h.turns.trans ⟨hgr.os.trans hb.os,hgr.tape.trans hb.tape,hgr.output.trans hb.output,Nat.le_of_lt hs2,fun k hk hn => hold k hk (fun e => hn ?_)⟩
   by_cases hq:k < w.heap.size
   · refine Or.inl (Or.inr (Or.inl ?_))
     rw [← h.labs k hq,e];exact hlab
   · exact Or.inr ⟨by omega,by omega⟩
 · by_cases e:s' = s
   · subst e
     refine Or.inr ⟨V.heap.size,if_pos rfl,?_⟩
     rw [hemp.1,hemp.2];exact hT2
   · rcases h.tabs.tab s' hs' with ⟨q1,q2⟩ | ⟨tb,q1,q2⟩
     · exact Or.inl ⟨(if_neg e).trans q1,q2⟩
     · exact Or.inr ⟨tb,(if_neg e).trans q1,q2.turn hkl fun k hk h3 _ => ⟨hold k hk (by rintro rfl;omega),ho k hk⟩⟩
def TabMade (w V:World) (own:Nat → Nat) (b bm g nl lc N:Nat) (L:List CompS) (ents:Nat → List (Int × Int)) (xs:Nat → Nat → Nat → List Value) (s:Nat) (p l:Int) (e:Ending) (w':World):Prop :=
 ∃ W2,e = .returned (.pointer (some ⟨V.heap.size,0,none⟩)) ∧ (Instr.mapUpdate 109 (.map (some bm)) (.int .u64 (s:Int)) (.pointer (some ⟨V.heap.size,0,none⟩))).run Tryz.prog w' = .ok () W2 ∧ W2.cell? ⟨b,61,none⟩ = some (.map (some bm)) ∧ W2.cell? ⟨w.heap.size,0,none⟩ = some (.int .i64 p) ∧ W2.cell? ⟨w.heap.size,1,none⟩ = some (.int .i64 l) ∧ (Instr.lookup 109 (.map (some bm)) (.int .u64 (s:Int)) false).run Tryz.prog W2 = .ok (.pointer (some ⟨V.heap.size,0,none⟩)) W2 ∧ (Instr.lookup 109 (.map (some bm)) (.int .u64 (s:Int)) false).run Tryz.prog W2.drew = .ok (.pointer (some ⟨V.heap.size,0,none⟩)) W2.drew ∧
  (w'.cell? ⟨b,61,none⟩ = some (.map (some bm)) ∧ w'.cell? ⟨b,0,none⟩ = some (.slice (some ⟨g,0,none⟩) nl lc)) ∧ W2.cell? ⟨b,0,none⟩ = some (.slice (some ⟨g,0,none⟩) nl lc) ∧
  Hid (∀ W3,W3 = W2.drew → Calls Tryz.prog 190 #[.pointer (some ⟨V.heap.size,0,none⟩),.agg #[.int .i64 p,.int .i64 l]] W3 fun e w3 => e = .returned (.tuple #[]) ∧ Hid (EnterT w own b N L ents xs s p l (.returned (.tuple #[])) w3))
theorem ReadyT.calls {w V:World} {own own0:Nat → Nat} {b bm n g lc N s:Nat} {m:Nat → Option Nat} {L:List CompS} {ents:Nat → List (Int × Int)} {xs:Nat → Nat → Nat → List Value} {p l:Int} (h:ReadyT w V own own0 b bm n g lc N m L ents xs p l) (hN:N ≤ 1000) (hs:s < 64) (hms:m s = none) (hlc:L.length ≤ lc) :
 Calls Tryz.prog 189 #[.slice (some ⟨g,0,none⟩) L.length lc,.int .u64 (s:Int)] V.drew (TabMade w V own b bm g L.length lc N L ents xs s p l):=by
 have hkl:=h.lay.kl
 have hkk:=h.lay.kk
 have hbV:b < V.heap.size:=Nat.lt_of_lt_of_le h.lt h.turns.size
 have hlen:(kinds L).length = L.length:=by simp [kinds]
 have hLK:LayK V.drew g (kinds L):=(h.lay.below (w':=V.drew) (Nat.le_refl _) (fun _ _ => rfl)).layK
 have hfew:=h.few
 have HC:=new_tabC g lc s (kinds L) V.drew own0 (32 * (1 + s)) hLK (by rw [hlen];exact hlc) hs
 rw [hlen] at HC
 refine HC.mono ?_
 rintro e w' ⟨rfl,hb,own1,ho,ht⟩
 obtain ⟨W2,r,a1,a2,a3,a4,a5,a6,a7,a8⟩:=h.made (W1:=w') (own1:=own1) hN hs hms ⟨hb.os,hb.tape,hb.output,hb.size,hb.block⟩ ho ht
 have hlk:=a6.map.look s hs
 have hlk2:=(a6.map.turn (W':=W2.drew) rfl).look s hs
 rw [show mapPut m s V.heap.size s = some V.heap.size from if_pos rfl] at hlk hlk2
 refine ⟨W2,rfl,r,a6.c61,a1,a2,hlk,hlk2,⟨(hb.cell (p:=⟨b,61,none⟩) hbV).trans h.tabs.c61,(hb.cell (p:=⟨b,0,none⟩) hbV).trans h.c0⟩,(a4 0 (by decide)).trans ((h.cells 0 (by decide)).symm.trans h.c0),?_⟩
 rintro W3 rfl
 refine (enter_tabC own1 (32 * (1 + s)) V.heap.size s (kinds L) [] (fun _ _ => []) p l W2.drew (a8.turn hkl fun _ _ _ _ => ⟨rfl,rfl⟩) (by omega) hkl hkk (by simp) List.Pairwise.nil (by simp)).mono ?_
 rintro e w3 ⟨rfl,t1,own2,t2,t3⟩
 refine ⟨rfl,?_⟩
 refine enterT_end (W1:=W2) (own1:=own1) (own2:=own2) (bm:=bm) (n:=n + 1) (tb:=V.heap.size) (m:=mapPut m s V.heap.size) hs hkl a3 a4 a5 h.me h.lt ?_ a6 (by omega) (if_pos rfl) ⟨t1.os,t1.tape,t1.output,t1.size,t1.block⟩ t2 ?_
 · intro k hk
   have:=h.turns.size
   exact (ho k (by show k < V.heap.size;omega)).trans (h.labs k hk)
 · rw [a7.1,a7.2]
   exact t3
set_option maxHeartbeats 4000000 in
set_option maxRecDepth 100000 in
theorem enterT_B (own own0:Nat → Nat) (b bm n g lc N s:Nat) (m:Nat → Option Nat) (L:List CompS) (ents:Nat → List (Int × Int)) (xs:Nat → Nat → Nat → List Value) (p l:Int) (w:World) (hR:ReadyT w (w.alloc (.cells #[.int .i64 p,.int .i64 l] 46)) own own0 b bm n g lc N m L ents xs p l) (hN:N ≤ 1000) (hs:s < 64) (hms:m s = none) (hlc:L.length ≤ lc) (w61:w.cell? ⟨b,61,none⟩ = some (.map (some bm))) :
 Calls Tryz.prog 121 #[.pointer (some ⟨b,0,none⟩),.agg #[.int .i64 p,.int .i64 l],.int .u64 (s:Int)] w (EnterT w own b N L ents xs s p l):=by
 have hlookE:=hR.tabs.map.look s hs
 rw [hms] at hlookE
 simp only [Option.map_none] at hlookE
 obtain ⟨V,hV⟩:∃ V,V = w.alloc (.cells #[.int .i64 p,.int .i64 l] 46):=⟨_,rfl⟩
 rw [← hV] at hR
 have hlook0:=hR.tabs.map.look s hs
 rw [hms] at hlook0
 simp only [Option.map_none] at hlook0
 have hq:=eql86_some bm
 have c61:=hR.tabs.c61
 have c0:=hR.c0
 have hVs:=hR.more
 have hlt:=hR.lt
 have HN:Hid (∀ W,W = V.drew → Calls Tryz.prog 189 #[.slice (some ⟨g,0,none⟩) L.length lc,.int .u64 (s:Int)] W (TabMade w V own b bm g L.length lc N L ents xs s p l)):=fun W hW => by rw [hW];exact hR.calls hN hs hms hlc
 generalize L.length = nl at HN c0 hlc
 clear hR hms
 go_enter Tryz.func121,Tryz.ntmps121
 have HV:Hid (w.alloc (.cells #[.int .i64 p,.int .i64 l] 46) = V):=hV.symm
 clear hV
 go_wp2_with fail
 rw [HV.out]
 clear w61 hlookE
 go_region_held3 (fun w' => w'.cell? ⟨b,61,none⟩ = some (.map (some bm)) ∧ w'.cell? ⟨b,0,none⟩ = some (.slice (some ⟨g,0,none⟩) nl lc)) ((first | exact ⟨a1,d0⟩ | exact k1 | exact ⟨c61,c0⟩)) ((go_at_call 189;refine (HN.out _ rfl).mono ?_;rintro e w1 ⟨W2,rfl,hup,a1,a2,a3,l1,l2,k1,d0,HEnd⟩))
 go_wp2_with fail
 go_region_with (go_at_call 190;refine (HEnd.out _ rfl).mono ?_;rintro e w2 ⟨rfl,HE⟩)
 all_goals go_end0
 all_goals exact HE.out
set_option maxHeartbeats 4000000 in
set_option maxRecDepth 100000 in
theorem enterT_A (own own0:Nat → Nat) (b n g lc N s:Nat) (m:Nat → Option Nat) (L:List CompS) (ents:Nat → List (Int × Int)) (xs:Nat → Nat → Nat → List Value) (p l:Int) (w:World) (hR:ReadyT w (((w.setCell ⟨b,61,none⟩ (.map (some (w.heap.size + 1)))).alloc (.cells #[.int .i64 p,.int .i64 l] 46)).alloc (.map #[] 0)) own own0 b (w.heap.size + 1) n g lc N m L ents xs p l) (hN:N ≤ 1000) (hs:s < 64) (hms:m s = none) (hlc:L.length ≤ lc) (w61:w.cell? ⟨b,61,none⟩ = some (.map none)) (wf:w.frozen? ⟨b,61,none⟩ = false) :
 Calls Tryz.prog 121 #[.pointer (some ⟨b,0,none⟩),.agg #[.int .i64 p,.int .i64 l],.int .u64 (s:Int)] w (EnterT w own b N L ents xs s p l):=by
 have hq0:=eql86_none
 have hmk:=@run_makeMap Tryz.prog
 have hlookE:=hR.tabs.map.look s hs
 rw [hms] at hlookE
 simp only [Option.map_none] at hlookE
 obtain ⟨V,hV⟩:∃ V,V = ((w.setCell ⟨b,61,none⟩ (.map (some (w.heap.size + 1)))).alloc (.cells #[.int .i64 p,.int .i64 l] 46)).alloc (.map #[] 0):=⟨_,rfl⟩
 rw [← hV] at hR
 have hlook0:=hR.tabs.map.look s hs
 rw [hms] at hlook0
 simp only [Option.map_none] at hlook0
 have hq:=eql86_some (w.heap.size + 1)
 have c61:=hR.tabs.c61
 have c0:=hR.c0
 have hVs:=hR.more
 have hlt:=hR.lt
 have HN:Hid (∀ W,W = V.drew → Calls Tryz.prog 189 #[.slice (some ⟨g,0,none⟩) L.length lc,.int .u64 (s:Int)] W (TabMade w V own b (w.heap.size + 1) g L.length lc N L ents xs s p l)):=fun W hW => by rw [hW];exact hR.calls hN hs hms hlc
 generalize L.length = nl at HN c0 hlc
 clear hR hms
 go_enter Tryz.func121,Tryz.ntmps121
 have HV:Hid (((w.setCell ⟨b,61,none⟩ (.map (some (w.heap.size + 1)))).alloc (.cells #[.int .i64 p,.int .i64 l] 46)).alloc (.map #[] 0) = V):=hV.symm
 clear hV
 go_wp2_with fail
 rw [HV.out]
 clear w61 wf hlookE
 go_region_held3 (fun w' => w'.cell? ⟨b,61,none⟩ = some (.map (some (w.heap.size + 1))) ∧ w'.cell? ⟨b,0,none⟩ = some (.slice (some ⟨g,0,none⟩) nl lc)) ((first | exact ⟨a1,d0⟩ | exact k1 | exact ⟨c61,c0⟩)) ((go_at_call 189;refine (HN.out _ rfl).mono ?_;rintro e w1 ⟨W2,rfl,hup,a1,a2,a3,l1,l2,k1,d0,HEnd⟩))
 go_wp2_with fail
 go_region_with (go_at_call 190;refine (HEnd.out _ rfl).mono ?_;rintro e w2 ⟨rfl,HE⟩)
 all_goals go_end0
 all_goals exact HE.out
theorem readyT_B {own:Nat → Nat} {b bm n g lc N:Nat} {m:Nat → Option Nat} {L:List CompS} {ents:Nat → List (Int × Int)} {xs:Nat → Nat → Nat → List Value} {p l:Int} {w:World} (hme:own b = 1) (hblk:∃ arr,w.heap[b]? = some (.cells arr 111 (0,0)) ∧ arr.size = 62) (hc0:w.cell? ⟨b,0,none⟩ = some (.slice (some ⟨g,0,none⟩) L.length lc)) (hL:LayN w b g L) (hT:TabsIn w own b bm n m L ents xs) (hn:n ≤ N) :
 ReadyT w (w.alloc (.cells #[.int .i64 p,.int .i64 l] 46)) own own b bm n g lc N m L ents xs p l:=by
 obtain ⟨arr,hb0,hbs⟩:=hblk
 have hlt:b < w.heap.size:=(Array.getElem?_eq_some_iff.1 hb0).1
 have hA:Below w.heap.size w (w.alloc (.cells #[.int .i64 p,.int .i64 l] 46)):=(Below.refl _ _).alloc (Nat.le_refl _) _
 exact { tabs:=hT.turn hL.kl (hA.cell (p:=⟨b,61,none⟩) hlt) (fun k hk _ => ⟨hA.block k hk,rfl⟩),c0:=(hA.cell (p:=⟨b,0,none⟩) hlt).trans hc0,h0:=by simp,h1:=by simp,lay:=hL.below hA.size (fun k hk => hA.block k (by omega)),turns:=Turns.ofBelow _ hA,cells:=fun o _ => hA.cell (p:=⟨b,o,none⟩) hlt,blk:=⟨arr,(hA.block b hlt).trans hb0,hbs⟩,labs:=fun _ _ => rfl,me:=hme,lt:=hlt,more:=by simp,few:=hn }
theorem readyT_A {own:Nat → Nat} {b g lc N:Nat} {L:List CompS} {ents:Nat → List (Int × Int)} {xs:Nat → Nat → Nat → List Value} {p l:Int} {w:World} (hme:own b = 1) (hblk:∃ arr,w.heap[b]? = some (.cells arr 111 (0,0)) ∧ arr.size = 62) (hc0:w.cell? ⟨b,0,none⟩ = some (.slice (some ⟨g,0,none⟩) L.length lc)) (hL:LayN w b g L) (hT:∀ s,s < 64 → ents s = [] ∧ xs s = fun _ _ => []) (hN:1 ≤ N) :
 ReadyT w (((w.setCell ⟨b,61,none⟩ (.map (some (w.heap.size + 1)))).alloc (.cells #[.int .i64 p,.int .i64 l] 46)).alloc (.map #[] 0)) own (fun k => if k = w.heap.size + 1 then 2 else own k) b (w.heap.size + 1) 1 g lc N (fun _ => none) L ents xs p l:=by
 obtain ⟨arr,hb0,hbs⟩:=hblk
 have hlt:b < w.heap.size:=(Array.getElem?_eq_some_iff.1 hb0).1
 have hs:(w.setCell ⟨b,61,none⟩ (.map (some (w.heap.size + 1)))).heap.size = w.heap.size:=by simp [World.setCell]
 have hA:Below w.heap.size (w.setCell ⟨b,61,none⟩ (.map (some (w.heap.size + 1)))) (((w.setCell ⟨b,61,none⟩ (.map (some (w.heap.size + 1)))).alloc (.cells #[.int .i64 p,.int .i64 l] 46)).alloc (.map #[] 0)):=(((Below.refl w.heap.size (w.setCell ⟨b,61,none⟩ (.map (some (w.heap.size + 1))))).alloc (by rw [hs];exact Nat.le_refl _) _).alloc (by simp [World.setCell]) _)
 have hbk:(((w.setCell ⟨b,61,none⟩ (.map (some (w.heap.size + 1)))).alloc (.cells #[.int .i64 p,.int .i64 l] 46)).alloc (.map #[] 0)).heap[b]? = some (.cells (arr.setIfInBounds 61 (.map (some (w.heap.size + 1)))) 111 (0,0)):=(hA.block b hlt).trans (setCell_block _ hb0)
 have hc:∀ o,o ≠ 61 → (((w.setCell ⟨b,61,none⟩ (.map (some (w.heap.size + 1)))).alloc (.cells #[.int .i64 p,.int .i64 l] 46)).alloc (.map #[] 0)).cell? ⟨b,o,none⟩ = w.cell? ⟨b,o,none⟩:=fun o ho => (hA.cell (p:=⟨b,o,none⟩) hlt).trans (set_other _ (Or.inr ho))
 have hT':Turns w (((w.setCell ⟨b,61,none⟩ (.map (some (w.heap.size + 1)))).alloc (.cells #[.int .i64 p,.int .i64 l] 46)).alloc (.map #[] 0)) (Tur own):=⟨rfl,rfl,rfl,by first | (simp [World.setCell];done) | (simp [World.setCell];omega),fun k hk hn => (hA.block k hk).trans (Below.heap_setCell _ _ _ _ (fun e => hn (by have e':k = b:=e;rw [e'];exact Or.inl hme)))⟩
 have hmap:MapAt (((w.setCell ⟨b,61,none⟩ (.map (some (w.heap.size + 1)))).alloc (.cells #[.int .i64 p,.int .i64 l] 46)).alloc (.map #[] 0)) (w.heap.size + 1) none:=by
  have h:=World.ownsMap_made ((w.setCell ⟨b,61,none⟩ (.map (some (w.heap.size + 1)))).alloc (.cells #[.int .i64 p,.int .i64 l] 46)) Tryz.prog 105 ptrElem
  have e:((w.setCell ⟨b,61,none⟩ (.map (some (w.heap.size + 1)))).alloc (.cells #[.int .i64 p,.int .i64 l] 46)).heap.size = w.heap.size + 1:=by simp [World.setCell]
  rw [e] at h
  exact h.mono (by omega)
 exact { tabs:=⟨by rw [cell_row hbk,Array.getElem?_setIfInBounds_self_of_lt (by omega)],if_pos rfl,MapM.ofNone hmap,fun s hs => Or.inl ⟨rfl,hT s hs⟩⟩,c0:=(hc 0 (by decide)).trans hc0,
         h0:=by rw [World.cell?_alloc_lt _ _ _ (by simp [World.setCell])];rw [cell_row (heap_alloc_at (by rw [hs]) _)];rfl,h1:=by rw [World.cell?_alloc_lt _ _ _ (by simp [World.setCell])];rw [cell_row (heap_alloc_at (by rw [hs]) _)];rfl,
         lay:=hL.below hT'.size (fun k hk => (hA.block k (by omega)).trans (Below.heap_setCell _ _ _ _ (by show k ≠ b;omega))),turns:=hT',cells:=hc,blk:=⟨_,hbk,by simp [hbs]⟩,labs:=fun k hk => if_neg (by omega),me:=hme,lt:=hlt,more:=by first | (simp [World.setCell];done) | (simp [World.setCell];omega),few:=hN }
set_option maxHeartbeats 4000000 in
set_option maxRecDepth 100000 in
theorem enterT_C (own:Nat → Nat) (b bm n N s tb:Nat) (m:Nat → Option Nat) (L:List CompS) (ents:Nat → List (Int × Int)) (xs:Nat → Nat → Nat → List Value) (p l:Int) (w:World) (hme:own b = 1) (hblk:∃ arr,w.heap[b]? = some (.cells arr 111 (0,0)) ∧ arr.size = 62) (hkl:∀ k,((kinds L).getD k []).length ≤ 4) (hkk:∀ k,∀ x ∈ (kinds L).getD k [],1 ≤ x ∧ x ≤ 5) (hT:TabsIn w own b bm n m L ents xs) (hn:n ≤ N) (hs:s < 64) (hms:m s = some tb)
 (hl:(ents s).length ≤ 99) (hsort:(ents s).Pairwise fun a b => a.1 < b.1) (hx1:∀ k f,∀ u ∈ xs s k f,u.oneCell' = true) :
 Calls Tryz.prog 121 #[.pointer (some ⟨b,0,none⟩),.agg #[.int .i64 p,.int .i64 l],.int .u64 (s:Int)] w (EnterT w own b N L ents xs s p l):=by
 obtain ⟨arr,hb0,hbs⟩:=hblk
 have hlt:b < w.heap.size:=(Array.getElem?_eq_some_iff.1 hb0).1
 obtain ⟨V,hV⟩:∃ V,V = w.alloc (.cells #[.int .i64 p,.int .i64 l] 46):=⟨_,rfl⟩
 have hA:Below w.heap.size w V:=by rw [hV];exact (Below.refl _ _).alloc (Nat.le_refl _) _
 have hT1:TabsIn V own b bm n m L ents xs:=hT.turn hkl (hA.cell (p:=⟨b,61,none⟩) hlt) (fun k hk _ => ⟨hA.block k hk,rfl⟩)
 have hlook0:=hT1.map.look s hs
 have hlook1:=(hT1.map.turn (W':=V.drew) rfl).look s hs
 rw [hms] at hlook0 hlook1
 simp only [Option.map_some] at hlook0 hlook1
 have h61:=hT.c61
 have HC:Hid (∀ W,W = V.drew → Calls Tryz.prog 190 #[.pointer (some ⟨tb,0,none⟩),.agg #[.int .i64 p,.int .i64 l]] W fun e w3 => e = .returned (.tuple #[]) ∧ Hid (EnterT w own b N L ents xs s p l (.returned (.tuple #[])) w3)):=by
  rintro W rfl
  obtain ⟨tb',q1,q2⟩:∃ tb',m s = some tb' ∧ TabC V own (32 * (1 + s)) tb' s (kinds L) (ents s) (xs s):=by
   rcases hT1.tab s hs with ⟨q,_⟩ | q
   · rw [hms] at q;cases q
   · exact q
  rw [hms] at q1
  cases q1
  refine (enter_tabC own (32 * (1 + s)) tb s (kinds L) (ents s) (xs s) p l V.drew (q2.turn hkl fun _ _ _ _ => ⟨rfl,rfl⟩) (by omega) hkl hkk hl hsort hx1).mono ?_
  rintro e w3 ⟨rfl,t1,own2,t2,t3⟩
  exact ⟨rfl,enterT_end (W1:=V) (own1:=own) (own2:=own2) (bm:=bm) (n:=n) (tb:=tb) (m:=m) hs hkl (Turns.ofBelow _ hA) (fun o _ => hA.cell (p:=⟨b,o,none⟩) hlt) ⟨arr,(hA.block b hlt).trans hb0,hbs⟩ hme hlt (fun _ _ => rfl) hT1 (by omega) hms ⟨t1.os,t1.tape,t1.output,t1.size,t1.block⟩ t2 t3⟩
 have HB0:Hid (w.heap[b]? = some (.cells arr 111 (0,0))):=hb0
 rw [hV] at HC hlook0 hlook1
 clear hT hT1 hsort hA hb0 hV hms hx1 hkl hkk
 go_enter Tryz.func121,Tryz.ntmps121
 have hq:=eql86_some bm
 go_wp2_with fail
 go_region_with (go_at_call 190;refine (HC.out _ rfl).mono ?_;rintro e w2 ⟨rfl,HE⟩)
 all_goals go_end0
 all_goals exact HE.out
theorem enter_wt (own:Nat → Nat) (b g lc N s:Nat) (L:List CompS) (ents:Nat → List (Int × Int)) (xs:Nat → Nat → Nat → List Value) (p l:Int) (w:World) (hme:own b = 1) (hblk:∃ arr,w.heap[b]? = some (.cells arr 111 (0,0)) ∧ arr.size = 62) (hc0:w.cell? ⟨b,0,none⟩ = some (.slice (some ⟨g,0,none⟩) L.length lc)) (hlc:L.length ≤ lc) (hL:LayN w b g L) (hT:TabsW w own b N L ents xs) (hN:N ≤ 1000) (hN1:1 ≤ N) (hs:s < 64)
 (hl:(ents s).length ≤ 99) (hsort:(ents s).Pairwise fun a b => a.1 < b.1) (hx1:∀ k f,∀ u ∈ xs s k f,u.oneCell' = true) :
 Calls Tryz.prog 121 #[.pointer (some ⟨b,0,none⟩),.agg #[.int .i64 p,.int .i64 l],.int .u64 (s:Int)] w (EnterT w own b N L ents xs s p l):=by
 rcases hT with ⟨h1,h2⟩ | ⟨bm,n,m,h1,h2⟩
 · obtain ⟨arr,hb0,hbs⟩:=hblk
   exact enterT_A own _ b 1 g lc N s (fun _ => none) L ents xs p l w (readyT_A hme ⟨arr,hb0,hbs⟩ hc0 hL h2 hN1) hN hs rfl hlc h1 (frozen_row hb0 61)
 · cases hms:m s with
   | none => exact enterT_B own own b bm n g lc N s m L ents xs p l w (readyT_B hme hblk hc0 hL h1 h2) hN hs hms hlc h1.c61
   | some tb => exact enterT_C own b bm n N s tb m L ents xs p l w hme hblk hL.kl hL.kk h1 h2 hs hms hl hsort hx1
end Go.Proofs.YthkbeaffkcfgiabGreatDoor
