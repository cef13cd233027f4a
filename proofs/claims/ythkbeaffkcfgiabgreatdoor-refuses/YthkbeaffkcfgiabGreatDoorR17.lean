import Derived.Test.YthkbeaffkcfgiabGreatDoorR14
import Derived.Test.YthkbeaffkcfgiabGreatDoorR13
import Derived.Test.YthkbeaffkcfgiabGreatDoorR16
set_option linter.unusedSimpArgs false
set_option linter.unusedVariables false
namespace Go.Proofs.YthkbeaffkcfgiabGreatDoor
open Go.RowKit
def openingL (c:CompS):List UInt8:=if c.2 = [] then c.1 ++ [10] else c.1 ++ [32]
set_option maxHeartbeats 800000 in
theorem opening_any (c:CompS) (fs:Value) (w:World) (hF:FieldsN w fs c.2) (hc:CompOk c) :
 Calls Tryz.prog 236 #[.agg #[.string (mk c.1),fs]] w fun e w' => e = .returned (.string (mk (openingL c))) ∧ w' = w.alloc (.cells #[.string (mk c.1),fs] 138):=by
 obtain ⟨fa,fc,rfl⟩:=hF.form
 have s1:¬ 9223372036854775807 < (mk c.1).size + 1:=by rw [size_mk];have:=hc.1;omega
 have hc2:=hc.2.1
 clear hF hc
 by_cases h0:c.2 = []
 · have hl:c.2.length = 0:=by rw [h0];rfl
   have HO:Hid (openingL c = c.1 ++ [10]):=by show _ = _;unfold openingL;rw [if_pos h0]
   have e1:mk c.1 ++ (⟨#[10]⟩:ByteArray) = mk (c.1 ++ [10]):=mk_append c.1 [10]
   rw [hl]
   clear h0 hl
   go_enter Tryz.func236,Tryz.ntmps236
   go_wp2
   go_ret
   rw [HO.out]
   exact ⟨rfl,rfl⟩
 · have hl:0 < c.2.length:=List.length_pos_iff.2 h0
   have HO:Hid (openingL c = c.1 ++ [32]):=by show _ = _;unfold openingL;rw [if_neg h0]
   have e1:mk c.1 ++ (⟨#[32]⟩:ByteArray) = mk (c.1 ++ [32]):=mk_append c.1 [32]
   generalize c.2.length = m at hl hc2 ⊢
   have hm:((m:Int) == 0) = false:=by simp;omega
   have hm2:¬ m = 0:=by omega
   clear h0
   go_enter Tryz.func236,Tryz.ntmps236
   go_wp2
   go_ret
   rw [HO.out]
   exact ⟨rfl,rfl⟩
theorem fieldsGoL_len:∀ (fs:List (List UInt8 × Nat)) (acc:List SV) (l:List UInt8) {vs:List SV} {r:List UInt8},fieldsGoL fs acc l = some (vs,r) → r.length ≤ l.length
 | [],acc,l,vs,r,h => by simp [fieldsGoL] at h;rw [← h.2];exact Nat.le_refl _
 | f :: fs,acc,l,vs,r,h => by
  rw [fieldsGoL] at h
  split at h
  · split at h
    · cases h
    · rename_i x q hb
      have h1:=fieldsGoL_len fs _ _ h
      have h2:=valueL_len hb
      have h3:=trim_len l (32 :: (f.1 ++ [61]))
      omega
  · cases h
theorem lineL_len {c:CompS} {l r:List UInt8} {vs:List SV} (h:lineL c l = some (vs,r)):r.length ≤ l.length:=by
 unfold lineL at h
 split at h
 · split at h
   · cases h
   · rename_i ws q hb
     split at h
     · simp at h
       have h1:=fieldsGoL_len _ _ _ hb
       have h2:=trim_len l c.1
       have h3:=trim_len q [10]
       rw [← h.2];omega
     · cases h
 · cases h
structure LayN (w:World) (b0 g:Nat) (L:List CompS):Prop where
 lt:g < b0
 le:b0 ≤ w.heap.size
 few:L.length ≤ 6
 comp:∀ j (h:j < L.length),CompOk L[j] ∧ w.cell? ⟨g,j * 2,none⟩ = some (.string (mk L[j].1)) ∧ ∃ fs,w.cell? ⟨g,j * 2 + 1,none⟩ = some fs ∧ FieldsN w fs L[j].2 ∧ ∀ k,fs.ownBlock = some k → k < b0
theorem LayN.below {w w':World} {b0 g:Nat} {L:List CompS} (h:LayN w b0 g L) (hs:w.heap.size ≤ w'.heap.size) (hb:∀ k,k < b0 → w'.heap[k]? = w.heap[k]?):LayN w' b0 g L :=
 ⟨h.lt,Nat.le_trans h.le hs,h.few,fun j hj => by
  obtain ⟨h1,h2,fs,h3,h4,h5⟩:=h.comp j hj
  exact ⟨h1,(World.cell?_of_block (a:=⟨g,j * 2,none⟩) (hb g h.lt)).trans h2,fs,(World.cell?_of_block (a:=⟨g,j * 2 + 1,none⟩) (hb g h.lt)).trans h3,h4.keep hs fun k hk _ => hb k (h5 k hk),h5⟩⟩
structure Ent where
 c:Nat
 vs:List (List SV)
def compsGoL:Nat → List CompS → Ent → List UInt8 → Option (Ent × List UInt8)
 | _,[],e,l => some (e,l)
 | k,c :: cs,e,l => if Lib.hasPrefix l (openingL c) then
  match lineL c l with
  | none => none
  | some (vs,r) => compsGoL (k + 1) cs ⟨e.c ||| 2 ^ k,e.vs.set k vs⟩ r
  else compsGoL (k + 1) cs e l
def entityL (L:List CompS) (l:List UInt8):Option (Ent × List UInt8) :=
 if Lib.hasPrefix l [101,10] then compsGoL 0 L ⟨0,List.replicate 6 []⟩ (Lib.trimPrefix l [101,10]) else none
def entCells (c:Nat) (sl:Nat → Value):List Value:=[.int .u64 c,sl 0,sl 1,sl 2,sl 3,sl 4,sl 5]
def EntOwn (W:World) (B:Nat) (e:Ent) (sl:Nat → Value) (lv:Nat → List Value):Prop:=∀ k,k < 6 → ValsOwn W B (sl k) (e.vs.getD k []) (lv k)
def EEnds (w:World) (rb:Nat) (r:Option (Ent × List UInt8)) (e:Ending) (w':World):Prop :=
 (∃ x l sl lv,r = some (x,l) ∧ e = .returned (.agg (entCells x.c sl).toArray) ∧ x.c < 64 ∧ x.vs.length = 6 ∧ Rd w w' rb 271 [] l ∧ EntOwn w' w.heap.size x sl lv) ∨ (r = none ∧ e = .panicked wrongS ∧ Turns w w' (fun k => k = rb))
theorem row7 {w:World} {b:Nat} {a0 a1 a2 a3 a4 a5 a6:Value} {t:TypeId} (h:w.heap[b]? = some (.cells #[a0,a1,a2,a3,a4,a5,a6] t (0,0))) :
 w.cell? ⟨b,0,none⟩ = some a0 ∧ w.cell? ⟨b,1,none⟩ = some a1 ∧ w.cell? ⟨b,2,none⟩ = some a2 ∧ w.cell? ⟨b,3,none⟩ = some a3 ∧ w.cell? ⟨b,4,none⟩ = some a4 ∧ w.cell? ⟨b,5,none⟩ = some a5 ∧ w.cell? ⟨b,6,none⟩ = some a6 ∧
 w.frozen? ⟨b,0,none⟩ = false ∧ w.frozen? ⟨b,1,none⟩ = false ∧ w.frozen? ⟨b,2,none⟩ = false ∧ w.frozen? ⟨b,3,none⟩ = false ∧ w.frozen? ⟨b,4,none⟩ = false ∧ w.frozen? ⟨b,5,none⟩ = false ∧ w.frozen? ⟨b,6,none⟩ = false:=by
 refine ⟨?_,?_,?_,?_,?_,?_,?_,frozen_row h _,frozen_row h _,frozen_row h _,frozen_row h _,frozen_row h _,frozen_row h _,frozen_row h _⟩ <;> rw [cell_row h] <;> rfl
theorem entCells_set (c:Nat) (sl:Nat → Value) (k:Nat) (hk:k < 6) (v:Value):(entCells c sl).toArray.setIfInBounds (1 + k) v = (entCells c (upd sl k v)).toArray:=by
 have h:k = 0 ∨ k = 1 ∨ k = 2 ∨ k = 3 ∨ k = 4 ∨ k = 5:=by omega
 rcases h with rfl | rfl | rfl | rfl | rfl | rfl <;> rfl
theorem entCells_get (c:Nat) (sl:Nat → Value) (k:Nat) (hk:k < 6):(entCells c sl).toArray[1 + k]? = some (sl k):=by
 have h:k = 0 ∨ k = 1 ∨ k = 2 ∨ k = 3 ∨ k = 4 ∨ k = 5:=by omega
 rcases h with rfl | rfl | rfl | rfl | rfl | rfl <;> rfl
theorem or_lt (c k:Nat) (hc:c < 64) (hk:k < 6):c ||| 2 ^ k < 64:=by
 have h:(2:Nat) ^ k < 2 ^ 6:=Nat.pow_lt_pow_right (by omega) hk
 exact Nat.or_lt_two_pow (n:=6) hc h
structure EntAt (w wr:World) (rb eb:Nat) (L:List CompS) (k:Nat) (x:Ent) (r:List UInt8) (sl:Nat → Value) (lv:Nat → List Value):Prop where
 small:x.c < 64
 six:x.vs.length = 6
 own:EntOwn wr (w.heap.size + 1) x sl lv
 blk:wr.heap[eb]? = some (.cells (entCells x.c sl).toArray 164 (0,0))
 res:wr.heap[w.heap.size]? = some (.cells #[.int .u64 0,.slice none 0 0,.slice none 0 0,.slice none 0 0,.slice none 0 0,.slice none 0 0,.slice none 0 0] 164 (0,0))
 rd:Rd w wr rb 271 [] r
theorem own_keepT {W W':World} {B e sz n:Nat} {v:Value} {xs:List Value} (h:W.ownsRow B e sz v n xs) (hb:∀ i cs,B ≤ i → W.heap[i]? = some (.cells cs e (0,0)) → W'.heap[i]? = W.heap[i]?):W'.ownsRow B e sz v n xs:=by
 refine own_turn h fun k hk _ => ?_
 rcases h.2 with ⟨h1,_⟩ | ⟨g,cap,cur,h1,h2,h3,_⟩
 · rw [h1] at hk;cases hk
 · rw [h1] at hk;simp [Value.ownBlock] at hk;subst hk;exact hb g cur h2 h3
theorem ValsOwn.keepT {W W':World} {B:Nat} {v:Value} {vs:List SV} {lvs:List Value} (h:ValsOwn W B v vs lvs) (hb:∀ i cs t,B ≤ i → W.heap[i]? = some (.cells cs t (0,0)) → (t = 56 ∨ t = 3) → W'.heap[i]? = W.heap[i]?):ValsOwn W' B v vs lvs :=
 ⟨h.len,own_keepT h.row fun i cs h1 h2 => hb i cs 56 h1 h2 (Or.inl rfl),fun j hj hj' => own_keepT (h.lists j hj hj') fun i cs h1 h2 => hb i cs 3 h1 h2 (Or.inr rfl)⟩
theorem ValsOwn.base {W:World} {B B':Nat} {v:Value} {vs:List SV} {lvs:List Value} (h:ValsOwn W B v vs lvs) (hb:B' ≤ B):ValsOwn W B' v vs lvs:=⟨h.len,own_base h.row hb,fun j hj hj' => own_base (h.lists j hj hj') hb⟩
theorem type_ne {W:World} {i b:Nat} {cs cs':Array Value} {t t':TypeId} (h:W.heap[i]? = some (.cells cs t (0,0))) (h':W.heap[b]? = some (.cells cs' t' (0,0))) (ht:t ≠ t'):i ≠ b:=by
 rintro rfl
 rw [h] at h'
 simp at h'
 exact ht h'.2
theorem EntAt.step {w V w5:World} {rb eb:Nat} {L:List CompS} {k:Nat} {x:Ent} {r r5:List UInt8} {sl:Nat → Value} {lv:Nat → List Value} {vs:List SV} {v:Value} {lvs:List Value} (h:EntAt w V rb eb L k x r sl lv) (hk:k < 6) (hrb:rb < w.heap.size) (heb:w.heap.size < eb)
 (hr:Rd (V.setCell ⟨eb,0,none⟩ (.int .u64 ((x.c ||| 2 ^ k:Nat):Int))) w5 rb 271 [] r5) (hv:ValsOwn w5 (V.setCell ⟨eb,0,none⟩ (.int .u64 ((x.c ||| 2 ^ k:Nat):Int))).heap.size v vs lvs) :
 EntAt w (w5.setCell ⟨eb,1 + k,none⟩ v) rb eb L (k + 1) ⟨x.c ||| 2 ^ k,x.vs.set k vs⟩ r5 (upd sl k v) (upd lv k lvs):=by
 obtain ⟨V1,hV1⟩:∃ V1,V1 = V.setCell ⟨eb,0,none⟩ (.int .u64 ((x.c ||| 2 ^ k:Nat):Int)):=⟨_,rfl⟩
 rw [← hV1] at hr hv
 have heV:eb < V.heap.size:=(Array.getElem?_eq_some_iff.1 h.blk).1
 have hsz1:V1.heap.size = V.heap.size:=by rw [hV1];simp [World.setCell]
 have hrV:rb < V.heap.size:=h.rd.rest.lt
 have hs:=h.rd.turns.size
 have b1:V1.heap[eb]? = some (.cells (entCells (x.c ||| 2 ^ k) sl).toArray 164 (0,0)):=by rw [hV1,setCell_block _ h.blk];rfl
 have b5:w5.heap[eb]? = some (.cells (entCells (x.c ||| 2 ^ k) sl).toArray 164 (0,0)):=(hr.turns.block eb (by omega) (by omega)).trans b1
 have o1:∀ i,i ≠ eb → V1.heap[i]? = V.heap[i]?:=fun i hi => by rw [hV1];exact heapSet hi
 refine ⟨or_lt _ _ h.small hk,by simp [h.six],fun j hj => ?_,?_,?_,?_⟩
 · by_cases e:j = k
   · subst e
     have e1:(x.vs.set j vs).getD j [] = vs:=by simp [List.getD,h.six,hj]
     show ValsOwn _ _ _ ((x.vs.set j vs).getD j []) _
     rw [e1,upd_same,upd_same]
     exact (hv.keep fun i hi _ => heapSet (by omega)).base (by omega)
   · have e1:(x.vs.set k vs).getD j [] = x.vs.getD j []:=by simp [List.getD,List.getElem?_set_ne (Ne.symm e)]
     show ValsOwn _ _ _ ((x.vs.set k vs).getD j []) _
     rw [e1,upd_ne _ _ _ e,upd_ne _ _ _ e]
     refine (h.own j hj).keepT fun i cs t hi1 hi2 hi3 => ?_
     have hil:i < V.heap.size:=(Array.getElem?_eq_some_iff.1 hi2).1
     have hne:i ≠ eb:=type_ne hi2 h.blk (by rcases hi3 with rfl | rfl <;> decide)
     have hnr:i ≠ rb:=by omega
     rw [heapSet hne,hr.turns.block i (by omega) hnr,o1 i hne]
 · rw [setCell_block _ b5,entCells_set _ _ _ hk]
 · rw [heapSet (by omega),hr.turns.block _ (by have:=(Array.getElem?_eq_some_iff.1 h.res).1;omega) (by omega),o1 _ (by omega)]
   exact h.res
 · have r1:Rd w V1 rb 271 [] r:=by rw [hV1];exact h.rd.set _ _ _ (by omega) hrb
   exact (r1.trans hr).set _ _ _ (by omega) hrb
theorem EntAt.keep {w wr V:World} {rb eb:Nat} {L:List CompS} {k:Nat} {x:Ent} {r:List UInt8} {sl:Nat → Value} {lv:Nat → List Value} (h:EntAt w wr rb eb L k x r sl lv) (hb:Below wr.heap.size wr V) (he:eb < wr.heap.size) (_hrb:rb < w.heap.size):EntAt w V rb eb L k x r sl lv :=
 ⟨h.small,h.six,fun j hj => (h.own j hj).keep fun i _ hi => hb.block i hi,(hb.block eb he).trans h.blk,(hb.block _ (Array.getElem?_eq_some_iff.1 h.res).1).trans h.res,h.rd.below hb⟩
set_option maxHeartbeats 6400000 in
set_option maxRecDepth 20000 in
theorem entity_any (rb b0 g:Nat) (L:List CompS) (lc:Nat) (l:List UInt8) (w:World) (hR:RdAt w rb 271 [] l) (hl:l.length ≤ 2 ^ 40) (hG:Glob w) (hrb8:11 ≤ rb) (hL:LayN w b0 g L) (hb0:b0 ≤ rb) (hlc:L.length ≤ lc) :
 Calls Tryz.prog 184 #[.pointer (some ⟨rb,0,none⟩),.slice (some ⟨g,0,none⟩) L.length lc] w (EEnds w rb (entityL L l)):=by
 have hrb:=hR.lt
 obtain ⟨n,hn⟩:∃ n,n = L.length:=⟨_,rfl⟩
 have HN:Hid (n = L.length):=hn
 have hn6:n ≤ 6:=by rw [hn];exact hL.few
 rw [← hn] at hlc ⊢
 have HL:Hid (LayN w b0 g L):=hL
 have HGl:Hid (Glob w):=hG
 obtain ⟨W1,hW1⟩:∃ W1,W1 = w.alloc (.cells #[.int .u64 0,.slice none 0 0,.slice none 0 0,.slice none 0 0,.slice none 0 0,.slice none 0 0,.slice none 0 0] 164):=⟨_,rfl⟩
 have hB1:Below w.heap.size w W1:=by rw [hW1];exact (Below.refl _ _).alloc (Nat.le_refl _) _
 have hs1:W1.heap.size = w.heap.size + 1:=by rw [hW1];simp
 have hbl:W1.heap[w.heap.size]? = some (.cells #[.int .u64 0,.slice none 0 0,.slice none 0 0,.slice none 0 0,.slice none 0 0,.slice none 0 0,.slice none 0 0] 164 (0,0)):=by rw [hW1];exact heap_alloc_at rfl _
 have HS:Hid (Calls Tryz.prog 186 #[.pointer (some ⟨rb,0,none⟩),.string (mk [101,10])] W1 fun e w' => ((Lib.hasPrefix l [101,10] = true ∧ e = .returned (.tuple #[])) ∨ (Lib.hasPrefix l [101,10] = false ∧ e = .panicked wrongS)) ∧ Rd w w' rb 271 [] (Lib.trimPrefix l [101,10]) ∧ w'.heap[w.heap.size]? = some (.cells #[.int .u64 0,.slice none 0 0,.slice none 0 0,.slice none 0 0,.slice none 0 0,.slice none 0 0,.slice none 0 0] 164 (0,0))):=by
  refine (skip_any rb 271 [] l [101,10] W1 (hR.below hB1)).mono ?_
  rintro e w' ⟨h1,h2⟩
  exact ⟨h1,⟨h2.rest,(Turns.ofBelow _ hB1).trans' h2.turns⟩,(h2.turns.block w.heap.size (by omega) (by omega)).trans hbl⟩
 rw [hW1] at HS
 clear hR hG hL hn hB1 hs1 hbl hW1
 go_enter Tryz.func184,Tryz.ntmps184
 go_wp2_with fail
 refine Calls.mono HS.out ?_
 rintro e w2 ⟨⟨h1,rfl⟩ | ⟨h1,rfl⟩,h2,h3⟩
 · have HE:Hid (entityL L l = compsGoL 0 L ⟨0,List.replicate 6 []⟩ (Lib.trimPrefix l [101,10])):=by show _ = _;unfold entityL;rw [h1];rfl
   have hl2:=trim_len l [101,10]
   have hs2:w.heap.size < w2.heap.size:=(Array.getElem?_eq_some_iff.1 h3).1
   have HR2:Hid (Rd w w2 rb 271 [] (Lib.trimPrefix l [101,10])):=h2
   have HB2:Hid (w2.heap[w.heap.size]? = some (.cells #[.int .u64 0,.slice none 0 0,.slice none 0 0,.slice none 0 0,.slice none 0 0,.slice none 0 0,.slice none 0 0] 164 (0,0))):=h3
   clear h1 h2 h3 HS
   generalize Lib.trimPrefix l [101,10] = l1 at HE HR2 hl2
   go_wp2_with fail
   go_loopw [14] (fun t wr => ∃ (k:Nat) (x:Ent) (r:List UInt8) (sl:Nat → Value) (lv:Nat → List Value),k ≤ n ∧ t = .int .i64 k ∧ r.length ≤ 2 ^ 40 ∧ w2.heap.size < wr.heap.size ∧ Hid (entityL L l = compsGoL k (L.drop k) x r) ∧ Hid (EntAt w wr rb w2.heap.size L k x r sl lv)) (fun t _ => n - (intOf t).toNat)
   case atStart =>
    refine ⟨0,⟨0,List.replicate 6 []⟩,l1,fun _ => .slice none 0 0,fun _ => [],by omega,rfl,by omega,by simp,HE,⟨by simp,by simp,fun k hk => ?_,heap_alloc_at rfl _,(Below.heap_alloc _ _ _ hs2).trans HB2.out,HR2.out.below ((Below.refl _ _).alloc (Nat.le_refl _) _)⟩⟩
    have e:(List.replicate 6 ([]:List SV)).getD k [] = []:=by
     have h:k = 0 ∨ k = 1 ∨ k = 2 ∨ k = 3 ∨ k = 4 ∨ k = 5:=by omega
     rcases h with rfl | rfl | rfl | rfl | rfl | rfl <;> rfl
    show ValsOwn _ _ _ ((List.replicate 6 ([]:List SV)).getD k []) _
    rw [e]
    exact ⟨rfl,World.ownsRow_nil _ _ _ _,fun j h => by simp at h⟩
   case round =>
    obtain ⟨k,x,r,sl,lv,hk,rfl,hr,hsr,HC,HA⟩:=hrel
    by_cases hlt:k < n
    · have hkl:k < L.length:=by rw [← HN.out];exact hlt
      have hk6:k < 6:=by omega
      have HLr:Hid (LayN wr b0 g L):=HL.out.below HA.out.rd.turns.size fun j hj => HA.out.rd.turns.block j (by have:=HL.out.le;omega) (by omega)
      obtain ⟨hco,e0,fs,e1,hfs,hfb⟩:=HLr.out.comp k hkl
      obtain ⟨fa,fc,hff⟩:=hfs.form
      have HC2:Hid (entityL L l = compsGoL k (L[k] :: L.drop (k + 1)) x r):=by show _ = _;rw [HC.out,List.drop_eq_getElem_cons hkl]
      have HCo:Hid (CompOk L[k]):=hco
      have HFs:Hid (FieldsN wr fs L[k].2):=hfs
      have HFb:Hid (∀ j,fs.ownBlock = some j → j < b0):=hfb
      clear hco hfs hfb
      generalize L[k] = c at e0 e1 HC2 HCo HFs hff
      have hc0:=HA.out.rd.rest.cell
      subst hff
      obtain ⟨Wa,hWa⟩:∃ Wa,Wa = wr.alloc (.cells #[.string (mk c.1),.slice fa c.2.length fc] 138):=⟨_,rfl⟩
      have hBa:Below wr.heap.size wr Wa:=by rw [hWa];exact (Below.refl _ _).alloc (Nat.le_refl _) _
      have HOp:Hid (Calls Tryz.prog 236 #[.agg #[.string (mk c.1),.slice fa c.2.length fc]] Wa.drew fun e w' => e = .returned (.string (mk (openingL c))) ∧ w' = Wa.drew.alloc (.cells #[.string (mk c.1),.slice fa c.2.length fc] 138)):=opening_any c _ Wa.drew ((HFs.out.keep hBa.size fun j _ hj => hBa.block j hj).keep (Nat.le_refl _) fun _ _ _ => rfl) HCo.out
      have HPf:Hid (∀ W,Calls Tryz.prog 235 #[.string (mk r),.string (mk (openingL c))] W fun e w' => e = .returned (.bool (Lib.hasPrefix r (openingL c))) ∧ w' = W):=fun W => by
       have:=Tryz.strings_HasPrefix (mk r) (mk (openingL c)) W
       rw [data_mk,data_mk] at this
       exact this
      rw [hWa] at HOp
      have hrr:=HA.out.rd.rest.lt
      have hn1:rb ≠ wr.heap.size:=by omega
      have hn2:rb ≠ wr.heap.size + 1:=by omega
      clear hBa hWa
      go_wp2_with fail
      go_region_with (first | (go_at_call 236;refine Calls.mono HOp.out ?_;rintro e w3 ⟨rfl,rfl⟩) | (go_at_call 235;refine Calls.mono (HPf.out _) ?_;rintro e w3 ⟨rfl,rfl⟩))
      all_goals
       obtain ⟨V,hV⟩:∃ V,V = ((wr.alloc (.cells #[.string (mk c.1),.slice fa c.2.length fc] 138)).alloc (.cells #[.string (mk c.1),.slice fa c.2.length fc] 138)).drew:=⟨_,rfl⟩
       have hBV:Below wr.heap.size wr V:=by rw [hV];exact (below_two _ _ _).drew
       have hsV:V.heap.size = wr.heap.size + 2:=by rw [hV];simp
       have hbV:V.heap[wr.heap.size]? = some (.cells #[.string (mk c.1),.slice fa c.2.length fc] 138 (0,0)):=by
        rw [hV]
        show ((wr.alloc _).alloc _).heap[wr.heap.size]? = _
        rw [Below.heap_alloc _ _ _ (by simp)]
        exact heap_alloc_at rfl _
       have hAV:EntAt w V rb w2.heap.size L k x r sl lv:=HA.out.keep hBV hsr hrb
       rw [← hV]
       clear hV HA
       have HAV:Hid (EntAt w V rb w2.heap.size L k x r sl lv):=hAV
       have v0:V.cell? ⟨w2.heap.size,0,none⟩ = some (.int .u64 (x.c:Int)):=by rw [cell_row hAV.blk];rfl
       have vf0:V.frozen? ⟨w2.heap.size,0,none⟩ = false:=frozen_row hAV.blk _
       have vb0:V.cell? ⟨wr.heap.size,0,none⟩ = some (.string (mk c.1)):=by rw [cell_row hbV];rfl
       have vb1:V.cell? ⟨wr.heap.size,1,none⟩ = some (.slice fa c.2.length fc):=by rw [cell_row hbV];rfl
       have hne:wr.heap.size ≠ w2.heap.size:=by omega
       have HFsV:Hid (FieldsN V (.slice fa c.2.length fc) c.2):=HFs.out.keep hBV.size fun j _ hj => hBV.block j hj
       have hc64:=hAV.small
       clear hBV hbV hAV
       cases hp:Lib.hasPrefix r (openingL c) with
       | false =>
        have HC3:Hid (entityL L l = compsGoL (k + 1) (L.drop (k + 1)) x r):=by
         show _ = _
         rw [HC2.out,compsGoL,if_neg (by rw [hp];decide)]
        go_wp2_with fail
        refine ⟨⟨k + 1,x,r,sl,lv,by omega,by go_num,hr,by omega,HC3,⟨HAV.out.small,HAV.out.six,HAV.out.own,HAV.out.blk,HAV.out.res,HAV.out.rd⟩⟩,by simp [intOf];omega⟩
       | true =>
        have HC3:Hid (entityL L l = match lineL c r with
         | none => none
         | some (vs,r') => compsGoL (k + 1) (L.drop (k + 1)) ⟨x.c ||| 2 ^ k,x.vs.set k vs⟩ r'):=by
         show _ = _
         rw [HC2.out,compsGoL,if_pos hp]
        have HLn:Hid (Calls Tryz.prog 237 #[.pointer (some ⟨rb,0,none⟩),.agg #[.string (mk c.1),.slice fa c.2.length fc]] (V.setCell ⟨w2.heap.size,0,none⟩ (.int .u64 ((x.c ||| 2 ^ k:Nat):Int))) _) :=
         line_any rb c (.slice fa c.2.length fc) r _ (HAV.out.rd.rest.keep (heapSet (by omega))) hr (HGl.out.turns (HAV.out.rd.set w2.heap.size 0 _ (by omega) hrb).turns (fun j hj => by subst hj;exact hrb8)) hrb8 (HFsV.out.keep (by simp [World.setCell]) fun j hj _ => heapSet (by have:=HFb.out j hj;omega)) HCo.out (fun j hj => by have:=HFb.out j hj;omega)
        go_wp2_with (go_at_call 68;refine (with_any x.c k _ hc64 hk6).mono ?_;rintro e w3 ⟨rfl,h3⟩;obtain rfl:=h3.symm)
        refine Calls.mono HLn.out ?_
        rintro e w5 (⟨vs,r5,sa,sc,lvs,hv,rfl,ht5,ho5⟩ | ⟨hn5,rfl,ht5⟩)
        · have hst:=HAV.out.step hk6 hrb (by omega) ht5 ho5
          have HST:Hid (EntAt w (w5.setCell ⟨w2.heap.size,1 + k,none⟩ (.slice sa vs.length sc)) rb w2.heap.size L (k + 1) ⟨x.c ||| 2 ^ k,x.vs.set k vs⟩ r5 (upd sl k (.slice sa vs.length sc)) (upd lv k lvs)):=hst
          have hr5:=lineL_len hv
          have HC4:Hid (entityL L l = compsGoL (k + 1) (L.drop (k + 1)) ⟨x.c ||| 2 ^ k,x.vs.set k vs⟩ r5):=by show _ = _;rw [HC3.out,hv]
          have hs5:V.heap.size ≤ w5.heap.size:=by have:=ht5.turns.size;simpa [World.setCell] using this
          have b5:w5.heap[w2.heap.size]? = some (.cells (entCells (x.c ||| 2 ^ k) sl).toArray 164 (0,0)):=by
           rw [ht5.turns.block w2.heap.size (by simp [World.setCell];omega) (by omega),setCell_block _ HAV.out.blk];rfl
          have q0:w5.cell? ⟨w2.heap.size,1 + k,none⟩ = some (sl k):=by rw [cell_row b5,entCells_get _ _ _ hk6]
          have q1:w5.frozen? ⟨w2.heap.size,1 + k,none⟩ = false:=frozen_row b5 _
          have hkI:(k:Int) < 6:=by omega
          clear hst hv ht5 ho5 b5
          go_wp2_with fail
          refine ⟨⟨k + 1,⟨x.c ||| 2 ^ k,x.vs.set k vs⟩,r5,upd sl k (.slice sa vs.length sc),upd lv k lvs,by omega,by go_num,by omega,by simp [World.setCell];omega,HC4,HST⟩,by simp [intOf];omega⟩
        · go_wp2_with fail
          refine ⟨rfl,Or.inr ⟨by rw [HC3.out,hn5],rfl,(HAV.out.rd.set w2.heap.size 0 _ (by omega) hrb).turns.trans' ht5⟩⟩
    · obtain rfl:k = n:=by omega
      have HCe:Hid (entityL L l = some (x,r)):=by
       show _ = _
       rw [HC.out,List.drop_of_length_le (by rw [← HN.out];exact Nat.le_refl _),compsGoL]
      obtain ⟨p0,p1,p2,p3,p4,p5,p6,f0,f1,f2,f3,f4,f5,f6⟩:=row7 HA.out.res
      obtain ⟨q0,q1,q2,q3,q4,q5,q6,g0,g1,g2,g3,g4,g5,g6⟩:=row7 (a0:=.int .u64 (x.c:Int)) HA.out.blk
      have hform:∀ j,j < 6 → ∃ a m d,sl j = .slice a m d:=fun j hj => by
       obtain ⟨a,d,h⟩:=own_form (HA.out.own j hj).row
       exact ⟨a,_,d,h⟩
      obtain ⟨a0,m0,d0,s0⟩:=hform 0 (by omega)
      obtain ⟨a1,m1,d1,s1⟩:=hform 1 (by omega)
      obtain ⟨a2,m2,d2,s2⟩:=hform 2 (by omega)
      obtain ⟨a3,m3,d3,s3⟩:=hform 3 (by omega)
      obtain ⟨a4,m4,d4,s4⟩:=hform 4 (by omega)
      obtain ⟨a5,m5,d5,s5⟩:=hform 5 (by omega)
      clear hform
      have hne1:w.heap.size ≠ w2.heap.size:=by omega
      go_wp2_with fail
      refine bodyPost_ret (v:=.agg (entCells x.c sl).toArray) ?_ rfl (Or.inl ⟨x,r,sl,lv,HCe.out,rfl,HA.out.small,HA.out.six,?_,fun j hj => ?_⟩)
      · simp [results,Tryz.results184,go_sem,p0,p1,p2,p3,p4,p5,p6,entCells,s0,s1,s2,s3,s4,s5]
      · repeat (refine Rd.set ?_ _ _ _ (by omega) hrb)
        exact HA.out.rd
      · refine ((HA.out.own j hj).base (Nat.le_succ _)).keepT fun i cs t hi1 hi2 hi3 => ?_
        have hne:i ≠ w.heap.size:=type_ne hi2 HA.out.res (by rcases hi3 with rfl | rfl <;> decide)
        repeat (refine (heapSet hne).trans ?_)
        rfl
 · have HE:Hid (entityL L l = none):=by show _ = _;unfold entityL;rw [h1];rfl
   go_wp2_with fail
   exact ⟨rfl,Or.inr ⟨HE.out,rfl,h2.turns⟩⟩
end Go.Proofs.YthkbeaffkcfgiabGreatDoor
