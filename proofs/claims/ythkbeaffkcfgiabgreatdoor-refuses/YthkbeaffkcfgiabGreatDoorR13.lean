import Derived.Laws.Rows
import Derived.Laws.AppendOwnNone
import Derived.Laws.Tables
import Derived.Maps.AppendAt
import Derived.Test.YthkbeaffkcfgiabGreatDoorR09
import Derived.Test.YthkbeaffkcfgiabGreatDoorR07
import Derived.Test.YthkbeaffkcfgiabGreatDoorR01
import Derived.Test.YthkbeaffkcfgiabGreatDoorR08
set_option linter.unusedSimpArgs false
set_option linter.unusedVariables false
namespace Go.Proofs.YthkbeaffkcfgiabGreatDoor
open Go.RowKit
def valCells (k n:Int) (s:ByteArray) (p l:Int) (v:Value):Array Value:=#[.int .i64 k,.int .i64 n,.string s,.int .i64 p,.int .i64 l,v]
set_option maxHeartbeats 1600000 in
theorem get_int (cb g r n cap:Nat) (x:Int) (w:World) (c0:w.cell? ⟨cb,0,none⟩ = some (.slice (some ⟨g,0,none⟩) n cap)) (hr:r < n) (hn:n ≤ 100) (c1:w.cell? ⟨g,r,none⟩ = some (.int .i64 x)) :
 Calls Tryz.prog 361 #[.pointer (some ⟨cb,0,none⟩),.int .i64 r] w fun e w' => e = .returned (.agg (valCells 1 x ⟨#[]⟩ 0 0 (.slice none 0 0))) ∧ Below w.heap.size w w':=by
 have hb:cb < w.heap.size:=World.block_lt_of_cell? _ _ c0
 have hg:g < w.heap.size:=World.block_lt_of_cell? _ _ c1
 have hb1:cb ≠ w.heap.size:=by omega
 have hg1:g ≠ w.heap.size:=by omega
 go_enter Tryz.func361,Tryz.ntmps361
 go_wp2
 refine bodyPost_ret_by (v:=.agg (valCells 1 x ⟨#[]⟩ 0 0 (.slice none 0 0))) ?_ rfl ⟨rfl,?_⟩
 · exact results_cell_row (p:=4) (ty:=56) rfl _ _ w.heap.size 56 _ (0,0) _ rfl (heap_alloc_at rfl _) Tryz.underlying56 rfl (by kernel_rfl)
 · exact (Below.refl _ _).alloc (Nat.le_refl _) _
set_option maxHeartbeats 1600000 in
theorem get_text (cb g r n cap:Nat) (x:ByteArray) (w:World) (c0:w.cell? ⟨cb,0,none⟩ = some (.slice (some ⟨g,0,none⟩) n cap)) (hr:r < n) (hn:n ≤ 100) (c1:w.cell? ⟨g,r,none⟩ = some (.string x)) :
 Calls Tryz.prog 383 #[.pointer (some ⟨cb,0,none⟩),.int .i64 r] w fun e w' => e = .returned (.agg (valCells 3 0 x 0 0 (.slice none 0 0))) ∧ Below w.heap.size w w':=by
 have hb:cb < w.heap.size:=World.block_lt_of_cell? _ _ c0
 have hg:g < w.heap.size:=World.block_lt_of_cell? _ _ c1
 have hb1:cb ≠ w.heap.size:=by omega
 have hg1:g ≠ w.heap.size:=by omega
 go_enter Tryz.func383,Tryz.ntmps383
 go_wp2
 refine bodyPost_ret_by (v:=.agg (valCells 3 0 x 0 0 (.slice none 0 0))) ?_ rfl ⟨rfl,?_⟩
 · exact results_cell_row (p:=4) (ty:=56) rfl _ _ w.heap.size 56 _ (0,0) _ rfl (heap_alloc_at rfl _) Tryz.underlying56 rfl (by kernel_rfl)
 · exact (Below.refl _ _).alloc (Nat.le_refl _) _
set_option maxHeartbeats 1600000 in
theorem get_ref (cb g r n cap:Nat) (p l:Int) (w:World) (c0:w.cell? ⟨cb,0,none⟩ = some (.slice (some ⟨g,0,none⟩) n cap)) (hr:r < n) (hn:n ≤ 100) (c1:w.cell? ⟨g,r * 2,none⟩ = some (.int .i64 p)) (c2:w.cell? ⟨g,r * 2 + 1,none⟩ = some (.int .i64 l)) :
 Calls Tryz.prog 394 #[.pointer (some ⟨cb,0,none⟩),.int .i64 r] w fun e w' => e = .returned (.agg (valCells 4 0 ⟨#[]⟩ p l (.slice none 0 0))) ∧ Below w.heap.size w w':=by
 have hb:cb < w.heap.size:=World.block_lt_of_cell? _ _ c0
 have hg:g < w.heap.size:=World.block_lt_of_cell? _ _ c1
 have hb1:cb ≠ w.heap.size:=by omega
 have hg1:g ≠ w.heap.size:=by omega
 go_enter Tryz.func394,Tryz.ntmps394
 go_wp2
 refine bodyPost_ret_by (v:=.agg (valCells 4 0 ⟨#[]⟩ p l (.slice none 0 0))) ?_ rfl ⟨rfl,?_⟩
 · exact results_cell_row (p:=4) (ty:=56) rfl _ _ w.heap.size 56 _ (0,0) _ rfl (heap_alloc_at rfl _) Tryz.underlying56 rfl (by kernel_rfl)
 · exact (Below.refl _ _).alloc (Nat.le_refl _) _
set_option maxHeartbeats 1600000 in
theorem get_bool (cb g r n cap:Nat) (x:Bool) (w:World) (c0:w.cell? ⟨cb,0,none⟩ = some (.slice (some ⟨g,0,none⟩) n cap)) (hr:r < n) (hn:n ≤ 100) (c1:w.cell? ⟨g,r,none⟩ = some (.bool x)) :
 Calls Tryz.prog 372 #[.pointer (some ⟨cb,0,none⟩),.int .i64 r] w fun e w' => e = .returned (.agg (valCells 2 (if x then 1 else 0) ⟨#[]⟩ 0 0 (.slice none 0 0))) ∧ Below w.heap.size w w':=by
 have hb:cb < w.heap.size:=World.block_lt_of_cell? _ _ c0
 have hg:g < w.heap.size:=World.block_lt_of_cell? _ _ c1
 have hb1:cb ≠ w.heap.size:=by omega
 have hg1:g ≠ w.heap.size:=by omega
 have hb2:cb ≠ w.heap.size + 1:=by omega
 have hg2:g ≠ w.heap.size + 1:=by omega
 cases x with
 | false =>
  go_enter Tryz.func372,Tryz.ntmps372
  go_wp2
  refine bodyPost_ret_by (v:=.agg (valCells 2 0 ⟨#[]⟩ 0 0 (.slice none 0 0))) ?_ rfl ⟨rfl,?_⟩
  · exact results_cell_row (p:=4) (ty:=56) rfl _ _ w.heap.size 56 _ (0,0) _ rfl (by rw [Below.heap_alloc _ _ _ (by simp)];exact heap_alloc_at rfl _) Tryz.underlying56 rfl (by kernel_rfl)
  · exact ((Below.refl _ _).alloc (Nat.le_refl _) _).alloc (by simp) _
 | true =>
  go_enter Tryz.func372,Tryz.ntmps372
  go_wp2
  refine bodyPost_ret_by (v:=.agg (valCells 2 1 ⟨#[]⟩ 0 0 (.slice none 0 0))) ?_ rfl ⟨rfl,?_⟩
  · exact results_cell_row (p:=4) (ty:=56) rfl _ _ w.heap.size 56 _ (0,0) _ rfl (by rw [Below.heap_alloc _ _ _ (by simp)];exact heap_alloc_at rfl _) Tryz.underlying56 rfl (by kernel_rfl)
  · exact ((Below.refl _ _).alloc (Nat.le_refl _) _).alloc (by simp) _
def IntsAt (w:World) (s:Value) (l:List Int):Prop :=
 (s = .slice none 0 0 ∧ l = []) ∨ ∃ g c,s = .slice (some ⟨g,0,none⟩) l.length c ∧ g < w.heap.size ∧ ∀ j (h:j < l.length),w.cell? ⟨g,j,none⟩ = some (.int .i64 l[j])
theorem IntsAt.below {w w':World} {s:Value} {l:List Int} (h:IntsAt w s l) (hb:Below w.heap.size w w'):IntsAt w' s l:=by
 rcases h with h | ⟨g,c,h1,h2,h3⟩
 · exact Or.inl h
 · exact Or.inr ⟨g,c,h1,Nat.lt_of_lt_of_le h2 hb.size,fun j hj => (hb.cell (p:=⟨g,j,none⟩) h2).trans (h3 j hj)⟩
set_option maxHeartbeats 1600000 in
theorem fresh_any (s:Value) (l:List Int) (w:World) (hs:IntsAt w s l) (hl:l.length ≤ 1000) :
 Calls Tryz.prog 403 #[s] w fun e w' => ∃ sa sc,e = .returned (.slice sa l.length sc) ∧ w'.ownsRow w.heap.size 3 1 (.slice sa l.length sc) l.length (l.map (.int .i64)) ∧ Below w.heap.size w w':=by
 obtain ⟨i0,hi0,hz0,hz1,hz2⟩:=info_parts Tryz.cellInfoI
 have HNil:Hid (w.ownsRow w.heap.size 3 1 (.slice none 0 0) 0 []):=World.ownsRow_nil _ _ _ _
 rcases hs with ⟨rfl,rfl⟩ | ⟨g,c,rfl,h2,h3⟩
 · go_enter Tryz.func403,Tryz.ntmps403
   go_wp2_with (at_builtin;refine wpList_append_own_none rfl _ _ 54 rfl w.heap.size 3 i0 1 Tryz.underlying54 hi0 _ 0 [] rfl HNil.out rfl ?_)
   go_ret
   exact ⟨none,0,rfl,HNil.out,Below.refl _ _⟩
 · have HC:Hid (∀ j u,(l.map (Value.int .i64))[j]? = some u → w.cell? ((⟨g,0,none⟩:Addr).add j) = some u):=fun j u hj => by
    rw [Addr.add_lit,Nat.zero_add]
    rw [List.getElem?_map] at hj
    cases hq:l[j]? with
    | none => rw [hq] at hj;simp at hj
    | some x =>
     rw [hq] at hj;simp at hj
     obtain ⟨hlt,rfl⟩:=List.getElem?_eq_some_iff.1 hq
     rw [← hj];exact h3 j hlt
   obtain ⟨n,hn⟩:∃ n,n = l.length:=⟨_,rfl⟩
   have HN:Hid (n = l.length):=hn
   rw [← hn] at hl ⊢
   clear h3 hn
   go_enter Tryz.func403,Tryz.ntmps403
   go_wp2_with (at_builtin;refine wpList_append_own_at _ rfl _ _ 54 rfl w.heap.size 3 i0 _ 1 8 Tryz.underlying54 hi0 hz0 hz1 hz2 rfl (by decide) _ _ _ rfl HNil.out ⟨g,0,none⟩ n c (l.map (Value.int .i64)) rfl (by rw [List.length_map,HN.out,Nat.mul_one]) HC.out (fun u hu => by simp at hu;obtain ⟨x,_,rfl⟩:=hu;rfl) (by unfold maxLen;omega) (by omega) (Nat.le_refl _) ?_;intro v' w6 hown6 hgrow6 _ _;rw [Nat.zero_add,List.nil_append] at hown6;obtain ⟨sa',sc',rfl⟩:=own_form hown6;have HO6:Hid (w6.ownsRow w.heap.size 3 1 (.slice sa' n sc') n (l.map (.int .i64))):=hown6;have HB6:Hid (Below w.heap.size w w6):=Below.grown (Below.refl _ _) hgrow6 (Nat.le_refl _) (fun j hj => by cases hj);clear hown6 hgrow6)
   go_ret
   exact ⟨sa',sc',rfl,HO6.out,HB6.out⟩
theorem Tryz.size56:(Tryz.prog.info? 56).map (·.size) = some 6:=by kernel_rfl
set_option maxHeartbeats 1600000 in
theorem get_list (cb g r n cap:Nat) (s:Value) (l:List Int) (w:World) (c0:w.cell? ⟨cb,0,none⟩ = some (.slice (some ⟨g,0,none⟩) n cap)) (hr:r < n) (hn:n ≤ 100) (c1:w.cell? ⟨g,r,none⟩ = some s) (hs:IntsAt w s l) (hl:l.length ≤ 100) :
 Calls Tryz.prog 399 #[.pointer (some ⟨cb,0,none⟩),.int .i64 r] w fun e w' => ∃ sa sc,e = .returned (.agg (valCells 5 0 ⟨#[]⟩ 0 0 (.slice sa l.length sc))) ∧ w'.ownsRow (w.heap.size + 1) 3 1 (.slice sa l.length sc) l.length (l.map (.int .i64)) ∧ Below w.heap.size w w':=by
 have hb:cb < w.heap.size:=World.block_lt_of_cell? _ _ c0
 have hg:g < w.heap.size:=World.block_lt_of_cell? _ _ c1
 have hb1:cb ≠ w.heap.size:=by omega
 have hg1:g ≠ w.heap.size:=by omega
 obtain ⟨W1,hW1⟩:∃ W1,W1 = w.alloc (.cells #[.int .i64 0,.int .i64 0,.string ⟨#[]⟩,.int .i64 0,.int .i64 0,.slice none 0 0] 56):=⟨_,rfl⟩
 have hB:Below w.heap.size w W1:=by rw [hW1];exact (Below.refl _ _).alloc (Nat.le_refl _) _
 have hsz:W1.heap.size = w.heap.size + 1:=by rw [hW1];simp
 have h60:W1.heap[w.heap.size]? = some (.cells #[.int .i64 0,.int .i64 0,.string ⟨#[]⟩,.int .i64 0,.int .i64 0,.slice none 0 0] 56 (0,0)):=by rw [hW1];exact heap_alloc_at rfl _
 have HF:Hid (Calls Tryz.prog 403 #[s] W1 fun e w' => ∃ sa sc,e = .returned (.slice sa l.length sc) ∧ Hid (w'.ownsRow (w.heap.size + 1) 3 1 (.slice sa l.length sc) l.length (l.map (.int .i64)) ∧ Below w.heap.size w w' ∧ w'.heap[w.heap.size]? = some (.cells #[.int .i64 0,.int .i64 0,.string ⟨#[]⟩,.int .i64 0,.int .i64 0,.slice none 0 0] 56 (0,0)))):=by
  refine (fresh_any s l W1 (hs.below hB) (by omega)).mono ?_
  rintro e w' ⟨sa,sc,rfl,g1,g2⟩
  rw [hsz] at g1
  exact ⟨sa,sc,rfl,g1,hB.trans (g2.mono (by omega)),(g2.block _ (by omega)).trans h60⟩
 rw [hW1] at HF
 clear hB hsz h60 hs hl
 generalize l.length = m at HF ⊢
 go_enter Tryz.func399,Tryz.ntmps399
 go_wp2_with (first
  | (go_at_call 403;refine HF.out.mono ?_;rintro e w2 ⟨sa,sc,rfl,HE⟩)
  | refine wpList_store_row rfl 56 _ _ rfl _ _ rfl rfl 56 _ HE.out.2.2 (by rw [Tryz.size56];rfl) rfl (by simp [Value.oneCell']) ?_)
 refine bodyPost_ret_by (v:=.agg (valCells 5 0 ⟨#[]⟩ 0 0 (.slice sa m sc))) ?_ rfl ⟨sa,sc,rfl,?_,?_⟩
 · exact results_cell_row (p:=4) (ty:=56) rfl _ _ w.heap.size 56 _ (0,0) _ rfl (setRow_heap _ _ _ _ _ _ HE.out.2.2) Tryz.underlying56 rfl (by rw [Tryz.size56];rfl)
 · exact own_turn HE.out.1 fun k hk _ => setRow_other _ _ _ _ (by have:=(HE.out.1.lt k hk).1;omega)
 · obtain ⟨b1,b2,b3,b4,b5⟩:=HE.out.2.1
   exact ⟨b1,b2,b3,by simpa [World.setRow] using b4,fun k hk => (setRow_other _ _ _ _ (by omega)).trans (b5 k hk)⟩
def FieldsAt (w:World) (s:Value) (ks:List Nat):Prop :=
 (s = .slice none 0 0 ∧ ks = []) ∨ ∃ g c,s = .slice (some ⟨g,0,none⟩) ks.length c ∧ g < w.heap.size ∧ ∀ j (h:j < ks.length),∃ nm,w.cell? ⟨g,j * 2,none⟩ = some (.string nm) ∧ w.cell? ⟨g,j * 2 + 1,none⟩ = some (.int .i64 ks[j])
theorem Tryz.cellInfoC:(Tryz.prog.info? 195).map (fun i => (i.zero,i.size,i.bytes)) = some (some .nilIface,1,16):=by kernel_rfl
def NewCols (W:World) (B:Nat) (o:Option Nat) (ks cbs:List Nat):Prop :=
 cbs.length = ks.length ∧ cbs.Pairwise (· < ·) ∧ ∀ j (h:j < cbs.length) (h':j < ks.length),B ≤ cbs[j] ∧ cbs[j] < W.heap.size ∧ some cbs[j] ≠ o ∧ W.heap[cbs[j]]? = some (.cells #[.slice none 0 0] (kStr ks[j]) (0,0))
theorem NewCols.next {W W':World} {B:Nat} {o o':Option Nat} {ks cbs:List Nat} (h:NewCols W B o ks cbs) (k:Nat) (hB:B ≤ W.heap.size) (hs:W.heap.size + 1 < W'.heap.size) (hb:∀ b,b < W.heap.size → some b ≠ o → W'.heap[b]? = W.heap[b]?) (hn:W'.heap[W.heap.size + 1]? = some (.cells #[.slice none 0 0] (kStr k) (0,0)))
 (ho:o' = o ∨ o' = some (W.heap.size + 3)) (hol:∀ b,o = some b → b < W.heap.size):NewCols W' B o' (ks ++ [k]) (cbs ++ [W.heap.size + 1]):=by
 obtain ⟨h1,h2,h3⟩:=h
 refine ⟨by simp [h1],?_,fun j hj hj' => ?_⟩
 · rw [List.pairwise_append]
   refine ⟨h2,by simp,fun a ha b hb => ?_⟩
   simp at hb;subst hb
   obtain ⟨i,hi,rfl⟩:=List.getElem_of_mem ha
   have:=(h3 i hi (by omega)).2.1
   omega
 · by_cases hlt:j < cbs.length
   · obtain ⟨a1,a2,a3,a4⟩:=h3 j hlt (by omega)
     rw [List.getElem_append_left hlt,List.getElem_append_left (by omega)]
     refine ⟨a1,by omega,?_,(hb _ a2 a3).trans a4⟩
     rcases ho with rfl | rfl
     · exact a3
     · simp;omega
   · have e:j = cbs.length:=by simp at hj;omega
     subst e
     rw [List.getElem_append_right (by omega),List.getElem_append_right (by omega)]
     simp only [Nat.sub_self,h1,List.getElem_cons_zero]
     refine ⟨by omega,hs,?_,hn⟩
     rcases ho with rfl | rfl
     · intro e;have:=hol _ e.symm;omega
     · simp
set_option maxHeartbeats 1600000 in
set_option maxRecDepth 20000 in
theorem columnsOf_any (nm:ByteArray) (s:Value) (ks:List Nat) (w:World) (hs:FieldsAt w s ks) (hl:ks.length ≤ 4) (hk:∀ k ∈ ks,1 ≤ k ∧ k ≤ 5) :
 Calls Tryz.prog 242 #[.agg #[.string nm,s]] w fun e w' => ∃ sa sc cbs,e = .returned (.slice sa ks.length sc) ∧ w'.ownsRow w.heap.size 195 1 (.slice sa ks.length sc) ks.length (List.zipWith colVal ks cbs) ∧ NewCols w' w.heap.size (Value.slice sa ks.length sc).ownBlock ks cbs ∧ Below w.heap.size w w':=by
 obtain ⟨i0,hi0,hz0,hz1,hz2⟩:=info_parts Tryz.cellInfoC
 rcases hs with ⟨rfl,rfl⟩ | ⟨g,c,rfl,hg,hf⟩
 · go_enter Tryz.func242,Tryz.ntmps242
   go_wp2
   refine wp_loop_rounds 1 ?_
   rw [rounds_succ]
   go_wp2
   go_ret
   exact ⟨none,0,[],rfl,World.ownsRow_nil _ _ _ _,⟨rfl,List.Pairwise.nil,fun j hj => by simp at hj⟩,(Below.refl _ _).alloc (Nat.le_refl _) _⟩
 · have HF:Hid (∀ j (h:j < ks.length),∃ nm,w.cell? ⟨g,j * 2,none⟩ = some (.string nm) ∧ w.cell? ⟨g,j * 2 + 1,none⟩ = some (.int .i64 ks[j])):=hf
   have HK:Hid (∀ k ∈ ks,1 ≤ k ∧ k ≤ 5):=hk
   obtain ⟨n,hn⟩:∃ n,n = ks.length:=⟨_,rfl⟩
   have HN:Hid (n = ks.length):=hn
   rw [← hn] at hl ⊢
   clear hf hk hn
   go_enter Tryz.func242,Tryz.ntmps242
   go_wp2
   go_loopw [3,9] (fun v t wr => ∃ (j:Nat) (sa:Option Addr) (sc:Nat) (cbs:List Nat),j ≤ n ∧ t = .int .i64 j ∧ v = .slice sa j sc ∧ wr.ownsRow w.heap.size 195 1 (.slice sa j sc) j (List.zipWith colVal (ks.take j) cbs) ∧ Hid (NewCols wr w.heap.size (Value.slice sa j sc).ownBlock (ks.take j) cbs) ∧ Below w.heap.size w wr) (fun _ t _ => n - (intOf t).toNat)
   case atStart => exact ⟨0,none,0,[],by omega,rfl,rfl,World.ownsRow_nil _ _ _ _,⟨by simp,List.Pairwise.nil,fun j hj => by simp at hj⟩,(Below.refl _ _).alloc (Nat.le_refl _) _⟩
   case round =>
    obtain ⟨j,sa,sc,cbs,hj,rfl,rfl,hown,HC,hb⟩:=hrel
    have HB:Hid (Below w.heap.size w wr):=hb
    have HO:Hid (wr.ownsRow w.heap.size 195 1 (.slice sa j sc) j (List.zipWith colVal (ks.take j) cbs)):=hown
    have hws:w.heap.size ≤ wr.heap.size:=hb.size
    by_cases hlt:j < n
    · have hje:j < ks.length:=by rw [← HN.out];exact hlt
      obtain ⟨nm',c0,c1⟩:=HF.out j hje
      obtain ⟨q0,q1⟩:=HK.out ks[j] (List.getElem_mem hje)
      have HT:Hid (ks.take (j + 1) = ks.take j ++ [ks[j]]):=List.take_succ_eq_append_getElem hje
      generalize ks[j] = k at c1 q0 q1 HT
      have d0:wr.cell? ⟨g,j * 2,none⟩ = some (.string nm'):=(hb.cell (p:=⟨g,j * 2,none⟩) hg).trans c0
      have d1:wr.cell? ⟨g,j * 2 + 1,none⟩ = some (.int .i64 k):=(hb.cell (p:=⟨g,j * 2 + 1,none⟩) hg).trans c1
      clear hown hb c0 c1
      obtain ⟨W3,hW3⟩:∃ W3,W3 = ((wr.alloc (.cells #[.string nm',.int .i64 k] 135)).alloc (.cells #[.slice none 0 0] (kStr k))).alloc (.cells #[colVal k (wr.heap.size + 1)] 195):=⟨_,rfl⟩
      have hs3:W3.heap.size = wr.heap.size + 3:=by rw [hW3];simp
      have hk3:∀ b,b < wr.heap.size → W3.heap[b]? = wr.heap[b]?:=fun b h => by
       rw [hW3,Below.heap_alloc _ _ _ (by simp;omega),Below.heap_alloc _ _ _ (by simp;omega),Below.heap_alloc _ _ _ h]
      have hn3:W3.heap[wr.heap.size + 1]? = some (.cells #[.slice none 0 0] (kStr k) (0,0)):=by
       rw [hW3,Below.heap_alloc _ _ _ (by simp)];exact heap_alloc_at (by simp) _
      have hc3:W3.cell? ⟨wr.heap.size + 1 + 1,0,none⟩ = some (colVal k (wr.heap.size + 1)):=by rw [hW3,cell_row (heap_alloc_at (by simp) _)];rfl
      have HNw:Hid (∀ i u,[colVal k (wr.heap.size + 1)][i]? = some u → W3.cell? ((⟨wr.heap.size + 1 + 1,0,none⟩:Addr).add i) = some u):=fun i u hi => by
       rw [Addr.add_lit,Nat.zero_add]
       match i with
       | 0 => simp at hi;rw [← hi];exact hc3
       | i + 1 => simp at hi
      have HO3:Hid (W3.ownsRow w.heap.size 195 1 (.slice sa j sc) j (List.zipWith colVal (ks.take j) cbs)):=own_turn HO.out fun b _ h => hk3 b h
      have HX:Hid (∀ w6 v',W3.grownBy w6 (Value.slice sa j sc).ownBlock → (Value.ownBlock v' = (Value.slice sa j sc).ownBlock ∨ Value.ownBlock v' = some W3.heap.size) → NewCols w6 w.heap.size v'.ownBlock (ks.take (j + 1)) (cbs ++ [wr.heap.size + 1]) ∧ Below w.heap.size w w6):=fun w6 v' hg6 hl6 => by
       have hz:=hg6.size
       refine ⟨?_,?_⟩
       · rw [HT.out]
         exact HC.out.next k hws (by omega) (fun b h1 h2 => (hg6.block b (by omega) h2).trans (hk3 b h1)) ((hg6.block _ (by omega) (fun e => by have:=(HO.out.lt _ e.symm).2;omega)).trans hn3) (by rw [hs3] at hl6;exact hl6) (fun b h => (HO.out.lt b h).2)
       · have hB3:Below w.heap.size w W3:=HB.out.trans ⟨by rw [hW3];rfl,by rw [hW3];rfl,by rw [hW3];rfl,by omega,fun b h => hk3 b (by omega)⟩
         exact Below.grown hB3 hg6 (by omega) (fun b h => (HO.out.lt b h).1)
      have HZ:Hid (List.zipWith colVal (ks.take (j + 1)) (cbs ++ [wr.heap.size + 1]) = List.zipWith colVal (ks.take j) cbs ++ [colVal k (wr.heap.size + 1)]):=by
       show _ = _
       rw [HT.out,List.zipWith_append (by rw [← HC.out.1])];rfl
      rw [hW3] at HNw HO3 HX
      clear hk3 hn3 hc3 hs3 hW3
      go_wp2_with (first
       | (go_at_call 271;refine (new_col k _ q0 q1).mono ?_;rintro e w2 ⟨rfl,rfl⟩)
       | (at_builtin;refine wpList_append_own_at _ rfl _ _ 201 rfl w.heap.size 195 i0 _ 1 16 Tryz.underlying201 hi0 hz0 hz1 hz2 rfl (by decide) _ _ _ rfl HO3.out ⟨wr.heap.size + 1 + 1,0,none⟩ 1 1 [colVal k (wr.heap.size + 1)] rfl rfl HNw.out (fun u hu => by simp at hu;subst hu;rfl) (by unfold maxLen;omega) (by omega) (by simp;omega) ?_;intro v' w6 hown6 hgrow6 _ hloc6;obtain ⟨sa',sc',rfl⟩:=own_form hown6;have HX6:=HX.out w6 _ hgrow6 hloc6;have HO6:Hid (w6.ownsRow w.heap.size 195 1 (.slice sa' (j + 1) sc') (j + 1) (List.zipWith colVal (ks.take j) cbs ++ [colVal k (wr.heap.size + 1)])):=hown6;have HC6:Hid (NewCols w6 w.heap.size (Value.slice sa' (j + 1) sc').ownBlock (ks.take (j + 1)) (cbs ++ [wr.heap.size + 1])):=HX6.1;have HB6:Hid (Below w.heap.size w w6):=HX6.2;clear hown6 hgrow6 hloc6 HX6))
      go_roundw
      case rel => exact ⟨j + 1,sa',sc',cbs ++ [wr.heap.size + 1],by omega,by go_num,rfl,by rw [HZ.out];exact HO6.out,HC6,HB6.out⟩
      case measure => simp [intOf];omega
    · obtain rfl:j = n:=by omega
      go_wp2_with fail
      go_ret
      have e:ks.take j = ks:=by rw [HN.out,List.take_length]
      rw [e] at HO HC
      exact ⟨sa,sc,cbs,rfl,HO.out,HC.out,HB.out⟩
theorem shl_small:∀ k:Fin 6,IntKind.u64.wrap (2 ^ k.val) = 2 ^ k.val:=by decide +kernel
theorem and_small:∀ s:Fin 64,∀ k:Fin 6,(bits .and .u64 (s.val:Int) (2 ^ k.val) != 0) = s.val.testBit k.val:=by decide +kernel
theorem or_small:∀ s:Fin 64,∀ k:Fin 6,bits .or .u64 (s.val:Int) (2 ^ k.val) = ((s.val ||| 2 ^ k.val:Nat):Int):=by decide +kernel
set_option maxHeartbeats 800000 in
theorem has_any (s k:Nat) (w:World) (hs:s < 64) (hk:k < 6):Calls Tryz.prog 66 #[.int .u64 s,.int .i64 k] w fun e w' => e = .returned (.bool (s.testBit k)) ∧ w' = w:=by
 have h1:=shl_small ⟨k,hk⟩
 have h2:=and_small ⟨s,hs⟩ ⟨k,hk⟩
 simp only at h1 h2
 have HE:Hid (Value.bool (bits .and .u64 (s:Int) (IntKind.u64.wrap (2 ^ k)) != 0) = .bool (s.testBit k)):=by
  show _ = _
  rw [h1,h2]
 clear h1 h2
 go_enter Tryz.func66,Tryz.ntmps66
 go_wp2
 go_ret
 exact ⟨congrArg Ending.returned HE.out,rfl⟩
set_option maxHeartbeats 800000 in
theorem with_any (s k:Nat) (w:World) (hs:s < 64) (hk:k < 6):Calls Tryz.prog 68 #[.int .u64 s,.int .i64 k] w fun e w' => e = .returned (.int .u64 ((s ||| 2 ^ k:Nat):Int)) ∧ w' = w:=by
 have h1:=shl_small ⟨k,hk⟩
 have h2:=or_small ⟨s,hs⟩ ⟨k,hk⟩
 simp only at h1 h2
 have HE:Hid (Value.int .u64 (bits .or .u64 (s:Int) (IntKind.u64.wrap (2 ^ k))) = .int .u64 ((s ||| 2 ^ k:Nat):Int)):=by
  show _ = _
  rw [h1,h2]
 clear h1 h2
 go_enter Tryz.func68,Tryz.ntmps68
 go_wp2
 go_ret
 exact ⟨congrArg Ending.returned HE.out,rfl⟩
theorem own_base {w:World} {b0 b1 e sz n:Nat} {v:Value} {xs:List Value} (h:w.ownsRow b1 e sz v n xs) (hb:b0 ≤ b1):w.ownsRow b0 e sz v n xs:=by
 refine ⟨h.1,?_⟩
 rcases h.2 with h | ⟨g,cap,cur,h1,h2,h3⟩
 · exact Or.inl h
 · exact Or.inr ⟨g,cap,cur,h1,Nat.le_trans hb h2,h3⟩
def lCols (k:Nat):Nat:=2 + k
def lCol (k f:Nat):Nat:=8 + 4 * k + f
structure ColsAt (W:World) (own:Nat → Nat) (base k:Nat) (v:Value) (ks cbs:List Nat) (n:Nat → Nat) (xs:Nat → List Value):Prop where
 len:cbs.length = ks.length
 row:W.ownsRow 0 195 1 v ks.length (List.zipWith colVal ks cbs)
 rowB:∀ b,v.ownBlock = some b → own b = base + lCols k
 col:∀ f (h:f < ks.length) (h':f < cbs.length),ColAt W (fun b => own b = base + lCol k f) cbs[f] (kStr ks[f]) (kElt ks[f]) (kSz ks[f]) (n f) (xs f)
theorem ColsAt.turn {W W':World} {own own':Nat → Nat} {base k:Nat} {v:Value} {ks cbs:List Nat} {n:Nat → Nat} {xs:Nat → List Value} (h:ColsAt W own base k v ks cbs n xs)
 (hb:∀ b,b < W.heap.size → (own b = base + lCols k ∨ ∃ f,f < ks.length ∧ own b = base + lCol k f) → W'.heap[b]? = W.heap[b]? ∧ own' b = own b):ColsAt W' own' base k v ks cbs n xs:=by
 refine ⟨h.len,own_turn h.row fun b hb1 hb2 => (hb b hb2 (Or.inl (h.rowB b hb1))).1,fun b hb1 => ?_,fun f hf hf' => ?_⟩
 · rw [(hb b (h.row.lt b hb1).2 (Or.inl (h.rowB b hb1))).2];exact h.rowB b hb1
 · exact (h.col f hf hf').turn fun b hb1 hb2 => ⟨(hb b hb2 (Or.inr ⟨f,hf,hb1⟩)).1,(hb b hb2 (Or.inr ⟨f,hf,hb1⟩)).2.trans hb1⟩
def hasC (s:Nat) (cks:List (List Nat)) (k:Nat):Bool:=decide (k < cks.length) && s.testBit k
structure TabC (W:World) (own:Nat → Nat) (base tb s:Nat) (cks:List (List Nat)) (ents:List (Int × Int)) (xs:Nat → Nat → List Value):Prop where
 me:own tb = base
 tab:∃ (ev:Value) (sl:Nat → Value),W.heap[tb]? = some (.cells #[ev,sl 0,sl 1,sl 2,sl 3,sl 4,sl 5] 204 (0,0)) ∧ W.ownsRow 0 46 2 ev ents.length (eCells ents) ∧ (∀ b,ev.ownBlock = some b → own b = base + 1) ∧
  ∀ k,k < 6 → if hasC s cks k then ∃ cbs,ColsAt W own base k (sl k) (cks.getD k []) cbs (fun _ => ents.length) (xs k) else sl k = .slice none 0 0
def LayK (W:World) (g:Nat) (cks:List (List Nat)):Prop :=
 g < W.heap.size ∧ cks.length ≤ 6 ∧ (∀ ks ∈ cks,ks.length ≤ 4 ∧ ∀ k ∈ ks,1 ≤ k ∧ k ≤ 5) ∧ ∀ j,j < cks.length → ∃ nm fs,W.cell? ⟨g,j * 2,none⟩ = some (.string nm) ∧ W.cell? ⟨g,j * 2 + 1,none⟩ = some fs ∧ FieldsAt W fs (cks.getD j [])
theorem FieldsAt.below {w w':World} {s:Value} {ks:List Nat} (h:FieldsAt w s ks) (hb:Below w.heap.size w w'):FieldsAt w' s ks:=by
 rcases h with h | ⟨g,c,h1,h2,h3⟩
 · exact Or.inl h
 · exact Or.inr ⟨g,c,h1,Nat.lt_of_lt_of_le h2 hb.size,fun j hj => by
    obtain ⟨nm,a,b⟩:=h3 j hj
    exact ⟨nm,(hb.cell (p:=⟨g,j * 2,none⟩) h2).trans a,(hb.cell (p:=⟨g,j * 2 + 1,none⟩) h2).trans b⟩⟩
theorem ColsAt.fresh {W:World} {own:Nat → Nat} {base k B:Nat} {v:Value} {ks cbs:List Nat} (hv:∃ a n c,v = .slice a n c) (h:W.ownsRow B 195 1 v ks.length (List.zipWith colVal ks cbs)) (hn:NewCols W B v.ownBlock ks cbs) :
 ColsAt W (fun b => if b < B then own b else if v.ownBlock = some b then base + lCols k else base + lCol k (cbs.idxOf b)) base k v ks cbs (fun _ => 0) (fun _ => []):=by
 obtain ⟨h1,h2,h3⟩:=hn
 refine ⟨h1,own_base h (Nat.zero_le _),fun b hb => ?_,fun f hf hf' => ?_⟩
 · have:=(h.lt b hb).1
   simp only [if_neg (show ¬ b < B by omega),hb,if_true]
 · obtain ⟨a1,a2,a3,a4⟩:=h3 f hf' hf
   refine ⟨?_,.slice none 0 0,a4,World.ownsRow_nil _ _ _ _,fun b hb => by simp [Value.ownBlock] at hb⟩
   have hnd:cbs.Nodup:=h2.imp (fun h => Nat.ne_of_lt h)
   rw [if_neg (by omega),if_neg (fun e => a3 e.symm),hnd.idxOf_getElem f hf']
end Go.Proofs.YthkbeaffkcfgiabGreatDoor
