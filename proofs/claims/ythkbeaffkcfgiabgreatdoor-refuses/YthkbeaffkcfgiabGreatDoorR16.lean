import Derived.Maps.OwnSet
import Derived.Maps.RangeWalk
import Derived.Maps.Views
import Derived.Test.YthkbeaffkcfgiabGreatDoorR13
import Derived.Test.YthkbeaffkcfgiabGreatDoorR03
import Derived.Test.YthkbeaffkcfgiabGreatDoorR15
set_option linter.unusedSimpArgs false
set_option linter.unusedVariables false
namespace Go.Proofs.YthkbeaffkcfgiabGreatDoor
open Go.RowKit
set_option maxHeartbeats 1600000 in
theorem set_int (cb g r n cap:Nat) (k x:Int) (s:ByteArray) (p l:Int) (vl u:Value) (w:World) (c0:w.cell? ⟨cb,0,none⟩ = some (.slice (some ⟨g,0,none⟩) n cap)) (hr:r < n) (hn:n ≤ 100) (c1:w.cell? ⟨g,r,none⟩ = some u) (f1:w.frozen? ⟨g,r,none⟩ = false) :
 Calls Tryz.prog 363 #[.pointer (some ⟨cb,0,none⟩),.int .i64 r,.agg #[.int .i64 k,.int .i64 x,.string s,.int .i64 p,.int .i64 l,vl]] w fun e w' => e = .returned (.tuple #[]) ∧ w' = ((w.setCell ⟨g,r,none⟩ (.int .i64 x)).alloc (.cells #[.int .i64 k,.int .i64 x,.string s,.int .i64 p,.int .i64 l,vl] 56)).drew:=by
 have hb:cb < w.heap.size:=World.block_lt_of_cell? _ _ c0
 have hg:g < w.heap.size:=World.block_lt_of_cell? _ _ c1
 have hb1:cb ≠ w.heap.size:=by omega
 have hg1:g ≠ w.heap.size:=by omega
 have mixed:Tryz.prog.follows Departure.mixedOrders = true:=by kernel_rfl
 go_enter Tryz.func363,Tryz.ntmps363
 go_wp2_with fail
 go_region
 go_wp2_with fail
 go_end0
 exact ⟨rfl,rfl⟩
set_option maxHeartbeats 1600000 in
theorem set_bool (cb g r n cap:Nat) (k x:Int) (s:ByteArray) (p l:Int) (vl u:Value) (w:World) (c0:w.cell? ⟨cb,0,none⟩ = some (.slice (some ⟨g,0,none⟩) n cap)) (hr:r < n) (hn:n ≤ 100) (c1:w.cell? ⟨g,r,none⟩ = some u) (f1:w.frozen? ⟨g,r,none⟩ = false) :
 Calls Tryz.prog 374 #[.pointer (some ⟨cb,0,none⟩),.int .i64 r,.agg #[.int .i64 k,.int .i64 x,.string s,.int .i64 p,.int .i64 l,vl]] w fun e w' => e = .returned (.tuple #[]) ∧ w' = ((w.setCell ⟨g,r,none⟩ (.bool (x == 1))).alloc (.cells #[.int .i64 k,.int .i64 x,.string s,.int .i64 p,.int .i64 l,vl] 56)).drew:=by
 have hb:cb < w.heap.size:=World.block_lt_of_cell? _ _ c0
 have hg:g < w.heap.size:=World.block_lt_of_cell? _ _ c1
 have hb1:cb ≠ w.heap.size:=by omega
 have hg1:g ≠ w.heap.size:=by omega
 have mixed:Tryz.prog.follows Departure.mixedOrders = true:=by kernel_rfl
 go_enter Tryz.func374,Tryz.ntmps374
 go_wp2_with fail
 go_region
 go_wp2_with fail
 go_end0
 exact ⟨rfl,rfl⟩
set_option maxHeartbeats 1600000 in
theorem set_ref (cb g r n cap:Nat) (k x:Int) (s:ByteArray) (p l:Int) (vl u u':Value) (w:World) (c0:w.cell? ⟨cb,0,none⟩ = some (.slice (some ⟨g,0,none⟩) n cap)) (hr:r < n) (hn:n ≤ 100) (c1:w.cell? ⟨g,r * 2,none⟩ = some u) (c2:w.cell? ⟨g,r * 2 + 1,none⟩ = some u') (f1:w.frozen? ⟨g,r * 2,none⟩ = false) (f2:w.frozen? ⟨g,r * 2 + 1,none⟩ = false) :
 Calls Tryz.prog 396 #[.pointer (some ⟨cb,0,none⟩),.int .i64 r,.agg #[.int .i64 k,.int .i64 x,.string s,.int .i64 p,.int .i64 l,vl]] w fun e w' => e = .returned (.tuple #[]) ∧ w' = (((w.setCell ⟨g,r * 2,none⟩ (.int .i64 p)).setCell ⟨g,r * 2 + 1,none⟩ (.int .i64 l)).alloc (.cells #[.int .i64 k,.int .i64 x,.string s,.int .i64 p,.int .i64 l,vl] 56)).drew:=by
 have hb:cb < w.heap.size:=World.block_lt_of_cell? _ _ c0
 have hg:g < w.heap.size:=World.block_lt_of_cell? _ _ c1
 have hb1:cb ≠ w.heap.size:=by omega
 have hg1:g ≠ w.heap.size:=by omega
 have mixed:Tryz.prog.follows Departure.mixedOrders = true:=by kernel_rfl
 go_enter Tryz.func396,Tryz.ntmps396
 go_wp2_with fail
 go_region
 go_wp2_with fail
 go_end0
 exact ⟨rfl,rfl⟩
end Go.Proofs.YthkbeaffkcfgiabGreatDoor
namespace Go.Proofs.YthkbeaffkcfgiabGreatDoor
open Go.RowKit Go.Maps
def ptrElem:Value → Option (DataW Unit × List MemPlace)
 | .pointer none => some (.nil,[])
 | .pointer (some ⟨n,0,none⟩) => some (.lit (.int .u64 n),[])
 | _ => none
theorem ptrElem_inv {v:Value} {n:Nat} {ps:List MemPlace} (h:ptrElem v = some (.lit (.int .u64 n),ps)):v = .pointer (some ⟨n,0,none⟩):=by
 unfold ptrElem at h
 split at h
 · simp at h
 · simp at h
   have e:=Int.ofNat.inj h.1
   rw [e]
 · cases h
theorem ptrElem_nil {v:Value} {ps:List MemPlace} (h:ptrElem v = some (.nil,ps)):v = .pointer none:=by
 unfold ptrElem at h
 split at h
 · rfl
 · simp at h
 · cases h
def mapD:Option Nat → DataW Unit
 | none => .map []
 | some tb => .map [(.int .u64 0,.lit (.int .u64 tb))]
def MapAt (W:World) (bm:Nat) (t:Option Nat):Prop:=W.ownsMap Tryz.prog 105 ptrElem bm 1 (mapD t)
theorem key79:Keyed Tryz.prog 105:=int_keyed Tryz.underlying105
theorem zero96 (w:World):(zeroValue 125).run Tryz.prog w = .ok (.pointer none) w:=by kernel_rfl
end Go.Proofs.YthkbeaffkcfgiabGreatDoor
namespace Go.Proofs.YthkbeaffkcfgiabGreatDoor
def entsOf (bg:Nat → Nat) (tk:Nat → Bool):List (Int × Int):=((List.range 20).filter tk).map fun i:Nat => ((i:Int) + 1,(bg i:Int))
theorem range_split:∀ i:Fin 20,List.range 20 = List.range i.val ++ i.val :: List.range' (i.val + 1) (19 - i.val):=by decide
theorem upd_same {α:Type} (f:Nat → α) (i:Nat) (v:α):upd f i v i = v:=by simp [upd]
theorem upd_ne {α:Type} (f:Nat → α) (i:Nat) (v:α) {j:Nat} (h:j ≠ i):upd f i v j = f j:=by simp [upd,h]
def entsA (bg:Nat → Nat) (tk:Nat → Bool) (i:Nat):List (Int × Int):=((List.range i).filter tk).map fun i:Nat => ((i:Int) + 1,(bg i:Int))
def entsB (bg:Nat → Nat) (tk:Nat → Bool) (i:Nat):List (Int × Int):=((List.range' (i + 1) (19 - i)).filter tk).map fun i:Nat => ((i:Int) + 1,(bg i:Int))
theorem ents_split (bg:Nat → Nat) (tk:Nat → Bool) (i:Nat) (hi:i < 20):entsOf bg tk = entsA bg tk i ++ (if tk i then [((i:Int) + 1,(bg i:Int))] else []) ++ entsB bg tk i:=by
 unfold entsOf entsA entsB
 rw [range_split ⟨i,hi⟩,List.filter_append,List.filter_cons]
 cases h:tk i <;> simp
theorem entsA_upd (bg bg':Nat → Nat) (tk tk':Nat → Bool) (i:Nat) (h1:∀ j,j ≠ i → bg' j = bg j) (h2:∀ j,j ≠ i → tk' j = tk j):entsA bg' tk' i = entsA bg tk i:=by
 unfold entsA
 have e:(List.range i).filter tk' = (List.range i).filter tk:=List.filter_congr fun x hx => h2 x (by have:=List.mem_range.1 hx;omega)
 rw [e]
 refine List.map_congr_left fun x hx => ?_
 rw [h1 x (by have:=List.mem_range.1 (List.mem_filter.1 hx).1;omega)]
theorem entsB_upd (bg bg':Nat → Nat) (tk tk':Nat → Bool) (i:Nat) (h1:∀ j,j ≠ i → bg' j = bg j) (h2:∀ j,j ≠ i → tk' j = tk j):entsB bg' tk' i = entsB bg tk i:=by
 unfold entsB
 have e:(List.range' (i + 1) (19 - i)).filter tk' = (List.range' (i + 1) (19 - i)).filter tk:=List.filter_congr fun x hx => h2 x (by have:=List.mem_range'_1.1 hx;omega)
 rw [e]
 refine List.map_congr_left fun x hx => ?_
 rw [h1 x (by have:=List.mem_range'_1.1 (List.mem_filter.1 hx).1;omega)]
theorem entsA_lt (bg:Nat → Nat) (tk:Nat → Bool) (i:Nat):∀ z ∈ entsA bg tk i,z.1 < (i:Int) + 1:=by
 intro z hz
 obtain ⟨x,hx,rfl⟩:=List.mem_map.1 hz
 have:=List.mem_range.1 (List.mem_filter.1 hx).1
 show (x:Int) + 1 < _;omega
theorem entsB_gt (bg:Nat → Nat) (tk:Nat → Bool) (i:Nat):∀ z ∈ entsB bg tk i,(i:Int) + 1 < z.1:=by
 intro z hz
 obtain ⟨x,hx,rfl⟩:=List.mem_map.1 hz
 have:=List.mem_range'_1.1 (List.mem_filter.1 hx).1
 show _ < (x:Int) + 1;omega
theorem takeWhile_split {α:Type} (P:α → Bool) (a b:List α) (ha:∀ z ∈ a,P z = true) (hb:∀ z,b.head? = some z → P z = false):(a ++ b).takeWhile P = a:=by
 rw [List.takeWhile_append_of_pos ha]
 cases b with
 | nil => simp
 | cons x r => rw [List.takeWhile_cons_of_neg (by simp [hb x rfl])];simp
theorem ahead_ents (bg:Nat → Nat) (tk:Nat → Bool) (i:Nat) (hi:i < 20):ahead (entsOf bg tk) ((i:Int) + 1) = (entsA bg tk i).length:=by
 unfold ahead
 rw [ents_split bg tk i hi,List.append_assoc,takeWhile_split]
 · intro z hz;simpa using entsA_lt bg tk i z hz
 · intro z hz
   have hm:z ∈ (if tk i then [((i:Int) + 1,(bg i:Int))] else []) ++ entsB bg tk i:=List.mem_of_mem_head? hz
   rcases List.mem_append.1 hm with h | h
   · split at h
     · simp at h;rw [h];simp
     · cases h
   · have:=entsB_gt bg tk i z h
     simp;omega
theorem ents_len (bg:Nat → Nat) (tk:Nat → Bool):(entsOf bg tk).length ≤ 20:=by
 unfold entsOf
 rw [List.length_map]
 exact Nat.le_trans (List.length_filter_le _ _) (by rw [List.length_range];exact Nat.le_refl _)
theorem ents_sort (bg:Nat → Nat) (tk:Nat → Bool):(entsOf bg tk).Pairwise fun a b => a.1 < b.1:=by
 unfold entsOf
 rw [List.pairwise_map]
 refine List.Pairwise.filter _ ?_
 refine List.pairwise_lt_range.imp fun {a b} h => ?_
 show (a:Int) + 1 < (b:Int) + 1;omega
theorem ents_spawn (bg:Nat → Nat) (tk:Nat → Bool) (i:Nat) (hi:i < 20) (ht:tk i = false) :
 entsOf (upd bg i (bg i + 1)) (upd tk i true) = setIn (entsOf bg tk) (ahead (entsOf bg tk) ((i:Int) + 1)) [((i:Int) + 1,(bg i:Int) + 1)]:=by
 rw [ahead_ents bg tk i hi,ents_split (upd bg i (bg i + 1)) (upd tk i true) i hi,ents_split bg tk i hi,entsA_upd bg _ tk _ i (fun j h => upd_ne _ _ _ h) (fun j h => upd_ne _ _ _ h),entsB_upd bg _ tk _ i (fun j h => upd_ne _ _ _ h) (fun j h => upd_ne _ _ _ h),upd_same,upd_same,ht]
 simp [setIn]
theorem ents_despawn (bg:Nat → Nat) (tk:Nat → Bool) (i:Nat) (hi:i < 20) (ht:tk i = true) :
 ahead (entsOf bg tk) ((i:Int) + 1) < (entsOf bg tk).length ∧ entsOf bg (upd tk i false) = cutOut (entsOf bg tk) (ahead (entsOf bg tk) ((i:Int) + 1)) 1:=by
 rw [ahead_ents bg tk i hi,ents_split bg (upd tk i false) i hi,ents_split bg tk i hi,entsA_upd bg bg tk _ i (fun _ _ => rfl) (fun j h => upd_ne _ _ _ h),entsB_upd bg bg tk _ i (fun _ _ => rfl) (fun j h => upd_ne _ _ _ h),upd_same,ht]
 constructor
 · simp
 · simp [cutOut]
end Go.Proofs.YthkbeaffkcfgiabGreatDoor
namespace Go.Proofs.YthkbeaffkcfgiabGreatDoor
open Go.RowKit
def TabUpTo (W:World) (own:Nat → Nat) (base tb s:Nat) (cks:List (List Nat)) (sl:Nat → Value) (j:Nat):Prop :=
 own tb = base ∧ W.heap[tb]? = some (.cells #[.slice none 0 0,sl 0,sl 1,sl 2,sl 3,sl 4,sl 5] 204 (0,0)) ∧
  ∀ k,k < 6 → if hasC s cks k && decide (k < j) then ∃ cbs,ColsAt W own base k (sl k) (cks.getD k []) cbs (fun _ => 0) (fun _ => []) else sl k = .slice none 0 0
theorem upd6 (sl:Nat → Value) (j:Nat) (hj:j < 6) (v:Value):(#[.slice none 0 0,sl 0,sl 1,sl 2,sl 3,sl 4,sl 5]:Array Value).setIfInBounds (1 + j) v = #[.slice none 0 0,upd sl j v 0,upd sl j v 1,upd sl j v 2,upd sl j v 3,upd sl j v 4,upd sl j v 5]:=by
 have h:j = 0 ∨ j = 1 ∨ j = 2 ∨ j = 3 ∨ j = 4 ∨ j = 5:=by omega
 rcases h with rfl | rfl | rfl | rfl | rfl | rfl <;> rfl
theorem TabUpTo.skip {W W':World} {own:Nat → Nat} {base tb s:Nat} {cks:List (List Nat)} {sl:Nat → Value} {j:Nat} (h:TabUpTo W own base tb s cks sl j) (hj:hasC s cks j = false) (htb:tb < W.heap.size) (hb:∀ b,b < W.heap.size → W'.heap[b]? = W.heap[b]?):TabUpTo W' own base tb s cks sl (j + 1):=by
 obtain ⟨h1,h2,h3⟩:=h
 refine ⟨h1,(hb tb htb).trans h2,fun k hk => ?_⟩
 have:=h3 k hk
 by_cases e:k = j
 · subst e
   simpa [hj] using this
 · have e1:decide (k < j + 1) = decide (k < j):=by simp;omega
   rw [e1]
   split
   · rename_i hq
     rw [if_pos hq] at this
     obtain ⟨cbs,hc⟩:=this
     exact ⟨cbs,hc.turn fun b hb1 _ => ⟨hb b hb1,rfl⟩⟩
   · rename_i hq
     rw [if_neg hq] at this
     exact this
theorem TabUpTo.take {W W':World} {own:Nat → Nat} {base tb s B:Nat} {cks:List (List Nat)} {sl:Nat → Value} {j:Nat} {v:Value} {cbs:List Nat} (h:TabUpTo W own base tb s cks sl j) (hj:hasC s cks j = true) (hj6:j < 6) (htb:tb < W.heap.size) (hBW:W.heap.size ≤ B)
 (hb:∀ b,b < W.heap.size → W'.heap[b]? = W.heap[b]?) (hv:∃ a n c,v = .slice a n c) (hr:W'.ownsRow B 195 1 v (cks.getD j []).length (List.zipWith colVal (cks.getD j []) cbs)) (hn:NewCols W' B v.ownBlock (cks.getD j []) cbs) :
 TabUpTo (W'.setCell ⟨tb,1 + j,none⟩ v) (fun b => if b < B then own b else if v.ownBlock = some b then base + lCols j else base + lCol j (cbs.idxOf b)) base tb s cks (upd sl j v) (j + 1):=by
 obtain ⟨h1,h2,h3⟩:=h
 refine ⟨by show (if tb < B then _ else _) = _;rw [if_pos (by omega)];exact h1,?_,fun k hk => ?_⟩
 · rw [setCell_block _ ((hb tb htb).trans h2),upd6 sl j hj6]
 · by_cases e:k = j
   · subst e
     simp only [hj,upd_same]
     rw [if_pos (by simp)]
     refine ⟨cbs,(ColsAt.fresh (own:=own) (base:=base) (k:=k) hv hr hn).turn fun b hb1 hb2 => ⟨Below.heap_setCell _ _ _ _ ?_,rfl⟩⟩
     intro e
     simp at e
     subst e
     rw [if_pos (by omega),h1] at hb2
     rcases hb2 with h | ⟨f,_,h⟩
     · unfold lCols at h;omega
     · unfold lCol at h;omega
   · rw [upd_ne _ _ _ e]
     have e1:decide (k < j + 1) = decide (k < j):=by simp;omega
     rw [e1]
     have:=h3 k hk
     split
     · rename_i hq
       rw [if_pos hq] at this
       obtain ⟨cb2,hc⟩:=this
       refine ⟨cb2,hc.turn fun b hb1 hb2 => ⟨(Below.heap_setCell _ _ _ _ ?_).trans (hb b hb1),by rw [if_pos (by omega)]⟩⟩
       intro e
       simp at e
       subst e
       rw [h1] at hb2
       rcases hb2 with h | ⟨f,_,h⟩
       · unfold lCols at h;omega
       · unfold lCol at h;omega
     · rename_i hq
       rw [if_neg hq] at this
       exact this
end Go.Proofs.YthkbeaffkcfgiabGreatDoor
namespace Go.Proofs.YthkbeaffkcfgiabGreatDoor
open Go.RowKit Go.Maps
def elemD:Option Nat → DataW Unit
 | none => .nil
 | some tb => .lit (.int .u64 tb)
theorem elemD_inv {v:Value} {t:Option Nat} {ps:List MemPlace} (h:ptrElem v = some (elemD t,ps)):v = .pointer (t.map fun tb => ⟨tb,0,none⟩):=by
 cases t with
 | none => exact ptrElem_nil h
 | some tb => exact ptrElem_inv (n:=tb) h
theorem keyS (s:Nat) (h:s < 64):keyOf Tryz.prog 105 (.int .u64 (s:Int)) = some (.int .u64 (s:Int)):=keyOf_int_mk Tryz.underlying105 (by
 have:s = 0 ∨ s = 1 ∨ 2 ≤ s:=by omega
 simp [Lit.wf,IntKind.min,IntKind.max,IntKind.signed,IntKind.bits]
 omega)
def MapM (W:World) (bm n:Nat) (m:Nat → Option Nat):Prop:=∃ D,W.ownsMap Tryz.prog 105 ptrElem bm n D ∧ IsMap D ∧ (∀ s:Nat,s < 64 → D.atKey (.int .u64 (s:Int)) .nil = elemD (m s)) ∧
 ∀ kl y,(∀ zd,D.atKey kl zd = y) → ∃ s tb:Nat,s < 64 ∧ kl = .int .u64 (s:Int) ∧ m s = some tb ∧ y = .lit (.int .u64 (tb:Int))
theorem MapM.look {W:World} {bm n:Nat} {m:Nat → Option Nat} (h:MapM W bm n m) (s:Nat) (hs:s < 64):(Instr.lookup 109 (.map (some bm)) (.int .u64 (s:Int)) false).run Tryz.prog W = .ok (.pointer ((m s).map fun tb => ⟨tb,0,none⟩)) W:=by
 obtain ⟨D,h0,_,h2,_⟩:=h
 obtain ⟨v,ps,e1,e2⟩:=h0.lookup key79 Tryz.underlying109 (zero96 W) (zd:=.nil) (zp:=[]) rfl (keyS s hs)
 rw [h2 s hs] at e2
 rw [e1,elemD_inv e2]
theorem MapM.put {W:World} {bm n:Nat} {m:Nat → Option Nat} (h:MapM W bm n m) (hn:n < maxLen) (s tb:Nat) (hs:s < 64):∃ W',(Instr.mapUpdate 109 (.map (some bm)) (.int .u64 (s:Int)) (.pointer (some ⟨tb,0,none⟩))).run Tryz.prog W = .ok () W' ∧ MapM W' bm (n + 1) (fun x => if x = s then some tb else m x) ∧ W.mapTurned W' bm:=by
 obtain ⟨D,h0,h1,h2,h3⟩:=h
 obtain ⟨W',e1,e2,e3⟩:=h0.store key79 Tryz.underlying109 hn (val:=.pointer (some ⟨tb,0,none⟩)) (d:=.lit (.int .u64 tb)) (ps:=[]) (keyS s hs) rfl
 refine ⟨W',e1,⟨_,e2,h1.put _ _,fun x hx => ?_,fun kl y hy => ?_⟩,e3⟩
 · by_cases e:x = s
   · subst e
     rw [atKey_put_same h1 (by simp [WideAt.IsKeyLit])]
     simp [elemD]
   · rw [atKey_put_other (by intro h;simp at h;omega),h2 x hx]
     simp [e]
 · by_cases e:kl = .int .u64 (s:Int)
   · have:=hy .nil
     rw [e,atKey_put_same h1 (by simp [WideAt.IsKeyLit])] at this
     exact ⟨s,tb,hs,e,if_pos rfl,this.symm⟩
   · obtain ⟨s1,tb1,q1,q2,q3,q4⟩:=h3 kl y fun zd => by rw [← hy zd,atKey_put_other e]
     exact ⟨s1,tb1,q1,q2,(if_neg (by rintro rfl;exact e q2)).trans q3,q4⟩
theorem MapM.ofNone {W:World} {bm:Nat} (h:MapAt W bm none):MapM W bm 1 (fun _ => none):=⟨_,h,isMap_empty,fun _ _ => rfl,fun kl y hy => by
 have h1:=hy .nil
 have h2:=hy (.agg [])
 simp [mapD,DataW.atKey] at h1 h2
 rw [← h1] at h2;cases h2⟩
theorem MapM.lt {W:World} {bm n:Nat} {m:Nat → Option Nat} (h:MapM W bm n m):bm < W.heap.size:=by obtain ⟨D,h0,_⟩:=h;exact World.ownsMap.lt h0
theorem MapM.turn {W W':World} {bm n:Nat} {m:Nat → Option Nat} (h:MapM W bm n m) (hb:W'.heap[bm]? = W.heap[bm]?):MapM W' bm n m:=by
 obtain ⟨D,⟨es,clock,h1,r⟩,h2⟩:=h
 exact ⟨D,⟨es,clock,hb.trans h1,r⟩,h2⟩
end Go.Proofs.YthkbeaffkcfgiabGreatDoor
