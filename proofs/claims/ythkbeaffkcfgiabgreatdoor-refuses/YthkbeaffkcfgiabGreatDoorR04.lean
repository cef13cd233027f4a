import Derived.Maps.AppendAt
import Derived.Shelf.RegionOpenPlain
import Derived.Lib.Walk
import Derived.Lib.Overlaps
import Derived.Lib.AppendZerosOnto
import Derived.Laws.NewBlocks
import Derived.Laws.Externs
import Derived.Deep.RegionLaw
import Derived.Test.YthkbeaffkcfgiabGreatDoorR03
import Derived.Test.YthkbeaffkcfgiabGreatDoorR02
set_option linter.unusedSimpArgs false
set_option linter.unusedVariables false
namespace Go.Proofs.YthkbeaffkcfgiabGreatDoor
open Go.RowKit
theorem Tryz.info46:(Tryz.prog.info? 46).map (fun i => (i.zero,i.size,i.bytes)) = some (some (.agg #[.int .i64 0,.int .i64 0]),2,16):=by kernel_rfl
def hNews (p l:Int):List Value:=[.int .i64 p,.int .i64 l]
theorem hNews_one (p l:Int):∀ u ∈ hNews p l,u.oneCell' = true:=by simp [hNews,Value.oneCell']
set_option maxHeartbeats 4000000 in
set_option maxRecDepth 100000 in
theorem insert_end (base:Nat) (v:Value) (n:Nat) (xs:List Value) (vb:Nat) (p l:Int) (w:World) (hown:w.ownsRow base 46 2 v n xs) (hn:n ≤ 1000) (hbase:base ≤ w.heap.size)
 (c0:w.cell? ⟨vb,0,none⟩ = some (.int .i64 p)) (c1:w.cell? ⟨vb,1,none⟩ = some (.int .i64 l)) :
 Calls Tryz.prog 243 #[v,.int .i64 n,.slice (some ⟨vb,0,none⟩) 1 1] w fun e w' => ∃ v',e = .returned v' ∧ w'.ownsRow base 46 2 v' (n + 1) (xs ++ hNews p l) ∧ w.grownBy w' v.ownBlock ∧ (v'.ownBlock = v.ownBlock ∨ ∃ g,v'.ownBlock = some g ∧ w.heap.size ≤ g):=by
 obtain ⟨i0,hi0,hz0,hz1,hz2⟩:=info_parts Tryz.info46
 have HO:Hid (w.ownsRow base 46 2 v n xs):=hown
 have HN:Hid (∀ j u,(hNews p l)[j]? = some u → w.cell? ((⟨vb,0,none⟩:Addr).add j) = some u):=fun j u hj => by
  rw [Addr.add_lit,Nat.zero_add]
  match j with
  | 0 => simp [hNews] at hj;rw [← hj];exact c0
  | 1 => simp [hNews] at hj;rw [← hj];exact c1
  | j + 2 => simp [hNews] at hj
 have hnn:(n:Int) ≤ n:=Int.le_refl _
 rcases hown.2 with ⟨rfl,rfl⟩ | ⟨g,cap,cur,rfl,hbg,hg,hnc,hcm,hcs,htake⟩
 · clear hown c0 c1
   go_enter Tryz.func243,Tryz.ntmps243
   go_wp2_with (at_builtin;refine wpList_append_own_at _ rfl _ _ 29 rfl base 46 i0 _ 2 16 Tryz.underlying29 hi0 hz0 hz1 hz2 rfl (by decide) _ _ _ rfl HO.out ⟨vb,0,none⟩ 1 1 (hNews p l) rfl rfl HN.out (hNews_one p l) (by unfold maxLen;omega) (by omega) hbase ?_;intro v' w1 hown1 hgrow1 _ hloc1)
   go_ret
   exact ⟨_,rfl,hown1,hgrow1,hloc1.imp id fun h => ⟨_,h,Nat.le_refl _⟩⟩
 · have hic:n ≤ cap:=hnc
   have hcm':cap ≤ 9223372036854775807:=by simpa [maxLen] using hcm
   clear hown c0 c1 hg htake hcs
   go_enter Tryz.func243,Tryz.ntmps243
   go_wp2_with (at_builtin;refine wpList_append_own_at _ rfl _ _ 29 rfl base 46 i0 _ 2 16 Tryz.underlying29 hi0 hz0 hz1 hz2 rfl (by decide) _ _ _ rfl HO.out ⟨vb,0,none⟩ 1 1 (hNews p l) rfl rfl HN.out (hNews_one p l) (by unfold maxLen;omega) (by omega) hbase ?_;intro v' w1 hown1 hgrow1 _ hloc1)
   all_goals go_ret
   all_goals exact ⟨_,rfl,hown1,hgrow1,hloc1.imp id fun h => ⟨_,h,Nat.le_refl _⟩⟩
theorem step_copy_known {P:Program} {ops:Array Oper} {o:Oper} {a:Act} {w:World} {K:Act → World → Prop} {Q:Exit → Act → World → Prop} {E:Prop}
 (hg:o.guard = none) (d x:Operand) (dT sT:TypeId) (hop:o.op = Op.call { callee:=Callee.builtin Builtin.copy,args:=#[d,x],argTypes:=#[dT,sT] })
 (v u:Value) (hd:a.eval d = v) (hx:a.eval x = u) {v':Value} {w':World} (hr:(Builtin.copy_ #[dT,sT] o.type #[v,u]).run P w = .ok v' w') (hK:K (a.put o.dst v') w') :
 if Region.wanted o (yielded ops a.tmps) = true then Oper.wp P o a w K Q else E:=by
 have hw:Region.wanted o (yielded ops a.tmps) = true:=by simp [Region.wanted,hg]
 rw [if_pos hw]
 unfold Oper.wp
 simp [execOp,hop,resolve,invoke,builtin,hd,hx,hr,Result.andThen]
 exact hK
theorem cell_row {w:World} {g:Nat} {cur:Array Value} {t:TypeId} {fz:Nat × Nat} (hg:w.heap[g]? = some (.cells cur t fz)) (j:Nat):w.cell? ⟨g,j,none⟩ = cur[j]?:=by
 simp [World.cell?,hg]
theorem frozen_row {w:World} {g:Nat} {cur:Array Value} {t:TypeId} (hg:w.heap[g]? = some (.cells cur t (0,0))) (j:Nat):w.frozen? ⟨g,j,none⟩ = false:=by
 simp [World.frozen?,hg]
set_option maxHeartbeats 4000000 in
set_option maxRecDepth 100000 in
theorem insert_shift (g n cap i:Nat) (cur:Array Value) (vb:Nat) (p l:Int) (w:World) (hg:w.heap[g]? = some (.cells cur 46 (0,0))) (hi:i < n) (hroom:n + 1 ≤ cap) (hc63:cap ≤ maxLen) (hcs:cur.size = cap * 2)
 (hvb:vb ≠ g) (hvc:w.heap[vb]? = some (.cells (hNews p l).toArray 46 (0,0))) (hl1:∀ u ∈ cur.toList.take (n * 2),u.oneCell' = true) :
 Calls Tryz.prog 243 #[.slice (some ⟨g,0,none⟩) n cap,.int .i64 i,.slice (some ⟨vb,0,none⟩) 1 1] w fun e w' => e = .returned (.slice (some ⟨g,0,none⟩) (n + 1) cap) ∧
  w' = (w.drew.setCells g ((i + 1) * 2) ((cur.toList.take (n * 2)).drop (i * 2))).setCells g (i * 2) (hNews p l):=by
 have hc64:cap ≤ 9223372036854775807:=by simpa [maxLen] using hc63
 have hz2:¬ ((i:Int) = (n:Int)):=by omega
 have hsz:(Tryz.prog.info? 46).map (·.size) = some 2:=by
  obtain ⟨i0,hi0,h0,h1,h2⟩:=info_parts Tryz.info46
  rw [hi0];simp [h1]
 have hz48:∀ w,(Go.sizeOf 46).run Tryz.prog w = .ok 2 w:=fun w => by
  obtain ⟨i0,hi0,h0,h1,h2⟩:=info_parts Tryz.info46
  simp [Go.sizeOf,typeInfo,hi0,h1]
 have hov:∀ lb cb,(callFunc 272 #[.slice (some ⟨vb,0,none⟩) 1 1,.slice (some ⟨g,(i + 1) * 2,none⟩) lb cb]).run Tryz.prog w = .ok (.value (.bool false)) w:=fun lb cb => by
  rw [run_callFunc_extern Tryz.func272 (by kernel_rfl) (by kernel_rfl) (by kernel_rfl) (e:=Extern.SlicesOverlaps.overlaps #[29,29] #[4]) (by kernel_rfl),
   Lib.run_overlaps_apart w 29 4 46 Tryz.underlying29 2 hz48 ⟨vb,0,none⟩ ⟨g,(i + 1) * 2,none⟩ 1 1 lb cb hvb 46 46 2 (cap * 2) (by simp [World.shape?,hvc,hNews]) (by simp [World.shape?,hg,hcs]) (by omega) (frozen_row hvc _) (frozen_row hvc _)]
  rfl
 obtain ⟨mv,hmv⟩:∃ mv,mv = (cur.toList.take (n * 2)).drop (i * 2):=⟨_,rfl⟩
 have hml:mv.length = (n - i) * 2:=by rw [hmv];simp;omega
 have hmg:∀ j u,mv[j]? = some u → cur[i * 2 + j]? = some u:=fun j u hj => by
  rw [hmv,List.getElem?_drop,List.getElem?_take] at hj
  split at hj
  · simpa using hj
  · cases hj
 have hm1:∀ u ∈ mv,u.oneCell' = true:=fun u hu => by rw [hmv] at hu;exact hl1 u (List.mem_of_mem_drop hu)
 have hcp1:∀ ty dc sc,(Builtin.copy_ #[29,29] ty #[.slice (some ⟨g,(i + 1) * 2,none⟩) (n - i) dc,.slice (some ⟨g,i * 2,none⟩) (n + 1 - i) sc]).run Tryz.prog w.drew = .ok (goInt (Nat.min (n + 1 - i) (n - i))) (w.drew.setCells g ((i + 1) * 2) mv):=fun ty dc sc =>
  run_copy_cellsK w.drew _ _ ty 46 2 g ((i + 1) * 2) (n - i) dc ⟨g,i * 2,none⟩ (n + 1 - i) sc mv Tryz.underlying29 hsz (by rw [hml];simp only [Nat.min_def];split <;> omega)
   (fun j v hj => by rw [Addr.add_lit];show w.cell? _ = _;rw [cell_row hg];exact hmg j v hj)
   (fun j hj => by show (w.cell? _).isSome = true;rw [cell_row hg,Array.getElem?_eq_getElem (by omega)];rfl) (fun j hj => frozen_row (w:=w) hg _) hm1
 obtain ⟨W1,hW1⟩:∃ W1,W1 = w.drew.setCells g ((i + 1) * 2) mv:=⟨_,rfl⟩
 have hg1:W1.heap[g]? = some (.cells (laid cur.toList ((i + 1) * 2) mv).toArray 46 (0,0)):=by
  rw [hW1];exact setCells_block mv _ w.drew cur hg (by omega)
 have hv1:W1.heap[vb]? = some (.cells (hNews p l).toArray 46 (0,0)):=by
  rw [hW1,setCells_other _ _ _ _ _ hvb];exact hvc
 have hcp2:∀ (W:World),(∀ x,W.cell? x = W1.cell? x) → (∀ x,W.frozen? x = W1.frozen? x) → ∀ ty dc,(Builtin.copy_ #[29,29] ty #[.slice (some ⟨g,i * 2,none⟩) (n + 1 - i) dc,.slice (some ⟨vb,0,none⟩) 1 1]).run Tryz.prog W = .ok (goInt (Nat.min 1 (n + 1 - i))) (W.setCells g (i * 2) (hNews p l)):=fun W hWc hWf ty dc =>
  run_copy_cellsK W _ _ ty 46 2 g (i * 2) (n + 1 - i) dc ⟨vb,0,none⟩ 1 1 (hNews p l) Tryz.underlying29 hsz (by simp only [Nat.min_def,hNews,List.length_cons,List.length_nil];split <;> omega)
   (fun j v hj => by rw [Addr.add_lit,hWc,cell_row hv1];simpa using hj)
   (fun j hj => by rw [hWc,cell_row hg1,Array.getElem?_eq_getElem (by simp [laid_length _ _ _ (show (i + 1) * 2 + mv.length ≤ cur.toList.length by simp;omega),hNews] at hj ⊢;omega)];rfl) (fun j hj => by rw [hWf];exact frozen_row hg1 _) (hNews_one p l)
 rw [← hmv]
 rw [← hW1] at hcp1
 have hin:i ≤ n:=by omega
 have hw1:IntKind.i64.wrap ((i:Int) + 1) = (i:Int) + 1:=by rw [IntKind.wrap_i64];omega
 have hb2:¬ (cap = i + 1):=by omega
 have hb4:¬ (cap = i):=by omega
 have hb5:(0:Int) ≤ (i:Int) + 1:=by omega
 have hb3:(i:Int) ≤ (n:Int) + 1:=by omega
 have mixed:Tryz.prog.follows Departure.mixedOrders = true:=by kernel_rfl
 have HW1:Hid (W1 = w.drew.setCells g ((i + 1) * 2) mv):=hW1
 clear hmv hml hmg hm1 hg1 hv1 hW1 hg hvc
 go_enter Tryz.func243,Tryz.ntmps243
 go_wp2_with (simp only [hov])
 go_region_law_o (refine step_copy_known rfl _ _ 29 29 rfl _ _ (by simp [Act.eval,Act.put]) (by simp [Act.eval,Act.put]) (hcp1 _ _ _) ?_)
 go_wp2_with (at_builtin;refine wpList_copy_known _ rfl _ _ 29 29 rfl _ _ rfl rfl (hcp2 _ (fun _ => rfl) (fun _ => rfl) _ _) ?_)
 go_ret
 exact ⟨rfl,by rw [HW1.out]⟩
def hZeros (k:Nat):List Value:=(Builtin.zeroCells (Value.agg #[.int .i64 0,.int .i64 0]).cells k).toList
theorem hZeros_length (k:Nat):(hZeros k).length = k * 2:=by simp [hZeros,Builtin.zeroCells,Value.cells]
theorem hZeros_one (k:Nat):∀ u ∈ hZeros k,u.oneCell' = true:=by
 intro u hu
 simp only [hZeros,Builtin.zeroCells,Value.cells,Array.mem_toList_iff,Array.mem_map] at hu
 obtain ⟨j,_,rfl⟩:=hu
 generalize hq:j % _ = q
 have:q = 0 ∨ q = 1:=by
  have:q < 2:=by rw [← hq];exact Nat.mod_lt _ (by simp)
  omega
 rcases this with rfl | rfl <;> rfl
set_option maxHeartbeats 4000000 in
set_option maxRecDepth 100000 in
theorem insert_grow (g n cap i:Nat) (cur:Array Value) (vb:Nat) (p l:Int) (w:World) (hg:w.heap[g]? = some (.cells cur 46 (0,0))) (hi:i < n) (hn:n ≤ 1000) (hnc:n ≤ cap) (hroom:cap < n + 1) (hcs:cur.size = cap * 2)
 (hvc:w.heap[vb]? = some (.cells (hNews p l).toArray 46 (0,0))) (hl1:∀ u ∈ cur.toList.take (n * 2),u.oneCell' = true) :
 Calls Tryz.prog 243 #[.slice (some ⟨g,0,none⟩) n cap,.int .i64 i,.slice (some ⟨vb,0,none⟩) 1 1] w fun e w' => ∃ G,n + 1 ≤ G ∧ G ≤ maxLen ∧ e = .returned (.slice (some ⟨w.heap.size,0,none⟩) (n + 1) G) ∧
  w' = (((w.alloc (.cells (((cur.toList.take (i * 2)) ++ hZeros (n + 1 - i) ++ hZeros (G - (n + 1))).toArray) 46)).drew.setCells w.heap.size (i * 2) (hNews p l)).drew).setCells w.heap.size ((i + 1) * 2) ((cur.toList.take (n * 2)).drop (i * 2)):=by
 obtain rfl:cap = n:=by omega
 obtain ⟨i0,hi0,hz0,hzs,hzb⟩:=info_parts Tryz.info46
 have hz2:¬ ((i:Int) = (cap:Int)):=by omega
 have hsz:(Tryz.prog.info? 46).map (·.size) = some 2:=by rw [hi0];simp [hzs]
 have hgw:g < w.heap.size:=(Array.getElem?_eq_some_iff.1 hg).1
 have hvw:vb < w.heap.size:=(Array.getElem?_eq_some_iff.1 hvc).1
 have hkk:(cap:Int) + 1 - (i:Int) = ((cap + 1 - i:Nat):Int):=by omega
 have hik:i + (cap + 1 - i) = cap + 1:=by omega
 have hold:(Builtin.firstCells i0.size i (.slice (some ⟨g,0,none⟩) i cap)).run Tryz.prog w.drew = .ok (cur.toList.take (i * 2)).toArray w.drew:=by
  rw [hzs]
  exact run_firstCells_some w.drew 2 i ⟨g,0,none⟩ i cap (cur.toList.take (i * 2)) (by simp;omega) (fun j v hj => by
   rw [Addr.add_lit,Nat.zero_add]
   rw [List.getElem?_take] at hj
   split at hj
   · show w.cell? _ = _;rw [cell_row hg];simpa using hj
   · cases hj)
 have hrz:∀ ty,(Builtin.append_ #[29,3] ty #[.slice (some ⟨g,0,none⟩) i cap,.int .i64 ((cap:Int) + 1 - (i:Int))]).run Tryz.prog w =
  .ok (.slice (some ⟨w.heap.size,0,none⟩) (cap + 1) (grownCap w (cap + 1) cap 46)) (w.drew.alloc (.cells (((cur.toList.take (i * 2)) ++ hZeros (cap + 1 - i) ++ hZeros (grownCap w (cap + 1) cap 46 - (cap + 1))).toArray) 46)):=fun ty => by
  have h:=Lib.run_append_grow_zeros w 29 3 ty 46 i0 _ .i64 .i64 Tryz.underlying29 Tryz.underlying3 hi0 hz0 (some ⟨g,0,none⟩) i cap (cur.toList.take (i * 2)) hold (cap + 1 - i) (by omega) (by omega) (by omega) (by omega) (by rw [hzb];omega) (by rw [hzb,hik];exact growslice_fits (by omega) (by omega))
  rw [hik] at h
  rw [hkk,h]
  simp only [hZeros]
  congr 3
  apply Array.ext'
  simp
 obtain ⟨G,hG⟩:∃ G,G = grownCap w (cap + 1) cap 46:=⟨_,rfl⟩
 rw [← hG] at hrz
 have hGn:cap + 1 ≤ G:=by rw [hG];exact grownCap_ge w _ _ _
 have hG63:G ≤ maxLen:=by rw [hG];exact grownCap_le_maxLen w (cap + 1) cap 46 (by unfold maxLen;omega)
 have hG64:G ≤ 9223372036854775807:=by simpa [maxLen] using hG63
 obtain ⟨row,hrow⟩:∃ row:List Value,row = (cur.toList.take (i * 2)) ++ hZeros (cap + 1 - i) ++ hZeros (G - (cap + 1)):=⟨_,rfl⟩
 have hrl:row.length = G * 2:=by rw [hrow];simp [hZeros_length];omega
 rw [← hrow] at hrz
 obtain ⟨mv,hmv⟩:∃ mv,mv = (cur.toList.take (cap * 2)).drop (i * 2):=⟨_,rfl⟩
 have hml:mv.length = (cap - i) * 2:=by rw [hmv];simp;omega
 have hmg:∀ j u,mv[j]? = some u → cur[i * 2 + j]? = some u:=fun j u hj => by
  rw [hmv,List.getElem?_drop,List.getElem?_take] at hj
  split at hj
  · simpa using hj
  · cases hj
 have hm1:∀ u ∈ mv,u.oneCell' = true:=fun u hu => by rw [hmv] at hu;exact hl1 u (List.mem_of_mem_drop hu)
 obtain ⟨W1,hW1⟩:∃ W1,W1 = w.drew.alloc (.cells row.toArray 46):=⟨_,rfl⟩
 rw [← hW1] at hrz
 have hN:W1.heap[w.heap.size]? = some (.cells row.toArray 46 (0,0)):=by rw [hW1];exact _root_.Go.heap_alloc_new w.drew _
 have hOb:W1.heap[g]? = some (.cells cur 46 (0,0)):=by rw [hW1];exact (Below.heap_alloc w.drew _ g hgw).trans hg
 have hOv:W1.heap[vb]? = some (.cells (hNews p l).toArray 46 (0,0)):=by rw [hW1];exact (Below.heap_alloc w.drew _ vb hvw).trans hvc
 have hcpA:∀ (W:World),(∀ x,W.cell? x = W1.cell? x) → (∀ x,W.frozen? x = W1.frozen? x) → ∀ ty dc,(Builtin.copy_ #[29,29] ty #[.slice (some ⟨w.heap.size,i * 2,none⟩) (cap + 1 - i) dc,.slice (some ⟨vb,0,none⟩) 1 1]).run Tryz.prog W = .ok (goInt (Nat.min 1 (cap + 1 - i))) (W.setCells w.heap.size (i * 2) (hNews p l)):=fun W hWc hWf ty dc =>
  run_copy_cellsK W _ _ ty 46 2 w.heap.size (i * 2) (cap + 1 - i) dc ⟨vb,0,none⟩ 1 1 (hNews p l) Tryz.underlying29 hsz (by simp only [Nat.min_def,hNews,List.length_cons,List.length_nil];split <;> omega)
   (fun j v hj => by rw [Addr.add_lit,hWc,cell_row hOv];simpa using hj)
   (fun j hj => by rw [hWc,cell_row hN,Array.getElem?_eq_getElem (by simp [hrl,hNews] at hj ⊢;omega)];rfl) (fun j hj => by rw [hWf];exact frozen_row hN _) (hNews_one p l)
 have hN2:(W1.setCells w.heap.size (i * 2) (hNews p l)).heap[w.heap.size]? = some (.cells (laid row.toArray.toList (i * 2) (hNews p l)).toArray 46 (0,0)):=setCells_block _ _ _ _ hN (by simp [hrl,hNews];omega)
 have hO2:(W1.setCells w.heap.size (i * 2) (hNews p l)).heap[g]? = some (.cells cur 46 (0,0)):=(setCells_other _ _ _ _ _ (by omega)).trans hOb
 have hll:(laid row.toArray.toList (i * 2) (hNews p l)).length = G * 2:=by rw [laid_length _ _ _ (by simp [hrl,hNews];omega)];simpa using hrl
 have hcpB:∀ (W:World),(∀ x,W.cell? x = (W1.setCells w.heap.size (i * 2) (hNews p l)).cell? x) → (∀ x,W.frozen? x = (W1.setCells w.heap.size (i * 2) (hNews p l)).frozen? x) → ∀ ty dc sc,(Builtin.copy_ #[29,29] ty #[.slice (some ⟨w.heap.size,(i + 1) * 2,none⟩) (cap - i) dc,.slice (some ⟨g,i * 2,none⟩) (cap - i) sc]).run Tryz.prog W = .ok (goInt (Nat.min (cap - i) (cap - i))) (W.setCells w.heap.size ((i + 1) * 2) mv):=fun W hWc hWf ty dc sc =>
  run_copy_cellsK W _ _ ty 46 2 w.heap.size ((i + 1) * 2) (cap - i) dc ⟨g,i * 2,none⟩ (cap - i) sc mv Tryz.underlying29 hsz (by rw [hml];simp only [Nat.min_def];split <;> omega)
   (fun j v hj => by rw [Addr.add_lit,hWc,cell_row hO2];exact hmg j v hj)
   (fun j hj => by rw [hWc,cell_row hN2,Array.getElem?_eq_getElem (by rw [List.size_toArray,hll];omega)];rfl) (fun j hj => by rw [hWf];exact frozen_row hN2 _) hm1
 have hEnd:Hid (∃ G',cap + 1 ≤ G' ∧ G' ≤ maxLen ∧ Value.slice (some ⟨w.heap.size,0,none⟩) (cap + 1) G = Value.slice (some ⟨w.heap.size,0,none⟩) (cap + 1) G' ∧
  ((((w.alloc (.cells row.toArray 46)).drew.setCells w.heap.size (i * 2) (hNews p l)).drew).setCells w.heap.size ((i + 1) * 2) mv) = (((w.alloc (.cells (((cur.toList.take (i * 2)) ++ hZeros (cap + 1 - i) ++ hZeros (G' - (cap + 1))).toArray) 46)).drew.setCells w.heap.size (i * 2) (hNews p l)).drew).setCells w.heap.size ((i + 1) * 2) ((cur.toList.take (cap * 2)).drop (i * 2))) :=
  ⟨G,hGn,hG63,rfl,by rw [hrow,hmv]⟩
 subst hW1
 have hE1:∀ x,((w.alloc (.cells row.toArray 46)).drew).cell? x = (w.drew.alloc (.cells row.toArray 46)).cell? x:=fun x => rfl
 have hE2:∀ x,((w.alloc (.cells row.toArray 46)).drew).frozen? x = (w.drew.alloc (.cells row.toArray 46)).frozen? x:=fun x => rfl
 have hF1:∀ x,(((w.alloc (.cells row.toArray 46)).drew.setCells w.heap.size (i * 2) (hNews p l)).drew).cell? x = ((w.drew.alloc (.cells row.toArray 46)).setCells w.heap.size (i * 2) (hNews p l)).cell? x:=fun x => rfl
 have hF2:∀ x,(((w.alloc (.cells row.toArray 46)).drew.setCells w.heap.size (i * 2) (hNews p l)).drew).frozen? x = ((w.drew.alloc (.cells row.toArray 46)).setCells w.heap.size (i * 2) (hNews p l)).frozen? x:=fun x => rfl
 have hw1:IntKind.i64.wrap ((i:Int) + 1) = (i:Int) + 1:=by rw [IntKind.wrap_i64];omega
 have hb1:(0:Int) ≤ (i:Int) + 1:=by omega
 have hin:i ≤ cap:=by omega
 have hb3:(i:Int) ≤ (cap:Int):=by omega
 have hGi:¬ (G = i):=by omega
 have hGim:¬ (G = i + 1):=by omega
 have hci:¬ (cap = i):=by omega
 have mixed:Tryz.prog.follows Departure.mixedOrders = true:=by kernel_rfl
 clear hkk hik hold hG hrl hrow hmv hml hmg hm1 hN hOb hOv hN2 hO2 hll hg hvc hcs
 go_enter Tryz.func243,Tryz.ntmps243
 go_wp2_with (first
  | (at_builtin;refine Lib.wpList_append_run _ rfl _ _ _ _ rfl _ _ rfl rfl _ _ (hrz _) ?_)
  | (at_builtin;refine wpList_copy_known _ rfl _ _ 29 29 rfl _ _ rfl rfl (hcpA _ hE1 hE2 _ _) ?_)
  | (at_builtin;refine wpList_copy_known _ rfl _ _ 29 29 rfl _ _ rfl rfl (hcpB _ (fun _ => rfl) (fun _ => rfl) _ _ _) ?_))
 go_region_law_o (refine step_copy_known rfl _ _ 29 29 rfl (.slice (some ⟨w.heap.size,(i + 1) * 2,none⟩) (cap - i) (G - (i + 1))) (.slice (some ⟨g,i * 2,none⟩) (cap - i) (cap - i)) (by simp [Act.eval,Act.put]) (by simp [Act.eval,Act.put]) (hcpB _ hF1 hF2 3 (G - (i + 1)) (cap - i)) ?_)
 go_wp2
 go_ret
 exact hEnd.out.imp fun G' h => ⟨h.1,h.2.1,congrArg Ending.returned h.2.2.1,h.2.2.2⟩
def setIn {α:Type} (l:List α) (o:Nat) (vs:List α):List α:=l.take o ++ vs ++ l.drop o
theorem setIn_get {α:Type} (l:List α) (o:Nat) (vs:List α) (h:o ≤ l.length) (j:Nat) :
 (setIn l o vs)[j]? = if j < o then l[j]? else if j < o + vs.length then vs[j - o]? else l[j - vs.length]?:=by
 unfold setIn
 by_cases h1:j < o
 · rw [if_pos h1,List.append_assoc,List.getElem?_append_left (by simp;omega),List.getElem?_take,if_pos h1]
 · rw [if_neg h1]
   have ht:(l.take o).length = o:=by simp;omega
   by_cases h2:j < o + vs.length
   · rw [if_pos h2,List.getElem?_append_left (by simp;omega),List.getElem?_append_right (by omega),ht]
   · rw [if_neg h2,List.getElem?_append_right (by simp;omega),List.getElem?_drop]
     congr 1;simp;omega
theorem shifted_take (cur xs news:List Value) (n i m:Nat) (hm:m = news.length) (hi:i ≤ n) (hx:cur.take n = xs) (hl:n + m ≤ cur.length) (hxl:xs.length = n) :
 (laid (laid cur (i + m) (xs.drop i)) i news).take (n + m) = setIn xs i news:=by
 subst hm
 have h1:i + news.length + (xs.drop i).length ≤ cur.length:=by simp [hxl];omega
 have h2:i + news.length ≤ (laid cur (i + news.length) (xs.drop i)).length:=by rw [laid_length _ _ _ h1];omega
 apply List.ext_getElem?
 intro j
 rw [List.getElem?_take,setIn_get _ _ _ (by omega),laid_get _ _ _ h2,laid_get _ _ _ h1]
 have hxg:∀ k,k < n → xs[k]? = cur[k]?:=fun k hk => by rw [← hx,List.getElem?_take,if_pos hk]
 by_cases a1:j < i
 · rw [if_pos (by omega),if_pos a1,if_pos (by omega),if_pos a1,hxg _ (by omega)]
 · by_cases a2:j < i + news.length
   · rw [if_pos (by omega),if_neg a1,if_pos a2,if_neg a1,if_pos a2]
   · rw [if_neg a1,if_neg a2]
     by_cases a3:j < n + news.length
     · rw [if_pos a3,if_neg a1,if_neg a2,if_neg a2,if_pos (by simp [hxl];omega),List.getElem?_drop]
       congr 1;omega
     · rw [if_neg a3,if_neg a1,if_neg a2,List.getElem?_eq_none (by omega)]
theorem laid_of_take (a b vs:List Value) (o:Nat) (k:Nat) (hk:o + vs.length = k) (h:a.take o = b.take o) (ha:o ≤ a.length) (hb:o ≤ b.length):(laid a o vs).take k = b.take o ++ vs:=by
 subst hk
 unfold laid
 rw [List.take_append_of_le_length (by simp;omega),h,List.take_of_length_le (by simp;omega)]
theorem insert_own (base:Nat) (v:Value) (n i:Nat) (xs:List Value) (vb:Nat) (p l:Int) (w:World) (hown:w.ownsRow base 46 2 v n xs) (hi:i ≤ n) (hn:n ≤ 1000) (hbase:base ≤ w.heap.size) (hx1:∀ u ∈ xs,u.oneCell' = true)
 (hvb:v.ownBlock ≠ some vb) (hvc:w.heap[vb]? = some (.cells (hNews p l).toArray 46 (0,0))) :
 Calls Tryz.prog 243 #[v,.int .i64 i,.slice (some ⟨vb,0,none⟩) 1 1] w fun e w' => ∃ v',e = .returned v' ∧ w'.ownsRow base 46 2 v' (n + 1) (setIn xs (i * 2) (hNews p l)) ∧ w.grownBy w' v.ownBlock ∧ (v'.ownBlock = v.ownBlock ∨ ∃ g,v'.ownBlock = some g ∧ w.heap.size ≤ g):=by
 have hxl:=hown.1
 rcases Nat.lt_or_eq_of_le hi with hlt | rfl
 · rcases hown.2 with ⟨rfl,rfl⟩ | ⟨g,cap,cur,rfl,hbg,hg,hnc,hcm,hcs,htake⟩
   · omega
   · have hne:vb ≠ g:=fun e => hvb (by simp [Value.ownBlock,e])
     have hll:(setIn xs (i * 2) (hNews p l)).length = (n + 1) * 2:=by simp [setIn,hNews,hxl];omega
     by_cases hroom:n + 1 ≤ cap
     · refine (insert_shift g n cap i cur vb p l w hg hlt hroom hcm hcs hne hvc (by rw [htake];exact hx1)).mono ?_
       rintro e w' ⟨rfl,rfl⟩
       have hb1:=setCells_block ((cur.toList.take (n * 2)).drop (i * 2)) ((i + 1) * 2) w.drew cur hg (by simp;omega)
       have hb2:=setCells_block (hNews p l) (i * 2) _ _ hb1 (by
        rw [List.size_toArray,laid_length _ _ _ (by simp;omega)];simp [hNews];omega)
       refine ⟨_,rfl,⟨hll,Or.inr ⟨g,cap,_,rfl,hbg,hb2,hroom,hcm,?_,?_⟩⟩,?_,Or.inl rfl⟩
       · rw [List.size_toArray,laid_length _ _ _ (by rw [laid_length _ _ _ (by simp;omega)];simp [hNews];omega),laid_length _ _ _ (by simp;omega)]
         simpa using hcs
       · have:=shifted_take cur.toList xs (hNews p l) (n * 2) (i * 2) 2 rfl (by omega) htake (by simp;omega) hxl
         rw [htake,show (n + 1) * 2 = n * 2 + 2 by omega,show (i + 1) * 2 = i * 2 + 2 by omega]
         exact this
       · have hq:=grownBy_tr (grownBy_setCells w.drew g ((i + 1) * 2) ((cur.toList.take (n * 2)).drop (i * 2))) (grownBy_setCells _ g (i * 2) (hNews p l))
         exact ⟨hq.os,hq.tape,hq.output,hq.size,hq.block⟩
     · refine (insert_grow g n cap i cur vb p l w hg hlt hn hnc (by omega) hcs hvc (by rw [htake];exact hx1)).mono ?_
       rintro e w' ⟨G,hG1,hG2,rfl,rfl⟩
       obtain rfl:cap = n:=by omega
       obtain ⟨row,hrow⟩:∃ row:List Value,row = (cur.toList.take (i * 2)) ++ hZeros (cap + 1 - i) ++ hZeros (G - (cap + 1)):=⟨_,rfl⟩
       have hrl:row.length = G * 2:=by rw [hrow];simp [hZeros_length];omega
       have hrt:row.take (i * 2) = xs.take (i * 2):=by
        rw [hrow,List.append_assoc,List.take_append_of_le_length (by simp;omega),List.take_take,← htake,List.take_take]
        congr 1;omega
       rw [← hrow]
       have hb0:((w.alloc (.cells row.toArray 46)).drew).heap[w.heap.size]? = some (.cells row.toArray 46 (0,0)):=_root_.Go.heap_alloc_new w _
       have hb1:=setCells_block (hNews p l) (i * 2) _ _ hb0 (by simp [hrl,hNews];omega)
       have hl1:(laid row (i * 2) (hNews p l)).length = G * 2:=by rw [laid_length _ _ _ (by simp [hrl,hNews];omega)];exact hrl
       have hb2:=setCells_block ((cur.toList.take (cap * 2)).drop (i * 2)) ((i + 1) * 2) (((w.alloc (.cells row.toArray 46)).drew.setCells w.heap.size (i * 2) (hNews p l)).drew) _ hb1 (by simp [hl1];omega)
       refine ⟨_,rfl,⟨hll,Or.inr ⟨w.heap.size,G,_,rfl,hbase,hb2,hG1,hG2,?_,?_⟩⟩,?_,Or.inr ⟨w.heap.size,rfl,Nat.le_refl _⟩⟩
       · rw [List.size_toArray,laid_length _ _ _ (by simp [hl1];omega)]
         simpa using hl1
       · rw [laid_of_take _ (xs.take (i * 2) ++ hNews p l) _ _ _ (by simp;omega) ?_ (by simp [hl1];omega) (by simp [hNews,hxl];omega)]
         · rw [List.take_of_length_le (by simp [hNews];omega),htake]
           rfl
         · have e:(laid row (i * 2) (hNews p l)).take ((i + 1) * 2) = xs.take (i * 2) ++ hNews p l:=laid_of_take row xs (hNews p l) (i * 2) ((i + 1) * 2) (by simp [hNews];omega) hrt (by omega) (by omega)
           exact e.trans (List.take_of_length_le (by simp [hNews];omega)).symm
       · have hz:w.grownBy (w.alloc (.cells row.toArray 46)) (some g):=World.grownBy_alloc _ _ _
         refine ⟨?_,?_,?_,?_,?_⟩
         · rw [(setCells_rest _ _ _ _).1];show ((World.setCells _ _ _ _).os) = _;rw [(setCells_rest _ _ _ _).1];rfl
         · rw [(setCells_rest _ _ _ _).2.1];show ((World.setCells _ _ _ _).tape) = _;rw [(setCells_rest _ _ _ _).2.1];rfl
         · rw [(setCells_rest _ _ _ _).2.2];show ((World.setCells _ _ _ _).output) = _;rw [(setCells_rest _ _ _ _).2.2];rfl
         · rw [setCells_size];show _ ≤ (World.setCells _ _ _ _).heap.size;rw [setCells_size];exact hz.size
         · intro k hk _
           rw [setCells_other _ _ _ _ _ (by omega)];show (World.setCells _ _ _ _).heap[k]? = _;rw [setCells_other _ _ _ _ _ (by omega)]
           exact Below.heap_alloc w _ k hk
 · have hc:∀ j,w.cell? ⟨vb,j,none⟩ = (hNews p l)[j]?:=fun j => by rw [cell_row hvc];simp
   have hs:setIn xs (i * 2) (hNews p l) = xs ++ hNews p l:=by unfold setIn;rw [List.take_of_length_le (by omega),List.drop_of_length_le (by omega)];simp
   rw [hs]
   exact insert_end base v i xs vb p l w hown hn hbase (by rw [hc];rfl) (by rw [hc];rfl)
def cutOut {α:Type} (l:List α) (o k:Nat):List α:=l.take o ++ l.drop (o + k)
theorem zero48:∀ w,(zeroValue 46).run Tryz.prog w = .ok (.agg #[.int .i64 0,.int .i64 0]) w:=fun w => by
 obtain ⟨i0,hi0,h0,h1,h2⟩:=info_parts Tryz.info46
 simp [zeroValue,typeInfo,hi0,h0]
set_option maxHeartbeats 4000000 in
set_option maxRecDepth 100000 in
theorem delete_at (g n cap i:Nat) (cur:Array Value) (w:World) (hg:w.heap[g]? = some (.cells cur 46 (0,0))) (hi:i < n) (hnc:n ≤ cap) (hc63:cap ≤ maxLen) (hcs:cur.size = cap * 2) (hl1:∀ u ∈ cur.toList.take (n * 2),u.oneCell' = true) :
 Calls Tryz.prog 191 #[.slice (some ⟨g,0,none⟩) n cap,.int .i64 i,.int .i64 ((i:Int) + 1)] w fun e w' => e = .returned (.slice (some ⟨g,0,none⟩) (n - 1) cap) ∧
  w' = (w.drew.setCells g (i * 2) ((cur.toList.take (n * 2)).drop ((i + 1) * 2))).setCells g ((n - 1) * 2) (hZeros 1):=by
 obtain ⟨i0,hi0,hz0,hz1,hz2⟩:=info_parts Tryz.info46
 have hc64:cap ≤ 9223372036854775807:=by simpa [maxLen] using hc63
 obtain ⟨mv,hmv⟩:∃ mv,mv = (cur.toList.take (n * 2)).drop ((i + 1) * 2):=⟨_,rfl⟩
 have hml:mv.length = (n - (i + 1)) * 2:=by rw [hmv];simp;omega
 have hmg:∀ j u,mv[j]? = some u → cur[(i + 1) * 2 + j]? = some u:=fun j u hj => by
  rw [hmv,List.getElem?_drop,List.getElem?_take] at hj
  split at hj
  · simpa using hj
  · cases hj
 have hm1:∀ u ∈ mv,u.oneCell' = true:=fun u hu => by rw [hmv] at hu;exact hl1 u (List.mem_of_mem_drop hu)
 obtain ⟨A,hA,hsrc⟩:∃ A:Addr,(if cap = i + 1 then some (⟨g,0,none⟩:Addr) else some ⟨g,(i + 1) * 2,none⟩) = some A ∧ Hid (∀ t u,mv[t]? = some u → w.drew.cell? (A.add t) = some u):=by
  by_cases h:cap = i + 1
  · refine ⟨⟨g,0,none⟩,by simp [h],fun t u hu => ?_⟩
    have h0:mv.length = 0:=by rw [hml];omega
    rw [List.length_eq_zero_iff.1 h0] at hu
    simp at hu
  · refine ⟨⟨g,(i + 1) * 2,none⟩,by simp [h],fun t u hu => ?_⟩
    rw [Addr.add_lit]
    show w.cell? _ = _
    rw [cell_row hg]
    exact hmg t u hu
 have s1:Hid (mv.length = (n - (i + 1)) * 2):=hml
 have s2:Hid (∀ u ∈ mv,u.oneCell' = true):=hm1
 have s3:Hid (∀ t,t < mv.length → (w.drew.cell? ⟨g,0 + i * 2 + t,none⟩).isSome = true ∧ w.drew.frozen? ⟨g,0 + i * 2 + t,none⟩ = false):=fun t ht => by
  refine ⟨?_,frozen_row (w:=w) hg _⟩
  show (w.cell? _).isSome = true
  rw [cell_row hg,Array.getElem?_eq_getElem (by omega)];rfl
 obtain ⟨W1,hW1⟩:∃ W1,W1 = w.drew.setCells g (i * 2) mv:=⟨_,rfl⟩
 have hg1:W1.heap[g]? = some (.cells (laid cur.toList (i * 2) mv).toArray 46 (0,0)):=by
  rw [hW1];exact setCells_block mv _ w.drew cur hg (by omega)
 have hcl:∀ (W:World),(∀ x,W.cell? x = W1.cell? x) → (∀ x,W.frozen? x = W1.frozen? x) → ∀ ty c,(Builtin.clear_ #[29] ty #[.slice (some ⟨g,(i + (n - (i + 1))) * 2,none⟩) (n - (i + (n - (i + 1)))) c]).run Tryz.prog W = .ok (.tuple #[]) (W.setCells g ((i + (n - (i + 1))) * 2) (hZeros 1)):=fun W hWc hWf ty c => by
  have e1:n - (i + (n - (i + 1))) = 1:=by omega
  rw [e1]
  exact run_clear_cellsK W 29 46 ty _ Tryz.underlying29 zero48 g _ 1 c (by omega) (hZeros 1) rfl (hZeros_one 1)
   (fun j hj => by rw [hWc,cell_row hg1,Array.getElem?_eq_getElem (by rw [List.size_toArray,laid_length _ _ _ (by simp;omega)];rw [hZeros_length] at hj;simp;omega)];rfl) (fun j hj => by rw [hWf];exact frozen_row hg1 _)
 replace hcl:=hcl W1 (fun _ => rfl) (fun _ => rfl)
 have X:Hid (W1 = w.drew.setCells g (i * 2) mv):=hW1
 have hW:Hid (W1 = w.drew.setCells g (0 + i * 2) mv):=by rw [Nat.zero_add];exact hW1
 have hic:i ≤ cap:=by omega
 have hjc:i + 1 ≤ cap:=by omega
 have hjn:i + 1 ≤ n:=by omega
 have hjI:(i:Int) + 1 ≤ (n:Int):=by omega
 have hb5:(0:Int) ≤ (i:Int) + 1:=by omega
 have hne:¬ ((i:Int) = (i:Int) + 1):=by omega
 have mixed:Tryz.prog.follows Departure.mixedOrders = true:=by kernel_rfl
 rw [← hmv]
 clear hW1 hmv hml hmg hm1 hg1 hg hcs hl1
 go_enter Tryz.func191,Tryz.ntmps191
 go_wp2_with fail
 go_region_law_o (refine step_append_room rfl (.tmp 22) (.tmp 25) 29 rfl 46 i0 2 Tryz.underlying29 hi0 hz1 g 0 i cap (by simp [Act.eval,Act.put]) A (n - (i + 1)) (cap - (i + 1)) mv (by simp [Act.eval,Act.put]) s1.out hsrc.out s2.out (by omega) s3.out ?_;rw [← hW.out])
 go_wp2
 go_ret
 refine ⟨?_,?_⟩
 · rw [show n - 1 = i + (n - (i + 1)) by omega];rfl
 · rw [show n - 1 = i + (n - (i + 1)) by omega,← X.out]
theorem cut_take (cur xs z:List Value) (n i k:Nat) (hi:i + k ≤ n) (hx:cur.take n = xs) (hl:n ≤ cur.length) (hz:z.length = k) (hxl:xs.length = n) :
 (laid (laid cur i (xs.drop (i + k))) (n - k) z).take (n - k) = cutOut xs i k:=by
 have h1:i + (xs.drop (i + k)).length ≤ cur.length:=by simp [hxl];omega
 have h2:n - k + z.length ≤ (laid cur i (xs.drop (i + k))).length:=by rw [laid_length _ _ _ h1];omega
 unfold cutOut
 apply List.ext_getElem?
 intro j
 rw [List.getElem?_take,laid_get _ _ _ h2,laid_get _ _ _ h1]
 have hxg:∀ m,m < n → xs[m]? = cur[m]?:=fun m hm => by rw [← hx,List.getElem?_take,if_pos hm]
 by_cases a1:j < i
 · rw [if_pos (by omega),if_pos (by omega),if_pos a1,List.getElem?_append_left (by simp [hxl];omega),List.getElem?_take,if_pos a1,hxg _ (by omega)]
 · have ht:(xs.take i).length = i:=by simp [hxl];omega
   rw [List.getElem?_append_right (by omega),ht]
   by_cases a2:j < n - k
   · rw [if_pos a2,if_pos a2,if_neg a1,if_pos (by simp [hxl];omega)]
   · rw [if_neg a2,List.getElem?_eq_none (by simp;omega)]
theorem delete_own (base:Nat) (v:Value) (n i:Nat) (xs:List Value) (w:World) (hown:w.ownsRow base 46 2 v n xs) (hi:i < n) (hx1:∀ u ∈ xs,u.oneCell' = true) :
 Calls Tryz.prog 191 #[v,.int .i64 i,.int .i64 ((i:Int) + 1)] w fun e w' => ∃ v',e = .returned v' ∧ w'.ownsRow base 46 2 v' (n - 1) (cutOut xs (i * 2) 2) ∧ w.grownBy w' v.ownBlock ∧ v'.ownBlock = v.ownBlock:=by
 have hxl:=hown.1
 rcases hown.2 with ⟨rfl,rfl⟩ | ⟨g,cap,cur,rfl,hbg,hg,hnc,hcm,hcs,htake⟩
 · omega
 · refine (delete_at g n cap i cur w hg hi hnc hcm hcs (by rw [htake];exact hx1)).mono ?_
   rintro e w' ⟨rfl,rfl⟩
   have hb1:=setCells_block ((cur.toList.take (n * 2)).drop ((i + 1) * 2)) (i * 2) w.drew cur hg (by simp;omega)
   have hb2:=setCells_block (hZeros 1) ((n - 1) * 2) _ _ hb1 (by
    rw [List.size_toArray,laid_length _ _ _ (by simp;omega),hZeros_length];simp;omega)
   refine ⟨_,rfl,⟨by simp [cutOut,hxl];omega,Or.inr ⟨g,cap,_,rfl,hbg,hb2,by omega,hcm,?_,?_⟩⟩,?_,rfl⟩
   · rw [List.size_toArray,laid_length _ _ _ (by rw [hZeros_length,laid_length _ _ _ (by simp;omega)];simp;omega),laid_length _ _ _ (by simp;omega)]
     simpa using hcs
   · have:=cut_take cur.toList xs (hZeros 1) (n * 2) (i * 2) 2 (by omega) htake (by simp;omega) (hZeros_length 1) hxl
     rw [htake,show (n - 1) * 2 = n * 2 - 2 by omega,show (i + 1) * 2 = i * 2 + 2 by omega]
     exact this
   · have hq:=grownBy_tr (grownBy_setCells w.drew g (i * 2) ((cur.toList.take (n * 2)).drop ((i + 1) * 2))) (grownBy_setCells _ g ((n - 1) * 2) (hZeros 1))
     exact ⟨hq.os,hq.tape,hq.output,hq.size,hq.block⟩
def eCells (l:List (Int × Int)):List Value:=l.flatMap fun z => hNews z.1 z.2
theorem eCells_append (a b:List (Int × Int)):eCells (a ++ b) = eCells a ++ eCells b:=by simp [eCells]
theorem eCells_length (l:List (Int × Int)):(eCells l).length = l.length * 2:=by
 induction l with
 | nil => rfl
 | cons a r ih => rw [show eCells (a :: r) = hNews a.1 a.2 ++ eCells r from rfl,List.length_append,ih];simp [hNews];omega
theorem eCells_get (l:List (Int × Int)):∀ j (h:j < l.length),(eCells l)[j * 2]? = some (.int .i64 l[j].1) ∧ (eCells l)[j * 2 + 1]? = some (.int .i64 l[j].2):=by
 induction l with
 | nil => intro j h;simp at h
 | cons a r ih =>
  intro j h
  cases j with
  | zero => exact ⟨rfl,rfl⟩
  | succ j =>
   obtain ⟨h1,h2⟩:=ih j (by simpa using h)
   rw [show eCells (a :: r) = .int .i64 a.1 :: .int .i64 a.2 :: eCells r from rfl,show (j + 1) * 2 = j * 2 + 2 by omega]
   exact ⟨h1,h2⟩
theorem eCells_one (l:List (Int × Int)):∀ u ∈ eCells l,u.oneCell' = true:=by
 intro u hu
 simp only [eCells,List.mem_flatMap] at hu
 obtain ⟨z,_,hz⟩:=hu
 exact hNews_one _ _ u hz
theorem eCells_take (l:List (Int × Int)) (j:Nat) (h:j ≤ l.length):(eCells l).take (j * 2) = eCells (l.take j):=by
 have e:eCells l = eCells (l.take j) ++ eCells (l.drop j):=by rw [← eCells_append,List.take_append_drop]
 rw [e]
 have:(eCells (l.take j)).length = j * 2:=by rw [eCells_length,List.length_take];omega
 rw [← this];exact List.take_left
theorem eCells_drop (l:List (Int × Int)) (j:Nat) (h:j ≤ l.length):(eCells l).drop (j * 2) = eCells (l.drop j):=by
 have e:eCells l = eCells (l.take j) ++ eCells (l.drop j):=by rw [← eCells_append,List.take_append_drop]
 rw [e]
 have:(eCells (l.take j)).length = j * 2:=by rw [eCells_length,List.length_take];omega
 rw [← this];exact List.drop_left
theorem eCells_setIn (l:List (Int × Int)) (j:Nat) (h:j ≤ l.length) (p x:Int):setIn (eCells l) (j * 2) (hNews p x) = eCells (setIn l j [(p,x)]):=by
 unfold setIn
 rw [eCells_take _ _ h,eCells_drop _ _ h,eCells_append,eCells_append]
 simp [eCells]
theorem eCells_cutOut (l:List (Int × Int)) (j:Nat) (h:j < l.length):cutOut (eCells l) (j * 2) 2 = eCells (cutOut l j 1):=by
 unfold cutOut
 rw [eCells_take _ _ (by omega),show j * 2 + 2 = (j + 1) * 2 by omega,eCells_drop _ _ (by omega),eCells_append]
theorem own_ents {w:World} {base:Nat} {v:Value} {ents:List (Int × Int)} (h:w.ownsRow base 46 2 v ents.length (eCells ents)):EntsAt w v ents:=by
 rcases h.2 with ⟨rfl,hn⟩ | ⟨g,cap,cur,rfl,hbg,hg,hnc,hcm,hcs,htake⟩
 · exact Or.inl ⟨rfl,List.length_eq_zero_iff.1 hn⟩
 · refine Or.inr ⟨g,cap,rfl,hnc,hcm,(Array.getElem?_eq_some_iff.1 hg).1,fun j hj => ?_⟩
   obtain ⟨e1,e2⟩:=eCells_get ents j hj
   rw [← htake,List.getElem?_take] at e1 e2
   rw [cell_row hg,cell_row hg]
   constructor
   · split at e1
     · simpa using e1
     · cases e1
   · split at e2
     · simpa using e2
     · cases e2
theorem EntsAt.below {w w':World} {v:Value} {ents:List (Int × Int)} (h:EntsAt w v ents) (hb:Below w.heap.size w w'):EntsAt w' v ents:=by
 rcases h with h | ⟨g,cap,h1,h2,h3,h4,h5⟩
 · exact Or.inl h
 · exact Or.inr ⟨g,cap,h1,h2,h3,Nat.lt_of_lt_of_le h4 hb.size,fun j hj => ⟨(hb.cell (p:=⟨g,_,none⟩) h4).trans (h5 j hj).1,(hb.cell (p:=⟨g,_,none⟩) h4).trans (h5 j hj).2⟩⟩
set_option maxHeartbeats 1600000 in
theorem row_any (tb:Nat) (s:Value) (ents:List (Int × Int)) (p l:Int) (w:World) (hc:w.cell? ⟨tb,0,none⟩ = some s) (hs:EntsAt w s ents) (hl:ents.length ≤ 100) (hsort:ents.Pairwise fun a b => a.1 < b.1) :
 Calls Tryz.prog 130 #[.pointer (some ⟨tb,0,none⟩),.agg #[.int .i64 p,.int .i64 l]] w fun e w' => e = .returned (.int .i64 (ahead ents p)) ∧ Below w.heap.size w w':=by
 have htb:tb < w.heap.size:=World.block_lt_of_cell? w ⟨tb,0,none⟩ hc
 have hB:Hid (Below w.heap.size w (w.alloc (.cells #[.int .i64 p,.int .i64 l] 46))):=(Below.refl _ _).alloc (Nat.le_refl _) _
 have HS:Hid (EntsAt (w.alloc (.cells #[.int .i64 p,.int .i64 l] 46)) s ents):=hs.below hB.out
 have HO:Hid (ents.Pairwise fun a b => a.1 < b.1):=hsort
 have KS:Hid (∀ w':World,Below (w.heap.size + 1) (w.alloc (.cells #[.int .i64 p,.int .i64 l] 46)) w' → w'.cell? ⟨tb,0,none⟩ = some s ∧ w'.cell? ⟨w.heap.size,0,none⟩ = some (.int .i64 p) ∧ w'.cell? ⟨w.heap.size,1,none⟩ = some (.int .i64 l)):=fun w' hb =>
  ⟨(hb.cell (p:=⟨tb,0,none⟩) (by simp;omega)).trans ((hB.out.cell (p:=⟨tb,0,none⟩) htb).trans hc),(hb.cell (p:=⟨w.heap.size,0,none⟩) (by simp)).trans (by simp),(hb.cell (p:=⟨w.heap.size,1,none⟩) (by simp)).trans (by simp)⟩
 clear hs hsort
 go_enter Tryz.func130,Tryz.ntmps130
 go_wp2_with fail
 go_region_held3 (fun w' => w'.cell? ⟨tb,0,none⟩ = some s ∧ w'.cell? ⟨w.heap.size,0,none⟩ = some (.int .i64 p) ∧ w'.cell? ⟨w.heap.size,1,none⟩ = some (.int .i64 l)) ((refine KS.out _ ?_;first | exact (Below.refl _ _).drew | exact HB1.out)) ((go_at_call 199;refine (search_any s ents p l _ (HS.out.below (Below.refl _ _).drew) hl HO.out).mono ?_;rintro e w1 ⟨⟨bb,rfl⟩,hb1⟩;have HB1:Hid (Below (w.heap.size + 1) (w.alloc (.cells #[.int .i64 p,.int .i64 l] 46)) w1):=⟨hb1.os,hb1.tape,hb1.output,hb1.size,fun k hk => hb1.block k (by simpa using hk)⟩;clear hb1))
 all_goals go_wp2_with fail
 all_goals go_ret
 all_goals exact ⟨rfl,hB.out.trans (HB1.out.mono (by omega))⟩
theorem index147 (cs:Array Value) (k:Nat) (hk:k < 6) (v:Value) (hv:cs[k]? = some v) (w:World):(Instr.index 202 (.agg cs) (.int .i64 k)).run Tryz.prog w = .ok v w:=by
 simp [Instr.index,asIntOf,run_underlying Tryz.underlying202,part,hv]
 intro h;omega
end Go.Proofs.YthkbeaffkcfgiabGreatDoor
