import Derived.Test.YthkbeaffkcfgiabGreatDoorR04
set_option linter.unusedSimpArgs false
set_option linter.unusedVariables false
namespace Go.Proofs.YthkbeaffkcfgiabGreatDoor
open Go.RowKit
theorem Tryz.cellInfoI:(Tryz.prog.info? 3).map (fun i => (i.zero,i.size,i.bytes)) = some (some (.int .i64 0),1,8):=by kernel_rfl
set_option maxHeartbeats 4000000 in
set_option maxRecDepth 100000 in
theorem insert_endI (base:Nat) (v:Value) (n:Nat) (xs:List Value) (vb:Nat) (cx:Value) (hcx:cx.oneCell' = true) (w:World) (hown:w.ownsRow base 3 1 v n xs) (hn:n ≤ 1000) (hbase:base ≤ w.heap.size)
 (c0:w.cell? ⟨vb,0,none⟩ = some cx) :
 Calls Tryz.prog 365 #[v,.int .i64 n,.slice (some ⟨vb,0,none⟩) 1 1] w fun e w' => ∃ v',e = .returned v' ∧ w'.ownsRow base 3 1 v' (n + 1) (xs ++ [cx]) ∧ w.grownBy w' v.ownBlock ∧ (v'.ownBlock = v.ownBlock ∨ ∃ g,v'.ownBlock = some g ∧ w.heap.size ≤ g):=by
 obtain ⟨i0,hi0,hz0,hz1,hz2⟩:=info_parts Tryz.cellInfoI
 have HO:Hid (w.ownsRow base 3 1 v n xs):=hown
 have HN:Hid (∀ j u,[cx][j]? = some u → w.cell? ((⟨vb,0,none⟩:Addr).add j) = some u):=fun j u hj => by
  rw [Addr.add_lit,Nat.zero_add]
  match j with
  | 0 => simp at hj;rw [← hj];exact c0
  | j + 1 => simp at hj
 have hnn:(n:Int) ≤ n:=Int.le_refl _
 rcases hown.2 with ⟨rfl,rfl⟩ | ⟨g,cap,cur,rfl,hbg,hg,hnc,hcm,hcs,htake⟩
 · clear hown c0
   go_enter Tryz.func365,Tryz.ntmps365
   go_wp2_with (at_builtin;refine wpList_append_own_at _ rfl _ _ 54 rfl base 3 i0 _ 1 8 Tryz.underlying54 hi0 hz0 hz1 hz2 rfl (by decide) _ _ _ rfl HO.out ⟨vb,0,none⟩ 1 1 [cx] rfl rfl HN.out (fun u hu => by simp at hu;subst hu;exact hcx) (by unfold maxLen;omega) (by omega) hbase ?_;intro v' w1 hown1 hgrow1 _ hloc1)
   go_ret
   exact ⟨_,rfl,hown1,hgrow1,hloc1.imp id fun h => ⟨_,h,Nat.le_refl _⟩⟩
 · have hic:n ≤ cap:=hnc
   have hcm':cap ≤ 9223372036854775807:=by simpa [maxLen] using hcm
   clear hown c0 hg htake hcs
   go_enter Tryz.func365,Tryz.ntmps365
   go_wp2_with (at_builtin;refine wpList_append_own_at _ rfl _ _ 54 rfl base 3 i0 _ 1 8 Tryz.underlying54 hi0 hz0 hz1 hz2 rfl (by decide) _ _ _ rfl HO.out ⟨vb,0,none⟩ 1 1 [cx] rfl rfl HN.out (fun u hu => by simp at hu;subst hu;exact hcx) (by unfold maxLen;omega) (by omega) hbase ?_;intro v' w1 hown1 hgrow1 _ hloc1)
   all_goals go_ret
   all_goals exact ⟨_,rfl,hown1,hgrow1,hloc1.imp id fun h => ⟨_,h,Nat.le_refl _⟩⟩
set_option maxHeartbeats 4000000 in
set_option maxRecDepth 100000 in
theorem insert_shiftI (g n cap i:Nat) (cur:Array Value) (vb:Nat) (cx:Value) (hcx:cx.oneCell' = true) (w:World) (hg:w.heap[g]? = some (.cells cur 3 (0,0))) (hi:i < n) (hroom:n + 1 ≤ cap) (hc63:cap ≤ maxLen) (hcs:cur.size = cap)
 (hvb:vb ≠ g) (hvc:w.heap[vb]? = some (.cells [cx].toArray 3 (0,0))) (hl1:∀ u ∈ cur.toList.take (n),u.oneCell' = true) :
 Calls Tryz.prog 365 #[.slice (some ⟨g,0,none⟩) n cap,.int .i64 i,.slice (some ⟨vb,0,none⟩) 1 1] w fun e w' => e = .returned (.slice (some ⟨g,0,none⟩) (n + 1) cap) ∧
  w' = (w.drew.setCells g ((i + 1)) ((cur.toList.take (n)).drop (i))).setCells g (i) [cx]:=by
 have hc64:cap ≤ 9223372036854775807:=by simpa [maxLen] using hc63
 have hz2:¬ ((i:Int) = (n:Int)):=by omega
 have hsz:(Tryz.prog.info? 3).map (·.size) = some 1:=by
  obtain ⟨i0,hi0,h0,h1,h2⟩:=info_parts Tryz.cellInfoI
  rw [hi0];simp [h1]
 have hzE:∀ w,(Go.sizeOf 3).run Tryz.prog w = .ok 1 w:=fun w => by
  obtain ⟨i0,hi0,h0,h1,h2⟩:=info_parts Tryz.cellInfoI
  simp [Go.sizeOf,typeInfo,hi0,h1]
 have hov:∀ lb cb,(callFunc 366 #[.slice (some ⟨vb,0,none⟩) 1 1,.slice (some ⟨g,(i + 1),none⟩) lb cb]).run Tryz.prog w = .ok (.value (.bool false)) w:=fun lb cb => by
  rw [run_callFunc_extern Tryz.func366 (by kernel_rfl) (by kernel_rfl) (by kernel_rfl) (e:=Extern.SlicesOverlaps.overlaps #[54,54] #[4]) (by kernel_rfl),
   Lib.run_overlaps_apart w 54 4 3 Tryz.underlying54 1 hzE ⟨vb,0,none⟩ ⟨g,(i + 1),none⟩ 1 1 lb cb hvb 3 3 1 (cap) (by simp [World.shape?,hvc]) (by simp [World.shape?,hg,hcs]) (by omega) (frozen_row hvc _) (frozen_row hvc _)]
  rfl
 obtain ⟨mv,hmv⟩:∃ mv,mv = (cur.toList.take (n)).drop (i):=⟨_,rfl⟩
 have hml:mv.length = (n - i):=by rw [hmv];simp;omega
 have hmg:∀ j u,mv[j]? = some u → cur[i + j]? = some u:=fun j u hj => by
  rw [hmv,List.getElem?_drop,List.getElem?_take] at hj
  split at hj
  · simpa using hj
  · cases hj
 have hm1:∀ u ∈ mv,u.oneCell' = true:=fun u hu => by rw [hmv] at hu;exact hl1 u (List.mem_of_mem_drop hu)
 have hcp1:∀ ty dc sc,(Builtin.copy_ #[54,54] ty #[.slice (some ⟨g,(i + 1),none⟩) (n - i) dc,.slice (some ⟨g,i,none⟩) (n + 1 - i) sc]).run Tryz.prog w.drew = .ok (goInt (Nat.min (n + 1 - i) (n - i))) (w.drew.setCells g ((i + 1)) mv):=fun ty dc sc =>
  run_copy_cellsK w.drew _ _ ty 3 1 g ((i + 1)) (n - i) dc ⟨g,i,none⟩ (n + 1 - i) sc mv Tryz.underlying54 hsz (by rw [hml];simp only [Nat.min_def];split <;> omega)
   (fun j v hj => by rw [Addr.add_lit];show w.cell? _ = _;rw [cell_row hg];exact hmg j v hj)
   (fun j hj => by show (w.cell? _).isSome = true;rw [cell_row hg,Array.getElem?_eq_getElem (by omega)];rfl) (fun j hj => frozen_row (w:=w) hg _) hm1
 obtain ⟨W1,hW1⟩:∃ W1,W1 = w.drew.setCells g ((i + 1)) mv:=⟨_,rfl⟩
 have hg1:W1.heap[g]? = some (.cells (laid cur.toList ((i + 1)) mv).toArray 3 (0,0)):=by
  rw [hW1];exact setCells_block mv _ w.drew cur hg (by omega)
 have hv1:W1.heap[vb]? = some (.cells [cx].toArray 3 (0,0)):=by
  rw [hW1,setCells_other _ _ _ _ _ hvb];exact hvc
 have hcp2:∀ (W:World),(∀ x,W.cell? x = W1.cell? x) → (∀ x,W.frozen? x = W1.frozen? x) → ∀ ty dc,(Builtin.copy_ #[54,54] ty #[.slice (some ⟨g,i,none⟩) (n + 1 - i) dc,.slice (some ⟨vb,0,none⟩) 1 1]).run Tryz.prog W = .ok (goInt (Nat.min 1 (n + 1 - i))) (W.setCells g (i) [cx]):=fun W hWc hWf ty dc =>
  run_copy_cellsK W _ _ ty 3 1 g (i) (n + 1 - i) dc ⟨vb,0,none⟩ 1 1 [cx] Tryz.underlying54 hsz (by simp only [Nat.min_def,List.length_cons,List.length_nil];split <;> omega)
   (fun j v hj => by rw [Addr.add_lit,hWc,cell_row hv1];simpa using hj)
   (fun j hj => by rw [hWc,cell_row hg1,Array.getElem?_eq_getElem (by simp [laid_length _ _ _ (show (i + 1) + mv.length ≤ cur.toList.length by simp;omega)] at hj ⊢;omega)];rfl) (fun j hj => by rw [hWf];exact frozen_row hg1 _) (fun u hu => by simp at hu;subst hu;exact hcx)
 rw [← hmv]
 rw [← hW1] at hcp1
 have hin:i ≤ n:=by omega
 have hw1:IntKind.i64.wrap ((i:Int) + 1) = (i:Int) + 1:=by rw [IntKind.wrap_i64];omega
 have hb2:¬ (cap = i + 1):=by omega
 have hb4:¬ (cap = i):=by omega
 have hb5:(0:Int) ≤ (i:Int) + 1:=by omega
 have hb3:(i:Int) ≤ (n:Int) + 1:=by omega
 have mixed:Tryz.prog.follows Departure.mixedOrders = true:=by kernel_rfl
 have HW1:Hid (W1 = w.drew.setCells g ((i + 1)) mv):=hW1
 clear hmv hml hmg hm1 hg1 hv1 hW1 hg hvc
 go_enter Tryz.func365,Tryz.ntmps365
 go_wp2_with (simp only [hov])
 go_region_law_o (refine step_copy_known rfl _ _ 54 54 rfl _ _ (by simp [Act.eval,Act.put]) (by simp [Act.eval,Act.put]) (hcp1 _ _ _) ?_)
 go_wp2_with (at_builtin;refine wpList_copy_known _ rfl _ _ 54 54 rfl _ _ rfl rfl (hcp2 _ (fun _ => rfl) (fun _ => rfl) _ _) ?_)
 go_ret
 exact ⟨rfl,by rw [HW1.out]⟩
def hZerosI (k:Nat):List Value:=(Builtin.zeroCells (.int .i64 0:Value).cells k).toList
theorem hZeros_lengthI (k:Nat):(hZerosI k).length = k:=by simp [hZerosI,Builtin.zeroCells,Value.cells]
theorem hZeros_oneI (k:Nat):∀ u ∈ hZerosI k,u.oneCell' = true:=by
 intro u hu
 simp only [hZerosI,Builtin.zeroCells,Value.cells,Array.mem_toList_iff,Array.mem_map] at hu
 obtain ⟨j,_,rfl⟩:=hu
 generalize hq:j % _ = q
 obtain rfl:q = 0:=by
  have:q < 1:=by rw [← hq];exact Nat.mod_lt _ (by simp)
  omega
 rfl
set_option maxHeartbeats 4000000 in
set_option maxRecDepth 100000 in
theorem insert_growI (g n cap i:Nat) (cur:Array Value) (vb:Nat) (cx:Value) (hcx:cx.oneCell' = true) (w:World) (hg:w.heap[g]? = some (.cells cur 3 (0,0))) (hi:i < n) (hn:n ≤ 1000) (hnc:n ≤ cap) (hroom:cap < n + 1) (hcs:cur.size = cap)
 (hvc:w.heap[vb]? = some (.cells [cx].toArray 3 (0,0))) (hl1:∀ u ∈ cur.toList.take (n),u.oneCell' = true) :
 Calls Tryz.prog 365 #[.slice (some ⟨g,0,none⟩) n cap,.int .i64 i,.slice (some ⟨vb,0,none⟩) 1 1] w fun e w' => ∃ G,n + 1 ≤ G ∧ G ≤ maxLen ∧ e = .returned (.slice (some ⟨w.heap.size,0,none⟩) (n + 1) G) ∧
  w' = (((w.alloc (.cells (((cur.toList.take (i)) ++ hZerosI (n + 1 - i) ++ hZerosI (G - (n + 1))).toArray) 3)).drew.setCells w.heap.size (i) [cx]).drew).setCells w.heap.size ((i + 1)) ((cur.toList.take (n)).drop (i)):=by
 obtain rfl:cap = n:=by omega
 obtain ⟨i0,hi0,hz0,hzs,hzb⟩:=info_parts Tryz.cellInfoI
 have hz2:¬ ((i:Int) = (cap:Int)):=by omega
 have hsz:(Tryz.prog.info? 3).map (·.size) = some 1:=by rw [hi0];simp [hzs]
 have hgw:g < w.heap.size:=(Array.getElem?_eq_some_iff.1 hg).1
 have hvw:vb < w.heap.size:=(Array.getElem?_eq_some_iff.1 hvc).1
 have hkk:(cap:Int) + 1 - (i:Int) = ((cap + 1 - i:Nat):Int):=by omega
 have hik:i + (cap + 1 - i) = cap + 1:=by omega
 have hold:(Builtin.firstCells i0.size i (.slice (some ⟨g,0,none⟩) i cap)).run Tryz.prog w.drew = .ok (cur.toList.take (i)).toArray w.drew:=by
  rw [hzs]
  exact run_firstCells_some w.drew 1 i ⟨g,0,none⟩ i cap (cur.toList.take (i)) (by simp;omega) (fun j v hj => by
   rw [Addr.add_lit,Nat.zero_add]
   rw [List.getElem?_take] at hj
   split at hj
   · show w.cell? _ = _;rw [cell_row hg];simpa using hj
   · cases hj)
 have hrz:∀ ty,(Builtin.append_ #[54,3] ty #[.slice (some ⟨g,0,none⟩) i cap,.int .i64 ((cap:Int) + 1 - (i:Int))]).run Tryz.prog w =
  .ok (.slice (some ⟨w.heap.size,0,none⟩) (cap + 1) (grownCap w (cap + 1) cap 3)) (w.drew.alloc (.cells (((cur.toList.take (i)) ++ hZerosI (cap + 1 - i) ++ hZerosI (grownCap w (cap + 1) cap 3 - (cap + 1))).toArray) 3)):=fun ty => by
  have h:=Lib.run_append_grow_zeros w 54 3 ty 3 i0 _ .i64 .i64 Tryz.underlying54 Tryz.underlying3 hi0 hz0 (some ⟨g,0,none⟩) i cap (cur.toList.take (i)) hold (cap + 1 - i) (by omega) (by omega) (by omega) (by omega) (by rw [hzb];omega) (by rw [hzb,hik];exact growslice_fits (by omega) (by omega))
  rw [hik] at h
  rw [hkk,h]
  simp only [hZerosI]
  congr 3
  apply Array.ext'
  simp
 obtain ⟨G,hG⟩:∃ G,G = grownCap w (cap + 1) cap 3:=⟨_,rfl⟩
 rw [← hG] at hrz
 have hGn:cap + 1 ≤ G:=by rw [hG];exact grownCap_ge w _ _ _
 have hG63:G ≤ maxLen:=by rw [hG];exact grownCap_le_maxLen w (cap + 1) cap 3 (by unfold maxLen;omega)
 have hG64:G ≤ 9223372036854775807:=by simpa [maxLen] using hG63
 obtain ⟨row,hrow⟩:∃ row:List Value,row = (cur.toList.take (i)) ++ hZerosI (cap + 1 - i) ++ hZerosI (G - (cap + 1)):=⟨_,rfl⟩
 have hrl:row.length = G:=by rw [hrow];simp [hZeros_lengthI];omega
 rw [← hrow] at hrz
 obtain ⟨mv,hmv⟩:∃ mv,mv = (cur.toList.take (cap)).drop (i):=⟨_,rfl⟩
 have hml:mv.length = (cap - i):=by rw [hmv];simp;omega
 have hmg:∀ j u,mv[j]? = some u → cur[i + j]? = some u:=fun j u hj => by
  rw [hmv,List.getElem?_drop,List.getElem?_take] at hj
  split at hj
  · simpa using hj
  · cases hj
 have hm1:∀ u ∈ mv,u.oneCell' = true:=fun u hu => by rw [hmv] at hu;exact hl1 u (List.mem_of_mem_drop hu)
 obtain ⟨W1,hW1⟩:∃ W1,W1 = w.drew.alloc (.cells row.toArray 3):=⟨_,rfl⟩
 rw [← hW1] at hrz
 have hN:W1.heap[w.heap.size]? = some (.cells row.toArray 3 (0,0)):=by rw [hW1];exact _root_.Go.heap_alloc_new w.drew _
 have hOb:W1.heap[g]? = some (.cells cur 3 (0,0)):=by rw [hW1];exact (Below.heap_alloc w.drew _ g hgw).trans hg
 have hOv:W1.heap[vb]? = some (.cells [cx].toArray 3 (0,0)):=by rw [hW1];exact (Below.heap_alloc w.drew _ vb hvw).trans hvc
 have hcpA:∀ (W:World),(∀ x,W.cell? x = W1.cell? x) → (∀ x,W.frozen? x = W1.frozen? x) → ∀ ty dc,(Builtin.copy_ #[54,54] ty #[.slice (some ⟨w.heap.size,i,none⟩) (cap + 1 - i) dc,.slice (some ⟨vb,0,none⟩) 1 1]).run Tryz.prog W = .ok (goInt (Nat.min 1 (cap + 1 - i))) (W.setCells w.heap.size (i) [cx]):=fun W hWc hWf ty dc =>
  run_copy_cellsK W _ _ ty 3 1 w.heap.size (i) (cap + 1 - i) dc ⟨vb,0,none⟩ 1 1 [cx] Tryz.underlying54 hsz (by simp only [Nat.min_def,List.length_cons,List.length_nil];split <;> omega)
   (fun j v hj => by rw [Addr.add_lit,hWc,cell_row hOv];simpa using hj)
   (fun j hj => by rw [hWc,cell_row hN,Array.getElem?_eq_getElem (by simp [hrl] at hj ⊢;omega)];rfl) (fun j hj => by rw [hWf];exact frozen_row hN _) (fun u hu => by simp at hu;subst hu;exact hcx)
 have hN2:(W1.setCells w.heap.size (i) [cx]).heap[w.heap.size]? = some (.cells (laid row.toArray.toList (i) [cx]).toArray 3 (0,0)):=setCells_block _ _ _ _ hN (by simp [hrl];omega)
 have hO2:(W1.setCells w.heap.size (i) [cx]).heap[g]? = some (.cells cur 3 (0,0)):=(setCells_other _ _ _ _ _ (by omega)).trans hOb
 have hll:(laid row.toArray.toList (i) [cx]).length = G:=by rw [laid_length _ _ _ (by simp [hrl];omega)];simpa using hrl
 have hcpB:∀ (W:World),(∀ x,W.cell? x = (W1.setCells w.heap.size (i) [cx]).cell? x) → (∀ x,W.frozen? x = (W1.setCells w.heap.size (i) [cx]).frozen? x) → ∀ ty dc sc,(Builtin.copy_ #[54,54] ty #[.slice (some ⟨w.heap.size,(i + 1),none⟩) (cap - i) dc,.slice (some ⟨g,i,none⟩) (cap - i) sc]).run Tryz.prog W = .ok (goInt (Nat.min (cap - i) (cap - i))) (W.setCells w.heap.size ((i + 1)) mv):=fun W hWc hWf ty dc sc =>
  run_copy_cellsK W _ _ ty 3 1 w.heap.size ((i + 1)) (cap - i) dc ⟨g,i,none⟩ (cap - i) sc mv Tryz.underlying54 hsz (by rw [hml];simp only [Nat.min_def];split <;> omega)
   (fun j v hj => by rw [Addr.add_lit,hWc,cell_row hO2];exact hmg j v hj)
   (fun j hj => by rw [hWc,cell_row hN2,Array.getElem?_eq_getElem (by rw [List.size_toArray,hll];omega)];rfl) (fun j hj => by rw [hWf];exact frozen_row hN2 _) hm1
 have hEnd:Hid (∃ G',cap + 1 ≤ G' ∧ G' ≤ maxLen ∧ Value.slice (some ⟨w.heap.size,0,none⟩) (cap + 1) G = Value.slice (some ⟨w.heap.size,0,none⟩) (cap + 1) G' ∧
  ((((w.alloc (.cells row.toArray 3)).drew.setCells w.heap.size (i) [cx]).drew).setCells w.heap.size ((i + 1)) mv) = (((w.alloc (.cells (((cur.toList.take (i)) ++ hZerosI (cap + 1 - i) ++ hZerosI (G' - (cap + 1))).toArray) 3)).drew.setCells w.heap.size (i) [cx]).drew).setCells w.heap.size ((i + 1)) ((cur.toList.take (cap)).drop (i))) :=
  ⟨G,hGn,hG63,rfl,by rw [hrow,hmv]⟩
 subst hW1
 have hE1:∀ x,((w.alloc (.cells row.toArray 3)).drew).cell? x = (w.drew.alloc (.cells row.toArray 3)).cell? x:=fun x => rfl
 have hE2:∀ x,((w.alloc (.cells row.toArray 3)).drew).frozen? x = (w.drew.alloc (.cells row.toArray 3)).frozen? x:=fun x => rfl
 have hF1:∀ x,(((w.alloc (.cells row.toArray 3)).drew.setCells w.heap.size (i) [cx]).drew).cell? x = ((w.drew.alloc (.cells row.toArray 3)).setCells w.heap.size (i) [cx]).cell? x:=fun x => rfl
 have hF2:∀ x,(((w.alloc (.cells row.toArray 3)).drew.setCells w.heap.size (i) [cx]).drew).frozen? x = ((w.drew.alloc (.cells row.toArray 3)).setCells w.heap.size (i) [cx]).frozen? x:=fun x => rfl
 have hw1:IntKind.i64.wrap ((i:Int) + 1) = (i:Int) + 1:=by rw [IntKind.wrap_i64];omega
 have hb1:(0:Int) ≤ (i:Int) + 1:=by omega
 have hin:i ≤ cap:=by omega
 have hb3:(i:Int) ≤ (cap:Int):=by omega
 have hGi:¬ (G = i):=by omega
 have hGim:¬ (G = i + 1):=by omega
 have hci:¬ (cap = i):=by omega
 have mixed:Tryz.prog.follows Departure.mixedOrders = true:=by kernel_rfl
 clear hkk hik hold hG hrl hrow hmv hml hmg hm1 hN hOb hOv hN2 hO2 hll hg hvc hcs
 go_enter Tryz.func365,Tryz.ntmps365
 go_wp2_with (first
  | (at_builtin;refine Lib.wpList_append_run _ rfl _ _ _ _ rfl _ _ rfl rfl _ _ (hrz _) ?_)
  | (at_builtin;refine wpList_copy_known _ rfl _ _ 54 54 rfl _ _ rfl rfl (hcpA _ hE1 hE2 _ _) ?_)
  | (at_builtin;refine wpList_copy_known _ rfl _ _ 54 54 rfl _ _ rfl rfl (hcpB _ (fun _ => rfl) (fun _ => rfl) _ _ _) ?_))
 go_region_law_o (refine step_copy_known rfl _ _ 54 54 rfl (.slice (some ⟨w.heap.size,(i + 1),none⟩) (cap - i) (G - (i + 1))) (.slice (some ⟨g,i,none⟩) (cap - i) (cap - i)) (by simp [Act.eval,Act.put]) (by simp [Act.eval,Act.put]) (hcpB _ hF1 hF2 3 (G - (i + 1)) (cap - i)) ?_)
 go_wp2
 go_ret
 exact hEnd.out.imp fun G' h => ⟨h.1,h.2.1,congrArg Ending.returned h.2.2.1,h.2.2.2⟩
theorem insert_ownI (base:Nat) (v:Value) (n i:Nat) (xs:List Value) (vb:Nat) (cx:Value) (hcx:cx.oneCell' = true) (w:World) (hown:w.ownsRow base 3 1 v n xs) (hi:i ≤ n) (hn:n ≤ 1000) (hbase:base ≤ w.heap.size) (hx1:∀ u ∈ xs,u.oneCell' = true)
 (hvb:v.ownBlock ≠ some vb) (hvc:w.heap[vb]? = some (.cells [cx].toArray 3 (0,0))) :
 Calls Tryz.prog 365 #[v,.int .i64 i,.slice (some ⟨vb,0,none⟩) 1 1] w fun e w' => ∃ v',e = .returned v' ∧ w'.ownsRow base 3 1 v' (n + 1) (setIn xs (i) [cx]) ∧ w.grownBy w' v.ownBlock ∧ (v'.ownBlock = v.ownBlock ∨ ∃ g,v'.ownBlock = some g ∧ w.heap.size ≤ g):=by
 have hxl:xs.length = n:=by simpa using hown.1
 rcases Nat.lt_or_eq_of_le hi with hlt | rfl
 · rcases hown.2 with ⟨rfl,rfl⟩ | ⟨g,cap,cur,rfl,hbg,hg,hnc,hcm,hcs,htake⟩
   · omega
   · rw [Nat.mul_one] at hcs htake
     have hne:vb ≠ g:=fun e => hvb (by simp [Value.ownBlock,e])
     have hll:(setIn xs (i) [cx]).length = (n + 1):=by simp [setIn,hxl];omega
     by_cases hroom:n + 1 ≤ cap
     · refine (insert_shiftI g n cap i cur vb cx hcx w hg hlt hroom hcm hcs hne hvc (by rw [htake];exact hx1)).mono ?_
       rintro e w' ⟨rfl,rfl⟩
       have hb1:=setCells_block ((cur.toList.take (n)).drop (i)) ((i + 1)) w.drew cur hg (by simp;omega)
       have hb2:=setCells_block [cx] (i) _ _ hb1 (by
        rw [List.size_toArray,laid_length _ _ _ (by simp;omega)];simp;omega)
       refine ⟨_,rfl,⟨by rw [Nat.mul_one];exact hll,Or.inr ⟨g,cap,_,rfl,hbg,hb2,hroom,hcm,?_,?_⟩⟩,?_,Or.inl rfl⟩
       · rw [Nat.mul_one,List.size_toArray,laid_length _ _ _ (by rw [laid_length _ _ _ (by simp;omega)];simp;omega),laid_length _ _ _ (by simp;omega)]
         simpa using hcs
       · have:=shifted_take cur.toList xs [cx] (n) (i) 1 rfl (by omega) htake (by simp;omega) hxl
         rw [Nat.mul_one,htake]
         exact this
       · have hq:=grownBy_tr (grownBy_setCells w.drew g ((i + 1)) ((cur.toList.take (n)).drop (i))) (grownBy_setCells _ g (i) [cx])
         exact ⟨hq.os,hq.tape,hq.output,hq.size,hq.block⟩
     · refine (insert_growI g n cap i cur vb cx hcx w hg hlt hn hnc (by omega) hcs hvc (by rw [htake];exact hx1)).mono ?_
       rintro e w' ⟨G,hG1,hG2,rfl,rfl⟩
       obtain rfl:cap = n:=by omega
       obtain ⟨row,hrow⟩:∃ row:List Value,row = (cur.toList.take (i)) ++ hZerosI (cap + 1 - i) ++ hZerosI (G - (cap + 1)):=⟨_,rfl⟩
       have hrl:row.length = G:=by rw [hrow];simp [hZeros_lengthI];omega
       have hrt:row.take (i) = xs.take (i):=by
        rw [hrow,List.append_assoc,List.take_append_of_le_length (by simp;omega),List.take_take,← htake,List.take_take]
        congr 1;omega
       rw [← hrow]
       have hb0:((w.alloc (.cells row.toArray 3)).drew).heap[w.heap.size]? = some (.cells row.toArray 3 (0,0)):=_root_.Go.heap_alloc_new w _
       have hb1:=setCells_block [cx] (i) _ _ hb0 (by simp [hrl];omega)
       have hl1:(laid row (i) [cx]).length = G:=by rw [laid_length _ _ _ (by simp [hrl];omega)];exact hrl
       have hb2:=setCells_block ((cur.toList.take (cap)).drop (i)) ((i + 1)) (((w.alloc (.cells row.toArray 3)).drew.setCells w.heap.size (i) [cx]).drew) _ hb1 (by simp [hl1];omega)
       refine ⟨_,rfl,⟨by rw [Nat.mul_one];exact hll,Or.inr ⟨w.heap.size,G,_,rfl,hbase,hb2,hG1,hG2,?_,?_⟩⟩,?_,Or.inr ⟨w.heap.size,rfl,Nat.le_refl _⟩⟩
       · rw [Nat.mul_one,List.size_toArray,laid_length _ _ _ (by simp [hl1];omega)]
         simpa using hl1
       · rw [Nat.mul_one,laid_of_take _ (xs.take (i) ++ [cx]) _ _ _ (by simp;omega) ?_ (by simp [hl1];omega) (by simp [hxl];omega)]
         · rw [List.take_of_length_le (by simp;omega),htake]
           rfl
         · have e:(laid row (i) [cx]).take ((i + 1)) = xs.take (i) ++ [cx]:=laid_of_take row xs [cx] (i) (i + 1) (by simp) hrt (by omega) (by omega)
           exact e.trans (List.take_of_length_le (by simp;omega)).symm
       · have hz:w.grownBy (w.alloc (.cells row.toArray 3)) (some g):=World.grownBy_alloc _ _ _
         refine ⟨?_,?_,?_,?_,?_⟩
         · rw [(setCells_rest _ _ _ _).1];show ((World.setCells _ _ _ _).os) = _;rw [(setCells_rest _ _ _ _).1];rfl
         · rw [(setCells_rest _ _ _ _).2.1];show ((World.setCells _ _ _ _).tape) = _;rw [(setCells_rest _ _ _ _).2.1];rfl
         · rw [(setCells_rest _ _ _ _).2.2];show ((World.setCells _ _ _ _).output) = _;rw [(setCells_rest _ _ _ _).2.2];rfl
         · rw [setCells_size];show _ ≤ (World.setCells _ _ _ _).heap.size;rw [setCells_size];exact hz.size
         · intro k hk _
           rw [setCells_other _ _ _ _ _ (by omega)];show (World.setCells _ _ _ _).heap[k]? = _;rw [setCells_other _ _ _ _ _ (by omega)]
           exact Below.heap_alloc w _ k hk
 · have hc:∀ j,w.cell? ⟨vb,j,none⟩ = [cx][j]?:=fun j => by rw [cell_row hvc];simp
   have hs:setIn xs (i) [cx] = xs ++ [cx]:=by unfold setIn;rw [List.take_of_length_le (by omega),List.drop_of_length_le (by omega)];simp
   rw [hs]
   exact insert_endI base v i xs vb cx hcx w hown hn hbase (by rw [hc];rfl)
theorem Tryz.cellInfoS:(Tryz.prog.info? 9).map (fun i => (i.zero,i.size,i.bytes)) = some (some (.string ⟨#[]⟩),1,16):=by kernel_rfl
set_option maxHeartbeats 4000000 in
set_option maxRecDepth 100000 in
theorem insert_endS (base:Nat) (v:Value) (n:Nat) (xs:List Value) (vb:Nat) (cx:Value) (hcx:cx.oneCell' = true) (w:World) (hown:w.ownsRow base 9 1 v n xs) (hn:n ≤ 1000) (hbase:base ≤ w.heap.size)
 (c0:w.cell? ⟨vb,0,none⟩ = some cx) :
 Calls Tryz.prog 387 #[v,.int .i64 n,.slice (some ⟨vb,0,none⟩) 1 1] w fun e w' => ∃ v',e = .returned v' ∧ w'.ownsRow base 9 1 v' (n + 1) (xs ++ [cx]) ∧ w.grownBy w' v.ownBlock ∧ (v'.ownBlock = v.ownBlock ∨ ∃ g,v'.ownBlock = some g ∧ w.heap.size ≤ g):=by
 obtain ⟨i0,hi0,hz0,hz1,hz2⟩:=info_parts Tryz.cellInfoS
 have HO:Hid (w.ownsRow base 9 1 v n xs):=hown
 have HN:Hid (∀ j u,[cx][j]? = some u → w.cell? ((⟨vb,0,none⟩:Addr).add j) = some u):=fun j u hj => by
  rw [Addr.add_lit,Nat.zero_add]
  match j with
  | 0 => simp at hj;rw [← hj];exact c0
  | j + 1 => simp at hj
 have hnn:(n:Int) ≤ n:=Int.le_refl _
 rcases hown.2 with ⟨rfl,rfl⟩ | ⟨g,cap,cur,rfl,hbg,hg,hnc,hcm,hcs,htake⟩
 · clear hown c0
   go_enter Tryz.func387,Tryz.ntmps387
   go_wp2_with (at_builtin;refine wpList_append_own_at _ rfl _ _ 60 rfl base 9 i0 _ 1 16 Tryz.underlying60 hi0 hz0 hz1 hz2 rfl (by decide) _ _ _ rfl HO.out ⟨vb,0,none⟩ 1 1 [cx] rfl rfl HN.out (fun u hu => by simp at hu;subst hu;exact hcx) (by unfold maxLen;omega) (by omega) hbase ?_;intro v' w1 hown1 hgrow1 _ hloc1)
   go_ret
   exact ⟨_,rfl,hown1,hgrow1,hloc1.imp id fun h => ⟨_,h,Nat.le_refl _⟩⟩
 · have hic:n ≤ cap:=hnc
   have hcm':cap ≤ 9223372036854775807:=by simpa [maxLen] using hcm
   clear hown c0 hg htake hcs
   go_enter Tryz.func387,Tryz.ntmps387
   go_wp2_with (at_builtin;refine wpList_append_own_at _ rfl _ _ 60 rfl base 9 i0 _ 1 16 Tryz.underlying60 hi0 hz0 hz1 hz2 rfl (by decide) _ _ _ rfl HO.out ⟨vb,0,none⟩ 1 1 [cx] rfl rfl HN.out (fun u hu => by simp at hu;subst hu;exact hcx) (by unfold maxLen;omega) (by omega) hbase ?_;intro v' w1 hown1 hgrow1 _ hloc1)
   all_goals go_ret
   all_goals exact ⟨_,rfl,hown1,hgrow1,hloc1.imp id fun h => ⟨_,h,Nat.le_refl _⟩⟩
set_option maxHeartbeats 4000000 in
set_option maxRecDepth 100000 in
theorem insert_shiftS (g n cap i:Nat) (cur:Array Value) (vb:Nat) (cx:Value) (hcx:cx.oneCell' = true) (w:World) (hg:w.heap[g]? = some (.cells cur 9 (0,0))) (hi:i < n) (hroom:n + 1 ≤ cap) (hc63:cap ≤ maxLen) (hcs:cur.size = cap)
 (hvb:vb ≠ g) (hvc:w.heap[vb]? = some (.cells [cx].toArray 9 (0,0))) (hl1:∀ u ∈ cur.toList.take (n),u.oneCell' = true) :
 Calls Tryz.prog 387 #[.slice (some ⟨g,0,none⟩) n cap,.int .i64 i,.slice (some ⟨vb,0,none⟩) 1 1] w fun e w' => e = .returned (.slice (some ⟨g,0,none⟩) (n + 1) cap) ∧
  w' = (w.drew.setCells g ((i + 1)) ((cur.toList.take (n)).drop (i))).setCells g (i) [cx]:=by
 have hc64:cap ≤ 9223372036854775807:=by simpa [maxLen] using hc63
 have hz2:¬ ((i:Int) = (n:Int)):=by omega
 have hsz:(Tryz.prog.info? 9).map (·.size) = some 1:=by
  obtain ⟨i0,hi0,h0,h1,h2⟩:=info_parts Tryz.cellInfoS
  rw [hi0];simp [h1]
 have hzE:∀ w,(Go.sizeOf 9).run Tryz.prog w = .ok 1 w:=fun w => by
  obtain ⟨i0,hi0,h0,h1,h2⟩:=info_parts Tryz.cellInfoS
  simp [Go.sizeOf,typeInfo,hi0,h1]
 have hov:∀ lb cb,(callFunc 388 #[.slice (some ⟨vb,0,none⟩) 1 1,.slice (some ⟨g,(i + 1),none⟩) lb cb]).run Tryz.prog w = .ok (.value (.bool false)) w:=fun lb cb => by
  rw [run_callFunc_extern Tryz.func388 (by kernel_rfl) (by kernel_rfl) (by kernel_rfl) (e:=Extern.SlicesOverlaps.overlaps #[60,60] #[4]) (by kernel_rfl),
   Lib.run_overlaps_apart w 60 4 9 Tryz.underlying60 1 hzE ⟨vb,0,none⟩ ⟨g,(i + 1),none⟩ 1 1 lb cb hvb 9 9 1 (cap) (by simp [World.shape?,hvc]) (by simp [World.shape?,hg,hcs]) (by omega) (frozen_row hvc _) (frozen_row hvc _)]
  rfl
 obtain ⟨mv,hmv⟩:∃ mv,mv = (cur.toList.take (n)).drop (i):=⟨_,rfl⟩
 have hml:mv.length = (n - i):=by rw [hmv];simp;omega
 have hmg:∀ j u,mv[j]? = some u → cur[i + j]? = some u:=fun j u hj => by
  rw [hmv,List.getElem?_drop,List.getElem?_take] at hj
  split at hj
  · simpa using hj
  · cases hj
 have hm1:∀ u ∈ mv,u.oneCell' = true:=fun u hu => by rw [hmv] at hu;exact hl1 u (List.mem_of_mem_drop hu)
 have hcp1:∀ ty dc sc,(Builtin.copy_ #[60,60] ty #[.slice (some ⟨g,(i + 1),none⟩) (n - i) dc,.slice (some ⟨g,i,none⟩) (n + 1 - i) sc]).run Tryz.prog w.drew = .ok (goInt (Nat.min (n + 1 - i) (n - i))) (w.drew.setCells g ((i + 1)) mv):=fun ty dc sc =>
  run_copy_cellsK w.drew _ _ ty 9 1 g ((i + 1)) (n - i) dc ⟨g,i,none⟩ (n + 1 - i) sc mv Tryz.underlying60 hsz (by rw [hml];simp only [Nat.min_def];split <;> omega)
   (fun j v hj => by rw [Addr.add_lit];show w.cell? _ = _;rw [cell_row hg];exact hmg j v hj)
   (fun j hj => by show (w.cell? _).isSome = true;rw [cell_row hg,Array.getElem?_eq_getElem (by omega)];rfl) (fun j hj => frozen_row (w:=w) hg _) hm1
 obtain ⟨W1,hW1⟩:∃ W1,W1 = w.drew.setCells g ((i + 1)) mv:=⟨_,rfl⟩
 have hg1:W1.heap[g]? = some (.cells (laid cur.toList ((i + 1)) mv).toArray 9 (0,0)):=by
  rw [hW1];exact setCells_block mv _ w.drew cur hg (by omega)
 have hv1:W1.heap[vb]? = some (.cells [cx].toArray 9 (0,0)):=by
  rw [hW1,setCells_other _ _ _ _ _ hvb];exact hvc
 have hcp2:∀ (W:World),(∀ x,W.cell? x = W1.cell? x) → (∀ x,W.frozen? x = W1.frozen? x) → ∀ ty dc,(Builtin.copy_ #[60,60] ty #[.slice (some ⟨g,i,none⟩) (n + 1 - i) dc,.slice (some ⟨vb,0,none⟩) 1 1]).run Tryz.prog W = .ok (goInt (Nat.min 1 (n + 1 - i))) (W.setCells g (i) [cx]):=fun W hWc hWf ty dc =>
  run_copy_cellsK W _ _ ty 9 1 g (i) (n + 1 - i) dc ⟨vb,0,none⟩ 1 1 [cx] Tryz.underlying60 hsz (by simp only [Nat.min_def,List.length_cons,List.length_nil];split <;> omega)
   (fun j v hj => by rw [Addr.add_lit,hWc,cell_row hv1];simpa using hj)
   (fun j hj => by rw [hWc,cell_row hg1,Array.getElem?_eq_getElem (by simp [laid_length _ _ _ (show (i + 1) + mv.length ≤ cur.toList.length by simp;omega)] at hj ⊢;omega)];rfl) (fun j hj => by rw [hWf];exact frozen_row hg1 _) (fun u hu => by simp at hu;subst hu;exact hcx)
 rw [← hmv]
 rw [← hW1] at hcp1
 have hin:i ≤ n:=by omega
 have hw1:IntKind.i64.wrap ((i:Int) + 1) = (i:Int) + 1:=by rw [IntKind.wrap_i64];omega
 have hb2:¬ (cap = i + 1):=by omega
 have hb4:¬ (cap = i):=by omega
 have hb5:(0:Int) ≤ (i:Int) + 1:=by omega
 have hb3:(i:Int) ≤ (n:Int) + 1:=by omega
 have mixed:Tryz.prog.follows Departure.mixedOrders = true:=by kernel_rfl
 have HW1:Hid (W1 = w.drew.setCells g ((i + 1)) mv):=hW1
 clear hmv hml hmg hm1 hg1 hv1 hW1 hg hvc
 go_enter Tryz.func387,Tryz.ntmps387
 go_wp2_with (simp only [hov])
 go_region_law_o (refine step_copy_known rfl _ _ 60 60 rfl _ _ (by simp [Act.eval,Act.put]) (by simp [Act.eval,Act.put]) (hcp1 _ _ _) ?_)
 go_wp2_with (at_builtin;refine wpList_copy_known _ rfl _ _ 60 60 rfl _ _ rfl rfl (hcp2 _ (fun _ => rfl) (fun _ => rfl) _ _) ?_)
 go_ret
 exact ⟨rfl,by rw [HW1.out]⟩
def hZerosS (k:Nat):List Value:=(Builtin.zeroCells (.string ⟨#[]⟩:Value).cells k).toList
theorem hZeros_lengthS (k:Nat):(hZerosS k).length = k:=by simp [hZerosS,Builtin.zeroCells,Value.cells]
theorem hZeros_oneS (k:Nat):∀ u ∈ hZerosS k,u.oneCell' = true:=by
 intro u hu
 simp only [hZerosS,Builtin.zeroCells,Value.cells,Array.mem_toList_iff,Array.mem_map] at hu
 obtain ⟨j,_,rfl⟩:=hu
 generalize hq:j % _ = q
 obtain rfl:q = 0:=by
  have:q < 1:=by rw [← hq];exact Nat.mod_lt _ (by simp)
  omega
 rfl
set_option maxHeartbeats 4000000 in
set_option maxRecDepth 100000 in
theorem insert_growS (g n cap i:Nat) (cur:Array Value) (vb:Nat) (cx:Value) (hcx:cx.oneCell' = true) (w:World) (hg:w.heap[g]? = some (.cells cur 9 (0,0))) (hi:i < n) (hn:n ≤ 1000) (hnc:n ≤ cap) (hroom:cap < n + 1) (hcs:cur.size = cap)
 (hvc:w.heap[vb]? = some (.cells [cx].toArray 9 (0,0))) (hl1:∀ u ∈ cur.toList.take (n),u.oneCell' = true) :
 Calls Tryz.prog 387 #[.slice (some ⟨g,0,none⟩) n cap,.int .i64 i,.slice (some ⟨vb,0,none⟩) 1 1] w fun e w' => ∃ G,n + 1 ≤ G ∧ G ≤ maxLen ∧ e = .returned (.slice (some ⟨w.heap.size,0,none⟩) (n + 1) G) ∧
  w' = (((w.alloc (.cells (((cur.toList.take (i)) ++ hZerosS (n + 1 - i) ++ hZerosS (G - (n + 1))).toArray) 9)).drew.setCells w.heap.size (i) [cx]).drew).setCells w.heap.size ((i + 1)) ((cur.toList.take (n)).drop (i)):=by
 obtain rfl:cap = n:=by omega
 obtain ⟨i0,hi0,hz0,hzs,hzb⟩:=info_parts Tryz.cellInfoS
 have hz2:¬ ((i:Int) = (cap:Int)):=by omega
 have hsz:(Tryz.prog.info? 9).map (·.size) = some 1:=by rw [hi0];simp [hzs]
 have hgw:g < w.heap.size:=(Array.getElem?_eq_some_iff.1 hg).1
 have hvw:vb < w.heap.size:=(Array.getElem?_eq_some_iff.1 hvc).1
 have hkk:(cap:Int) + 1 - (i:Int) = ((cap + 1 - i:Nat):Int):=by omega
 have hik:i + (cap + 1 - i) = cap + 1:=by omega
 have hold:(Builtin.firstCells i0.size i (.slice (some ⟨g,0,none⟩) i cap)).run Tryz.prog w.drew = .ok (cur.toList.take (i)).toArray w.drew:=by
  rw [hzs]
  exact run_firstCells_some w.drew 1 i ⟨g,0,none⟩ i cap (cur.toList.take (i)) (by simp;omega) (fun j v hj => by
   rw [Addr.add_lit,Nat.zero_add]
   rw [List.getElem?_take] at hj
   split at hj
   · show w.cell? _ = _;rw [cell_row hg];simpa using hj
   · cases hj)
 have hrz:∀ ty,(Builtin.append_ #[60,3] ty #[.slice (some ⟨g,0,none⟩) i cap,.int .i64 ((cap:Int) + 1 - (i:Int))]).run Tryz.prog w =
  .ok (.slice (some ⟨w.heap.size,0,none⟩) (cap + 1) (grownCap w (cap + 1) cap 9)) (w.drew.alloc (.cells (((cur.toList.take (i)) ++ hZerosS (cap + 1 - i) ++ hZerosS (grownCap w (cap + 1) cap 9 - (cap + 1))).toArray) 9)):=fun ty => by
  have h:=Lib.run_append_grow_zeros w 60 3 ty 9 i0 _ .i64 .i64 Tryz.underlying60 Tryz.underlying3 hi0 hz0 (some ⟨g,0,none⟩) i cap (cur.toList.take (i)) hold (cap + 1 - i) (by omega) (by omega) (by omega) (by omega) (by rw [hzb];omega) (by rw [hzb,hik];exact growslice_fits (by omega) (by omega))
  rw [hik] at h
  rw [hkk,h]
  simp only [hZerosS]
  congr 3
  apply Array.ext'
  simp
 obtain ⟨G,hG⟩:∃ G,G = grownCap w (cap + 1) cap 9:=⟨_,rfl⟩
 rw [← hG] at hrz
 have hGn:cap + 1 ≤ G:=by rw [hG];exact grownCap_ge w _ _ _
 have hG63:G ≤ maxLen:=by rw [hG];exact grownCap_le_maxLen w (cap + 1) cap 9 (by unfold maxLen;omega)
 have hG64:G ≤ 9223372036854775807:=by simpa [maxLen] using hG63
 obtain ⟨row,hrow⟩:∃ row:List Value,row = (cur.toList.take (i)) ++ hZerosS (cap + 1 - i) ++ hZerosS (G - (cap + 1)):=⟨_,rfl⟩
 have hrl:row.length = G:=by rw [hrow];simp [hZeros_lengthS];omega
 rw [← hrow] at hrz
 obtain ⟨mv,hmv⟩:∃ mv,mv = (cur.toList.take (cap)).drop (i):=⟨_,rfl⟩
 have hml:mv.length = (cap - i):=by rw [hmv];simp;omega
 have hmg:∀ j u,mv[j]? = some u → cur[i + j]? = some u:=fun j u hj => by
  rw [hmv,List.getElem?_drop,List.getElem?_take] at hj
  split at hj
  · simpa using hj
  · cases hj
 have hm1:∀ u ∈ mv,u.oneCell' = true:=fun u hu => by rw [hmv] at hu;exact hl1 u (List.mem_of_mem_drop hu)
 obtain ⟨W1,hW1⟩:∃ W1,W1 = w.drew.alloc (.cells row.toArray 9):=⟨_,rfl⟩
 rw [← hW1] at hrz
 have hN:W1.heap[w.heap.size]? = some (.cells row.toArray 9 (0,0)):=by rw [hW1];exact _root_.Go.heap_alloc_new w.drew _
 have hOb:W1.heap[g]? = some (.cells cur 9 (0,0)):=by rw [hW1];exact (Below.heap_alloc w.drew _ g hgw).trans hg
 have hOv:W1.heap[vb]? = some (.cells [cx].toArray 9 (0,0)):=by rw [hW1];exact (Below.heap_alloc w.drew _ vb hvw).trans hvc
 have hcpA:∀ (W:World),(∀ x,W.cell? x = W1.cell? x) → (∀ x,W.frozen? x = W1.frozen? x) → ∀ ty dc,(Builtin.copy_ #[60,60] ty #[.slice (some ⟨w.heap.size,i,none⟩) (cap + 1 - i) dc,.slice (some ⟨vb,0,none⟩) 1 1]).run Tryz.prog W = .ok (goInt (Nat.min 1 (cap + 1 - i))) (W.setCells w.heap.size (i) [cx]):=fun W hWc hWf ty dc =>
  run_copy_cellsK W _ _ ty 9 1 w.heap.size (i) (cap + 1 - i) dc ⟨vb,0,none⟩ 1 1 [cx] Tryz.underlying60 hsz (by simp only [Nat.min_def,List.length_cons,List.length_nil];split <;> omega)
   (fun j v hj => by rw [Addr.add_lit,hWc,cell_row hOv];simpa using hj)
   (fun j hj => by rw [hWc,cell_row hN,Array.getElem?_eq_getElem (by simp [hrl] at hj ⊢;omega)];rfl) (fun j hj => by rw [hWf];exact frozen_row hN _) (fun u hu => by simp at hu;subst hu;exact hcx)
 have hN2:(W1.setCells w.heap.size (i) [cx]).heap[w.heap.size]? = some (.cells (laid row.toArray.toList (i) [cx]).toArray 9 (0,0)):=setCells_block _ _ _ _ hN (by simp [hrl];omega)
 have hO2:(W1.setCells w.heap.size (i) [cx]).heap[g]? = some (.cells cur 9 (0,0)):=(setCells_other _ _ _ _ _ (by omega)).trans hOb
 have hll:(laid row.toArray.toList (i) [cx]).length = G:=by rw [laid_length _ _ _ (by simp [hrl];omega)];simpa using hrl
 have hcpB:∀ (W:World),(∀ x,W.cell? x = (W1.setCells w.heap.size (i) [cx]).cell? x) → (∀ x,W.frozen? x = (W1.setCells w.heap.size (i) [cx]).frozen? x) → ∀ ty dc sc,(Builtin.copy_ #[60,60] ty #[.slice (some ⟨w.heap.size,(i + 1),none⟩) (cap - i) dc,.slice (some ⟨g,i,none⟩) (cap - i) sc]).run Tryz.prog W = .ok (goInt (Nat.min (cap - i) (cap - i))) (W.setCells w.heap.size ((i + 1)) mv):=fun W hWc hWf ty dc sc =>
  run_copy_cellsK W _ _ ty 9 1 w.heap.size ((i + 1)) (cap - i) dc ⟨g,i,none⟩ (cap - i) sc mv Tryz.underlying60 hsz (by rw [hml];simp only [Nat.min_def];split <;> omega)
   (fun j v hj => by rw [Addr.add_lit,hWc,cell_row hO2];exact hmg j v hj)
   (fun j hj => by rw [hWc,cell_row hN2,Array.getElem?_eq_getElem (by rw [List.size_toArray,hll];omega)];rfl) (fun j hj => by rw [hWf];exact frozen_row hN2 _) hm1
 have hEnd:Hid (∃ G',cap + 1 ≤ G' ∧ G' ≤ maxLen ∧ Value.slice (some ⟨w.heap.size,0,none⟩) (cap + 1) G = Value.slice (some ⟨w.heap.size,0,none⟩) (cap + 1) G' ∧
  ((((w.alloc (.cells row.toArray 9)).drew.setCells w.heap.size (i) [cx]).drew).setCells w.heap.size ((i + 1)) mv) = (((w.alloc (.cells (((cur.toList.take (i)) ++ hZerosS (cap + 1 - i) ++ hZerosS (G' - (cap + 1))).toArray) 9)).drew.setCells w.heap.size (i) [cx]).drew).setCells w.heap.size ((i + 1)) ((cur.toList.take (cap)).drop (i))) :=
  ⟨G,hGn,hG63,rfl,by rw [hrow,hmv]⟩
 subst hW1
 have hE1:∀ x,((w.alloc (.cells row.toArray 9)).drew).cell? x = (w.drew.alloc (.cells row.toArray 9)).cell? x:=fun x => rfl
 have hE2:∀ x,((w.alloc (.cells row.toArray 9)).drew).frozen? x = (w.drew.alloc (.cells row.toArray 9)).frozen? x:=fun x => rfl
 have hF1:∀ x,(((w.alloc (.cells row.toArray 9)).drew.setCells w.heap.size (i) [cx]).drew).cell? x = ((w.drew.alloc (.cells row.toArray 9)).setCells w.heap.size (i) [cx]).cell? x:=fun x => rfl
 have hF2:∀ x,(((w.alloc (.cells row.toArray 9)).drew.setCells w.heap.size (i) [cx]).drew).frozen? x = ((w.drew.alloc (.cells row.toArray 9)).setCells w.heap.size (i) [cx]).frozen? x:=fun x => rfl
 have hw1:IntKind.i64.wrap ((i:Int) + 1) = (i:Int) + 1:=by rw [IntKind.wrap_i64];omega
 have hb1:(0:Int) ≤ (i:Int) + 1:=by omega
 have hin:i ≤ cap:=by omega
 have hb3:(i:Int) ≤ (cap:Int):=by omega
 have hGi:¬ (G = i):=by omega
 have hGim:¬ (G = i + 1):=by omega
 have hci:¬ (cap = i):=by omega
 have mixed:Tryz.prog.follows Departure.mixedOrders = true:=by kernel_rfl
 clear hkk hik hold hG hrl hrow hmv hml hmg hm1 hN hOb hOv hN2 hO2 hll hg hvc hcs
 go_enter Tryz.func387,Tryz.ntmps387
 go_wp2_with (first
  | (at_builtin;refine Lib.wpList_append_run _ rfl _ _ _ _ rfl _ _ rfl rfl _ _ (hrz _) ?_)
  | (at_builtin;refine wpList_copy_known _ rfl _ _ 60 60 rfl _ _ rfl rfl (hcpA _ hE1 hE2 _ _) ?_)
  | (at_builtin;refine wpList_copy_known _ rfl _ _ 60 60 rfl _ _ rfl rfl (hcpB _ (fun _ => rfl) (fun _ => rfl) _ _ _) ?_))
 go_region_law_o (refine step_copy_known rfl _ _ 60 60 rfl (.slice (some ⟨w.heap.size,(i + 1),none⟩) (cap - i) (G - (i + 1))) (.slice (some ⟨g,i,none⟩) (cap - i) (cap - i)) (by simp [Act.eval,Act.put]) (by simp [Act.eval,Act.put]) (hcpB _ hF1 hF2 3 (G - (i + 1)) (cap - i)) ?_)
 go_wp2
 go_ret
 exact hEnd.out.imp fun G' h => ⟨h.1,h.2.1,congrArg Ending.returned h.2.2.1,h.2.2.2⟩
theorem insert_ownS (base:Nat) (v:Value) (n i:Nat) (xs:List Value) (vb:Nat) (cx:Value) (hcx:cx.oneCell' = true) (w:World) (hown:w.ownsRow base 9 1 v n xs) (hi:i ≤ n) (hn:n ≤ 1000) (hbase:base ≤ w.heap.size) (hx1:∀ u ∈ xs,u.oneCell' = true)
 (hvb:v.ownBlock ≠ some vb) (hvc:w.heap[vb]? = some (.cells [cx].toArray 9 (0,0))) :
 Calls Tryz.prog 387 #[v,.int .i64 i,.slice (some ⟨vb,0,none⟩) 1 1] w fun e w' => ∃ v',e = .returned v' ∧ w'.ownsRow base 9 1 v' (n + 1) (setIn xs (i) [cx]) ∧ w.grownBy w' v.ownBlock ∧ (v'.ownBlock = v.ownBlock ∨ ∃ g,v'.ownBlock = some g ∧ w.heap.size ≤ g):=by
 have hxl:xs.length = n:=by simpa using hown.1
 rcases Nat.lt_or_eq_of_le hi with hlt | rfl
 · rcases hown.2 with ⟨rfl,rfl⟩ | ⟨g,cap,cur,rfl,hbg,hg,hnc,hcm,hcs,htake⟩
   · omega
   · rw [Nat.mul_one] at hcs htake
     have hne:vb ≠ g:=fun e => hvb (by simp [Value.ownBlock,e])
     have hll:(setIn xs (i) [cx]).length = (n + 1):=by simp [setIn,hxl];omega
     by_cases hroom:n + 1 ≤ cap
     · refine (insert_shiftS g n cap i cur vb cx hcx w hg hlt hroom hcm hcs hne hvc (by rw [htake];exact hx1)).mono ?_
       rintro e w' ⟨rfl,rfl⟩
       have hb1:=setCells_block ((cur.toList.take (n)).drop (i)) ((i + 1)) w.drew cur hg (by simp;omega)
       have hb2:=setCells_block [cx] (i) _ _ hb1 (by
        rw [List.size_toArray,laid_length _ _ _ (by simp;omega)];simp;omega)
       refine ⟨_,rfl,⟨by rw [Nat.mul_one];exact hll,Or.inr ⟨g,cap,_,rfl,hbg,hb2,hroom,hcm,?_,?_⟩⟩,?_,Or.inl rfl⟩
       · rw [Nat.mul_one,List.size_toArray,laid_length _ _ _ (by rw [laid_length _ _ _ (by simp;omega)];simp;omega),laid_length _ _ _ (by simp;omega)]
         simpa using hcs
       · have:=shifted_take cur.toList xs [cx] (n) (i) 1 rfl (by omega) htake (by simp;omega) hxl
         rw [Nat.mul_one,htake]
         exact this
       · have hq:=grownBy_tr (grownBy_setCells w.drew g ((i + 1)) ((cur.toList.take (n)).drop (i))) (grownBy_setCells _ g (i) [cx])
         exact ⟨hq.os,hq.tape,hq.output,hq.size,hq.block⟩
     · refine (insert_growS g n cap i cur vb cx hcx w hg hlt hn hnc (by omega) hcs hvc (by rw [htake];exact hx1)).mono ?_
       rintro e w' ⟨G,hG1,hG2,rfl,rfl⟩
       obtain rfl:cap = n:=by omega
       obtain ⟨row,hrow⟩:∃ row:List Value,row = (cur.toList.take (i)) ++ hZerosS (cap + 1 - i) ++ hZerosS (G - (cap + 1)):=⟨_,rfl⟩
       have hrl:row.length = G:=by rw [hrow];simp [hZeros_lengthS];omega
       have hrt:row.take (i) = xs.take (i):=by
        rw [hrow,List.append_assoc,List.take_append_of_le_length (by simp;omega),List.take_take,← htake,List.take_take]
        congr 1;omega
       rw [← hrow]
       have hb0:((w.alloc (.cells row.toArray 9)).drew).heap[w.heap.size]? = some (.cells row.toArray 9 (0,0)):=_root_.Go.heap_alloc_new w _
       have hb1:=setCells_block [cx] (i) _ _ hb0 (by simp [hrl];omega)
       have hl1:(laid row (i) [cx]).length = G:=by rw [laid_length _ _ _ (by simp [hrl];omega)];exact hrl
       have hb2:=setCells_block ((cur.toList.take (cap)).drop (i)) ((i + 1)) (((w.alloc (.cells row.toArray 9)).drew.setCells w.heap.size (i) [cx]).drew) _ hb1 (by simp [hl1];omega)
       refine ⟨_,rfl,⟨by rw [Nat.mul_one];exact hll,Or.inr ⟨w.heap.size,G,_,rfl,hbase,hb2,hG1,hG2,?_,?_⟩⟩,?_,Or.inr ⟨w.heap.size,rfl,Nat.le_refl _⟩⟩
       · rw [Nat.mul_one,List.size_toArray,laid_length _ _ _ (by simp [hl1];omega)]
         simpa using hl1
       · rw [Nat.mul_one,laid_of_take _ (xs.take (i) ++ [cx]) _ _ _ (by simp;omega) ?_ (by simp [hl1];omega) (by simp [hxl];omega)]
         · rw [List.take_of_length_le (by simp;omega),htake]
           rfl
         · have e:(laid row (i) [cx]).take ((i + 1)) = xs.take (i) ++ [cx]:=laid_of_take row xs [cx] (i) (i + 1) (by simp) hrt (by omega) (by omega)
           exact e.trans (List.take_of_length_le (by simp;omega)).symm
       · have hz:w.grownBy (w.alloc (.cells row.toArray 9)) (some g):=World.grownBy_alloc _ _ _
         refine ⟨?_,?_,?_,?_,?_⟩
         · rw [(setCells_rest _ _ _ _).1];show ((World.setCells _ _ _ _).os) = _;rw [(setCells_rest _ _ _ _).1];rfl
         · rw [(setCells_rest _ _ _ _).2.1];show ((World.setCells _ _ _ _).tape) = _;rw [(setCells_rest _ _ _ _).2.1];rfl
         · rw [(setCells_rest _ _ _ _).2.2];show ((World.setCells _ _ _ _).output) = _;rw [(setCells_rest _ _ _ _).2.2];rfl
         · rw [setCells_size];show _ ≤ (World.setCells _ _ _ _).heap.size;rw [setCells_size];exact hz.size
         · intro k hk _
           rw [setCells_other _ _ _ _ _ (by omega)];show (World.setCells _ _ _ _).heap[k]? = _;rw [setCells_other _ _ _ _ _ (by omega)]
           exact Below.heap_alloc w _ k hk
 · have hc:∀ j,w.cell? ⟨vb,j,none⟩ = [cx][j]?:=fun j => by rw [cell_row hvc];simp
   have hs:setIn xs (i) [cx] = xs ++ [cx]:=by unfold setIn;rw [List.take_of_length_le (by omega),List.drop_of_length_le (by omega)];simp
   rw [hs]
   exact insert_endS base v i xs vb cx hcx w hown hn hbase (by rw [hc];rfl)
end Go.Proofs.YthkbeaffkcfgiabGreatDoor
