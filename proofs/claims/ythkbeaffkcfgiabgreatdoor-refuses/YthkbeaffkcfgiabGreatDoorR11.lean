import Derived.Test.YthkbeaffkcfgiabGreatDoorR04
import Derived.Test.YthkbeaffkcfgiabGreatDoorR07
import Derived.Test.YthkbeaffkcfgiabGreatDoorR09
set_option linter.unusedSimpArgs false
set_option linter.unusedVariables false
namespace Go.Proofs.YthkbeaffkcfgiabGreatDoor
open Go.RowKit
theorem zeroOfI:∀ w,(zeroValue 3).run Tryz.prog w = .ok (.int .i64 0) w:=fun w => by
 obtain ⟨i0,hi0,h0,h1,h2⟩:=info_parts Tryz.cellInfoI
 simp [zeroValue,typeInfo,hi0,h0]
set_option maxHeartbeats 4000000 in
set_option maxRecDepth 100000 in
theorem delete_atI (g n cap i:Nat) (cur:Array Value) (w:World) (hg:w.heap[g]? = some (.cells cur 3 (0,0))) (hi:i < n) (hnc:n ≤ cap) (hc63:cap ≤ maxLen) (hcs:cur.size = cap) (hl1:∀ u ∈ cur.toList.take (n),u.oneCell' = true) :
 Calls Tryz.prog 364 #[.slice (some ⟨g,0,none⟩) n cap,.int .i64 i,.int .i64 ((i:Int) + 1)] w fun e w' => e = .returned (.slice (some ⟨g,0,none⟩) (n - 1) cap) ∧
  w' = (w.drew.setCells g (i) ((cur.toList.take (n)).drop ((i + 1)))).setCells g ((n - 1)) (hZerosI 1):=by
 obtain ⟨i0,hi0,hz0,hz1,hz2⟩:=info_parts Tryz.cellInfoI
 have hc64:cap ≤ 9223372036854775807:=by simpa [maxLen] using hc63
 obtain ⟨mv,hmv⟩:∃ mv,mv = (cur.toList.take (n)).drop ((i + 1)):=⟨_,rfl⟩
 have hml:mv.length = (n - (i + 1)):=by rw [hmv];simp;omega
 have hmg:∀ j u,mv[j]? = some u → cur[(i + 1) + j]? = some u:=fun j u hj => by
  rw [hmv,List.getElem?_drop,List.getElem?_take] at hj
  split at hj
  · simpa using hj
  · cases hj
 have hm1:∀ u ∈ mv,u.oneCell' = true:=fun u hu => by rw [hmv] at hu;exact hl1 u (List.mem_of_mem_drop hu)
 obtain ⟨A,hA,hsrc⟩:∃ A:Addr,(if cap = i + 1 then some (⟨g,0,none⟩:Addr) else some ⟨g,(i + 1),none⟩) = some A ∧ Hid (∀ t u,mv[t]? = some u → w.drew.cell? (A.add t) = some u):=by
  by_cases h:cap = i + 1
  · refine ⟨⟨g,0,none⟩,by simp [h],fun t u hu => ?_⟩
    have h0:mv.length = 0:=by rw [hml];omega
    rw [List.length_eq_zero_iff.1 h0] at hu
    simp at hu
  · refine ⟨⟨g,(i + 1),none⟩,by simp [h],fun t u hu => ?_⟩
    rw [Addr.add_lit]
    show w.cell? _ = _
    rw [cell_row hg]
    exact hmg t u hu
 have s1:Hid (mv.length = (n - (i + 1)) * 1):=by show _ = _;rw [Nat.mul_one];exact hml
 have s2:Hid (∀ u ∈ mv,u.oneCell' = true):=hm1
 have s3:Hid (∀ t,t < mv.length → (w.drew.cell? ⟨g,0 + i * 1 + t,none⟩).isSome = true ∧ w.drew.frozen? ⟨g,0 + i * 1 + t,none⟩ = false):=fun t ht => by
  rw [Nat.mul_one]
  refine ⟨?_,frozen_row (w:=w) hg _⟩
  show (w.cell? _).isSome = true
  rw [cell_row hg,Array.getElem?_eq_getElem (by omega)];rfl
 obtain ⟨W1,hW1⟩:∃ W1,W1 = w.drew.setCells g (i) mv:=⟨_,rfl⟩
 have hg1:W1.heap[g]? = some (.cells (laid cur.toList (i) mv).toArray 3 (0,0)):=by
  rw [hW1];exact setCells_block mv _ w.drew cur hg (by omega)
 have hcl:∀ (W:World),(∀ x,W.cell? x = W1.cell? x) → (∀ x,W.frozen? x = W1.frozen? x) → ∀ ty c,(Builtin.clear_ #[54] ty #[.slice (some ⟨g,(i + (n - (i + 1))),none⟩) (n - (i + (n - (i + 1)))) c]).run Tryz.prog W = .ok (.tuple #[]) (W.setCells g ((i + (n - (i + 1)))) (hZerosI 1)):=fun W hWc hWf ty c => by
  have e1:n - (i + (n - (i + 1))) = 1:=by omega
  rw [e1]
  exact run_clear_cellsK W 54 3 ty _ Tryz.underlying54 zeroOfI g _ 1 c (by omega) (hZerosI 1) rfl (hZeros_oneI 1)
   (fun j hj => by rw [hWc,cell_row hg1,Array.getElem?_eq_getElem (by rw [List.size_toArray,laid_length _ _ _ (by simp;omega)];rw [hZeros_lengthI] at hj;simp;omega)];rfl) (fun j hj => by rw [hWf];exact frozen_row hg1 _)
 replace hcl:=hcl W1 (fun _ => rfl) (fun _ => rfl)
 have X:Hid (W1 = w.drew.setCells g (i) mv):=hW1
 have hW:Hid (W1 = w.drew.setCells g (0 + i * 1) mv):=by rw [Nat.mul_one,Nat.zero_add];exact hW1
 have hic:i ≤ cap:=by omega
 have hjc:i + 1 ≤ cap:=by omega
 have hjn:i + 1 ≤ n:=by omega
 have hjI:(i:Int) + 1 ≤ (n:Int):=by omega
 have hb5:(0:Int) ≤ (i:Int) + 1:=by omega
 have hne:¬ ((i:Int) = (i:Int) + 1):=by omega
 have mixed:Tryz.prog.follows Departure.mixedOrders = true:=by kernel_rfl
 rw [← hmv]
 clear hW1 hmv hml hmg hm1 hg1 hg hcs hl1
 go_enter Tryz.func364,Tryz.ntmps364
 go_wp2_with fail
 go_region_law_o (refine step_append_room rfl (.tmp 22) (.tmp 25) 54 rfl 3 i0 1 Tryz.underlying54 hi0 hz1 g 0 i cap (by simp [Act.eval,Act.put]) A (n - (i + 1)) (cap - (i + 1)) mv (by simp [Act.eval,Act.put]) s1.out hsrc.out s2.out (by omega) s3.out ?_;rw [← hW.out])
 go_wp2
 go_ret
 refine ⟨?_,?_⟩
 · rw [show n - 1 = i + (n - (i + 1)) by omega];rfl
 · rw [show n - 1 = i + (n - (i + 1)) by omega,← X.out]
theorem delete_ownI (base:Nat) (v:Value) (n i:Nat) (xs:List Value) (w:World) (hown:w.ownsRow base 3 1 v n xs) (hi:i < n) (hx1:∀ u ∈ xs,u.oneCell' = true) :
 Calls Tryz.prog 364 #[v,.int .i64 i,.int .i64 ((i:Int) + 1)] w fun e w' => ∃ v',e = .returned v' ∧ w'.ownsRow base 3 1 v' (n - 1) (cutOut xs (i) 1) ∧ w.grownBy w' v.ownBlock ∧ v'.ownBlock = v.ownBlock:=by
 have hxl:xs.length = n:=by simpa using hown.1
 rcases hown.2 with ⟨rfl,rfl⟩ | ⟨g,cap,cur,rfl,hbg,hg,hnc,hcm,hcs,htake⟩
 · omega
 · rw [Nat.mul_one] at hcs htake
   refine (delete_atI g n cap i cur w hg hi hnc hcm hcs (by rw [htake];exact hx1)).mono ?_
   rintro e w' ⟨rfl,rfl⟩
   have hb1:=setCells_block ((cur.toList.take (n)).drop ((i + 1))) (i) w.drew cur hg (by simp;omega)
   have hb2:=setCells_block (hZerosI 1) ((n - 1)) _ _ hb1 (by
    rw [List.size_toArray,laid_length _ _ _ (by simp;omega),hZeros_lengthI];simp;omega)
   refine ⟨_,rfl,⟨by simp [cutOut,hxl];omega,Or.inr ⟨g,cap,_,rfl,hbg,hb2,by omega,hcm,?_,?_⟩⟩,?_,rfl⟩
   · rw [Nat.mul_one,List.size_toArray,laid_length _ _ _ (by rw [hZeros_lengthI,laid_length _ _ _ (by simp;omega)];simp;omega),laid_length _ _ _ (by simp;omega)]
     simpa using hcs
   · have:=cut_take cur.toList xs (hZerosI 1) (n) (i) 1 (by omega) htake (by simp;omega) (hZeros_lengthI 1) hxl
     rw [Nat.mul_one,htake]
     exact this
   · have hq:=grownBy_tr (grownBy_setCells w.drew g (i) ((cur.toList.take (n)).drop ((i + 1)))) (grownBy_setCells _ g ((n - 1)) (hZerosI 1))
     exact ⟨hq.os,hq.tape,hq.output,hq.size,hq.block⟩
set_option maxHeartbeats 1600000 in
theorem insert_colI {F:Nat → Prop} (cb ct n r:Nat) (xs:List Value) (w:World) (hC:ColAt w F cb ct 3 1 n xs) (hr:r ≤ n) (hn:n ≤ 100) (hx1:∀ u ∈ xs,u.oneCell' = true) :
 Calls Tryz.prog 362 #[.pointer (some ⟨cb,0,none⟩),.int .i64 r] w fun e w' => e = .returned (.tuple #[]) ∧ Turns w w' F ∧ ColAt w' (grow F w w') cb ct 3 1 (n + 1) (setIn xs r [.int .i64 0]):=by
 obtain ⟨h1,v,h2,h3,h4⟩:=hC
 have hc:cb < w.heap.size:=(Array.getElem?_eq_some_iff.1 h2).1
 have c0:w.cell? ⟨cb,0,none⟩ = some v:=by rw [cell_row h2];rfl
 have H1:Hid (F cb):=h1
 have H2:Hid (w.heap[cb]? = some (.cells #[v] ct (0,0))):=h2
 have H3:Hid (w.ownsRow 0 3 1 v n xs):=h3
 have H4:Hid (∀ k,v.ownBlock = some k → F k ∧ k ≠ cb):=h4
 have hne:cb ≠ w.heap.size:=by omega
 obtain ⟨W1,hW1⟩:∃ W1,W1 = w.alloc (.cells #[.int .i64 0] 3):=⟨_,rfl⟩
 have HI:Hid (Calls Tryz.prog 365 #[v,.int .i64 r,.slice (some ⟨w.heap.size,0,none⟩) 1 1] W1 fun e w' => ∃ a' c',e = .returned (.slice a' (n + 1) c') ∧ w'.cell? ⟨cb,0,none⟩ = some v ∧ w'.frozen? ⟨cb,0,none⟩ = false ∧
  Hid (w'.ownsRow 0 3 1 (.slice a' (n + 1) c') (n + 1) (setIn xs r [.int .i64 0]) ∧ W1.grownBy w' v.ownBlock ∧ ((Value.slice a' (n + 1) c').ownBlock = v.ownBlock ∨ ∃ g,(Value.slice a' (n + 1) c').ownBlock = some g ∧ W1.heap.size ≤ g))):=by
  have hb1:Below w.heap.size w W1:=by rw [hW1];exact (Below.refl _ _).alloc (Nat.le_refl _) _
  have ho:W1.ownsRow 0 3 1 v n xs:=own_turn h3 fun k _ hk => hb1.block k hk
  refine (insert_ownI 0 v n r xs w.heap.size (.int .i64 0) rfl W1 ho hr (by omega) (Nat.zero_le _) hx1 (fun e => by have:=(h3.lt _ e).2;omega) (by rw [hW1];exact heap_alloc_at rfl _)).mono ?_
  rintro e w' ⟨v',rfl,g1,g2,g3⟩
  obtain ⟨a',c',rfl⟩:=own_form g1
  have hblk:w'.heap[cb]? = w.heap[cb]?:=(g2.block cb (by rw [hW1];simp;omega) (fun e => (h4 cb e.symm).2 rfl)).trans (hb1.block cb hc)
  exact ⟨a',c',rfl,(World.cell?_of_block (a:=⟨cb,0,none⟩) hblk).trans c0,(World.frozen?_of_block (a:=⟨cb,0,none⟩) hblk).trans (frozen_row h2 0),g1,g2,g3⟩
 rw [hW1] at HI
 clear h1 h2 h3 h4 hx1
 go_enter Tryz.func362,Tryz.ntmps362
 go_wp2_with (go_at_call 365;refine HI.out.mono ?_;rintro e w2 ⟨a',c',rfl,d0,f0,HF⟩)
 go_end0
 rw [← hW1] at HF
 obtain ⟨g1,g2,g3⟩:=HF.out
 exact ⟨rfl,col_done H1.out H2.out H3.out H4.out (by rw [hW1];exact (Below.refl _ _).alloc (Nat.le_refl _) _) g1 g2 g3⟩
set_option maxHeartbeats 1600000 in
theorem delete_colI {F:Nat → Prop} (cb ct n r:Nat) (xs:List Value) (w:World) (hC:ColAt w F cb ct 3 1 n xs) (hr:r < n) (hn:n ≤ 100) (hx1:∀ u ∈ xs,u.oneCell' = true) :
 Calls Tryz.prog 359 #[.pointer (some ⟨cb,0,none⟩),.int .i64 r] w fun e w' => e = .returned (.tuple #[]) ∧ Turns w w' F ∧ ColAt w' (grow F w w') cb ct 3 1 (n - 1) (cutOut xs r 1):=by
 obtain ⟨h1,v,h2,h3,h4⟩:=hC
 have hc:cb < w.heap.size:=(Array.getElem?_eq_some_iff.1 h2).1
 have c0:w.cell? ⟨cb,0,none⟩ = some v:=by rw [cell_row h2];rfl
 have H1:Hid (F cb):=h1
 have H2:Hid (w.heap[cb]? = some (.cells #[v] ct (0,0))):=h2
 have H3:Hid (w.ownsRow 0 3 1 v n xs):=h3
 have H4:Hid (∀ k,v.ownBlock = some k → F k ∧ k ≠ cb):=h4
 have HI:Hid (Calls Tryz.prog 364 #[v,.int .i64 r,.int .i64 ((r:Int) + 1)] w fun e w' => ∃ a' c',e = .returned (.slice a' (n - 1) c') ∧ w'.cell? ⟨cb,0,none⟩ = some v ∧ w'.frozen? ⟨cb,0,none⟩ = false ∧
  Hid (w'.ownsRow 0 3 1 (.slice a' (n - 1) c') (n - 1) (cutOut xs r 1) ∧ w.grownBy w' v.ownBlock ∧ (Value.slice a' (n - 1) c').ownBlock = v.ownBlock)):=by
  refine (delete_ownI 0 v n r xs w h3 hr hx1).mono ?_
  rintro e w' ⟨v',rfl,g1,g2,g3⟩
  obtain ⟨a',c',rfl⟩:=own_form g1
  have hblk:w'.heap[cb]? = w.heap[cb]?:=g2.block cb hc (fun e => (h4 cb e.symm).2 rfl)
  exact ⟨a',c',rfl,(World.cell?_of_block (a:=⟨cb,0,none⟩) hblk).trans c0,(World.frozen?_of_block (a:=⟨cb,0,none⟩) hblk).trans (frozen_row h2 0),g1,g2,g3⟩
 clear h1 h2 h3 h4 hx1
 go_enter Tryz.func359,Tryz.ntmps359
 go_wp2_with (go_at_call 364;refine HI.out.mono ?_;rintro e w2 ⟨a',c',rfl,d0,f0,HF⟩)
 go_end0
 obtain ⟨g1,g2,g3⟩:=HF.out
 exact ⟨rfl,col_done H1.out H2.out H3.out H4.out (Below.refl _ _) g1 g2 (Or.inl g3)⟩
theorem Tryz.cellInfoL:(Tryz.prog.info? 54).map (fun i => (i.zero,i.size,i.bytes)) = some (some (.slice none 0 0),1,24):=by kernel_rfl
set_option maxHeartbeats 4000000 in
set_option maxRecDepth 100000 in
theorem insert_endL (base:Nat) (v:Value) (n:Nat) (xs:List Value) (vb:Nat) (cx:Value) (hcx:cx.oneCell' = true) (w:World) (hown:w.ownsRow base 54 1 v n xs) (hn:n ≤ 1000) (hbase:base ≤ w.heap.size)
 (c0:w.cell? ⟨vb,0,none⟩ = some cx) :
 Calls Tryz.prog 404 #[v,.int .i64 n,.slice (some ⟨vb,0,none⟩) 1 1] w fun e w' => ∃ v',e = .returned v' ∧ w'.ownsRow base 54 1 v' (n + 1) (xs ++ [cx]) ∧ w.grownBy w' v.ownBlock ∧ (v'.ownBlock = v.ownBlock ∨ ∃ g,v'.ownBlock = some g ∧ w.heap.size ≤ g):=by
 obtain ⟨i0,hi0,hz0,hz1,hz2⟩:=info_parts Tryz.cellInfoL
 have HO:Hid (w.ownsRow base 54 1 v n xs):=hown
 have HN:Hid (∀ j u,[cx][j]? = some u → w.cell? ((⟨vb,0,none⟩:Addr).add j) = some u):=fun j u hj => by
  rw [Addr.add_lit,Nat.zero_add]
  match j with
  | 0 => simp at hj;rw [← hj];exact c0
  | j + 1 => simp at hj
 have hnn:(n:Int) ≤ n:=Int.le_refl _
 rcases hown.2 with ⟨rfl,rfl⟩ | ⟨g,cap,cur,rfl,hbg,hg,hnc,hcm,hcs,htake⟩
 · clear hown c0
   go_enter Tryz.func404,Tryz.ntmps404
   go_wp2_with (at_builtin;refine wpList_append_own_at _ rfl _ _ 90 rfl base 54 i0 _ 1 24 Tryz.underlying90 hi0 hz0 hz1 hz2 rfl (by decide) _ _ _ rfl HO.out ⟨vb,0,none⟩ 1 1 [cx] rfl rfl HN.out (fun u hu => by simp at hu;subst hu;exact hcx) (by unfold maxLen;omega) (by omega) hbase ?_;intro v' w1 hown1 hgrow1 _ hloc1)
   go_ret
   exact ⟨_,rfl,hown1,hgrow1,hloc1.imp id fun h => ⟨_,h,Nat.le_refl _⟩⟩
 · have hic:n ≤ cap:=hnc
   have hcm':cap ≤ 9223372036854775807:=by simpa [maxLen] using hcm
   clear hown c0 hg htake hcs
   go_enter Tryz.func404,Tryz.ntmps404
   go_wp2_with (at_builtin;refine wpList_append_own_at _ rfl _ _ 90 rfl base 54 i0 _ 1 24 Tryz.underlying90 hi0 hz0 hz1 hz2 rfl (by decide) _ _ _ rfl HO.out ⟨vb,0,none⟩ 1 1 [cx] rfl rfl HN.out (fun u hu => by simp at hu;subst hu;exact hcx) (by unfold maxLen;omega) (by omega) hbase ?_;intro v' w1 hown1 hgrow1 _ hloc1)
   all_goals go_ret
   all_goals exact ⟨_,rfl,hown1,hgrow1,hloc1.imp id fun h => ⟨_,h,Nat.le_refl _⟩⟩
set_option maxHeartbeats 4000000 in
set_option maxRecDepth 100000 in
theorem insert_shiftL (g n cap i:Nat) (cur:Array Value) (vb:Nat) (cx:Value) (hcx:cx.oneCell' = true) (w:World) (hg:w.heap[g]? = some (.cells cur 54 (0,0))) (hi:i < n) (hroom:n + 1 ≤ cap) (hc63:cap ≤ maxLen) (hcs:cur.size = cap)
 (hvb:vb ≠ g) (hvc:w.heap[vb]? = some (.cells [cx].toArray 54 (0,0))) (hl1:∀ u ∈ cur.toList.take (n),u.oneCell' = true) :
 Calls Tryz.prog 404 #[.slice (some ⟨g,0,none⟩) n cap,.int .i64 i,.slice (some ⟨vb,0,none⟩) 1 1] w fun e w' => e = .returned (.slice (some ⟨g,0,none⟩) (n + 1) cap) ∧
  w' = (w.drew.setCells g ((i + 1)) ((cur.toList.take (n)).drop (i))).setCells g (i) [cx]:=by
 have hc64:cap ≤ 9223372036854775807:=by simpa [maxLen] using hc63
 have hz2:¬ ((i:Int) = (n:Int)):=by omega
 have hsz:(Tryz.prog.info? 54).map (·.size) = some 1:=by
  obtain ⟨i0,hi0,h0,h1,h2⟩:=info_parts Tryz.cellInfoL
  rw [hi0];simp [h1]
 have hzE:∀ w,(Go.sizeOf 54).run Tryz.prog w = .ok 1 w:=fun w => by
  obtain ⟨i0,hi0,h0,h1,h2⟩:=info_parts Tryz.cellInfoL
  simp [Go.sizeOf,typeInfo,hi0,h1]
 have hov:∀ lb cb,(callFunc 405 #[.slice (some ⟨vb,0,none⟩) 1 1,.slice (some ⟨g,(i + 1),none⟩) lb cb]).run Tryz.prog w = .ok (.value (.bool false)) w:=fun lb cb => by
  rw [run_callFunc_extern Tryz.func405 (by kernel_rfl) (by kernel_rfl) (by kernel_rfl) (e:=Extern.SlicesOverlaps.overlaps #[90,90] #[4]) (by kernel_rfl),
   Lib.run_overlaps_apart w 90 4 54 Tryz.underlying90 1 hzE ⟨vb,0,none⟩ ⟨g,(i + 1),none⟩ 1 1 lb cb hvb 54 54 1 (cap) (by simp [World.shape?,hvc]) (by simp [World.shape?,hg,hcs]) (by omega) (frozen_row hvc _) (frozen_row hvc _)]
  rfl
 obtain ⟨mv,hmv⟩:∃ mv,mv = (cur.toList.take (n)).drop (i):=⟨_,rfl⟩
 have hml:mv.length = (n - i):=by rw [hmv];simp;omega
 have hmg:∀ j u,mv[j]? = some u → cur[i + j]? = some u:=fun j u hj => by
  rw [hmv,List.getElem?_drop,List.getElem?_take] at hj
  split at hj
  · simpa using hj
  · cases hj
 have hm1:∀ u ∈ mv,u.oneCell' = true:=fun u hu => by rw [hmv] at hu;exact hl1 u (List.mem_of_mem_drop hu)
 have hcp1:∀ ty dc sc,(Builtin.copy_ #[90,90] ty #[.slice (some ⟨g,(i + 1),none⟩) (n - i) dc,.slice (some ⟨g,i,none⟩) (n + 1 - i) sc]).run Tryz.prog w.drew = .ok (goInt (Nat.min (n + 1 - i) (n - i))) (w.drew.setCells g ((i + 1)) mv):=fun ty dc sc =>
  run_copy_cellsK w.drew _ _ ty 54 1 g ((i + 1)) (n - i) dc ⟨g,i,none⟩ (n + 1 - i) sc mv Tryz.underlying90 hsz (by rw [hml];simp only [Nat.min_def];split <;> omega)
   (fun j v hj => by rw [Addr.add_lit];show w.cell? _ = _;rw [cell_row hg];exact hmg j v hj)
   (fun j hj => by show (w.cell? _).isSome = true;rw [cell_row hg,Array.getElem?_eq_getElem (by omega)];rfl) (fun j hj => frozen_row (w:=w) hg _) hm1
 obtain ⟨W1,hW1⟩:∃ W1,W1 = w.drew.setCells g ((i + 1)) mv:=⟨_,rfl⟩
 have hg1:W1.heap[g]? = some (.cells (laid cur.toList ((i + 1)) mv).toArray 54 (0,0)):=by
  rw [hW1];exact setCells_block mv _ w.drew cur hg (by omega)
 have hv1:W1.heap[vb]? = some (.cells [cx].toArray 54 (0,0)):=by
  rw [hW1,setCells_other _ _ _ _ _ hvb];exact hvc
 have hcp2:∀ (W:World),(∀ x,W.cell? x = W1.cell? x) → (∀ x,W.frozen? x = W1.frozen? x) → ∀ ty dc,(Builtin.copy_ #[90,90] ty #[.slice (some ⟨g,i,none⟩) (n + 1 - i) dc,.slice (some ⟨vb,0,none⟩) 1 1]).run Tryz.prog W = .ok (goInt (Nat.min 1 (n + 1 - i))) (W.setCells g (i) [cx]):=fun W hWc hWf ty dc =>
  run_copy_cellsK W _ _ ty 54 1 g (i) (n + 1 - i) dc ⟨vb,0,none⟩ 1 1 [cx] Tryz.underlying90 hsz (by simp only [Nat.min_def,List.length_cons,List.length_nil];split <;> omega)
   (fun j v hj => by rw [Addr.add_lit,hWc,cell_row hv1];simpa using hj)
   (fun j hj => by rw [hWc,cell_row hg1,Array.getElem?_eq_getElem (by simp [laid_length _ _ _ (show (i + 1) + mv.length ≤ cur.toList.length by simp;omega)] at hj ⊢;omega)];rfl) (fun j hj => by rw [hWf];exact frozen_row hg1 _) (fun u hu => by simp at hu;subst hu;exact hcx)
 rw [← hmv]
 rw [← hW1] at hcp1
 have hin:i ≤ n:=by omega
 have hw1:IntKind.i64.wrap ((i:Int) + 1) = (i:Int) + 1:=by rw [IntKind.wrap_i64];omega
 have hb2:¬ (cap = i + 1):=by omega
 have hb4:¬ (cap = i):=by omega
 have hb5:(0:Int) ≤ (i:Int) + 1:=by omega
 have hb3:(i:Int) ≤ (n:Int) + 1:=by omega
 have mixed:Tryz.prog.follows Departure.mixedOrders = true:=by kernel_rfl
 have HW1:Hid (W1 = w.drew.setCells g ((i + 1)) mv):=hW1
 clear hmv hml hmg hm1 hg1 hv1 hW1 hg hvc
 go_enter Tryz.func404,Tryz.ntmps404
 go_wp2_with (simp only [hov])
 go_region_law_o (refine step_copy_known rfl _ _ 90 90 rfl _ _ (by simp [Act.eval,Act.put]) (by simp [Act.eval,Act.put]) (hcp1 _ _ _) ?_)
 go_wp2_with (at_builtin;refine wpList_copy_known _ rfl _ _ 90 90 rfl _ _ rfl rfl (hcp2 _ (fun _ => rfl) (fun _ => rfl) _ _) ?_)
 go_ret
 exact ⟨rfl,by rw [HW1.out]⟩
def hZerosL (k:Nat):List Value:=(Builtin.zeroCells (.slice none 0 0:Value).cells k).toList
theorem hZeros_lengthL (k:Nat):(hZerosL k).length = k:=by simp [hZerosL,Builtin.zeroCells,Value.cells]
theorem hZeros_oneL (k:Nat):∀ u ∈ hZerosL k,u.oneCell' = true:=by
 intro u hu
 simp only [hZerosL,Builtin.zeroCells,Value.cells,Array.mem_toList_iff,Array.mem_map] at hu
 obtain ⟨j,_,rfl⟩:=hu
 generalize hq:j % _ = q
 obtain rfl:q = 0:=by
  have:q < 1:=by rw [← hq];exact Nat.mod_lt _ (by simp)
  omega
 rfl
set_option maxHeartbeats 4000000 in
set_option maxRecDepth 100000 in
theorem insert_growL (g n cap i:Nat) (cur:Array Value) (vb:Nat) (cx:Value) (hcx:cx.oneCell' = true) (w:World) (hg:w.heap[g]? = some (.cells cur 54 (0,0))) (hi:i < n) (hn:n ≤ 1000) (hnc:n ≤ cap) (hroom:cap < n + 1) (hcs:cur.size = cap)
 (hvc:w.heap[vb]? = some (.cells [cx].toArray 54 (0,0))) (hl1:∀ u ∈ cur.toList.take (n),u.oneCell' = true) :
 Calls Tryz.prog 404 #[.slice (some ⟨g,0,none⟩) n cap,.int .i64 i,.slice (some ⟨vb,0,none⟩) 1 1] w fun e w' => ∃ G,n + 1 ≤ G ∧ G ≤ maxLen ∧ e = .returned (.slice (some ⟨w.heap.size,0,none⟩) (n + 1) G) ∧
  w' = (((w.alloc (.cells (((cur.toList.take (i)) ++ hZerosL (n + 1 - i) ++ hZerosL (G - (n + 1))).toArray) 54)).drew.setCells w.heap.size (i) [cx]).drew).setCells w.heap.size ((i + 1)) ((cur.toList.take (n)).drop (i)):=by
 obtain rfl:cap = n:=by omega
 obtain ⟨i0,hi0,hz0,hzs,hzb⟩:=info_parts Tryz.cellInfoL
 have hz2:¬ ((i:Int) = (cap:Int)):=by omega
 have hsz:(Tryz.prog.info? 54).map (·.size) = some 1:=by rw [hi0];simp [hzs]
 have hgw:g < w.heap.size:=(Array.getElem?_eq_some_iff.1 hg).1
 have hvw:vb < w.heap.size:=(Array.getElem?_eq_some_iff.1 hvc).1
 have hkk:(cap:Int) + 1 - (i:Int) = ((cap + 1 - i:Nat):Int):=by omega
 have hik:i + (cap + 1 - i) = cap + 1:=by omega
 have hold:(Builtin.firstCells i0.size i (.slice (some ⟨g,0,none⟩) i cap)).run Tryz.prog w.drew = .ok (cur.toList.take (i)).toArray w.drew:=by
  rw [hzs]
  exact run_firstCells_some w.drew 1 i ⟨g,0,none⟩ i cap (cur.toList.take (i)) (by simp;omega) (fun j v hj => by
   rw [Addr.add_lit,Nat.zero_add]
   rw [List.getElem?_take] at hj
   split at hj
   · show w.cell? _ = _;rw [cell_row hg];simpa using hj
   · cases hj)
 have hrz:∀ ty,(Builtin.append_ #[90,3] ty #[.slice (some ⟨g,0,none⟩) i cap,.int .i64 ((cap:Int) + 1 - (i:Int))]).run Tryz.prog w =
  .ok (.slice (some ⟨w.heap.size,0,none⟩) (cap + 1) (grownCap w (cap + 1) cap 54)) (w.drew.alloc (.cells (((cur.toList.take (i)) ++ hZerosL (cap + 1 - i) ++ hZerosL (grownCap w (cap + 1) cap 54 - (cap + 1))).toArray) 54)):=fun ty => by
  have h:=Lib.run_append_grow_zeros w 90 3 ty 54 i0 _ .i64 .i64 Tryz.underlying90 Tryz.underlying3 hi0 hz0 (some ⟨g,0,none⟩) i cap (cur.toList.take (i)) hold (cap + 1 - i) (by omega) (by omega) (by omega) (by omega) (by rw [hzb];omega) (by rw [hzb,hik];exact growslice_fits (by omega) (by omega))
  rw [hik] at h
  rw [hkk,h]
  simp only [hZerosL]
  congr 3
  apply Array.ext'
  simp
 obtain ⟨G,hG⟩:∃ G,G = grownCap w (cap + 1) cap 54:=⟨_,rfl⟩
 rw [← hG] at hrz
 have hGn:cap + 1 ≤ G:=by rw [hG];exact grownCap_ge w _ _ _
 have hG63:G ≤ maxLen:=by rw [hG];exact grownCap_le_maxLen w (cap + 1) cap 54 (by unfold maxLen;omega)
 have hG64:G ≤ 9223372036854775807:=by simpa [maxLen] using hG63
 obtain ⟨row,hrow⟩:∃ row:List Value,row = (cur.toList.take (i)) ++ hZerosL (cap + 1 - i) ++ hZerosL (G - (cap + 1)):=⟨_,rfl⟩
 have hrl:row.length = G:=by rw [hrow];simp [hZeros_lengthL];omega
 rw [← hrow] at hrz
 obtain ⟨mv,hmv⟩:∃ mv,mv = (cur.toList.take (cap)).drop (i):=⟨_,rfl⟩
 have hml:mv.length = (cap - i):=by rw [hmv];simp;omega
 have hmg:∀ j u,mv[j]? = some u → cur[i + j]? = some u:=fun j u hj => by
  rw [hmv,List.getElem?_drop,List.getElem?_take] at hj
  split at hj
  · simpa using hj
  · cases hj
 have hm1:∀ u ∈ mv,u.oneCell' = true:=fun u hu => by rw [hmv] at hu;exact hl1 u (List.mem_of_mem_drop hu)
 obtain ⟨W1,hW1⟩:∃ W1,W1 = w.drew.alloc (.cells row.toArray 54):=⟨_,rfl⟩
 rw [← hW1] at hrz
 have hN:W1.heap[w.heap.size]? = some (.cells row.toArray 54 (0,0)):=by rw [hW1];exact _root_.Go.heap_alloc_new w.drew _
 have hOb:W1.heap[g]? = some (.cells cur 54 (0,0)):=by rw [hW1];exact (Below.heap_alloc w.drew _ g hgw).trans hg
 have hOv:W1.heap[vb]? = some (.cells [cx].toArray 54 (0,0)):=by rw [hW1];exact (Below.heap_alloc w.drew _ vb hvw).trans hvc
 have hcpA:∀ (W:World),(∀ x,W.cell? x = W1.cell? x) → (∀ x,W.frozen? x = W1.frozen? x) → ∀ ty dc,(Builtin.copy_ #[90,90] ty #[.slice (some ⟨w.heap.size,i,none⟩) (cap + 1 - i) dc,.slice (some ⟨vb,0,none⟩) 1 1]).run Tryz.prog W = .ok (goInt (Nat.min 1 (cap + 1 - i))) (W.setCells w.heap.size (i) [cx]):=fun W hWc hWf ty dc =>
  run_copy_cellsK W _ _ ty 54 1 w.heap.size (i) (cap + 1 - i) dc ⟨vb,0,none⟩ 1 1 [cx] Tryz.underlying90 hsz (by simp only [Nat.min_def,List.length_cons,List.length_nil];split <;> omega)
   (fun j v hj => by rw [Addr.add_lit,hWc,cell_row hOv];simpa using hj)
   (fun j hj => by rw [hWc,cell_row hN,Array.getElem?_eq_getElem (by simp [hrl] at hj ⊢;omega)];rfl) (fun j hj => by rw [hWf];exact frozen_row hN _) (fun u hu => by simp at hu;subst hu;exact hcx)
 have hN2:(W1.setCells w.heap.size (i) [cx]).heap[w.heap.size]? = some (.cells (laid row.toArray.toList (i) [cx]).toArray 54 (0,0)):=setCells_block _ _ _ _ hN (by simp [hrl];omega)
 have hO2:(W1.setCells w.heap.size (i) [cx]).heap[g]? = some (.cells cur 54 (0,0)):=(setCells_other _ _ _ _ _ (by omega)).trans hOb
 have hll:(laid row.toArray.toList (i) [cx]).length = G:=by rw [laid_length _ _ _ (by simp [hrl];omega)];simpa using hrl
 have hcpB:∀ (W:World),(∀ x,W.cell? x = (W1.setCells w.heap.size (i) [cx]).cell? x) → (∀ x,W.frozen? x = (W1.setCells w.heap.size (i) [cx]).frozen? x) → ∀ ty dc sc,(Builtin.copy_ #[90,90] ty #[.slice (some ⟨w.heap.size,(i + 1),none⟩) (cap - i) dc,.slice (some ⟨g,i,none⟩) (cap - i) sc]).run Tryz.prog W = .ok (goInt (Nat.min (cap - i) (cap - i))) (W.setCells w.heap.size ((i + 1)) mv):=fun W hWc hWf ty dc sc =>
  run_copy_cellsK W _ _ ty 54 1 w.heap.size ((i + 1)) (cap - i) dc ⟨g,i,none⟩ (cap - i) sc mv Tryz.underlying90 hsz (by rw [hml];simp only [Nat.min_def];split <;> omega)
   (fun j v hj => by rw [Addr.add_lit,hWc,cell_row hO2];exact hmg j v hj)
   (fun j hj => by rw [hWc,cell_row hN2,Array.getElem?_eq_getElem (by rw [List.size_toArray,hll];omega)];rfl) (fun j hj => by rw [hWf];exact frozen_row hN2 _) hm1
 have hEnd:Hid (∃ G',cap + 1 ≤ G' ∧ G' ≤ maxLen ∧ Value.slice (some ⟨w.heap.size,0,none⟩) (cap + 1) G = Value.slice (some ⟨w.heap.size,0,none⟩) (cap + 1) G' ∧
  ((((w.alloc (.cells row.toArray 54)).drew.setCells w.heap.size (i) [cx]).drew).setCells w.heap.size ((i + 1)) mv) = (((w.alloc (.cells (((cur.toList.take (i)) ++ hZerosL (cap + 1 - i) ++ hZerosL (G' - (cap + 1))).toArray) 54)).drew.setCells w.heap.size (i) [cx]).drew).setCells w.heap.size ((i + 1)) ((cur.toList.take (cap)).drop (i))) :=
  ⟨G,hGn,hG63,rfl,by rw [hrow,hmv]⟩
 subst hW1
 have hE1:∀ x,((w.alloc (.cells row.toArray 54)).drew).cell? x = (w.drew.alloc (.cells row.toArray 54)).cell? x:=fun x => rfl
 have hE2:∀ x,((w.alloc (.cells row.toArray 54)).drew).frozen? x = (w.drew.alloc (.cells row.toArray 54)).frozen? x:=fun x => rfl
 have hF1:∀ x,(((w.alloc (.cells row.toArray 54)).drew.setCells w.heap.size (i) [cx]).drew).cell? x = ((w.drew.alloc (.cells row.toArray 54)).setCells w.heap.size (i) [cx]).cell? x:=fun x => rfl
 have hF2:∀ x,(((w.alloc (.cells row.toArray 54)).drew.setCells w.heap.size (i) [cx]).drew).frozen? x = ((w.drew.alloc (.cells row.toArray 54)).setCells w.heap.size (i) [cx]).frozen? x:=fun x => rfl
 have hw1:IntKind.i64.wrap ((i:Int) + 1) = (i:Int) + 1:=by rw [IntKind.wrap_i64];omega
 have hb1:(0:Int) ≤ (i:Int) + 1:=by omega
 have hin:i ≤ cap:=by omega
 have hb3:(i:Int) ≤ (cap:Int):=by omega
 have hGi:¬ (G = i):=by omega
 have hGim:¬ (G = i + 1):=by omega
 have hci:¬ (cap = i):=by omega
 have mixed:Tryz.prog.follows Departure.mixedOrders = true:=by kernel_rfl
 clear hkk hik hold hG hrl hrow hmv hml hmg hm1 hN hOb hOv hN2 hO2 hll hg hvc hcs
 go_enter Tryz.func404,Tryz.ntmps404
 go_wp2_with (first
  | (at_builtin;refine Lib.wpList_append_run _ rfl _ _ _ _ rfl _ _ rfl rfl _ _ (hrz _) ?_)
  | (at_builtin;refine wpList_copy_known _ rfl _ _ 90 90 rfl _ _ rfl rfl (hcpA _ hE1 hE2 _ _) ?_)
  | (at_builtin;refine wpList_copy_known _ rfl _ _ 90 90 rfl _ _ rfl rfl (hcpB _ (fun _ => rfl) (fun _ => rfl) _ _ _) ?_))
 go_region_law_o (refine step_copy_known rfl _ _ 90 90 rfl (.slice (some ⟨w.heap.size,(i + 1),none⟩) (cap - i) (G - (i + 1))) (.slice (some ⟨g,i,none⟩) (cap - i) (cap - i)) (by simp [Act.eval,Act.put]) (by simp [Act.eval,Act.put]) (hcpB _ hF1 hF2 3 (G - (i + 1)) (cap - i)) ?_)
 go_wp2
 go_ret
 exact hEnd.out.imp fun G' h => ⟨h.1,h.2.1,congrArg Ending.returned h.2.2.1,h.2.2.2⟩
theorem insert_ownL (base:Nat) (v:Value) (n i:Nat) (xs:List Value) (vb:Nat) (cx:Value) (hcx:cx.oneCell' = true) (w:World) (hown:w.ownsRow base 54 1 v n xs) (hi:i ≤ n) (hn:n ≤ 1000) (hbase:base ≤ w.heap.size) (hx1:∀ u ∈ xs,u.oneCell' = true)
 (hvb:v.ownBlock ≠ some vb) (hvc:w.heap[vb]? = some (.cells [cx].toArray 54 (0,0))) :
 Calls Tryz.prog 404 #[v,.int .i64 i,.slice (some ⟨vb,0,none⟩) 1 1] w fun e w' => ∃ v',e = .returned v' ∧ w'.ownsRow base 54 1 v' (n + 1) (setIn xs (i) [cx]) ∧ w.grownBy w' v.ownBlock ∧ (v'.ownBlock = v.ownBlock ∨ ∃ g,v'.ownBlock = some g ∧ w.heap.size ≤ g):=by
 have hxl:xs.length = n:=by simpa using hown.1
 rcases Nat.lt_or_eq_of_le hi with hlt | rfl
 · rcases hown.2 with ⟨rfl,rfl⟩ | ⟨g,cap,cur,rfl,hbg,hg,hnc,hcm,hcs,htake⟩
   · omega
   · rw [Nat.mul_one] at hcs htake
     have hne:vb ≠ g:=fun e => hvb (by simp [Value.ownBlock,e])
     have hll:(setIn xs (i) [cx]).length = (n + 1):=by simp [setIn,hxl];omega
     by_cases hroom:n + 1 ≤ cap
     · refine (insert_shiftL g n cap i cur vb cx hcx w hg hlt hroom hcm hcs hne hvc (by rw [htake];exact hx1)).mono ?_
       rintro e w' ⟨rfl,rfl⟩
       have hb1:=setCells_block ((cur.toList.take (n)).drop (i)) ((i + 1)) w.drew cur hg (by simp;omega)
       have hb2:=setCells_block [cx] (i) _ _ hb1 (by
        rw [List.size_toArray,laid_length _ _ _ (by simp;omega)];simp;omega)
       refine ⟨_,rfl,⟨by rw [Nat.mul_one];exact hll,Or.inr ⟨g,cap,_,rfl,hbg,hb2,hroom,hcm,?_,?_⟩⟩,?_,Or.inl rfl⟩
       · rw [Nat.mul_one,List.size_toArray,laid_length _ _ _ (by rw [laid_length _ _ _ (by simp;omega)];simp;omega),laid_length _ _ _ (by simp;omega)]
         simpa using hcs
       · have:=shifted_take cur.toList xs [cx] (n) (i) 1 rfl (by omega) htake (by simp;omega) hxl
         rw [Nat.mul_one,htake]
         exact this
       · have hq:=grownBy_tr (grownBy_setCells w.drew g ((i + 1)) ((cur.toList.take (n)).drop (i))) (grownBy_setCells _ g (i) [cx])
         exact ⟨hq.os,hq.tape,hq.output,hq.size,hq.block⟩
     · refine (insert_growL g n cap i cur vb cx hcx w hg hlt hn hnc (by omega) hcs hvc (by rw [htake];exact hx1)).mono ?_
       rintro e w' ⟨G,hG1,hG2,rfl,rfl⟩
       obtain rfl:cap = n:=by omega
       obtain ⟨row,hrow⟩:∃ row:List Value,row = (cur.toList.take (i)) ++ hZerosL (cap + 1 - i) ++ hZerosL (G - (cap + 1)):=⟨_,rfl⟩
       have hrl:row.length = G:=by rw [hrow];simp [hZeros_lengthL];omega
       have hrt:row.take (i) = xs.take (i):=by
        rw [hrow,List.append_assoc,List.take_append_of_le_length (by simp;omega),List.take_take,← htake,List.take_take]
        congr 1;omega
       rw [← hrow]
       have hb0:((w.alloc (.cells row.toArray 54)).drew).heap[w.heap.size]? = some (.cells row.toArray 54 (0,0)):=_root_.Go.heap_alloc_new w _
       have hb1:=setCells_block [cx] (i) _ _ hb0 (by simp [hrl];omega)
       have hl1:(laid row (i) [cx]).length = G:=by rw [laid_length _ _ _ (by simp [hrl];omega)];exact hrl
       have hb2:=setCells_block ((cur.toList.take (cap)).drop (i)) ((i + 1)) (((w.alloc (.cells row.toArray 54)).drew.setCells w.heap.size (i) [cx]).drew) _ hb1 (by simp [hl1];omega)
       refine ⟨_,rfl,⟨by rw [Nat.mul_one];exact hll,Or.inr ⟨w.heap.size,G,_,rfl,hbase,hb2,hG1,hG2,?_,?_⟩⟩,?_,Or.inr ⟨w.heap.size,rfl,Nat.le_refl _⟩⟩
       · rw [Nat.mul_one,List.size_toArray,laid_length _ _ _ (by simp [hl1];omega)]
         simpa using hl1
       · rw [Nat.mul_one,laid_of_take _ (xs.take (i) ++ [cx]) _ _ _ (by simp;omega) ?_ (by simp [hl1];omega) (by simp [hxl];omega)]
         · rw [List.take_of_length_le (by simp;omega),htake]
           rfl
         · have e:(laid row (i) [cx]).take ((i + 1)) = xs.take (i) ++ [cx]:=laid_of_take row xs [cx] (i) (i + 1) (by simp) hrt (by omega) (by omega)
           exact e.trans (List.take_of_length_le (by simp;omega)).symm
       · have hz:w.grownBy (w.alloc (.cells row.toArray 54)) (some g):=World.grownBy_alloc _ _ _
         refine ⟨?_,?_,?_,?_,?_⟩
         · rw [(setCells_rest _ _ _ _).1];show ((World.setCells _ _ _ _).os) = _;rw [(setCells_rest _ _ _ _).1];rfl
         · rw [(setCells_rest _ _ _ _).2.1];show ((World.setCells _ _ _ _).tape) = _;rw [(setCells_rest _ _ _ _).2.1];rfl
         · rw [(setCells_rest _ _ _ _).2.2];show ((World.setCells _ _ _ _).output) = _;rw [(setCells_rest _ _ _ _).2.2];rfl
         · rw [setCells_size];show _ ≤ (World.setCells _ _ _ _).heap.size;rw [setCells_size];exact hz.size
         · intro k hk _
           rw [setCells_other _ _ _ _ _ (by omega)];show (World.setCells _ _ _ _).heap[k]? = _;rw [setCells_other _ _ _ _ _ (by omega)]
           exact Below.heap_alloc w _ k hk
 · have hc:∀ j,w.cell? ⟨vb,j,none⟩ = [cx][j]?:=fun j => by rw [cell_row hvc];simp
   have hs:setIn xs (i) [cx] = xs ++ [cx]:=by unfold setIn;rw [List.take_of_length_le (by omega),List.drop_of_length_le (by omega)];simp
   rw [hs]
   exact insert_endL base v i xs vb cx hcx w hown hn hbase (by rw [hc];rfl)
end Go.Proofs.YthkbeaffkcfgiabGreatDoor
