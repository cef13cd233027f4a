import Derived.Test.YthkbeaffkcfgiabGreatDoorR04
import Derived.Test.YthkbeaffkcfgiabGreatDoorR11
import Derived.Test.YthkbeaffkcfgiabGreatDoorR09
import Derived.Test.YthkbeaffkcfgiabGreatDoorR16
import Derived.Test.YthkbeaffkcfgiabGreatDoorR10
set_option linter.unusedSimpArgs false
set_option linter.unusedVariables false
namespace Go.Proofs.YthkbeaffkcfgiabGreatDoor
open Go.RowKit
theorem zeroOfL:∀ w,(zeroValue 54).run Tryz.prog w = .ok (.slice none 0 0) w:=fun w => by
 obtain ⟨i0,hi0,h0,h1,h2⟩:=info_parts Tryz.cellInfoL
 simp [zeroValue,typeInfo,hi0,h0]
set_option maxHeartbeats 4000000 in
set_option maxRecDepth 100000 in
theorem delete_atL (g n cap i:Nat) (cur:Array Value) (w:World) (hg:w.heap[g]? = some (.cells cur 54 (0,0))) (hi:i < n) (hnc:n ≤ cap) (hc63:cap ≤ maxLen) (hcs:cur.size = cap) (hl1:∀ u ∈ cur.toList.take (n),u.oneCell' = true) :
 Calls Tryz.prog 402 #[.slice (some ⟨g,0,none⟩) n cap,.int .i64 i,.int .i64 ((i:Int) + 1)] w fun e w' => e = .returned (.slice (some ⟨g,0,none⟩) (n - 1) cap) ∧
  w' = (w.drew.setCells g (i) ((cur.toList.take (n)).drop ((i + 1)))).setCells g ((n - 1)) (hZerosL 1):=by
 obtain ⟨i0,hi0,hz0,hz1,hz2⟩:=info_parts Tryz.cellInfoL
 have hc64:cap ≤ 9223372036854775807:=by simpa [maxLen] using hc63
 obtain ⟨mv,hmv⟩:∃ mv,mv = (cur.toList.take (n)).drop ((i + 1)):=⟨_,rfl⟩
 have hml:mv.length = (n - (i + 1)):=by rw [hmv];simp;omega
 have hmg:∀ j u,mv[j]? = some u → cur[(i + 1) + j]? = some u:=fun j u hj => by
  rw [hmv,List.getElem?_drop,List.getElem?_take] at hj
  split at hj
  · simpa using hj
  · cases hj
 have hm1:∀ u ∈ mv,u.oneCell' = true:=fun u hu => by rw [hmv] at hu;exact hl1 u (List.mem_of_mem_drop hu)
 obtain ⟨A,hA,hsrc⟩:∃ A:Addr,(if cap = i + 1 then some (⟨g,0,none⟩:Addr) else some ⟨g,(i + 1),none⟩) = some A ∧ Hid (∀ t u,mv[t]? = some u → w.drew.cell? (A.add t) = some u):=by
  by_cases h:cap = i + 1
  · refine ⟨⟨g,0,none⟩,by simp [h],fun t u hu => ?_⟩
    have h0:mv.length = 0:=by rw [hml];omega
    rw [List.length_eq_zero_iff.1 h0] at hu
    simp at hu
  · refine ⟨⟨g,(i + 1),none⟩,by simp [h],fun t u hu => ?_⟩
    rw [Addr.add_lit]
    show w.cell? _ = _
    rw [cell_row hg]
    exact hmg t u hu
 have s1:Hid (mv.length = (n - (i + 1)) * 1):=by show _ = _;rw [Nat.mul_one];exact hml
 have s2:Hid (∀ u ∈ mv,u.oneCell' = true):=hm1
 have s3:Hid (∀ t,t < mv.length → (w.drew.cell? ⟨g,0 + i * 1 + t,none⟩).isSome = true ∧ w.drew.frozen? ⟨g,0 + i * 1 + t,none⟩ = false):=fun t ht => by
  rw [Nat.mul_one]
  refine ⟨?_,frozen_row (w:=w) hg _⟩
  show (w.cell? _).isSome = true
  rw [cell_row hg,Array.getElem?_eq_getElem (by omega)];rfl
 obtain ⟨W1,hW1⟩:∃ W1,W1 = w.drew.setCells g (i) mv:=⟨_,rfl⟩
 have hg1:W1.heap[g]? = some (.cells (laid cur.toList (i) mv).toArray 54 (0,0)):=by
  rw [hW1];exact setCells_block mv _ w.drew cur hg (by omega)
 have hcl:∀ (W:World),(∀ x,W.cell? x = W1.cell? x) → (∀ x,W.frozen? x = W1.frozen? x) → ∀ ty c,(Builtin.clear_ #[90] ty #[.slice (some ⟨g,(i + (n - (i + 1))),none⟩) (n - (i + (n - (i + 1)))) c]).run Tryz.prog W = .ok (.tuple #[]) (W.setCells g ((i + (n - (i + 1)))) (hZerosL 1)):=fun W hWc hWf ty c => by
  have e1:n - (i + (n - (i + 1))) = 1:=by omega
  rw [e1]
  exact run_clear_cellsK W 90 54 ty _ Tryz.underlying90 zeroOfL g _ 1 c (by omega) (hZerosL 1) rfl (hZeros_oneL 1)
   (fun j hj => by rw [hWc,cell_row hg1,Array.getElem?_eq_getElem (by rw [List.size_toArray,laid_length _ _ _ (by simp;omega)];rw [hZeros_lengthL] at hj;simp;omega)];rfl) (fun j hj => by rw [hWf];exact frozen_row hg1 _)
 replace hcl:=hcl W1 (fun _ => rfl) (fun _ => rfl)
 have X:Hid (W1 = w.drew.setCells g (i) mv):=hW1
 have hW:Hid (W1 = w.drew.setCells g (0 + i * 1) mv):=by rw [Nat.mul_one,Nat.zero_add];exact hW1
 have hic:i ≤ cap:=by omega
 have hjc:i + 1 ≤ cap:=by omega
 have hjn:i + 1 ≤ n:=by omega
 have hjI:(i:Int) + 1 ≤ (n:Int):=by omega
 have hb5:(0:Int) ≤ (i:Int) + 1:=by omega
 have hne:¬ ((i:Int) = (i:Int) + 1):=by omega
 have mixed:Tryz.prog.follows Departure.mixedOrders = true:=by kernel_rfl
 rw [← hmv]
 clear hW1 hmv hml hmg hm1 hg1 hg hcs hl1
 go_enter Tryz.func402,Tryz.ntmps402
 go_wp2_with fail
 go_region_law_o (refine step_append_room rfl (.tmp 22) (.tmp 25) 90 rfl 54 i0 1 Tryz.underlying90 hi0 hz1 g 0 i cap (by simp [Act.eval,Act.put]) A (n - (i + 1)) (cap - (i + 1)) mv (by simp [Act.eval,Act.put]) s1.out hsrc.out s2.out (by omega) s3.out ?_;rw [← hW.out])
 go_wp2
 go_ret
 refine ⟨?_,?_⟩
 · rw [show n - 1 = i + (n - (i + 1)) by omega];rfl
 · rw [show n - 1 = i + (n - (i + 1)) by omega,← X.out]
theorem delete_ownL (base:Nat) (v:Value) (n i:Nat) (xs:List Value) (w:World) (hown:w.ownsRow base 54 1 v n xs) (hi:i < n) (hx1:∀ u ∈ xs,u.oneCell' = true) :
 Calls Tryz.prog 402 #[v,.int .i64 i,.int .i64 ((i:Int) + 1)] w fun e w' => ∃ v',e = .returned v' ∧ w'.ownsRow base 54 1 v' (n - 1) (cutOut xs (i) 1) ∧ w.grownBy w' v.ownBlock ∧ v'.ownBlock = v.ownBlock:=by
 have hxl:xs.length = n:=by simpa using hown.1
 rcases hown.2 with ⟨rfl,rfl⟩ | ⟨g,cap,cur,rfl,hbg,hg,hnc,hcm,hcs,htake⟩
 · omega
 · rw [Nat.mul_one] at hcs htake
   refine (delete_atL g n cap i cur w hg hi hnc hcm hcs (by rw [htake];exact hx1)).mono ?_
   rintro e w' ⟨rfl,rfl⟩
   have hb1:=setCells_block ((cur.toList.take (n)).drop ((i + 1))) (i) w.drew cur hg (by simp;omega)
   have hb2:=setCells_block (hZerosL 1) ((n - 1)) _ _ hb1 (by
    rw [List.size_toArray,laid_length _ _ _ (by simp;omega),hZeros_lengthL];simp;omega)
   refine ⟨_,rfl,⟨by simp [cutOut,hxl];omega,Or.inr ⟨g,cap,_,rfl,hbg,hb2,by omega,hcm,?_,?_⟩⟩,?_,rfl⟩
   · rw [Nat.mul_one,List.size_toArray,laid_length _ _ _ (by rw [hZeros_lengthL,laid_length _ _ _ (by simp;omega)];simp;omega),laid_length _ _ _ (by simp;omega)]
     simpa using hcs
   · have:=cut_take cur.toList xs (hZerosL 1) (n) (i) 1 (by omega) htake (by simp;omega) (hZeros_lengthL 1) hxl
     rw [Nat.mul_one,htake]
     exact this
   · have hq:=grownBy_tr (grownBy_setCells w.drew g (i) ((cur.toList.take (n)).drop ((i + 1)))) (grownBy_setCells _ g ((n - 1)) (hZerosL 1))
     exact ⟨hq.os,hq.tape,hq.output,hq.size,hq.block⟩
set_option maxHeartbeats 1600000 in
theorem insert_colL {F:Nat → Prop} (cb ct n r:Nat) (xs:List Value) (w:World) (hC:ColAt w F cb ct 54 1 n xs) (hr:r ≤ n) (hn:n ≤ 100) (hx1:∀ u ∈ xs,u.oneCell' = true) :
 Calls Tryz.prog 400 #[.pointer (some ⟨cb,0,none⟩),.int .i64 r] w fun e w' => e = .returned (.tuple #[]) ∧ Turns w w' F ∧ ColAt w' (grow F w w') cb ct 54 1 (n + 1) (setIn xs r [.slice none 0 0]):=by
 obtain ⟨h1,v,h2,h3,h4⟩:=hC
 have hc:cb < w.heap.size:=(Array.getElem?_eq_some_iff.1 h2).1
 have c0:w.cell? ⟨cb,0,none⟩ = some v:=by rw [cell_row h2];rfl
 have H1:Hid (F cb):=h1
 have H2:Hid (w.heap[cb]? = some (.cells #[v] ct (0,0))):=h2
 have H3:Hid (w.ownsRow 0 54 1 v n xs):=h3
 have H4:Hid (∀ k,v.ownBlock = some k → F k ∧ k ≠ cb):=h4
 have hne:cb ≠ w.heap.size:=by omega
 obtain ⟨W1,hW1⟩:∃ W1,W1 = w.alloc (.cells #[.slice none 0 0] 54):=⟨_,rfl⟩
 have HI:Hid (Calls Tryz.prog 404 #[v,.int .i64 r,.slice (some ⟨w.heap.size,0,none⟩) 1 1] W1 fun e w' => ∃ a' c',e = .returned (.slice a' (n + 1) c') ∧ w'.cell? ⟨cb,0,none⟩ = some v ∧ w'.frozen? ⟨cb,0,none⟩ = false ∧
  Hid (w'.ownsRow 0 54 1 (.slice a' (n + 1) c') (n + 1) (setIn xs r [.slice none 0 0]) ∧ W1.grownBy w' v.ownBlock ∧ ((Value.slice a' (n + 1) c').ownBlock = v.ownBlock ∨ ∃ g,(Value.slice a' (n + 1) c').ownBlock = some g ∧ W1.heap.size ≤ g))):=by
  have hb1:Below w.heap.size w W1:=by rw [hW1];exact (Below.refl _ _).alloc (Nat.le_refl _) _
  have ho:W1.ownsRow 0 54 1 v n xs:=own_turn h3 fun k _ hk => hb1.block k hk
  refine (insert_ownL 0 v n r xs w.heap.size (.slice none 0 0) rfl W1 ho hr (by omega) (Nat.zero_le _) hx1 (fun e => by have:=(h3.lt _ e).2;omega) (by rw [hW1];exact heap_alloc_at rfl _)).mono ?_
  rintro e w' ⟨v',rfl,g1,g2,g3⟩
  obtain ⟨a',c',rfl⟩:=own_form g1
  have hblk:w'.heap[cb]? = w.heap[cb]?:=(g2.block cb (by rw [hW1];simp;omega) (fun e => (h4 cb e.symm).2 rfl)).trans (hb1.block cb hc)
  exact ⟨a',c',rfl,(World.cell?_of_block (a:=⟨cb,0,none⟩) hblk).trans c0,(World.frozen?_of_block (a:=⟨cb,0,none⟩) hblk).trans (frozen_row h2 0),g1,g2,g3⟩
 rw [hW1] at HI
 clear h1 h2 h3 h4 hx1
 go_enter Tryz.func400,Tryz.ntmps400
 go_wp2_with (go_at_call 404;refine HI.out.mono ?_;rintro e w2 ⟨a',c',rfl,d0,f0,HF⟩)
 go_end0
 rw [← hW1] at HF
 obtain ⟨g1,g2,g3⟩:=HF.out
 exact ⟨rfl,col_done H1.out H2.out H3.out H4.out (by rw [hW1];exact (Below.refl _ _).alloc (Nat.le_refl _) _) g1 g2 g3⟩
set_option maxHeartbeats 1600000 in
theorem delete_colL {F:Nat → Prop} (cb ct n r:Nat) (xs:List Value) (w:World) (hC:ColAt w F cb ct 54 1 n xs) (hr:r < n) (hn:n ≤ 100) (hx1:∀ u ∈ xs,u.oneCell' = true) :
 Calls Tryz.prog 397 #[.pointer (some ⟨cb,0,none⟩),.int .i64 r] w fun e w' => e = .returned (.tuple #[]) ∧ Turns w w' F ∧ ColAt w' (grow F w w') cb ct 54 1 (n - 1) (cutOut xs r 1):=by
 obtain ⟨h1,v,h2,h3,h4⟩:=hC
 have hc:cb < w.heap.size:=(Array.getElem?_eq_some_iff.1 h2).1
 have c0:w.cell? ⟨cb,0,none⟩ = some v:=by rw [cell_row h2];rfl
 have H1:Hid (F cb):=h1
 have H2:Hid (w.heap[cb]? = some (.cells #[v] ct (0,0))):=h2
 have H3:Hid (w.ownsRow 0 54 1 v n xs):=h3
 have H4:Hid (∀ k,v.ownBlock = some k → F k ∧ k ≠ cb):=h4
 have HI:Hid (Calls Tryz.prog 402 #[v,.int .i64 r,.int .i64 ((r:Int) + 1)] w fun e w' => ∃ a' c',e = .returned (.slice a' (n - 1) c') ∧ w'.cell? ⟨cb,0,none⟩ = some v ∧ w'.frozen? ⟨cb,0,none⟩ = false ∧
  Hid (w'.ownsRow 0 54 1 (.slice a' (n - 1) c') (n - 1) (cutOut xs r 1) ∧ w.grownBy w' v.ownBlock ∧ (Value.slice a' (n - 1) c').ownBlock = v.ownBlock)):=by
  refine (delete_ownL 0 v n r xs w h3 hr hx1).mono ?_
  rintro e w' ⟨v',rfl,g1,g2,g3⟩
  obtain ⟨a',c',rfl⟩:=own_form g1
  have hblk:w'.heap[cb]? = w.heap[cb]?:=g2.block cb hc (fun e => (h4 cb e.symm).2 rfl)
  exact ⟨a',c',rfl,(World.cell?_of_block (a:=⟨cb,0,none⟩) hblk).trans c0,(World.frozen?_of_block (a:=⟨cb,0,none⟩) hblk).trans (frozen_row h2 0),g1,g2,g3⟩
 clear h1 h2 h3 h4 hx1
 go_enter Tryz.func397,Tryz.ntmps397
 go_wp2_with (go_at_call 402;refine HI.out.mono ?_;rintro e w2 ⟨a',c',rfl,d0,f0,HF⟩)
 go_end0
 obtain ⟨g1,g2,g3⟩:=HF.out
 exact ⟨rfl,col_done H1.out H2.out H3.out H4.out (Below.refl _ _) g1 g2 (Or.inl g3)⟩
theorem TabUpTo.cellAt {W:World} {own:Nat → Nat} {base tb s:Nat} {cks:List (List Nat)} {sl:Nat → Value} {j:Nat} (h:TabUpTo W own base tb s cks sl j) (k:Nat) (hk:k < 6):W.cell? ⟨tb,1 + k,none⟩ = some (sl k) ∧ W.frozen? ⟨tb,1 + k,none⟩ = false:=by
 refine ⟨?_,frozen_row h.2.1 _⟩
 rw [cell_row h.2.1]
 have e:k = 0 ∨ k = 1 ∨ k = 2 ∨ k = 3 ∨ k = 4 ∨ k = 5:=by omega
 rcases e with rfl | rfl | rfl | rfl | rfl | rfl <;> rfl
theorem FieldsAt.form {w:World} {s:Value} {ks:List Nat} (h:FieldsAt w s ks):∃ a n c,s = .slice a n c:=by
 rcases h with ⟨h,_⟩ | ⟨g,c,h,_⟩
 · exact ⟨_,_,_,h⟩
 · exact ⟨_,_,_,h⟩
set_option maxHeartbeats 3200000 in
set_option maxRecDepth 20000 in
theorem new_tabC (g c s:Nat) (cks:List (List Nat)) (w:World) (own:Nat → Nat) (base:Nat) (hL:LayK w g cks) (hc:cks.length ≤ c) (hs:s < 64) :
 Calls Tryz.prog 189 #[.slice (some ⟨g,0,none⟩) cks.length c,.int .u64 s] w fun e w' => e = .returned (.pointer (some ⟨w.heap.size,0,none⟩)) ∧ Below w.heap.size w w' ∧ ∃ own',(∀ b,b < w.heap.size → own' b = own b) ∧ TabC w' own' base w.heap.size s cks [] (fun _ _ => []):=by
 obtain ⟨hg,hn6,hks,hcell⟩:=hL
 have HK:Hid (∀ ks ∈ cks,ks.length ≤ 4 ∧ ∀ k ∈ ks,1 ≤ k ∧ k ≤ 5):=hks
 have HCl:Hid (∀ j,j < cks.length → ∃ nm fs,w.cell? ⟨g,j * 2,none⟩ = some (.string nm) ∧ w.cell? ⟨g,j * 2 + 1,none⟩ = some fs ∧ FieldsAt w fs (cks.getD j [])):=hcell
 obtain ⟨n,hn⟩:∃ n,n = cks.length:=⟨_,rfl⟩
 have HN:Hid (n = cks.length):=hn
 rw [← hn] at hn6 hc ⊢
 clear hks hcell hn
 go_enter Tryz.func189,Tryz.ntmps189
 go_wp2
 go_loopw [12] (fun t wr => ∃ (j:Nat) (sl:Nat → Value) (own':Nat → Nat),j ≤ n ∧ t = .int .i64 j ∧ w.heap.size < wr.heap.size ∧ Hid (∀ b,b < w.heap.size → own' b = own b) ∧ Hid (TabUpTo wr own' base w.heap.size s cks sl j) ∧ Below w.heap.size w wr) (fun t _ => n - (intOf t).toNat)
 case atStart =>
  refine ⟨0,fun _ => .slice none 0 0,fun b => if b = w.heap.size then base else own b,by omega,rfl,by simp,fun b hb => if_neg (by omega),⟨if_pos rfl,heap_alloc_at rfl _,fun k hk => ?_⟩,(Below.refl _ _).alloc (Nat.le_refl _) _⟩
  rw [if_neg (by simp)]
 case round =>
  obtain ⟨j,sl,own',hj,rfl,hsw,HOw,HT,hb⟩:=hrel
  have HB:Hid (Below w.heap.size w wr):=hb
  by_cases hlt:j < n
  · have hje:j < cks.length:=by rw [← HN.out];exact hlt
    have hj6:j < 6:=by omega
    obtain ⟨nm,fs,c0,c1,hfs⟩:=HCl.out j hje
    have HFs:Hid (FieldsAt wr fs (cks.getD j [])):=hfs.below hb
    obtain ⟨fa,fn,fc,rfl⟩:=hfs.form
    have d0:wr.cell? ⟨g,j * 2,none⟩ = some (.string nm):=(hb.cell (p:=⟨g,j * 2,none⟩) hg).trans c0
    have d1:wr.cell? ⟨g,j * 2 + 1,none⟩ = some (.slice fa fn fc):=(hb.cell (p:=⟨g,j * 2 + 1,none⟩) hg).trans c1
    have HKj:Hid ((cks.getD j []).length ≤ 4 ∧ ∀ k ∈ cks.getD j [],1 ≤ k ∧ k ≤ 5):=by
     have e:cks.getD j [] = cks[j]:=by simp [List.getD,hje]
     rw [e];exact HK.out _ (List.getElem_mem hje)
    clear hb c0 c1 hfs
    cases ht:s.testBit j with
    | false =>
     have HH:Hid (hasC s cks j = false):=by show _ = _;simp [hasC,ht]
     go_wp2_with (go_at_call 66;refine (has_any s j _ hs hj6).mono ?_;rw [ht];rintro e w' ⟨rfl,rfl⟩)
     go_roundw
     case rel => exact ⟨j + 1,sl,own',by omega,by go_num,by simp;omega,HOw,HT.out.skip HH.out hsw (fun b hb => Below.heap_alloc _ _ _ hb),HB.out.alloc (by omega) _⟩
     case measure => simp [intOf];omega
    | true =>
     have HH:Hid (hasC s cks j = true):=by show _ = _;simp [hasC,ht,hje]
     obtain ⟨t0,t1⟩:=HT.out.cellAt j hj6
     obtain ⟨W1,hW1⟩:∃ W1,W1 = (wr.alloc (.cells #[.string nm,.slice fa fn fc] 138)).drew:=⟨_,rfl⟩
     have hs1:W1.heap.size = wr.heap.size + 1:=by rw [hW1];simp
     have hB1:Below wr.heap.size wr W1:=by rw [hW1];exact ((Below.refl _ _).alloc (Nat.le_refl _) _).drew
     obtain ⟨m,hm⟩:∃ m,m = (cks.getD j []).length:=⟨_,rfl⟩
     have HM:Hid (m = (cks.getD j []).length):=hm
     have HI:Hid (Calls Tryz.prog 242 #[.agg #[.string nm,.slice fa fn fc]] W1 fun e w' => ∃ sa sc,e = .returned (.slice sa m sc) ∧ w'.cell? ⟨w.heap.size,1 + j,none⟩ = some (sl j) ∧ w'.frozen? ⟨w.heap.size,1 + j,none⟩ = false ∧ w'.cell? ⟨wr.heap.size,0,none⟩ = some (.string nm) ∧ w'.cell? ⟨wr.heap.size,1,none⟩ = some (.slice fa fn fc) ∧
      Hid (∃ cbs,w'.ownsRow (wr.heap.size + 1) 195 1 (.slice sa m sc) (cks.getD j []).length (List.zipWith colVal (cks.getD j []) cbs) ∧ NewCols w' (wr.heap.size + 1) (Value.slice sa m sc).ownBlock (cks.getD j []) cbs ∧ Below wr.heap.size wr w')):=by
      refine (columnsOf_any nm _ (cks.getD j []) W1 (HFs.out.below hB1) HKj.out.1 HKj.out.2).mono ?_
      rw [← hm,hs1]
      rintro e w' ⟨sa,sc,cbs,rfl,g1,g2,g3⟩
      have hB2:Below wr.heap.size wr w':=hB1.trans (g3.mono (by omega))
      refine ⟨sa,sc,rfl,(hB2.cell (p:=⟨w.heap.size,1 + j,none⟩) hsw).trans t0,(hB2.frozen (p:=⟨w.heap.size,1 + j,none⟩) hsw).trans t1,(g3.cell (p:=⟨wr.heap.size,0,none⟩) (by simp)).trans (by rw [hW1];simp),(g3.cell (p:=⟨wr.heap.size,1,none⟩) (by simp)).trans (by rw [hW1];simp),cbs,g1,g2,hB2⟩
     rw [hW1] at HI
     have hne:w.heap.size ≠ wr.heap.size:=by omega
     clear hs1 hB1 hW1 hm
     go_wp2_with (go_at_call 66;refine (has_any s j _ hs hj6).mono ?_;rw [ht];rintro e w' ⟨rfl,rfl⟩)
     go_region_with (go_at_call 242;refine HI.out.mono ?_;rintro e w2 ⟨sa,sc,rfl,e0,e1,e2,e3,HX⟩)
     all_goals go_wp2_with fail
     go_roundw
     case rel =>
      obtain ⟨cbs,x1,x2,x3⟩:=HX.out
      have hz:=x3.size
      refine ⟨j + 1,upd sl j (.slice sa m sc),_,by omega,by go_num,by simp [World.setCell];omega,?_,HT.out.take HH.out hj6 hsw (Nat.le_succ _) (fun b hb => x3.block b hb) ⟨_,_,_,rfl⟩ x1 x2,(HB.out.trans (x3.mono (Nat.le_of_lt hsw))).setCell (by simp) _⟩
      intro b hb
      show (if b < wr.heap.size + 1 then own' b else _) = _
      rw [if_pos (by omega)]
      exact HOw.out b hb
     case measure => simp [intOf];omega
  · obtain rfl:j = n:=by omega
    go_wp2_with fail
    go_ret
    refine ⟨rfl,HB.out,own',HOw.out,HT.out.1,_,sl,HT.out.2.1,World.ownsRow_nil _ _ _ _,fun b hb => by simp [Value.ownBlock] at hb,fun k hk => ?_⟩
    have:=HT.out.2.2 k hk
    have e:(hasC s cks k && decide (k < j)) = hasC s cks k:=by
     unfold hasC
     rw [HN.out]
     cases decide (k < cks.length) <;> simp
    rw [e] at this
    exact this
def Mix (W:World) (own:Nat → Nat) (base s:Nat) (cks:List (List Nat)) (sl:Nat → Value) (cbs:Nat → List Nat) (n:Nat → Nat → Nat) (xs:Nat → Nat → List Value):Prop :=
 ∀ k,k < 6 → if hasC s cks k then ColsAt W own base k (sl k) (cks.getD k []) (cbs k) (n k) (xs k) else sl k = .slice none 0 0
def upd2 {α:Type} (g:Nat → Nat → α) (k f:Nat) (v:α):Nat → Nat → α:=fun k' f' => if k' = k ∧ f' = f then v else g k' f'
theorem lCol_inj {k f k' f':Nat} (hf:f < 4) (hf':f' < 4) (h:lCol k f = lCol k' f'):k = k' ∧ f = f':=by
 unfold lCol at h;omega
theorem lCol_lCols {k f k':Nat} (hk:k' < 6) (h:lCols k' = lCol k f):False:=by
 unfold lCol lCols at h;omega
theorem Mix.step {W W':World} {own:Nat → Nat} {base s:Nat} {cks:List (List Nat)} {sl:Nat → Value} {cbs:Nat → List Nat} {n:Nat → Nat → Nat} {xs:Nat → Nat → List Value} (h:Mix W own base s cks sl cbs n xs) (hkl:∀ k,(cks.getD k []).length ≤ 4)
 (k f:Nat) (hk:k < 6) (hh:hasC s cks k = true) (hf:f < (cks.getD k []).length) (hf':f < (cbs k).length) (n':Nat) (xs':List Value) (hT:Turns W W' (fun b => own b = base + lCol k f))
 (hC:ColAt W' (grow (fun b => own b = base + lCol k f) W W') (cbs k)[f] (kStr (cks.getD k [])[f]) (kElt (cks.getD k [])[f]) (kSz (cks.getD k [])[f]) n' xs') :
 Mix W' (fun b => if b < W.heap.size then own b else base + lCol k f) base s cks sl cbs (upd2 n k f n') (upd2 xs k f xs'):=by
 intro k' hk'
 have h0:=h k' hk'
 by_cases hq:hasC s cks k' = true
 · rw [if_pos hq] at h0 ⊢
   have hB:∀ b,b < W.heap.size → own b ≠ base + lCol k f → W'.heap[b]? = W.heap[b]? ∧ (if b < W.heap.size then own b else base + lCol k f) = own b:=fun b hb hne => ⟨hT.block b hb hne,if_pos hb⟩
   refine ⟨h0.len,own_turn h0.row fun b hb1 hb2 => (hB b hb2 (by rw [h0.rowB b hb1];intro e;exact lCol_lCols (k:=k) (f:=f) hk' (by omega))).1,fun b hb1 => ?_,fun g hg hg' => ?_⟩
   · have hb2:=(h0.row.lt b hb1).2
     show (if b < W.heap.size then own b else _) = _
     rw [if_pos hb2];exact h0.rowB b hb1
   · have hg4:=hkl k'
     have hf4:=hkl k
     by_cases e:k' = k ∧ g = f
     · obtain ⟨rfl,rfl⟩:=e
       have e1:upd2 n k' g n' k' g = n':=by simp [upd2]
       have e2:upd2 xs k' g xs' k' g = xs':=by simp [upd2]
       rw [e1,e2]
       obtain ⟨c1,v,c2,c3,c4⟩:=hC
       have hL:∀ b,grow (fun b => own b = base + lCol k' g) W W' b → (if b < W.heap.size then own b else base + lCol k' g) = base + lCol k' g:=fun b hb => by
        split
        · rename_i hlt
          rcases hb with hb | ⟨hb,_⟩
          · exact hb
          · omega
        · rfl
       exact ⟨hL _ c1,v,c2,c3,fun b hb => ⟨hL b (c4 b hb).1,(c4 b hb).2⟩⟩
     · have e1:upd2 n k f n' k' g = n k' g:=by unfold upd2;rw [if_neg e]
       have e2:upd2 xs k f xs' k' g = xs k' g:=by unfold upd2;rw [if_neg e]
       rw [e1,e2]
       refine (h0.col g hg hg').turn fun b hb1 hb2 => ?_
       have:=hB b hb2 (by rw [hb1];intro e';exact e (lCol_inj (by omega) (by omega) (by omega)))
       exact ⟨this.1,this.2.trans hb1⟩
 · rw [if_neg hq] at h0 ⊢
   exact h0
def mixed2 {α:Type} (g0 g1:Nat → Nat → α) (k f:Nat):Nat → Nat → α:=fun k' f' => if k' < k ∨ (k' = k ∧ f' < f) then g1 k' f' else g0 k' f'
theorem mixed2_zero {α:Type} (g0 g1:Nat → Nat → α):mixed2 g0 g1 0 0 = g0:=by
 funext a b;unfold mixed2;rw [if_neg (by omega)]
theorem mixed2_at {α:Type} (g0 g1:Nat → Nat → α) (k f:Nat):mixed2 g0 g1 k f k f = g0 k f:=by
 unfold mixed2;rw [if_neg (by omega)]
theorem mixed2_next {α:Type} (g0 g1:Nat → Nat → α) (k f:Nat):upd2 (mixed2 g0 g1 k f) k f (g1 k f) = mixed2 g0 g1 k (f + 1):=by
 funext a b
 unfold upd2 mixed2
 by_cases h:a = k ∧ b = f
 · obtain ⟨rfl,rfl⟩:=h
   rw [if_pos ⟨rfl,rfl⟩,if_pos (by omega)]
 · rw [if_neg h]
   by_cases h2:a < k ∨ (a = k ∧ b < f)
   · rw [if_pos h2,if_pos (by omega)]
   · rw [if_neg h2,if_neg (by omega)]
theorem ColsAt.same {W:World} {own:Nat → Nat} {base k:Nat} {v:Value} {ks cbs:List Nat} {n n':Nat → Nat} {xs xs':Nat → List Value} (h:ColsAt W own base k v ks cbs n xs) (h1:∀ f,f < ks.length → n' f = n f) (h2:∀ f,f < ks.length → xs' f = xs f):ColsAt W own base k v ks cbs n' xs' :=
 ⟨h.len,h.row,h.rowB,fun f hf hf' => by rw [h1 f hf,h2 f hf];exact h.col f hf hf'⟩
def colList (s:Nat) (cks:List (List Nat)) (cbs:Nat → List Nat) (k:Nat):List Value:=if hasC s cks k then List.zipWith colVal (cks.getD k []) (cbs k) else []
theorem each_cols (nf:Nat) (rb r tb s base:Nat) (cks:List (List Nat)) (sl:Nat → Value) (cbs:Nat → List Nat) (n0 n1:Nat → Nat → Nat) (x0 x1:Nat → Nat → List Value) (own:Nat → Nat) (w:World)
 (hrun:∀ args w,(callFunc nf args).run Tryz.prog w = .ok (.enter nf args) w) (hc:∀ k,k < 6 → w.cell? ⟨tb,1 + k,none⟩ = some (sl k)) (hM:Mix w own base s cks sl cbs n0 x0) (hkl:∀ k,(cks.getD k []).length ≤ 4) (hkk:∀ k,∀ x ∈ cks.getD k [],1 ≤ x ∧ x ≤ 5)
 (hrb:rb < w.heap.size) (hrl:∀ k f,own rb ≠ base + lCol k f) (hr:w.cell? ⟨rb,0,none⟩ = some (.int .i64 r))
 (hstep:∀ (F:Nat → Prop) k f kd cb W,k < 6 → hasC s cks k = true → f < (cks.getD k []).length → 1 ≤ kd ∧ kd ≤ 5 → (cks.getD k [])[f]? = some kd → W.cell? ⟨rb,0,none⟩ = some (.int .i64 r) → ColAt W F cb (kStr kd) (kElt kd) (kSz kd) (n0 k f) (x0 k f) →
  Calls Tryz.prog nf #[.int .i64 k,.int .i64 f,colVal kd cb,.pointer (some ⟨rb,0,none⟩)] W fun e W' => e = .returned (.tuple #[]) ∧ Turns W W' F ∧ ColAt W' (grow F W W') cb (kStr kd) (kElt kd) (kSz kd) (n1 k f) (x1 k f)) :
 Calls Tryz.prog 124 #[.pointer (some ⟨tb,0,none⟩),.func (.func nf) #[] #[.pointer (some ⟨rb,0,none⟩)]] w fun e w' => e = .returned (.tuple #[]) ∧ Turns w w' (fun b => ∃ k f,k < 6 ∧ f < 4 ∧ own b = base + lCol k f) ∧ ∃ own',(∀ b,b < w.heap.size → own' b = own b) ∧ Mix w' own' base s cks sl cbs n1 x1:=by
 have E:=each_any nf #[.pointer (some ⟨rb,0,none⟩)] tb sl (colList s cks cbs)
  (fun k f W => Turns w W (fun b => ∃ k f,k < 6 ∧ f < 4 ∧ own b = base + lCol k f) ∧ ∃ own',(∀ b,b < w.heap.size → own' b = own b) ∧ Mix W own' base s cks sl cbs (mixed2 n0 n1 k f) (mixed2 x0 x1 k f)) w hrun hc ?_ ?_ ?_ ?_
 · refine E.mono ?_
   rintro e w' ⟨rfl,hT,own',ho,hm⟩
   refine ⟨rfl,hT,own',ho,fun k hk => ?_⟩
   have:=hm k hk
   split
   · rename_i hq
     rw [if_pos hq] at this
     exact this.same (fun f _ => by unfold mixed2;rw [if_pos (by omega)]) (fun f _ => by unfold mixed2;rw [if_pos (by omega)])
   · rename_i hq
     rw [if_neg hq] at this
     exact this
 · intro k hk
   have h0:=hM k hk
   by_cases hq:hasC s cks k = true
   · rw [if_pos hq] at h0
     have hl:(colList s cks cbs k).length = (cks.getD k []).length:=by unfold colList;rw [if_pos hq,List.length_zipWith,h0.len];simp
     have h4:=hkl k
     rcases h0.row.2 with ⟨h1,h2⟩ | ⟨g,cap,cur,h1,_,h3,h4',_⟩
     · refine Or.inl ⟨h1,?_⟩
       exact List.length_eq_zero_iff.1 (by omega)
     · refine Or.inr ⟨g,cap,by rw [hl];exact h1,by omega,by omega,?_⟩
       rintro f W ⟨_,own',_,hm⟩ j hj
       have:=hm k hk
       rw [if_pos hq] at this
       have hrow:=this.row
       rw [h1] at hrow
       rw [hrow.cellAt j (by omega)]
       unfold colList
       simp only [if_pos hq]
       rw [List.getElem?_eq_getElem]
   · rw [if_neg hq] at h0
     exact Or.inl ⟨h0,by unfold colList;rw [if_neg hq]⟩
 · refine ⟨Turns.ofBelow _ (Below.refl _ _),own,fun _ _ => rfl,?_⟩
   rw [mixed2_zero,mixed2_zero]
   exact hM
 · rintro k W hk ⟨hT,own',ho,hm⟩
   refine ⟨hT,own',ho,fun k' hk' => ?_⟩
   have:=hm k' hk'
   split
   · rename_i hq
     rw [if_pos hq] at this
     have hl:k' = k → (colList s cks cbs k).length = (cks.getD k' []).length:=fun e => by subst e;unfold colList;rw [if_pos hq,List.length_zipWith,this.len];simp
     refine this.same (fun f hf => ?_) (fun f hf => ?_)
     all_goals unfold mixed2
     all_goals by_cases e:k' = k
     all_goals first
      | (have:=hl e;rw [if_pos (by omega),if_pos (by omega)])
      | (by_cases h:k' < k
         · rw [if_pos (by omega),if_pos (by omega)]
         · rw [if_neg (by omega),if_neg (by omega)])
   · rename_i hq
     rw [if_neg hq] at this
     exact this
 · rintro k f hk hf W ⟨hT,own',ho,hm⟩
   have hq:hasC s cks k = true:=by
    cases h:hasC s cks k with
    | true => rfl
    | false => unfold colList at hf;simp [h] at hf
   have h0:=hm k hk
   rw [if_pos hq] at h0
   have hlz:(colList s cks cbs k).length = (cks.getD k []).length:=by unfold colList;rw [if_pos hq,List.length_zipWith,h0.len];simp
   have hf1:f < (cks.getD k []).length:=by omega
   have hf2:f < (cbs k).length:=by rw [h0.len];exact hf1
   have hv:(colList s cks cbs k)[f] = colVal (cks.getD k [])[f] (cbs k)[f]:=by
    unfold colList
    simp only [if_pos hq,List.getElem_zipWith]
   rw [hv]
   have hcol:=h0.col f hf1 hf2
   rw [mixed2_at,mixed2_at] at hcol
   have hrW:W.cell? ⟨rb,0,none⟩ = some (.int .i64 r):=(World.cell?_of_block (a:=⟨rb,0,none⟩) (hT.block rb hrb (fun ⟨a,b,_,_,e⟩ => hrl a b e))).trans hr
   refine (hstep _ k f _ _ W hk hq hf1 (hkk k _ (List.getElem_mem hf1)) (List.getElem?_eq_getElem hf1) hrW hcol).mono ?_
   rintro e W' ⟨rfl,hT2,hC2⟩
   have hmix:=hm.step hkl k f hk hq hf1 hf2 _ _ hT2 hC2
   rw [mixed2_next,mixed2_next] at hmix
   refine ⟨rfl,hT.trans ⟨hT2.os,hT2.tape,hT2.output,hT2.size,fun b hb hn => hT2.block b hb (fun e => hn ?_)⟩,_,fun b hb => ?_,hmix⟩
   · by_cases hbw:b < w.heap.size
     · exact Or.inl ⟨k,f,hk,Nat.lt_of_lt_of_le hf1 (hkl k),(ho b hbw).symm.trans e⟩
     · exact Or.inr ⟨by omega,hb⟩
   · have:=hT.size
     show (if b < W.heap.size then own' b else _) = _
     rw [if_pos (by omega)]
     exact ho b hb
def kZero (k:Nat):List Value:=if k = 1 then [.int .i64 0] else if k = 2 then [.bool false] else if k = 3 then [.string ⟨#[]⟩] else if k = 4 then hNews 0 0 else [.slice none 0 0]
theorem wpList_invoke {P:Program} {w:World} {ops:Array Oper} {rest:List Oper} {o:Oper} {a:Act} {Q:Exit → Act → World → Prop} (hgd:o.guard = none) (r x:Operand) (name:String) (t:TypeId)
 (ho:o.op = .call { callee:=.invoke r name,args:=#[x],argTypes:=#[t] }) (v u:Value) (hr:a.eval r = v) (hx:a.eval x = u) (f:FuncId) (args:Array Value) (hm:(callMethod v name #[u]).run P w = .ok (.enter f args) w)
 (h:Calls P f args w fun e w' => ∃ v',e = .returned v' ∧ wpList P ops Q rest (a.put o.dst v') w'):wpList P ops Q (o :: rest) a w :=
 wpList_plain hgd fun K hK => by
  unfold Oper.wp
  have e:(execOp a.eval o).run P w = .ok (.enter f args) w:=by
   simp only [execOp,ho,resolve,invoke,Sem.run_bind,Sem.run_pure,Result.andThen_ok,List.map_toArray,List.map_cons,List.map_nil,hr,hx]
   exact hm
  rw [e,Oper.upon_enter]
  refine h.mono ?_
  rintro e w' ⟨v',rfl,hk⟩
  exact hK _ _ hk
theorem callIns1 (cb:Nat) (u:Value) (w:World):(callMethod (colVal 1 cb) "Insert" #[u]).run Tryz.prog w = .ok (.enter 362 #[.pointer (some ⟨cb,0,none⟩),u]) w:=by kernel_rfl
theorem callDel1 (cb:Nat) (u:Value) (w:World):(callMethod (colVal 1 cb) "Delete" #[u]).run Tryz.prog w = .ok (.enter 359 #[.pointer (some ⟨cb,0,none⟩),u]) w:=by kernel_rfl
theorem callIns2 (cb:Nat) (u:Value) (w:World):(callMethod (colVal 2 cb) "Insert" #[u]).run Tryz.prog w = .ok (.enter 373 #[.pointer (some ⟨cb,0,none⟩),u]) w:=by kernel_rfl
theorem callDel2 (cb:Nat) (u:Value) (w:World):(callMethod (colVal 2 cb) "Delete" #[u]).run Tryz.prog w = .ok (.enter 370 #[.pointer (some ⟨cb,0,none⟩),u]) w:=by kernel_rfl
theorem callIns3 (cb:Nat) (u:Value) (w:World):(callMethod (colVal 3 cb) "Insert" #[u]).run Tryz.prog w = .ok (.enter 384 #[.pointer (some ⟨cb,0,none⟩),u]) w:=by kernel_rfl
theorem callDel3 (cb:Nat) (u:Value) (w:World):(callMethod (colVal 3 cb) "Delete" #[u]).run Tryz.prog w = .ok (.enter 381 #[.pointer (some ⟨cb,0,none⟩),u]) w:=by kernel_rfl
theorem callIns4 (cb:Nat) (u:Value) (w:World):(callMethod (colVal 4 cb) "Insert" #[u]).run Tryz.prog w = .ok (.enter 395 #[.pointer (some ⟨cb,0,none⟩),u]) w:=by kernel_rfl
theorem callDel4 (cb:Nat) (u:Value) (w:World):(callMethod (colVal 4 cb) "Delete" #[u]).run Tryz.prog w = .ok (.enter 392 #[.pointer (some ⟨cb,0,none⟩),u]) w:=by kernel_rfl
theorem callIns5 (cb:Nat) (u:Value) (w:World):(callMethod (colVal 5 cb) "Insert" #[u]).run Tryz.prog w = .ok (.enter 400 #[.pointer (some ⟨cb,0,none⟩),u]) w:=by kernel_rfl
theorem callDel5 (cb:Nat) (u:Value) (w:World):(callMethod (colVal 5 cb) "Delete" #[u]).run Tryz.prog w = .ok (.enter 397 #[.pointer (some ⟨cb,0,none⟩),u]) w:=by kernel_rfl
set_option maxHeartbeats 1600000 in
theorem enter1_1 {F:Nat → Prop} (i j:Value) (cb rb n r:Nat) (xs:List Value) (w:World) (hr:w.cell? ⟨rb,0,none⟩ = some (.int .i64 r)) (hC:ColAt w F cb (kStr 1) (kElt 1) (kSz 1) n xs) (hrn:r ≤ n) (hn:n ≤ 100) (hx1:∀ u ∈ xs,u.oneCell' = true) :
 Calls Tryz.prog 244 #[i,j,colVal 1 cb,.pointer (some ⟨rb,0,none⟩)] w fun e w' => e = .returned (.tuple #[]) ∧ Turns w w' F ∧ ColAt w' (grow F w w') cb (kStr 1) (kElt 1) (kSz 1) (n + 1) (setIn xs (r * kSz 1) (kZero 1)):=by
 have HI:Hid (Calls Tryz.prog 362 #[.pointer (some ⟨cb,0,none⟩),.int .i64 r] w fun e w' => e = .returned (.tuple #[]) ∧ Turns w w' F ∧ ColAt w' (grow F w w') cb (kStr 1) (kElt 1) (kSz 1) (n + 1) (setIn xs (r * kSz 1) (kZero 1))):=by
  have e:r * kSz 1 = r:=Nat.mul_one r
  rw [e]
  exact insert_colI cb _ n r xs w hC hrn hn hx1
 clear hC
 go_enter Tryz.func244,Tryz.ntmps244
 go_wp2_with (refine wpList_invoke rfl _ _ "Insert" 3 rfl (colVal 1 cb) (.int .i64 r) rfl rfl 362 #[.pointer (some ⟨cb,0,none⟩),.int .i64 r] (callIns1 cb (.int .i64 r) w) ?_;refine HI.out.mono ?_;rintro e w2 ⟨rfl,hT,hC2⟩;refine ⟨_,rfl,?_⟩)
 go_end0
 exact ⟨rfl,hT,hC2⟩
set_option maxHeartbeats 1600000 in
theorem leave1_1 {F:Nat → Prop} (i j:Value) (cb rb n r:Nat) (xs:List Value) (w:World) (hr:w.cell? ⟨rb,0,none⟩ = some (.int .i64 r)) (hC:ColAt w F cb (kStr 1) (kElt 1) (kSz 1) n xs) (hrn:r < n) (hn:n ≤ 100) (hx1:∀ u ∈ xs,u.oneCell' = true) :
 Calls Tryz.prog 192 #[i,j,colVal 1 cb,.pointer (some ⟨rb,0,none⟩)] w fun e w' => e = .returned (.tuple #[]) ∧ Turns w w' F ∧ ColAt w' (grow F w w') cb (kStr 1) (kElt 1) (kSz 1) (n - 1) (cutOut xs (r * kSz 1) (kSz 1)):=by
 have HI:Hid (Calls Tryz.prog 359 #[.pointer (some ⟨cb,0,none⟩),.int .i64 r] w fun e w' => e = .returned (.tuple #[]) ∧ Turns w w' F ∧ ColAt w' (grow F w w') cb (kStr 1) (kElt 1) (kSz 1) (n - 1) (cutOut xs (r * kSz 1) (kSz 1))):=by
  have e:r * kSz 1 = r:=Nat.mul_one r
  rw [e]
  exact delete_colI cb _ n r xs w hC hrn hn hx1
 clear hC
 go_enter Tryz.func192,Tryz.ntmps192
 go_wp2_with (refine wpList_invoke rfl _ _ "Delete" 3 rfl (colVal 1 cb) (.int .i64 r) rfl rfl 359 #[.pointer (some ⟨cb,0,none⟩),.int .i64 r] (callDel1 cb (.int .i64 r) w) ?_;refine HI.out.mono ?_;rintro e w2 ⟨rfl,hT,hC2⟩;refine ⟨_,rfl,?_⟩)
 go_end0
 exact ⟨rfl,hT,hC2⟩
set_option maxHeartbeats 1600000 in
theorem enter1_2 {F:Nat → Prop} (i j:Value) (cb rb n r:Nat) (xs:List Value) (w:World) (hr:w.cell? ⟨rb,0,none⟩ = some (.int .i64 r)) (hC:ColAt w F cb (kStr 2) (kElt 2) (kSz 2) n xs) (hrn:r ≤ n) (hn:n ≤ 100) (hx1:∀ u ∈ xs,u.oneCell' = true) :
 Calls Tryz.prog 244 #[i,j,colVal 2 cb,.pointer (some ⟨rb,0,none⟩)] w fun e w' => e = .returned (.tuple #[]) ∧ Turns w w' F ∧ ColAt w' (grow F w w') cb (kStr 2) (kElt 2) (kSz 2) (n + 1) (setIn xs (r * kSz 2) (kZero 2)):=by
 have HI:Hid (Calls Tryz.prog 373 #[.pointer (some ⟨cb,0,none⟩),.int .i64 r] w fun e w' => e = .returned (.tuple #[]) ∧ Turns w w' F ∧ ColAt w' (grow F w w') cb (kStr 2) (kElt 2) (kSz 2) (n + 1) (setIn xs (r * kSz 2) (kZero 2))):=by
  have e:r * kSz 2 = r:=Nat.mul_one r
  rw [e]
  exact insert_colB cb _ n r xs w hC hrn hn hx1
 clear hC
 go_enter Tryz.func244,Tryz.ntmps244
 go_wp2_with (refine wpList_invoke rfl _ _ "Insert" 3 rfl (colVal 2 cb) (.int .i64 r) rfl rfl 373 #[.pointer (some ⟨cb,0,none⟩),.int .i64 r] (callIns2 cb (.int .i64 r) w) ?_;refine HI.out.mono ?_;rintro e w2 ⟨rfl,hT,hC2⟩;refine ⟨_,rfl,?_⟩)
 go_end0
 exact ⟨rfl,hT,hC2⟩
set_option maxHeartbeats 1600000 in
theorem leave1_2 {F:Nat → Prop} (i j:Value) (cb rb n r:Nat) (xs:List Value) (w:World) (hr:w.cell? ⟨rb,0,none⟩ = some (.int .i64 r)) (hC:ColAt w F cb (kStr 2) (kElt 2) (kSz 2) n xs) (hrn:r < n) (hn:n ≤ 100) (hx1:∀ u ∈ xs,u.oneCell' = true) :
 Calls Tryz.prog 192 #[i,j,colVal 2 cb,.pointer (some ⟨rb,0,none⟩)] w fun e w' => e = .returned (.tuple #[]) ∧ Turns w w' F ∧ ColAt w' (grow F w w') cb (kStr 2) (kElt 2) (kSz 2) (n - 1) (cutOut xs (r * kSz 2) (kSz 2)):=by
 have HI:Hid (Calls Tryz.prog 370 #[.pointer (some ⟨cb,0,none⟩),.int .i64 r] w fun e w' => e = .returned (.tuple #[]) ∧ Turns w w' F ∧ ColAt w' (grow F w w') cb (kStr 2) (kElt 2) (kSz 2) (n - 1) (cutOut xs (r * kSz 2) (kSz 2))):=by
  have e:r * kSz 2 = r:=Nat.mul_one r
  rw [e]
  exact delete_colB cb _ n r xs w hC hrn hn hx1
 clear hC
 go_enter Tryz.func192,Tryz.ntmps192
 go_wp2_with (refine wpList_invoke rfl _ _ "Delete" 3 rfl (colVal 2 cb) (.int .i64 r) rfl rfl 370 #[.pointer (some ⟨cb,0,none⟩),.int .i64 r] (callDel2 cb (.int .i64 r) w) ?_;refine HI.out.mono ?_;rintro e w2 ⟨rfl,hT,hC2⟩;refine ⟨_,rfl,?_⟩)
 go_end0
 exact ⟨rfl,hT,hC2⟩
set_option maxHeartbeats 1600000 in
theorem enter1_3 {F:Nat → Prop} (i j:Value) (cb rb n r:Nat) (xs:List Value) (w:World) (hr:w.cell? ⟨rb,0,none⟩ = some (.int .i64 r)) (hC:ColAt w F cb (kStr 3) (kElt 3) (kSz 3) n xs) (hrn:r ≤ n) (hn:n ≤ 100) (hx1:∀ u ∈ xs,u.oneCell' = true) :
 Calls Tryz.prog 244 #[i,j,colVal 3 cb,.pointer (some ⟨rb,0,none⟩)] w fun e w' => e = .returned (.tuple #[]) ∧ Turns w w' F ∧ ColAt w' (grow F w w') cb (kStr 3) (kElt 3) (kSz 3) (n + 1) (setIn xs (r * kSz 3) (kZero 3)):=by
 have HI:Hid (Calls Tryz.prog 384 #[.pointer (some ⟨cb,0,none⟩),.int .i64 r] w fun e w' => e = .returned (.tuple #[]) ∧ Turns w w' F ∧ ColAt w' (grow F w w') cb (kStr 3) (kElt 3) (kSz 3) (n + 1) (setIn xs (r * kSz 3) (kZero 3))):=by
  have e:r * kSz 3 = r:=Nat.mul_one r
  rw [e]
  exact insert_colS cb _ n r xs w hC hrn hn hx1
 clear hC
 go_enter Tryz.func244,Tryz.ntmps244
 go_wp2_with (refine wpList_invoke rfl _ _ "Insert" 3 rfl (colVal 3 cb) (.int .i64 r) rfl rfl 384 #[.pointer (some ⟨cb,0,none⟩),.int .i64 r] (callIns3 cb (.int .i64 r) w) ?_;refine HI.out.mono ?_;rintro e w2 ⟨rfl,hT,hC2⟩;refine ⟨_,rfl,?_⟩)
 go_end0
 exact ⟨rfl,hT,hC2⟩
set_option maxHeartbeats 1600000 in
theorem leave1_3 {F:Nat → Prop} (i j:Value) (cb rb n r:Nat) (xs:List Value) (w:World) (hr:w.cell? ⟨rb,0,none⟩ = some (.int .i64 r)) (hC:ColAt w F cb (kStr 3) (kElt 3) (kSz 3) n xs) (hrn:r < n) (hn:n ≤ 100) (hx1:∀ u ∈ xs,u.oneCell' = true) :
 Calls Tryz.prog 192 #[i,j,colVal 3 cb,.pointer (some ⟨rb,0,none⟩)] w fun e w' => e = .returned (.tuple #[]) ∧ Turns w w' F ∧ ColAt w' (grow F w w') cb (kStr 3) (kElt 3) (kSz 3) (n - 1) (cutOut xs (r * kSz 3) (kSz 3)):=by
 have HI:Hid (Calls Tryz.prog 381 #[.pointer (some ⟨cb,0,none⟩),.int .i64 r] w fun e w' => e = .returned (.tuple #[]) ∧ Turns w w' F ∧ ColAt w' (grow F w w') cb (kStr 3) (kElt 3) (kSz 3) (n - 1) (cutOut xs (r * kSz 3) (kSz 3))):=by
  have e:r * kSz 3 = r:=Nat.mul_one r
  rw [e]
  exact delete_colS cb _ n r xs w hC hrn hn hx1
 clear hC
 go_enter Tryz.func192,Tryz.ntmps192
 go_wp2_with (refine wpList_invoke rfl _ _ "Delete" 3 rfl (colVal 3 cb) (.int .i64 r) rfl rfl 381 #[.pointer (some ⟨cb,0,none⟩),.int .i64 r] (callDel3 cb (.int .i64 r) w) ?_;refine HI.out.mono ?_;rintro e w2 ⟨rfl,hT,hC2⟩;refine ⟨_,rfl,?_⟩)
 go_end0
 exact ⟨rfl,hT,hC2⟩
set_option maxHeartbeats 1600000 in
theorem enter1_4 {F:Nat → Prop} (i j:Value) (cb rb n r:Nat) (xs:List Value) (w:World) (hr:w.cell? ⟨rb,0,none⟩ = some (.int .i64 r)) (hC:ColAt w F cb (kStr 4) (kElt 4) (kSz 4) n xs) (hrn:r ≤ n) (hn:n ≤ 100) (hx1:∀ u ∈ xs,u.oneCell' = true) :
 Calls Tryz.prog 244 #[i,j,colVal 4 cb,.pointer (some ⟨rb,0,none⟩)] w fun e w' => e = .returned (.tuple #[]) ∧ Turns w w' F ∧ ColAt w' (grow F w w') cb (kStr 4) (kElt 4) (kSz 4) (n + 1) (setIn xs (r * kSz 4) (kZero 4)):=by
 have HI:Hid (Calls Tryz.prog 395 #[.pointer (some ⟨cb,0,none⟩),.int .i64 r] w fun e w' => e = .returned (.tuple #[]) ∧ Turns w w' F ∧ ColAt w' (grow F w w') cb (kStr 4) (kElt 4) (kSz 4) (n + 1) (setIn xs (r * kSz 4) (kZero 4))):=by
  have e:r * kSz 4 = r * 2:=rfl
  rw [e]
  exact insert_colH cb _ n r xs w hC hrn hn hx1
 clear hC
 go_enter Tryz.func244,Tryz.ntmps244
 go_wp2_with (refine wpList_invoke rfl _ _ "Insert" 3 rfl (colVal 4 cb) (.int .i64 r) rfl rfl 395 #[.pointer (some ⟨cb,0,none⟩),.int .i64 r] (callIns4 cb (.int .i64 r) w) ?_;refine HI.out.mono ?_;rintro e w2 ⟨rfl,hT,hC2⟩;refine ⟨_,rfl,?_⟩)
 go_end0
 exact ⟨rfl,hT,hC2⟩
set_option maxHeartbeats 1600000 in
theorem leave1_4 {F:Nat → Prop} (i j:Value) (cb rb n r:Nat) (xs:List Value) (w:World) (hr:w.cell? ⟨rb,0,none⟩ = some (.int .i64 r)) (hC:ColAt w F cb (kStr 4) (kElt 4) (kSz 4) n xs) (hrn:r < n) (hn:n ≤ 100) (hx1:∀ u ∈ xs,u.oneCell' = true) :
 Calls Tryz.prog 192 #[i,j,colVal 4 cb,.pointer (some ⟨rb,0,none⟩)] w fun e w' => e = .returned (.tuple #[]) ∧ Turns w w' F ∧ ColAt w' (grow F w w') cb (kStr 4) (kElt 4) (kSz 4) (n - 1) (cutOut xs (r * kSz 4) (kSz 4)):=by
 have HI:Hid (Calls Tryz.prog 392 #[.pointer (some ⟨cb,0,none⟩),.int .i64 r] w fun e w' => e = .returned (.tuple #[]) ∧ Turns w w' F ∧ ColAt w' (grow F w w') cb (kStr 4) (kElt 4) (kSz 4) (n - 1) (cutOut xs (r * kSz 4) (kSz 4))):=by
  have e:r * kSz 4 = r * 2:=rfl
  rw [e]
  exact delete_colH cb _ n r xs w hC hrn hn hx1
 clear hC
 go_enter Tryz.func192,Tryz.ntmps192
 go_wp2_with (refine wpList_invoke rfl _ _ "Delete" 3 rfl (colVal 4 cb) (.int .i64 r) rfl rfl 392 #[.pointer (some ⟨cb,0,none⟩),.int .i64 r] (callDel4 cb (.int .i64 r) w) ?_;refine HI.out.mono ?_;rintro e w2 ⟨rfl,hT,hC2⟩;refine ⟨_,rfl,?_⟩)
 go_end0
 exact ⟨rfl,hT,hC2⟩
set_option maxHeartbeats 1600000 in
theorem enter1_5 {F:Nat → Prop} (i j:Value) (cb rb n r:Nat) (xs:List Value) (w:World) (hr:w.cell? ⟨rb,0,none⟩ = some (.int .i64 r)) (hC:ColAt w F cb (kStr 5) (kElt 5) (kSz 5) n xs) (hrn:r ≤ n) (hn:n ≤ 100) (hx1:∀ u ∈ xs,u.oneCell' = true) :
 Calls Tryz.prog 244 #[i,j,colVal 5 cb,.pointer (some ⟨rb,0,none⟩)] w fun e w' => e = .returned (.tuple #[]) ∧ Turns w w' F ∧ ColAt w' (grow F w w') cb (kStr 5) (kElt 5) (kSz 5) (n + 1) (setIn xs (r * kSz 5) (kZero 5)):=by
 have HI:Hid (Calls Tryz.prog 400 #[.pointer (some ⟨cb,0,none⟩),.int .i64 r] w fun e w' => e = .returned (.tuple #[]) ∧ Turns w w' F ∧ ColAt w' (grow F w w') cb (kStr 5) (kElt 5) (kSz 5) (n + 1) (setIn xs (r * kSz 5) (kZero 5))):=by
  have e:r * kSz 5 = r:=Nat.mul_one r
  rw [e]
  exact insert_colL cb _ n r xs w hC hrn hn hx1
 clear hC
 go_enter Tryz.func244,Tryz.ntmps244
 go_wp2_with (refine wpList_invoke rfl _ _ "Insert" 3 rfl (colVal 5 cb) (.int .i64 r) rfl rfl 400 #[.pointer (some ⟨cb,0,none⟩),.int .i64 r] (callIns5 cb (.int .i64 r) w) ?_;refine HI.out.mono ?_;rintro e w2 ⟨rfl,hT,hC2⟩;refine ⟨_,rfl,?_⟩)
 go_end0
 exact ⟨rfl,hT,hC2⟩
set_option maxHeartbeats 1600000 in
theorem leave1_5 {F:Nat → Prop} (i j:Value) (cb rb n r:Nat) (xs:List Value) (w:World) (hr:w.cell? ⟨rb,0,none⟩ = some (.int .i64 r)) (hC:ColAt w F cb (kStr 5) (kElt 5) (kSz 5) n xs) (hrn:r < n) (hn:n ≤ 100) (hx1:∀ u ∈ xs,u.oneCell' = true) :
 Calls Tryz.prog 192 #[i,j,colVal 5 cb,.pointer (some ⟨rb,0,none⟩)] w fun e w' => e = .returned (.tuple #[]) ∧ Turns w w' F ∧ ColAt w' (grow F w w') cb (kStr 5) (kElt 5) (kSz 5) (n - 1) (cutOut xs (r * kSz 5) (kSz 5)):=by
 have HI:Hid (Calls Tryz.prog 397 #[.pointer (some ⟨cb,0,none⟩),.int .i64 r] w fun e w' => e = .returned (.tuple #[]) ∧ Turns w w' F ∧ ColAt w' (grow F w w') cb (kStr 5) (kElt 5) (kSz 5) (n - 1) (cutOut xs (r * kSz 5) (kSz 5))):=by
  have e:r * kSz 5 = r:=Nat.mul_one r
  rw [e]
  exact delete_colL cb _ n r xs w hC hrn hn hx1
 clear hC
 go_enter Tryz.func192,Tryz.ntmps192
 go_wp2_with (refine wpList_invoke rfl _ _ "Delete" 3 rfl (colVal 5 cb) (.int .i64 r) rfl rfl 397 #[.pointer (some ⟨cb,0,none⟩),.int .i64 r] (callDel5 cb (.int .i64 r) w) ?_;refine HI.out.mono ?_;rintro e w2 ⟨rfl,hT,hC2⟩;refine ⟨_,rfl,?_⟩)
 go_end0
 exact ⟨rfl,hT,hC2⟩
theorem enter1_any {F:Nat → Prop} (k:Nat) (h1:1 ≤ k) (h5:k ≤ 5) (i j:Value) (cb rb n r:Nat) (xs:List Value) (w:World) (hr:w.cell? ⟨rb,0,none⟩ = some (.int .i64 r)) (hC:ColAt w F cb (kStr k) (kElt k) (kSz k) n xs) (hrn:r ≤ n) (hn:n ≤ 100) (hx1:∀ u ∈ xs,u.oneCell' = true) :
 Calls Tryz.prog 244 #[i,j,colVal k cb,.pointer (some ⟨rb,0,none⟩)] w fun e w' => e = .returned (.tuple #[]) ∧ Turns w w' F ∧ ColAt w' (grow F w w') cb (kStr k) (kElt k) (kSz k) (n + 1) (setIn xs (r * kSz k) (kZero k)):=by
 have h:k = 1 ∨ k = 2 ∨ k = 3 ∨ k = 4 ∨ k = 5:=by omega
 rcases h with rfl | rfl | rfl | rfl | rfl
 · exact enter1_1 i j cb rb n r xs w hr hC hrn hn hx1
 · exact enter1_2 i j cb rb n r xs w hr hC hrn hn hx1
 · exact enter1_3 i j cb rb n r xs w hr hC hrn hn hx1
 · exact enter1_4 i j cb rb n r xs w hr hC hrn hn hx1
 · exact enter1_5 i j cb rb n r xs w hr hC hrn hn hx1
theorem leave1_any {F:Nat → Prop} (k:Nat) (h1:1 ≤ k) (h5:k ≤ 5) (i j:Value) (cb rb n r:Nat) (xs:List Value) (w:World) (hr:w.cell? ⟨rb,0,none⟩ = some (.int .i64 r)) (hC:ColAt w F cb (kStr k) (kElt k) (kSz k) n xs) (hrn:r < n) (hn:n ≤ 100) (hx1:∀ u ∈ xs,u.oneCell' = true) :
 Calls Tryz.prog 192 #[i,j,colVal k cb,.pointer (some ⟨rb,0,none⟩)] w fun e w' => e = .returned (.tuple #[]) ∧ Turns w w' F ∧ ColAt w' (grow F w w') cb (kStr k) (kElt k) (kSz k) (n - 1) (cutOut xs (r * kSz k) (kSz k)):=by
 have h:k = 1 ∨ k = 2 ∨ k = 3 ∨ k = 4 ∨ k = 5:=by omega
 rcases h with rfl | rfl | rfl | rfl | rfl
 · exact leave1_1 i j cb rb n r xs w hr hC hrn hn hx1
 · exact leave1_2 i j cb rb n r xs w hr hC hrn hn hx1
 · exact leave1_3 i j cb rb n r xs w hr hC hrn hn hx1
 · exact leave1_4 i j cb rb n r xs w hr hC hrn hn hx1
 · exact leave1_5 i j cb rb n r xs w hr hC hrn hn hx1
theorem Mix.turn {W W':World} {own own':Nat → Nat} {base s:Nat} {cks:List (List Nat)} {sl:Nat → Value} {cbs:Nat → List Nat} {n:Nat → Nat → Nat} {xs:Nat → Nat → List Value} (h:Mix W own base s cks sl cbs n xs)
 (hb:∀ b,b < W.heap.size → base + 2 ≤ own b → W'.heap[b]? = W.heap[b]? ∧ own' b = own b):Mix W' own' base s cks sl cbs n xs:=by
 intro k hk
 have:=h k hk
 split
 · rename_i hq
   rw [if_pos hq] at this
   refine this.turn fun b hb1 hb2 => hb b hb1 ?_
   rcases hb2 with h | ⟨f,_,h⟩
   · unfold lCols at h;omega
   · unfold lCol at h;omega
 · rename_i hq
   rw [if_neg hq] at this
   exact this
theorem mix_of {W:World} {own:Nat → Nat} {base s:Nat} {cks:List (List Nat)} {sl:Nat → Value} {n:Nat} {xs:Nat → Nat → List Value} (h:∀ k,k < 6 → if hasC s cks k then ∃ cbs,ColsAt W own base k (sl k) (cks.getD k []) cbs (fun _ => n) (xs k) else sl k = .slice none 0 0) :
 ∃ cbs,Mix W own base s cks sl cbs (fun _ _ => n) xs:=by
 have h':∀ k,∃ cb,k < 6 → hasC s cks k = true → ColsAt W own base k (sl k) (cks.getD k []) cb (fun _ => n) (xs k):=fun k => by
  by_cases hk:k < 6
  · by_cases hq:hasC s cks k = true
    · have:=h k hk
      rw [if_pos hq] at this
      obtain ⟨cb,hc⟩:=this
      exact ⟨cb,fun _ _ => hc⟩
    · exact ⟨[],fun _ h => absurd h hq⟩
  · exact ⟨[],fun h => absurd h hk⟩
 refine ⟨fun k => Classical.choose (h' k),fun k hk => ?_⟩
 have:=h k hk
 split
 · rename_i hq
   exact Classical.choose_spec (h' k) hk hq
 · rename_i hq
   rw [if_neg hq] at this
   exact this
theorem runs123 (args:Array Value) (w:World):(callFunc 244 args).run Tryz.prog w = .ok (.enter 244 args) w:=by kernel_rfl
end Go.Proofs.YthkbeaffkcfgiabGreatDoor
