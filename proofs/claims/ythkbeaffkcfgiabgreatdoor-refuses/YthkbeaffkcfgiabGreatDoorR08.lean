import Derived.Lib.SplitLaws
import Derived.Lib.Split
import Derived.Lib.IndexBytes
import Derived.Lib.CutLaws
import Derived.Deep.DeepCutAuto
import Derived.Test.YthkbeaffkcfgiabGreatDoorProg
import Derived.Test.YthkbeaffkcfgiabGreatDoorR04
import Derived.Test.YthkbeaffkcfgiabGreatDoorR06
import Derived.Test.YthkbeaffkcfgiabGreatDoorR07
import Derived.Test.YthkbeaffkcfgiabGreatDoorR01
set_option linter.unusedSimpArgs false
set_option linter.unusedVariables false
namespace Go.Proofs.YthkbeaffkcfgiabGreatDoor
open Go.RowKit
theorem zeroOfB:∀ w,(zeroValue 4).run Tryz.prog w = .ok (.bool false) w:=fun w => by
 obtain ⟨i0,hi0,h0,h1,h2⟩:=info_parts Tryz.cellInfoB
 simp [zeroValue,typeInfo,hi0,h0]
set_option maxHeartbeats 4000000 in
set_option maxRecDepth 100000 in
theorem delete_atB (g n cap i:Nat) (cur:Array Value) (w:World) (hg:w.heap[g]? = some (.cells cur 4 (0,0))) (hi:i < n) (hnc:n ≤ cap) (hc63:cap ≤ maxLen) (hcs:cur.size = cap) (hl1:∀ u ∈ cur.toList.take (n),u.oneCell' = true) :
 Calls Tryz.prog 375 #[.slice (some ⟨g,0,none⟩) n cap,.int .i64 i,.int .i64 ((i:Int) + 1)] w fun e w' => e = .returned (.slice (some ⟨g,0,none⟩) (n - 1) cap) ∧
  w' = (w.drew.setCells g (i) ((cur.toList.take (n)).drop ((i + 1)))).setCells g ((n - 1)) (hZerosB 1):=by
 obtain ⟨i0,hi0,hz0,hz1,hz2⟩:=info_parts Tryz.cellInfoB
 have hc64:cap ≤ 9223372036854775807:=by simpa [maxLen] using hc63
 obtain ⟨mv,hmv⟩:∃ mv,mv = (cur.toList.take (n)).drop ((i + 1)):=⟨_,rfl⟩
 have hml:mv.length = (n - (i + 1)):=by rw [hmv];simp;omega
 have hmg:∀ j u,mv[j]? = some u → cur[(i + 1) + j]? = some u:=fun j u hj => by
  rw [hmv,List.getElem?_drop,List.getElem?_take] at hj
  split at hj
  · simpa using hj
  · cases hj
 have hm1:∀ u ∈ mv,u.oneCell' = true:=fun u hu => by rw [hmv] at hu;exact hl1 u (List.mem_of_mem_drop hu)
 obtain ⟨A,hA,hsrc⟩:∃ A:Addr,(if cap = i + 1 then some (⟨g,0,none⟩:Addr) else some ⟨g,(i + 1),none⟩) = some A ∧ Hid (∀ t u,mv[t]? = some u → w.drew.cell? (A.add t) = some u):=by
  by_cases h:cap = i + 1
  · refine ⟨⟨g,0,none⟩,by simp [h],fun t u hu => ?_⟩
    have h0:mv.length = 0:=by rw [hml];omega
    rw [List.length_eq_zero_iff.1 h0] at hu
    simp at hu
  · refine ⟨⟨g,(i + 1),none⟩,by simp [h],fun t u hu => ?_⟩
    rw [Addr.add_lit]
    show w.cell? _ = _
    rw [cell_row hg]
    exact hmg t u hu
 have s1:Hid (mv.length = (n - (i + 1)) * 1):=by show _ = _;rw [Nat.mul_one];exact hml
 have s2:Hid (∀ u ∈ mv,u.oneCell' = true):=hm1
 have s3:Hid (∀ t,t < mv.length → (w.drew.cell? ⟨g,0 + i * 1 + t,none⟩).isSome = true ∧ w.drew.frozen? ⟨g,0 + i * 1 + t,none⟩ = false):=fun t ht => by
  rw [Nat.mul_one]
  refine ⟨?_,frozen_row (w:=w) hg _⟩
  show (w.cell? _).isSome = true
  rw [cell_row hg,Array.getElem?_eq_getElem (by omega)];rfl
 obtain ⟨W1,hW1⟩:∃ W1,W1 = w.drew.setCells g (i) mv:=⟨_,rfl⟩
 have hg1:W1.heap[g]? = some (.cells (laid cur.toList (i) mv).toArray 4 (0,0)):=by
  rw [hW1];exact setCells_block mv _ w.drew cur hg (by omega)
 have hcl:∀ (W:World),(∀ x,W.cell? x = W1.cell? x) → (∀ x,W.frozen? x = W1.frozen? x) → ∀ ty c,(Builtin.clear_ #[39] ty #[.slice (some ⟨g,(i + (n - (i + 1))),none⟩) (n - (i + (n - (i + 1)))) c]).run Tryz.prog W = .ok (.tuple #[]) (W.setCells g ((i + (n - (i + 1)))) (hZerosB 1)):=fun W hWc hWf ty c => by
  have e1:n - (i + (n - (i + 1))) = 1:=by omega
  rw [e1]
  exact run_clear_cellsK W 39 4 ty _ Tryz.underlying39 zeroOfB g _ 1 c (by omega) (hZerosB 1) rfl (hZeros_oneB 1)
   (fun j hj => by rw [hWc,cell_row hg1,Array.getElem?_eq_getElem (by rw [List.size_toArray,laid_length _ _ _ (by simp;omega)];rw [hZeros_lengthB] at hj;simp;omega)];rfl) (fun j hj => by rw [hWf];exact frozen_row hg1 _)
 replace hcl:=hcl W1 (fun _ => rfl) (fun _ => rfl)
 have X:Hid (W1 = w.drew.setCells g (i) mv):=hW1
 have hW:Hid (W1 = w.drew.setCells g (0 + i * 1) mv):=by rw [Nat.mul_one,Nat.zero_add];exact hW1
 have hic:i ≤ cap:=by omega
 have hjc:i + 1 ≤ cap:=by omega
 have hjn:i + 1 ≤ n:=by omega
 have hjI:(i:Int) + 1 ≤ (n:Int):=by omega
 have hb5:(0:Int) ≤ (i:Int) + 1:=by omega
 have hne:¬ ((i:Int) = (i:Int) + 1):=by omega
 have mixed:Tryz.prog.follows Departure.mixedOrders = true:=by kernel_rfl
 rw [← hmv]
 clear hW1 hmv hml hmg hm1 hg1 hg hcs hl1
 go_enter Tryz.func375,Tryz.ntmps375
 go_wp2_with fail
 go_region_law_o (refine step_append_room rfl (.tmp 22) (.tmp 25) 39 rfl 4 i0 1 Tryz.underlying39 hi0 hz1 g 0 i cap (by simp [Act.eval,Act.put]) A (n - (i + 1)) (cap - (i + 1)) mv (by simp [Act.eval,Act.put]) s1.out hsrc.out s2.out (by omega) s3.out ?_;rw [← hW.out])
 go_wp2
 go_ret
 refine ⟨?_,?_⟩
 · rw [show n - 1 = i + (n - (i + 1)) by omega];rfl
 · rw [show n - 1 = i + (n - (i + 1)) by omega,← X.out]
theorem delete_ownB (base:Nat) (v:Value) (n i:Nat) (xs:List Value) (w:World) (hown:w.ownsRow base 4 1 v n xs) (hi:i < n) (hx1:∀ u ∈ xs,u.oneCell' = true) :
 Calls Tryz.prog 375 #[v,.int .i64 i,.int .i64 ((i:Int) + 1)] w fun e w' => ∃ v',e = .returned v' ∧ w'.ownsRow base 4 1 v' (n - 1) (cutOut xs (i) 1) ∧ w.grownBy w' v.ownBlock ∧ v'.ownBlock = v.ownBlock:=by
 have hxl:xs.length = n:=by simpa using hown.1
 rcases hown.2 with ⟨rfl,rfl⟩ | ⟨g,cap,cur,rfl,hbg,hg,hnc,hcm,hcs,htake⟩
 · omega
 · rw [Nat.mul_one] at hcs htake
   refine (delete_atB g n cap i cur w hg hi hnc hcm hcs (by rw [htake];exact hx1)).mono ?_
   rintro e w' ⟨rfl,rfl⟩
   have hb1:=setCells_block ((cur.toList.take (n)).drop ((i + 1))) (i) w.drew cur hg (by simp;omega)
   have hb2:=setCells_block (hZerosB 1) ((n - 1)) _ _ hb1 (by
    rw [List.size_toArray,laid_length _ _ _ (by simp;omega),hZeros_lengthB];simp;omega)
   refine ⟨_,rfl,⟨by simp [cutOut,hxl];omega,Or.inr ⟨g,cap,_,rfl,hbg,hb2,by omega,hcm,?_,?_⟩⟩,?_,rfl⟩
   · rw [Nat.mul_one,List.size_toArray,laid_length _ _ _ (by rw [hZeros_lengthB,laid_length _ _ _ (by simp;omega)];simp;omega),laid_length _ _ _ (by simp;omega)]
     simpa using hcs
   · have:=cut_take cur.toList xs (hZerosB 1) (n) (i) 1 (by omega) htake (by simp;omega) (hZeros_lengthB 1) hxl
     rw [Nat.mul_one,htake]
     exact this
   · have hq:=grownBy_tr (grownBy_setCells w.drew g (i) ((cur.toList.take (n)).drop ((i + 1)))) (grownBy_setCells _ g ((n - 1)) (hZerosB 1))
     exact ⟨hq.os,hq.tape,hq.output,hq.size,hq.block⟩
theorem zeroOfS:∀ w,(zeroValue 9).run Tryz.prog w = .ok (.string ⟨#[]⟩) w:=fun w => by
 obtain ⟨i0,hi0,h0,h1,h2⟩:=info_parts Tryz.cellInfoS
 simp [zeroValue,typeInfo,hi0,h0]
set_option maxHeartbeats 4000000 in
set_option maxRecDepth 100000 in
theorem delete_atS (g n cap i:Nat) (cur:Array Value) (w:World) (hg:w.heap[g]? = some (.cells cur 9 (0,0))) (hi:i < n) (hnc:n ≤ cap) (hc63:cap ≤ maxLen) (hcs:cur.size = cap) (hl1:∀ u ∈ cur.toList.take (n),u.oneCell' = true) :
 Calls Tryz.prog 386 #[.slice (some ⟨g,0,none⟩) n cap,.int .i64 i,.int .i64 ((i:Int) + 1)] w fun e w' => e = .returned (.slice (some ⟨g,0,none⟩) (n - 1) cap) ∧
  w' = (w.drew.setCells g (i) ((cur.toList.take (n)).drop ((i + 1)))).setCells g ((n - 1)) (hZerosS 1):=by
 obtain ⟨i0,hi0,hz0,hz1,hz2⟩:=info_parts Tryz.cellInfoS
 have hc64:cap ≤ 9223372036854775807:=by simpa [maxLen] using hc63
 obtain ⟨mv,hmv⟩:∃ mv,mv = (cur.toList.take (n)).drop ((i + 1)):=⟨_,rfl⟩
 have hml:mv.length = (n - (i + 1)):=by rw [hmv];simp;omega
 have hmg:∀ j u,mv[j]? = some u → cur[(i + 1) + j]? = some u:=fun j u hj => by
  rw [hmv,List.getElem?_drop,List.getElem?_take] at hj
  split at hj
  · simpa using hj
  · cases hj
 have hm1:∀ u ∈ mv,u.oneCell' = true:=fun u hu => by rw [hmv] at hu;exact hl1 u (List.mem_of_mem_drop hu)
 obtain ⟨A,hA,hsrc⟩:∃ A:Addr,(if cap = i + 1 then some (⟨g,0,none⟩:Addr) else some ⟨g,(i + 1),none⟩) = some A ∧ Hid (∀ t u,mv[t]? = some u → w.drew.cell? (A.add t) = some u):=by
  by_cases h:cap = i + 1
  · refine ⟨⟨g,0,none⟩,by simp [h],fun t u hu => ?_⟩
    have h0:mv.length = 0:=by rw [hml];omega
    rw [List.length_eq_zero_iff.1 h0] at hu
    simp at hu
  · refine ⟨⟨g,(i + 1),none⟩,by simp [h],fun t u hu => ?_⟩
    rw [Addr.add_lit]
    show w.cell? _ = _
    rw [cell_row hg]
    exact hmg t u hu
 have s1:Hid (mv.length = (n - (i + 1)) * 1):=by show _ = _;rw [Nat.mul_one];exact hml
 have s2:Hid (∀ u ∈ mv,u.oneCell' = true):=hm1
 have s3:Hid (∀ t,t < mv.length → (w.drew.cell? ⟨g,0 + i * 1 + t,none⟩).isSome = true ∧ w.drew.frozen? ⟨g,0 + i * 1 + t,none⟩ = false):=fun t ht => by
  rw [Nat.mul_one]
  refine ⟨?_,frozen_row (w:=w) hg _⟩
  show (w.cell? _).isSome = true
  rw [cell_row hg,Array.getElem?_eq_getElem (by omega)];rfl
 obtain ⟨W1,hW1⟩:∃ W1,W1 = w.drew.setCells g (i) mv:=⟨_,rfl⟩
 have hg1:W1.heap[g]? = some (.cells (laid cur.toList (i) mv).toArray 9 (0,0)):=by
  rw [hW1];exact setCells_block mv _ w.drew cur hg (by omega)
 have hcl:∀ (W:World),(∀ x,W.cell? x = W1.cell? x) → (∀ x,W.frozen? x = W1.frozen? x) → ∀ ty c,(Builtin.clear_ #[60] ty #[.slice (some ⟨g,(i + (n - (i + 1))),none⟩) (n - (i + (n - (i + 1)))) c]).run Tryz.prog W = .ok (.tuple #[]) (W.setCells g ((i + (n - (i + 1)))) (hZerosS 1)):=fun W hWc hWf ty c => by
  have e1:n - (i + (n - (i + 1))) = 1:=by omega
  rw [e1]
  exact run_clear_cellsK W 60 9 ty _ Tryz.underlying60 zeroOfS g _ 1 c (by omega) (hZerosS 1) rfl (hZeros_oneS 1)
   (fun j hj => by rw [hWc,cell_row hg1,Array.getElem?_eq_getElem (by rw [List.size_toArray,laid_length _ _ _ (by simp;omega)];rw [hZeros_lengthS] at hj;simp;omega)];rfl) (fun j hj => by rw [hWf];exact frozen_row hg1 _)
 replace hcl:=hcl W1 (fun _ => rfl) (fun _ => rfl)
 have X:Hid (W1 = w.drew.setCells g (i) mv):=hW1
 have hW:Hid (W1 = w.drew.setCells g (0 + i * 1) mv):=by rw [Nat.mul_one,Nat.zero_add];exact hW1
 have hic:i ≤ cap:=by omega
 have hjc:i + 1 ≤ cap:=by omega
 have hjn:i + 1 ≤ n:=by omega
 have hjI:(i:Int) + 1 ≤ (n:Int):=by omega
 have hb5:(0:Int) ≤ (i:Int) + 1:=by omega
 have hne:¬ ((i:Int) = (i:Int) + 1):=by omega
 have mixed:Tryz.prog.follows Departure.mixedOrders = true:=by kernel_rfl
 rw [← hmv]
 clear hW1 hmv hml hmg hm1 hg1 hg hcs hl1
 go_enter Tryz.func386,Tryz.ntmps386
 go_wp2_with fail
 go_region_law_o (refine step_append_room rfl (.tmp 22) (.tmp 25) 60 rfl 9 i0 1 Tryz.underlying60 hi0 hz1 g 0 i cap (by simp [Act.eval,Act.put]) A (n - (i + 1)) (cap - (i + 1)) mv (by simp [Act.eval,Act.put]) s1.out hsrc.out s2.out (by omega) s3.out ?_;rw [← hW.out])
 go_wp2
 go_ret
 refine ⟨?_,?_⟩
 · rw [show n - 1 = i + (n - (i + 1)) by omega];rfl
 · rw [show n - 1 = i + (n - (i + 1)) by omega,← X.out]
theorem delete_ownS (base:Nat) (v:Value) (n i:Nat) (xs:List Value) (w:World) (hown:w.ownsRow base 9 1 v n xs) (hi:i < n) (hx1:∀ u ∈ xs,u.oneCell' = true) :
 Calls Tryz.prog 386 #[v,.int .i64 i,.int .i64 ((i:Int) + 1)] w fun e w' => ∃ v',e = .returned v' ∧ w'.ownsRow base 9 1 v' (n - 1) (cutOut xs (i) 1) ∧ w.grownBy w' v.ownBlock ∧ v'.ownBlock = v.ownBlock:=by
 have hxl:xs.length = n:=by simpa using hown.1
 rcases hown.2 with ⟨rfl,rfl⟩ | ⟨g,cap,cur,rfl,hbg,hg,hnc,hcm,hcs,htake⟩
 · omega
 · rw [Nat.mul_one] at hcs htake
   refine (delete_atS g n cap i cur w hg hi hnc hcm hcs (by rw [htake];exact hx1)).mono ?_
   rintro e w' ⟨rfl,rfl⟩
   have hb1:=setCells_block ((cur.toList.take (n)).drop ((i + 1))) (i) w.drew cur hg (by simp;omega)
   have hb2:=setCells_block (hZerosS 1) ((n - 1)) _ _ hb1 (by
    rw [List.size_toArray,laid_length _ _ _ (by simp;omega),hZeros_lengthS];simp;omega)
   refine ⟨_,rfl,⟨by simp [cutOut,hxl];omega,Or.inr ⟨g,cap,_,rfl,hbg,hb2,by omega,hcm,?_,?_⟩⟩,?_,rfl⟩
   · rw [Nat.mul_one,List.size_toArray,laid_length _ _ _ (by rw [hZeros_lengthS,laid_length _ _ _ (by simp;omega)];simp;omega),laid_length _ _ _ (by simp;omega)]
     simpa using hcs
   · have:=cut_take cur.toList xs (hZerosS 1) (n) (i) 1 (by omega) htake (by simp;omega) (hZeros_lengthS 1) hxl
     rw [Nat.mul_one,htake]
     exact this
   · have hq:=grownBy_tr (grownBy_setCells w.drew g (i) ((cur.toList.take (n)).drop ((i + 1)))) (grownBy_setCells _ g ((n - 1)) (hZerosS 1))
     exact ⟨hq.os,hq.tape,hq.output,hq.size,hq.block⟩
end Go.Proofs.YthkbeaffkcfgiabGreatDoor
namespace Go.Proofs.YthkbeaffkcfgiabGreatDoor
def cutL (b:UInt8):List UInt8 → List (List UInt8)
 | [] => [[]]
 | c :: r => if c = b then [] :: cutL b r else
  match cutL b r with
  | p :: ps => (c :: p) :: ps
  | [] => [[c]]
theorem cutL_ne (b:UInt8):∀ s,cutL b s ≠ []
 | [] => by simp [cutL]
 | c :: r => by
  unfold cutL
  split
  · simp
  · split <;> simp
theorem cutL_length (b:UInt8) (s:List UInt8):1 ≤ (cutL b s).length:=by
 have:=cutL_ne b s
 cases h:cutL b s with
 | nil => exact absurd h this
 | cons _ _ => simp
theorem cutL_miss (b:UInt8):∀ s,b ∉ s → cutL b s = [s]
 | [],_ => rfl
 | c :: r,h => by
  simp only [List.mem_cons,not_or] at h
  rw [cutL,if_neg (fun e => h.1 e.symm),cutL_miss b r h.2]
theorem cutL_hit (b:UInt8):∀ (a r:List UInt8),b ∉ a → cutL b (a ++ b :: r) = a :: cutL b r
 | [],r,_ => by simp [cutL]
 | c :: a,r,h => by
  simp only [List.mem_cons,not_or] at h
  rw [List.cons_append,cutL,if_neg (fun e => h.1 e.symm),cutL_hit b a r h.2]
theorem cutL_snoc (b:UInt8):∀ s,cutL b (s ++ [b]) = cutL b s ++ [[]]
 | [] => by simp [cutL]
 | c :: s => by
  rw [List.cons_append,cutL,cutL,cutL_snoc b s]
  split
  · simp
  · cases h:cutL b s with
    | nil => exact absurd h (cutL_ne b s)
    | cons p ps => simp
theorem split_at (b:UInt8) (s:List UInt8) (h:b ∈ s):∃ a r,s = a ++ b :: r ∧ b ∉ a:=by
 induction s with
 | nil => simp at h
 | cons c s ih =>
  by_cases e:c = b
  · exact ⟨[],s,by simp [e],by simp⟩
  · obtain ⟨a,r,rfl,hn⟩:=ih (by simpa [Ne.symm e] using h)
    exact ⟨c :: a,r,by simp,by simp [Ne.symm e,hn]⟩
theorem index_not (b:UInt8) (s:List UInt8) (h:b ∉ s):Lib.index s [b] = -1:=by
 rw [Lib.index_one]
 have:=Lib.indexByte_ge s b
 by_cases e:Lib.indexByte s b = -1
 · exact e
 · obtain ⟨o,ho⟩:∃ o:Nat,Lib.indexByte s b = o:=⟨(Lib.indexByte s b).toNat,by omega⟩
   have:=(Lib.indexByte_some ho).1
   exact absurd (List.mem_of_getElem? this) h
theorem index_at (b:UInt8) (a r:List UInt8) (h:b ∉ a):Lib.index (a ++ b :: r) [b] = a.length:=by
 rw [Lib.index_one]
 have hge:=Lib.indexByte_ge (a ++ b :: r) b
 by_cases e:Lib.indexByte (a ++ b :: r) b = -1
 · exact absurd (by simp) (Lib.indexByte_none e a.length)
 · obtain ⟨o,ho⟩:∃ o:Nat,Lib.indexByte (a ++ b :: r) b = o:=⟨(Lib.indexByte (a ++ b :: r) b).toNat,by omega⟩
   obtain ⟨h1,h2⟩:=Lib.indexByte_some ho
   rw [ho]
   have:¬ o < a.length:=fun hl => by
    rw [List.getElem?_append_left hl] at h1
    exact h (List.mem_of_getElem? h1)
   have:¬ a.length < o:=fun hl => h2 a.length hl (by simp)
   congr 1;omega
theorem splitK_cut (b:UInt8):∀ (k:Nat) (s:List UInt8),s.count b ≤ k → Lib.splitK [b] 0 k s = cutL b s
 | 0,s,h => by
  have:b ∉ s:=fun hm => by have:=List.count_pos_iff.2 hm;omega
  rw [cutL_miss b s this];rfl
 | k + 1,s,h => by
  unfold Lib.splitK
  by_cases hm:b ∈ s
  · obtain ⟨a,r,rfl,hn⟩:=split_at b s hm
    rw [index_at b a r hn,cutL_hit b a r hn]
    have hc:¬ ((a.length:Int) == -1) = true:=by simp
    rw [if_neg hc]
    have hk:r.count b ≤ k:=by
     rw [List.count_append,List.count_cons_self] at h;omega
    have ih:=splitK_cut b k r hk
    simp only [Int.toNat_natCast,Nat.add_zero,List.length_singleton]
    rw [List.take_left,show a.length + 1 = (a ++ [b]).length by simp,show a ++ b :: r = (a ++ [b]) ++ r by simp,List.drop_left,ih]
  · rw [index_not b s hm,cutL_miss b s hm];simp
theorem split_cut (b:UInt8) (s:ByteArray):(Lib.splitB ⟨#[b]⟩ 0 (Lib.countB s ⟨#[b]⟩) s).map (·.data.toList) = cutL b s.data.toList:=by
 rw [Lib.splitB_data]
 exact splitK_cut b _ _ (by
  have:Lib.countB s ⟨#[b]⟩ = s.data.toList.count b:=Lib.count_one b s.data.toList
  omega)
theorem count_cut (b:UInt8) (s:ByteArray):Lib.countB s ⟨#[b]⟩ + 1 = (cutL b s.data.toList).length:=by
 rw [← split_cut,List.length_map,Lib.splitB_all ⟨#[b]⟩ (Nat.le_refl 1) 0 _ s rfl]
def nameL (s:List UInt8):Bool:=decide (1 ≤ s.length) && decide (s.length ≤ 8) && s.all fun c => decide (97 ≤ c.toNat) && decide (c.toNat ≤ 122)
def kindL (s:List UInt8):Nat:=if s = [105,110,116] then 1 else if s = [98,111,111,108] then 2 else if s = [116,101,120,116] then 3 else if s = [114,101,102] then 4 else if s = [108,105,115,116] then 5 else 0
theorem kindL_colon (s:List UInt8) (h:(58:UInt8) ∈ s):kindL s = 0:=by
 unfold kindL
 have e:∀ l:List UInt8,(58:UInt8) ∉ l → s ≠ l:=fun l hl e => hl (e ▸ h)
 rw [if_neg (e _ (by decide)),if_neg (e _ (by decide)),if_neg (e _ (by decide)),if_neg (e _ (by decide)),if_neg (e _ (by decide))]
def fieldL (word:List UInt8):Option (List UInt8 × Nat) :=
 if nameL (Lib.cut word [58]).1 = true ∧ kindL (Lib.cut word [58]).2.1 ≠ 0 then some ((Lib.cut word [58]).1,kindL (Lib.cut word [58]).2.1) else none
def fieldR (word:List UInt8):Option (List UInt8 × Nat) :=
 match cutL 58 word with
 | [a,b] => if nameL a = true ∧ kindL b ≠ 0 then some (a,kindL b) else none
 | _ => none
theorem fieldL_eq (word:List UInt8):fieldL word = fieldR word:=by
 unfold fieldL fieldR
 by_cases hm:(58:UInt8) ∈ word
 · obtain ⟨a,r,rfl,hn⟩:=split_at 58 word hm
   have hc:Lib.cut (a ++ 58 :: r) [58] = (a,r,true):=by
    unfold Lib.cut
    rw [index_at 58 a r hn,if_pos (by omega)]
    simp only [Int.toNat_natCast,List.length_singleton]
    rw [List.take_left,show a.length + 1 = (a ++ [58]).length by simp,show a ++ 58 :: r = (a ++ [58]) ++ r by simp,List.drop_left]
   rw [hc,cutL_hit 58 a r hn]
   by_cases h2:(58:UInt8) ∈ r
   · obtain ⟨a2,r2,rfl,hn2⟩:=split_at 58 r h2
     rw [cutL_hit 58 a2 r2 hn2,kindL_colon _ (by simp)]
     cases h3:cutL 58 r2 with
     | nil => exact absurd h3 (cutL_ne _ _)
     | cons p ps => simp
   · rw [cutL_miss 58 r h2]
 · have hc:Lib.cut word [58] = (word,[],false):=by
    unfold Lib.cut
    rw [index_not 58 word hm,if_neg (by decide)]
   rw [hc,cutL_miss 58 word hm]
   have:kindL [] = 0:=by decide
   simp [this]
def fieldsL (acc:List (List UInt8 × Nat)):List (List UInt8) → Option (List (List UInt8 × Nat))
 | [] => some acc
 | w :: ws =>
  match fieldR w with
  | none => none
  | some f => if f.1 ∈ acc.map Prod.fst then none else fieldsL (acc ++ [f]) ws
def compP (nm:List UInt8) (ws:List (List UInt8)):Option (List UInt8 × List (List UInt8 × Nat)) :=
 if ws.length ≤ 4 ∧ nameL nm = true then
  match fieldsL [] ws with
  | none => none
  | some zs => if nm = [101] ∧ zs = [] then none else some (nm,zs)
 else none
def compL (line:List UInt8):Option (List UInt8 × List (List UInt8 × Nat)) :=
 match cutL 32 line with
 | [] => none
 | nm :: ws => compP nm ws
theorem compP_none {nm:List UInt8} {ws:List (List UInt8)} (h:fieldsL [] ws = none):compP nm ws = none:=by
 unfold compP;rw [h];simp
theorem compP_e {nm:List UInt8} (h:nm = [101]):compP nm [] = none:=by
 unfold compP;simp [fieldsL,h]
theorem compP_some {nm:List UInt8} {ws:List (List UInt8)} {zs:List (List UInt8 × Nat)} (h1:ws.length ≤ 4) (h2:nameL nm = true) (h:fieldsL [] ws = some zs) (h3:¬ (nm = [101] ∧ zs = [])):compP nm ws = some (nm,zs):=by
 unfold compP;rw [if_pos ⟨h1,h2⟩,h];simp only;rw [if_neg h3]
theorem cut_count (b:UInt8):∀ s,(cutL b s).length ≤ s.length + 1
 | [] => by simp [cutL]
 | c :: s => by
  have ih:=cut_count b s
  unfold cutL
  split
  · simp;omega
  · cases h:cutL b s with
    | nil => simp
    | cons p ps => rw [h] at ih;simp at ih ⊢;omega
def compsL (acc:List (List UInt8 × List (List UInt8 × Nat))):List (List UInt8) → Option (List (List UInt8 × List (List UInt8 × Nat)))
 | [] => some acc
 | l :: ls =>
  match compL l with
  | none => none
  | some c => if c.1 ∈ acc.map Prod.fst then none else compsL (acc ++ [c]) ls
def schemaL (text:List UInt8):Option (List (List UInt8 × List (List UInt8 × Nat))) :=
 if text.length ≤ 400 ∧ (cutL 10 text).getLast? = some [] ∧ 2 ≤ (cutL 10 text).length ∧ (cutL 10 text).length ≤ 7 then compsL [] ((cutL 10 text).dropLast) else none
theorem fieldsL_length:∀ (ws:List (List UInt8)) (acc zs:List (List UInt8 × Nat)),fieldsL acc ws = some zs → zs.length = acc.length + ws.length
 | [],acc,zs,h => by simp [fieldsL] at h;subst h;simp
 | w :: ws,acc,zs,h => by
  unfold fieldsL at h
  cases h1:fieldR w with
  | none => rw [h1] at h;simp at h
  | some f =>
   rw [h1] at h
   simp only at h
   split at h
   · simp at h
   · have:=fieldsL_length ws _ _ h;simp at this ⊢;omega
theorem fieldsL_append:∀ (a b:List (List UInt8)) (acc:List (List UInt8 × Nat)),fieldsL acc (a ++ b) = (fieldsL acc a).bind fun z => fieldsL z b
 | [],b,acc => rfl
 | w :: a,b,acc => by
  rw [List.cons_append,fieldsL,fieldsL]
  cases fieldR w with
  | none => rfl
  | some f =>
   simp only
   split
   · rfl
   · exact fieldsL_append a b _
theorem compsL_append:∀ (a b:List (List UInt8)) (acc:List (List UInt8 × List (List UInt8 × Nat))),compsL acc (a ++ b) = (compsL acc a).bind fun z => compsL z b
 | [],b,acc => rfl
 | w :: a,b,acc => by
  rw [List.cons_append,compsL,compsL]
  cases compL w with
  | none => rfl
  | some f =>
   simp only
   split
   · rfl
   · exact compsL_append a b _
theorem schemaL_body (body:List UInt8):schemaL (body ++ [10]) = if (body ++ [10]).length ≤ 400 ∧ (cutL 10 body).length ≤ 6 then compsL [] (cutL 10 body) else none:=by
 unfold schemaL
 rw [cutL_snoc]
 have h1:=cutL_length 10 body
 simp only [List.getLast?_append,List.getLast?_singleton,List.length_append,List.length_singleton,List.dropLast_concat]
 by_cases h:(body.length + 1 ≤ 400 ∧ (cutL 10 body).length ≤ 6)
 · rw [if_pos h,if_pos ⟨h.1,by simp,by omega,by omega⟩]
 · rw [if_neg h,if_neg (fun hh => h ⟨hh.1,by omega⟩)]
theorem cutL_last (b:UInt8):∀ s,(cutL b s).getLast? = some [] → s = [] ∨ ∃ t,s = t ++ [b]
 | [],_ => Or.inl rfl
 | c :: s,h => by
  right
  unfold cutL at h
  by_cases e:c = b
  · rw [if_pos e] at h
    rw [List.getLast?_cons_of_ne_nil (cutL_ne b s)] at h
    rcases cutL_last b s h with rfl | ⟨t,rfl⟩
    · exact ⟨[],by simp [e]⟩
    · exact ⟨c :: t,by simp⟩
  · rw [if_neg e] at h
    cases hc:cutL b s with
    | nil => exact absurd hc (cutL_ne b s)
    | cons p ps =>
     rw [hc] at h
     simp only at h
     cases ps with
     | nil => simp at h
     | cons q qs =>
      have h2:(cutL b s).getLast? = some []:=by
       rw [hc];rw [List.getLast?_cons_cons] at h ⊢;exact h
      rcases cutL_last b s h2 with rfl | ⟨t,rfl⟩
      · simp [cutL] at hc
      · exact ⟨c :: t,by simp⟩
theorem schemaL_noEnd (text:List UInt8) (h:∀ body,text ≠ body ++ [10]):schemaL text = none:=by
 unfold schemaL
 rw [if_neg]
 rintro ⟨_,h1,h2,_⟩
 rcases cutL_last 10 text h1 with rfl | ⟨t,ht⟩
 · simp [cutL] at h2
 · exact h t ht
end Go.Proofs.YthkbeaffkcfgiabGreatDoor
namespace Go.Proofs.YthkbeaffkcfgiabGreatDoor
open Go.RowKit
def wrong:List PanicEntry:=[{ v:=.iface 197 (.agg #[]),recovered:=false }]
theorem need_no (x:Bool) (w:World) (hx:x = false):Calls Tryz.prog 193 #[.bool x] w fun e w' => e = .panicked wrong ∧ w = w':=by
 subst hx
 go_enter Tryz.func193,Tryz.ntmps193
 go_wp2
 exact ⟨rfl,rfl,rfl⟩
theorem nameL_ok (s:ByteArray):nameL s.data.toList = true ↔ NameOk s:=by
 unfold nameL NameOk
 simp only [Bool.and_eq_true,decide_eq_true_eq,List.all_eq_true,Array.length_toList,ByteArray.size_data,and_assoc]
 constructor
 · rintro ⟨h1,h2,h3⟩
   exact ⟨h1,h2,fun i hi => h3 s[i] (Array.mem_toList_iff.2 (Array.getElem_mem hi))⟩
 · rintro ⟨h1,h2,h3⟩
   refine ⟨h1,h2,fun c hc => ?_⟩
   obtain ⟨i,hi,rfl⟩:=List.getElem_of_mem hc
   exact h3 i (by simpa using hi)
set_option maxHeartbeats 800000 in
theorem readName_no (s:ByteArray) (w:World) (hs:s.size ≤ 1000000000) (hn:¬ NameOk s):Calls Tryz.prog 246 #[.string s] w fun e w' => e = .panicked wrong ∧ w = w':=by
 by_cases h12:1 ≤ s.size ∧ s.size ≤ 8
 · obtain ⟨h1,h2⟩:=h12
   have HN:Hid (¬ ∀ (i:Nat) (h:i < s.size),97 ≤ s[i].toNat ∧ s[i].toNat ≤ 122):=fun h => hn ⟨h1,h2,h⟩
   clear hn
   go_enter Tryz.func246,Tryz.ntmps246
   go_wp2_with (go_at_call 193;refine (need_of _ _ ?_).mono ?_;(first | rfl | (simp;omega));rintro e w' ⟨rfl,rfl⟩)
   go_loop [15] (fun t => ∃ k:Nat,k ≤ s.size ∧ t = .int .i64 k ∧ Hid (∀ (i:Nat) (h:i < s.size),i < k → 97 ≤ s[i].toNat ∧ s[i].toNat ≤ 122)) (fun t => s.size - (intOf t).toNat)
   case atStart => exact ⟨0,by omega,rfl,fun i _ h => by omega⟩
   case round =>
    obtain ⟨k,hk,rfl,hall⟩:=hrel
    by_cases hlt:k < s.size
    · by_cases hc:97 ≤ s[k].toNat ∧ s[k].toNat ≤ 122
      · have hc1:(97:Int) ≤ (s[k].toNat:Int):=by omega
        have hc2:(s[k].toNat:Int) ≤ 122:=by omega
        have HCC:Hid (97 ≤ s[k].toNat ∧ s[k].toNat ≤ 122):=hc
        clear hc
        go_wp2_with (go_at_call 193;refine (need_of _ _ ?_).mono ?_;(first | rfl | (simp;omega));rintro e w' ⟨rfl,rfl⟩)
        go_round
        case rel => exact ⟨k + 1,by omega,by go_num,fun i h hi => by
         by_cases e:i = k
         · subst e;exact HCC.out
         · exact hall.out i h (by omega)⟩
        case measure => simp [intOf];omega
      · by_cases hc1:97 ≤ s[k].toNat
        · have hd1:(97:Int) ≤ (s[k].toNat:Int):=by omega
          have hd2:¬ (s[k].toNat:Int) ≤ 122:=by omega
          clear hc hc1
          go_wp2_with (go_at_call 193;refine (need_no _ _ ?_).mono ?_;(first | rfl | (simp;omega));rintro e w' ⟨rfl,rfl⟩)
          exact ⟨rfl,rfl,rfl⟩
        · have hd1:¬ (97:Int) ≤ (s[k].toNat:Int):=by omega
          clear hc hc1
          go_wp2_with (go_at_call 193;refine (need_no _ _ ?_).mono ?_;(first | rfl | (simp;omega));rintro e w' ⟨rfl,rfl⟩)
          exact ⟨rfl,rfl,rfl⟩
    · exact absurd (fun i h => hall.out i h (by omega)) HN.out
 · clear hn
   by_cases h1:1 ≤ s.size
   · have h2:¬ (s.size:Int) ≤ 8:=by omega
     have h1':(1:Int) ≤ (s.size:Int):=by omega
     clear h12
     go_enter Tryz.func246,Tryz.ntmps246
     go_wp2_with (go_at_call 193;refine (need_no _ _ ?_).mono ?_;(first | rfl | (simp;omega));rintro e w' ⟨rfl,rfl⟩)
     exact ⟨rfl,rfl,rfl⟩
   · have h1':¬ (1:Int) ≤ (s.size:Int):=by omega
     clear h12
     go_enter Tryz.func246,Tryz.ntmps246
     go_wp2_with (go_at_call 193;refine (need_no _ _ ?_).mono ?_;(first | rfl | (simp;omega));rintro e w' ⟨rfl,rfl⟩)
     exact ⟨rfl,rfl,rfl⟩
set_option maxHeartbeats 400000 in
theorem same115_yes (a nm:ByteArray) (k:Int) (B:Nat) (w:World) (hB:B < w.heap.size) (hc:w.cell? ⟨B,0,none⟩ = some (.string nm)) (hne:(a.toList == nm.toList) = true) :
 Calls Tryz.prog 198 #[.agg #[.string a,.int .i64 k],.pointer (some ⟨B,0,none⟩)] w fun e w' => e = .returned (.bool true) ∧ Below w.heap.size w w':=by
 have hn:B ≠ w.heap.size:=by omega
 go_enter Tryz.func198,Tryz.ntmps198
 go_wp2
 go_ret
 exact ⟨by simp_all,(Below.refl _ _).alloc (Nat.le_refl _) _⟩
set_option maxHeartbeats 800000 in
theorem index114_some (b n c:Nat) (zs:List (ByteArray × Int)) (nm:ByteArray) (B:Nat) (w:World) (hn:n = zs.length) (hn2:n ≤ 10) (hb:b < w.heap.size) (hB:B < w.heap.size) (hc:w.cell? ⟨B,0,none⟩ = some (.string nm))
 (hz:∀ j (h:j < zs.length),w.cell? ⟨b,j * 2,none⟩ = some (.string zs[j].1) ∧ w.cell? ⟨b,j * 2 + 1,none⟩ = some (.int .i64 zs[j].2)) (hex:∃ j,∃ h:j < zs.length,(zs[j].1.toList == nm.toList) = true) :
 Calls Tryz.prog 197 #[.slice (some ⟨b,0,none⟩) n c,.func (.func 198) #[] #[.pointer (some ⟨B,0,none⟩)]] w fun e w' => (∃ r:Nat,r < 20 ∧ e = .returned (.int .i64 r)) ∧ Below w.heap.size w w':=by
 have HZ:Hid _:=hz
 have HX:Hid (∃ j,∃ h:j < zs.length,(zs[j].1.toList == nm.toList) = true):=hex
 have HC:Hid (w.cell? ⟨B,0,none⟩ = some (.string nm)):=hc
 have HL:Hid (n = zs.length):=hn
 clear hz hex hc hn
 go_enter Tryz.func197,Tryz.ntmps197
 go_wp2
 go_loopw [8] (fun t wr => ∃ k:Nat,k ≤ n ∧ t = .int .i64 k ∧ Below w.heap.size w wr ∧ Hid (∀ j (h:j < zs.length),j < k → (zs[j].1.toList == nm.toList) = false)) (fun t _ => n - (intOf t).toNat)
 case atStart => exact ⟨0,by omega,rfl,Below.refl _ _,fun j _ h => by omega⟩
 case round =>
  obtain ⟨k,hk,rfl,hw,HA⟩:=hrel
  have HW:Hid (Below w.heap.size w wr):=hw
  clear hw
  by_cases hlt:k < n
  · have hkz:k < zs.length:=by rw [← HL.out];exact hlt
    have c0:wr.cell? ⟨b,k * 2,none⟩ = some (.string zs[k].1):=(HW.out.cell (p:=⟨b,_,none⟩) hb).trans (HZ.out k hkz).1
    have c1:wr.cell? ⟨b,k * 2 + 1,none⟩ = some (.int .i64 zs[k].2):=(HW.out.cell (p:=⟨b,_,none⟩) hb).trans (HZ.out k hkz).2
    cases hq:(zs[k].1.toList == nm.toList) with
    | true =>
     have HCL:Hid _:=same115_yes zs[k].1 nm zs[k].2 B wr (Nat.lt_of_lt_of_le hB HW.out.size) ((HW.out.cell (p:=⟨B,_,none⟩) hB).trans HC.out) hq
     clear hq
     generalize zs[k] = z at c0 c1 HCL
     go_wp2_with fail
     refine Calls.mono HCL.out ?_
     rintro e w1 ⟨rfl,hb1⟩
     have HB1:Hid (Below w.heap.size w w1):=HW.out.trans (hb1.mono HW.out.size)
     clear hb1 c0 c1
     go_wp2
     go_ret
     exact ⟨⟨k,by omega,rfl⟩,HB1.out⟩
    | false =>
     have HCL:Hid _:=same115_no zs[k].1 nm zs[k].2 B wr (Nat.lt_of_lt_of_le hB HW.out.size) ((HW.out.cell (p:=⟨B,_,none⟩) hB).trans HC.out) hq
     have HQ:Hid ((zs[k].1.toList == nm.toList) = false):=hq
     clear hq
     have HA2:Hid (∀ j (h:j < zs.length),j < k + 1 → (zs[j].1.toList == nm.toList) = false):=fun j h hj => by
      by_cases e:j = k
      · subst e;exact HQ.out
      · exact HA.out j h (by omega)
     clear HA HQ
     generalize zs[k] = z at c0 c1 HCL
     go_wp2_with fail
     refine Calls.mono HCL.out ?_
     rintro e w1 ⟨rfl,hb1⟩
     have HB1:Hid (Below w.heap.size w w1):=HW.out.trans (hb1.mono HW.out.size)
     clear hb1 c0 c1
     go_wp2
     go_roundw
     case rel => exact ⟨k + 1,by omega,by go_num,HB1.out,HA2⟩
     case measure => simp [intOf];omega
  · obtain ⟨j,h,hj⟩:=HX.out
    have:=HA.out j h (by rw [← HL.out] at h;omega)
    rw [this] at hj
    cases hj
set_option maxHeartbeats 400000 in
theorem same106_yes (a nm:ByteArray) (sa:Option Addr) (n c:Nat) (B:Nat) (w:World) (hB:B < w.heap.size) (hc:w.cell? ⟨B,0,none⟩ = some (.string nm)) (hne:(a.toList == nm.toList) = true) :
 Calls Tryz.prog 153 #[.agg #[.string a,.slice sa n c],.pointer (some ⟨B,0,none⟩)] w fun e w' => e = .returned (.bool true) ∧ Below w.heap.size w w':=by
 have hn:B ≠ w.heap.size:=by omega
 go_enter Tryz.func153,Tryz.ntmps153
 go_wp2
 go_ret
 exact ⟨by simp_all,(Below.refl _ _).alloc (Nat.le_refl _) _⟩
set_option maxHeartbeats 800000 in
theorem index105_some (b n c:Nat) (zs:List (ByteArray × (Option Addr × Nat × Nat))) (nm:ByteArray) (B:Nat) (w:World) (hn:n = zs.length) (hn2:n ≤ 10) (hb:b < w.heap.size) (hB:B < w.heap.size) (hc:w.cell? ⟨B,0,none⟩ = some (.string nm))
 (hz:∀ j (h:j < zs.length),w.cell? ⟨b,j * 2,none⟩ = some (.string zs[j].1) ∧ w.cell? ⟨b,j * 2 + 1,none⟩ = some (.slice zs[j].2.1 zs[j].2.2.1 zs[j].2.2.2)) (hex:∃ j,∃ h:j < zs.length,(zs[j].1.toList == nm.toList) = true) :
 Calls Tryz.prog 152 #[.slice (some ⟨b,0,none⟩) n c,.func (.func 153) #[] #[.pointer (some ⟨B,0,none⟩)]] w fun e w' => (∃ r:Nat,r < 20 ∧ e = .returned (.int .i64 r)) ∧ Below w.heap.size w w':=by
 have HZ:Hid _:=hz
 have HX:Hid (∃ j,∃ h:j < zs.length,(zs[j].1.toList == nm.toList) = true):=hex
 have HC:Hid (w.cell? ⟨B,0,none⟩ = some (.string nm)):=hc
 have HL:Hid (n = zs.length):=hn
 clear hz hex hc hn
 go_enter Tryz.func152,Tryz.ntmps152
 go_wp2
 go_loopw [8] (fun t wr => ∃ k:Nat,k ≤ n ∧ t = .int .i64 k ∧ Below w.heap.size w wr ∧ Hid (∀ j (h:j < zs.length),j < k → (zs[j].1.toList == nm.toList) = false)) (fun t _ => n - (intOf t).toNat)
 case atStart => exact ⟨0,by omega,rfl,Below.refl _ _,fun j _ h => by omega⟩
 case round =>
  obtain ⟨k,hk,rfl,hw,HA⟩:=hrel
  have HW:Hid (Below w.heap.size w wr):=hw
  clear hw
  by_cases hlt:k < n
  · have hkz:k < zs.length:=by rw [← HL.out];exact hlt
    have c0:wr.cell? ⟨b,k * 2,none⟩ = some (.string zs[k].1):=(HW.out.cell (p:=⟨b,_,none⟩) hb).trans (HZ.out k hkz).1
    have c1:wr.cell? ⟨b,k * 2 + 1,none⟩ = some (.slice zs[k].2.1 zs[k].2.2.1 zs[k].2.2.2):=(HW.out.cell (p:=⟨b,_,none⟩) hb).trans (HZ.out k hkz).2
    cases hq:(zs[k].1.toList == nm.toList) with
    | true =>
     have HCL:Hid _:=same106_yes zs[k].1 nm zs[k].2.1 zs[k].2.2.1 zs[k].2.2.2 B wr (Nat.lt_of_lt_of_le hB HW.out.size) ((HW.out.cell (p:=⟨B,_,none⟩) hB).trans HC.out) hq
     clear hq
     generalize zs[k] = z at c0 c1 HCL
     go_wp2_with fail
     refine Calls.mono HCL.out ?_
     rintro e w1 ⟨rfl,hb1⟩
     have HB1:Hid (Below w.heap.size w w1):=HW.out.trans (hb1.mono HW.out.size)
     clear hb1 c0 c1
     go_wp2
     go_ret
     exact ⟨⟨k,by omega,rfl⟩,HB1.out⟩
    | false =>
     have HCL:Hid _:=same106_no zs[k].1 nm zs[k].2.1 zs[k].2.2.1 zs[k].2.2.2 B wr (Nat.lt_of_lt_of_le hB HW.out.size) ((HW.out.cell (p:=⟨B,_,none⟩) hB).trans HC.out) hq
     have HQ:Hid ((zs[k].1.toList == nm.toList) = false):=hq
     clear hq
     have HA2:Hid (∀ j (h:j < zs.length),j < k + 1 → (zs[j].1.toList == nm.toList) = false):=fun j h hj => by
      by_cases e:j = k
      · subst e;exact HQ.out
      · exact HA.out j h (by omega)
     clear HA HQ
     generalize zs[k] = z at c0 c1 HCL
     go_wp2_with fail
     refine Calls.mono HCL.out ?_
     rintro e w1 ⟨rfl,hb1⟩
     have HB1:Hid (Below w.heap.size w w1):=HW.out.trans (hb1.mono HW.out.size)
     clear hb1 c0 c1
     go_wp2
     go_roundw
     case rel => exact ⟨k + 1,by omega,by go_num,HB1.out,HA2⟩
     case measure => simp [intOf];omega
  · obtain ⟨j,h,hj⟩:=HX.out
    have:=HA.out j h (by rw [← HL.out] at h;omega)
    rw [this] at hj
    cases hj
theorem bytes_ne {a b:ByteArray} (h:a ≠ b):(a.toList == b.toList) = false:=by
 rw [beq_eq_false_iff_ne]
 intro e
 rw [_root_.Go.ByteArray.toList_eq,_root_.Go.ByteArray.toList_eq] at e
 exact h (by cases a;cases b;simp at e;rw [e])
theorem bytes_same (a:ByteArray):(a.toList == a.toList) = true:=by simp
set_option maxHeartbeats 800000 in
theorem find104_any (cn nm:ByteArray) (v:Value) (base:Nat) (zs:List (ByteArray × Int)) (w:World) (hl:zs.length ≤ 10) (hown:w.ownsRow base 135 2 v zs.length (fieldCells zs)) :
 Calls Tryz.prog 129 #[.agg #[.string cn,v],.string nm] w fun e w' => (∃ r:Int,e = .returned (.int .i64 r) ∧ (r < 0 ↔ nm ∉ zs.map Prod.fst)) ∧ Below w.heap.size w w':=by
 by_cases hm:nm ∈ zs.map Prod.fst
 · obtain ⟨z,hz,rfl⟩:=List.mem_map.1 hm
   obtain ⟨j,hj,rfl⟩:=List.getElem_of_mem hz
   rcases hown.2 with ⟨rfl,h0⟩ | ⟨g,cap,cur,rfl,hg,hh,hcap,hmax,hsz,htake⟩
   · omega
   · have hgl:g < w.heap.size:=(Array.getElem?_eq_some_iff.1 hh).1
     have key:=index114_some g zs.length cap zs zs[j].1 (w.heap.size + 1) ((w.alloc (.cells #[.string cn,.slice (some ⟨g,0,none⟩) zs.length cap] 138)).alloc (.cells #[.string zs[j].1] 9)) rfl hl (by simp;omega) (by simp) (by simp)
      (fun j h => by
       have hB:=below_two w (.cells #[.string cn,.slice (some ⟨g,0,none⟩) zs.length cap] 138) (.cells #[.string zs[j].1] 9)
       have hf:=flat2_get (fun z:ByteArray × Int => Value.string z.1) (fun z => Value.int .i64 z.2) zs j h
       exact ⟨((below_two w _ _).cell (p:=⟨g,_,none⟩) hgl).trans (own_cells hown _ _ hf.1),((below_two w _ _).cell (p:=⟨g,_,none⟩) hgl).trans (own_cells hown _ _ hf.2)⟩) ⟨j,hj,bytes_same _⟩
     have HK:Hid _:=key
     have HMm:Hid (zs[j].1 ∈ zs.map Prod.fst):=hm
     clear key hown hh htake hsz hm hz
     generalize zs[j].1 = nm at HK HMm
     go_enter Tryz.func129,Tryz.ntmps129
     go_wp2_with fail
     refine Calls.mono HK.out ?_
     rintro e w1 ⟨⟨r,hr,rfl⟩,hb⟩
     go_wp2
     go_ret
     exact ⟨⟨r,rfl,⟨fun h => by omega,fun h => absurd HMm.out h⟩⟩,(below_two _ _ _).trans (hb.mono (by simp;omega))⟩
 · refine (find104_none cn nm v base zs w hl hown fun j h => bytes_ne fun e => hm (e ▸ List.mem_map_of_mem (List.getElem_mem h))).mono fun e w' ⟨he,hb⟩ => ⟨⟨-1,he,⟨fun _ => hm,fun _ => by omega⟩⟩,hb⟩
set_option maxHeartbeats 800000 in
theorem find99_any (nm:ByteArray) (v:Value) (base:Nat) (zs:List (ByteArray × (Option Addr × Nat × Nat))) (w:World) (hl:zs.length ≤ 10) (hown:w.ownsRow base 138 2 v zs.length (compCells zs)) :
 Calls Tryz.prog 102 #[v,.string nm] w fun e w' => (∃ r:Int,e = .returned (.int .i64 r) ∧ (r < 0 ↔ nm ∉ zs.map Prod.fst)) ∧ Below w.heap.size w w':=by
 by_cases hm:nm ∈ zs.map Prod.fst
 · obtain ⟨z,hz,rfl⟩:=List.mem_map.1 hm
   obtain ⟨j,hj,rfl⟩:=List.getElem_of_mem hz
   rcases hown.2 with ⟨rfl,h0⟩ | ⟨g,cap,cur,rfl,hg,hh,hcap,hmax,hsz,htake⟩
   · omega
   · have hgl:g < w.heap.size:=(Array.getElem?_eq_some_iff.1 hh).1
     have key:=index105_some g zs.length cap zs zs[j].1 w.heap.size (w.alloc (.cells #[.string zs[j].1] 9)) rfl hl (by simp;omega) (by simp) (by simp)
      (fun j h => by
       have hf:=flat2_get (fun z:ByteArray × (Option Addr × Nat × Nat) => Value.string z.1) (fun z => Value.slice z.2.1 z.2.2.1 z.2.2.2) zs j h
       exact ⟨(((Below.refl _ w).alloc (Nat.le_refl _) _).cell (p:=⟨g,_,none⟩) hgl).trans (own_cells hown _ _ hf.1),(((Below.refl _ w).alloc (Nat.le_refl _) _).cell (p:=⟨g,_,none⟩) hgl).trans (own_cells hown _ _ hf.2)⟩) ⟨j,hj,bytes_same _⟩
     have HK:Hid _:=key
     have HMm:Hid (zs[j].1 ∈ zs.map Prod.fst):=hm
     clear key hown hh htake hsz hm hz
     generalize zs[j].1 = nm at HK HMm
     go_enter Tryz.func102,Tryz.ntmps102
     go_wp2_with fail
     refine Calls.mono HK.out ?_
     rintro e w1 ⟨⟨r,hr,rfl⟩,hb⟩
     go_wp2
     go_ret
     exact ⟨⟨r,rfl,⟨fun h => by omega,fun h => absurd HMm.out h⟩⟩,((Below.refl _ _).alloc (Nat.le_refl _) _).trans (hb.mono (by simp))⟩
 · refine (find99_none nm v base zs w hl hown fun j h => bytes_ne fun e => hm (e ▸ List.mem_map_of_mem (List.getElem_mem h))).mono fun e w' ⟨he,hb⟩ => ⟨⟨-1,he,⟨fun _ => hm,fun _ => by omega⟩⟩,hb⟩
def mk (l:List UInt8):ByteArray:=⟨l.toArray⟩
theorem mk_data (s:ByteArray):mk s.data.toList = s:=by cases s;simp [mk]
theorem data_mk (l:List UInt8):(mk l).data.toList = l:=by simp [mk]
theorem toList_mk (l:List UInt8):(mk l).toList = l:=by rw [_root_.Go.ByteArray.toList_eq];exact data_mk l
theorem mk_inj {a b:List UInt8} (h:mk a = mk b):a = b:=by rw [← data_mk a,h,data_mk]
theorem size_mk (l:List UInt8):(mk l).size = l.length:=by rw [← ByteArray.size_data];simp [mk]
theorem split_any (b:UInt8) (s:ByteArray) (m:Int) (W:World) (hs:s.size < 500) (hW:W.cell? ⟨3,0,none⟩ = some (.int .i64 m)) :
 Calls Tryz.prog 194 #[.string s,.string ⟨#[b]⟩] W fun e w' =>
  e = .returned (.slice (some ⟨W.heap.size,0,none⟩) (cutL b s.data.toList).length (cutL b s.data.toList).length) ∧ w' = W.alloc (.cells ((cutL b s.data.toList).map fun l => Value.string (mk l)).toArray 9):=by
 have:=Tryz.strings_Split s ⟨#[b]⟩ m W (by omega) hW (Nat.le_refl 1)
 rw [count_cut b s] at this
 have e:(Lib.splitB ⟨#[b]⟩ 0 (Lib.countB s ⟨#[b]⟩) s).map Value.string = (cutL b s.data.toList).map fun l => Value.string (mk l):=by
  rw [← split_cut b s,List.map_map]
  refine List.map_congr_left fun x _ => ?_
  simp [mk_data]
 rw [e] at this
 exact this
set_option maxHeartbeats 800000 in
theorem readKind_no (s:ByteArray) (w:World) (hk:kindL s.data.toList = 0):Calls Tryz.prog 279 #[.string s] w fun e w' => e = .panicked wrong ∧ w = w':=by
 have key:∀ l:List UInt8,kindL l ≠ 0 → (s.toList == l) = false:=fun l hl => by
  rw [beq_eq_false_iff_ne]
  intro e
  rw [_root_.Go.ByteArray.toList_eq] at e
  rw [e] at hk
  exact hl hk
 have k1:=key [105,110,116] (by decide)
 have k2:=key [98,111,111,108] (by decide)
 have k3:=key [116,101,120,116] (by decide)
 have k4:=key [114,101,102] (by decide)
 have k5:=key [108,105,115,116] (by decide)
 clear key hk
 go_enter Tryz.func279,Tryz.ntmps279
 go_wp2
 exact ⟨rfl,rfl,rfl⟩
theorem kindOk_of (l:List UInt8) (h:kindL l ≠ 0):KindOk (mk l) (kindL l):=by
 unfold kindL at h ⊢
 unfold KindOk
 split
 · left;rename_i e;subst e;exact ⟨rfl,rfl⟩
 · split
   · right;left;rename_i e;subst e;exact ⟨rfl,rfl⟩
   · split
     · right;right;left;rename_i e;subst e;exact ⟨rfl,rfl⟩
     · split
       · right;right;right;left;rename_i e;subst e;exact ⟨rfl,rfl⟩
       · split
         · right;right;right;right;rename_i e;subst e;exact ⟨rfl,rfl⟩
         · rename_i h1 h2 h3 h4 h5
           rw [if_neg h1,if_neg h2,if_neg h3,if_neg h4,if_neg h5] at h
           exact absurd rfl h
set_option maxHeartbeats 800000 in
theorem readField_any (word:List UInt8) (m:Int) (w:World) (hsz:word.length < 500) (hm:w.cell? ⟨3,0,none⟩ = some (.int .i64 m)) :
 Calls Tryz.prog 247 #[.string (mk word)] w fun e w' => ((∃ f,fieldR word = some f ∧ e = .returned (.agg #[.string (mk f.1),.int .i64 (f.2:Int)])) ∨ (fieldR word = none ∧ e = .panicked wrong)) ∧ Below w.heap.size w w':=by
 rw [← fieldL_eq]
 have hsz':(mk word).size < 500:=by rw [size_mk];exact hsz
 by_cases hn:nameL (Lib.cut word [58]).1 = true
 · by_cases hk:kindL (Lib.cut word [58]).2.1 = 0
   · have hf:fieldL word = none:=by unfold fieldL;rw [if_neg (fun h => h.2 hk)]
     have h0:3 < w.heap.size:=World.block_lt_of_cell? w ⟨3,0,none⟩ hm
     have HC:Hid (∀ o:Obj,Calls Tryz.prog 278 #[.string (mk word),.string ⟨#[58]⟩] (w.alloc o) fun e w' => e = .returned (.tuple #[.string (mk (Lib.cut word [58]).1),.string (mk (Lib.cut word [58]).2.1),.bool (Lib.cut word [58]).2.2]) ∧ ∃ n,w' = (w.alloc o).drewN n):=fun o => by
      have:=Tryz.strings_Cut (mk word) ⟨#[58]⟩ m (w.alloc o) (by omega) ((World.cell?_alloc_lt w o ⟨3,0,none⟩ h0).trans hm)
      rw [data_mk] at this
      exact this
     have HNm:Hid (NameOk (mk (Lib.cut word [58]).1)):=(nameL_ok _).1 (by rw [data_mk];exact hn)
     have HKd:Hid (kindL (mk (Lib.cut word [58]).2.1).data.toList = 0):=by show _ = _;rw [data_mk];exact hk
     have HF:Hid (fieldL word = none):=hf
     clear hf hk hn hm
     generalize mk (Lib.cut word [58]).1 = nm at HC HNm
     generalize mk (Lib.cut word [58]).2.1 = kd at HC HKd
     generalize (Lib.cut word [58]).2.2 = fd at HC
     go_enter Tryz.func247,Tryz.ntmps247
     go_wp2_with fail
     refine Calls.mono (HC.out _) ?_
     rintro e w1 ⟨rfl,n1,rfl⟩
     go_wp2_with fail
     refine (readName_ok nm _ HNm.out).mono ?_
     rintro e w2 ⟨rfl,hb⟩
     have HB:Hid (Below w.heap.size w w2):=(below_drewN ((Below.refl _ _).alloc (Nat.le_refl _) _) _).trans (hb.mono (by simp))
     clear hb
     go_wp2_with fail
     refine (readKind_no kd _ HKd.out).mono ?_
     rintro e w3 ⟨rfl,rfl⟩
     go_wp2_with fail
     exact ⟨rfl,Or.inr ⟨HF.out,rfl⟩,HB.out⟩
   · have hf:fieldL word = some ((Lib.cut word [58]).1,kindL (Lib.cut word [58]).2.1):=by unfold fieldL;rw [if_pos ⟨hn,hk⟩]
     refine (readField_ok (mk word) (mk (Lib.cut word [58]).1) (kindL (Lib.cut word [58]).2.1) m w hm ⟨(nameL_ok _).1 (by rw [data_mk];exact hn),hsz',mk (Lib.cut word [58]).2.1,kindOk_of _ hk,by rw [data_mk,data_mk],by rw [data_mk,data_mk]⟩).mono fun e w' ⟨he,hb⟩ => ⟨Or.inl ⟨_,hf,he⟩,hb⟩
 · have hf:fieldL word = none:=by unfold fieldL;rw [if_neg (fun h => hn h.1)]
   have h0:3 < w.heap.size:=World.block_lt_of_cell? w ⟨3,0,none⟩ hm
   have HC:Hid (∀ o:Obj,Calls Tryz.prog 278 #[.string (mk word),.string ⟨#[58]⟩] (w.alloc o) fun e w' => e = .returned (.tuple #[.string (mk (Lib.cut word [58]).1),.string (mk (Lib.cut word [58]).2.1),.bool (Lib.cut word [58]).2.2]) ∧ ∃ n,w' = (w.alloc o).drewN n):=fun o => by
    have:=Tryz.strings_Cut (mk word) ⟨#[58]⟩ m (w.alloc o) (by omega) ((World.cell?_alloc_lt w o ⟨3,0,none⟩ h0).trans hm)
    rw [data_mk] at this
    exact this
   have HNm:Hid (¬ NameOk (mk (Lib.cut word [58]).1)):=fun h => hn (by have:=(nameL_ok _).2 h;rw [data_mk] at this;exact this)
   have HZ:Hid ((mk (Lib.cut word [58]).1).size ≤ 1000000000):=by
    show _ ≤ _
    rw [size_mk]
    have:(Lib.cut word [58]).1.length ≤ word.length:=by
     unfold Lib.cut
     split
     · simp [List.length_take];omega
     · simp
    omega
   have HF:Hid (fieldL word = none):=hf
   clear hf hn hm
   generalize mk (Lib.cut word [58]).1 = nm at HC HNm HZ
   generalize mk (Lib.cut word [58]).2.1 = kd at HC
   generalize (Lib.cut word [58]).2.2 = fd at HC
   go_enter Tryz.func247,Tryz.ntmps247
   go_wp2_with fail
   refine Calls.mono (HC.out _) ?_
   rintro e w1 ⟨rfl,n1,rfl⟩
   go_wp2_with fail
   refine (readName_no nm _ HZ.out HNm.out).mono ?_
   rintro e w2 ⟨rfl,rfl⟩
   go_wp2_with fail
   exact ⟨rfl,Or.inr ⟨HF.out,rfl⟩,below_drewN ((Below.refl _ _).alloc (Nat.le_refl _) _) _⟩
def colArr (sl:Nat → Value):Array Value:=#[sl 0,sl 1,sl 2,sl 3,sl 4,sl 5]
theorem colArr_get (sl:Nat → Value) (k:Nat) (hk:k < 6):(colArr sl)[k]? = some (sl k):=by
 have h:k = 0 ∨ k = 1 ∨ k = 2 ∨ k = 3 ∨ k = 4 ∨ k = 5:=by omega
 rcases h with rfl | rfl | rfl | rfl | rfl | rfl <;> rfl
set_option maxHeartbeats 4000000 in
set_option maxRecDepth 100000 in
theorem each_any (n:Nat) (cap:Array Value) (tb:Nat) (sl:Nat → Value) (cs:Nat → List Value) (Inv:Nat → Nat → World → Prop) (w:World) (hrun:∀ args w,(callFunc n args).run Tryz.prog w = .ok (.enter n args) w)
 (hc:∀ k,k < 6 → w.cell? ⟨tb,1 + k,none⟩ = some (sl k))
 (hsl:∀ k,k < 6 → (sl k = .slice none 0 0 ∧ cs k = []) ∨ ∃ g c,sl k = .slice (some ⟨g,0,none⟩) (cs k).length c ∧ (cs k).length ≤ c ∧ (cs k).length ≤ 100 ∧ ∀ f W,Inv k f W → ∀ j (h:j < (cs k).length),W.cell? ⟨g,j,none⟩ = some (cs k)[j])
 (h0:Inv 0 0 w) (hnext:∀ k W,k < 6 → Inv k (cs k).length W → Inv (k + 1) 0 W)
 (hstep:∀ k f (_:k < 6) (hf:f < (cs k).length) W,Inv k f W → Calls Tryz.prog n (#[.int .i64 k,.int .i64 f,(cs k)[f]] ++ cap) W fun e W' => e = .returned (.tuple #[]) ∧ Inv k (f + 1) W') :
 Calls Tryz.prog 124 #[.pointer (some ⟨tb,0,none⟩),.func (.func n) #[] cap] w fun e w' => e = .returned (.tuple #[]) ∧ Inv 6 0 w':=by
 have c1:=hc 0 (by omega);have c2:=hc 1 (by omega);have c3:=hc 2 (by omega);have c4:=hc 3 (by omega);have c5:=hc 4 (by omega);have c6:=hc 5 (by omega)
 have HSl:Hid _:=hsl
 have HNx:Hid _:=hnext
 have HSt:Hid _:=hstep
 have H0:Hid (Inv 0 0 w):=h0
 clear hc hsl hnext hstep h0
 go_enter Tryz.func124,Tryz.ntmps124
 go_wp2
 go_loopw [12] (fun t wr => ∃ k:Nat,k ≤ 6 ∧ t = .int .i64 k ∧ Hid (Inv k 0 wr)) (fun t _ => 6 - (intOf t).toNat)
 case atStart => exact ⟨0,by omega,rfl,H0⟩
 case round =>
  obtain ⟨k,hk,rfl,HI⟩:=hrel
  by_cases hlt:k < 6
  · have hid:∀ w,(Instr.index 202 (.agg #[sl 0,sl 1,sl 2,sl 3,sl 4,sl 5]) (.int .i64 k)).run Tryz.prog w = .ok (sl k) w:=fun w => index147 _ k hlt _ (colArr_get sl k hlt) w
    rcases HSl.out k hlt with ⟨h1,h2⟩ | ⟨g,c,h1,h2,h3,h4⟩
    · rw [h1] at hid
      have HI2:Hid (Inv (k + 1) 0 wr):=HNx.out k wr hlt (by rw [h2];exact HI.out)
      clear h1 h2
      go_wp2
      refine wp_loop_rounds 1 ?_
      rw [rounds_succ]
      go_wp2
      go_roundw
      case rel => exact ⟨k + 1,by omega,by go_num,HI2⟩
      case measure => simp [intOf];omega
    · rw [h1] at hid
      obtain ⟨m,hm⟩:∃ m,m = (cs k).length:=⟨_,rfl⟩
      have HM:Hid (m = (cs k).length):=hm
      have HR:Hid _:=h4
      rw [← hm] at hid h2 h3
      have hdk:decide ((k:Int) < 6) = true:=decide_eq_true (by omega)
      clear h1 h4 hm
      go_wp2
      go_loopw [18] (fun t wk => ∃ f:Nat,f ≤ m ∧ t = .int .i64 f ∧ Hid (Inv k f wk)) (fun t _ => m - (intOf t).toNat)
      case atStart => exact ⟨0,by omega,rfl,HI⟩
      case round =>
       obtain ⟨f,hf,rfl,HF⟩:=hrel
       by_cases hfm:f < m
       · have hfl:f < (cs k).length:=by rw [← HM.out];exact hfm
         have cc:=HR.out f _ HF.out f hfl
         have HC:Hid (Calls Tryz.prog n (#[.int .i64 k,.int .i64 f,(cs k)[f]] ++ cap) wr fun e W' => e = .returned (.tuple #[]) ∧ Inv k (f + 1) W'):=HSt.out k f hlt hfl _ HF.out
         generalize (cs k)[f] = cv at cc HC
         go_wp2_with (refine HC.out.mono ?_;rintro e w2 ⟨rfl,hi2⟩;have HI2:Hid (Inv k (f + 1) w2):=hi2;clear hi2)
         go_roundw
         case rel => exact ⟨f + 1,by omega,by go_num,HI2⟩
         case measure => simp [intOf];omega
       · obtain rfl:f = m:=by omega
         have HI2:Hid (Inv (k + 1) 0 wr):=HNx.out k _ hlt (by rw [← HM.out];exact HF.out)
         go_wp2_with fail
         go_roundw
         case rel => exact ⟨k + 1,by omega,by go_num,HI2⟩
         case measure => simp [intOf];omega
  · go_wp2
    go_end0
    obtain rfl:k = 6:=by omega
    exact ⟨rfl,HI.out⟩
end Go.Proofs.YthkbeaffkcfgiabGreatDoor
