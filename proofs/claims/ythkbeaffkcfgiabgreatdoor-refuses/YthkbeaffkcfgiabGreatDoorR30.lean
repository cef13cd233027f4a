import Derived.Deep.RegionLaw
import Derived.Test.YthkbeaffkcfgiabGreatDoorR29
import Derived.Test.YthkbeaffkcfgiabGreatDoorR21
set_option linter.unusedSimpArgs false
set_option linter.unusedVariables false
namespace Go.Proofs.YthkbeaffkcfgiabGreatDoor
open Go.RowKit
def TxAt (w:World) (B:Nat) (v:Value) (l:List UInt8):Prop:=w.ownsRow B 5 1 v l.length (Lib.byteCells l)
def IsU8 (w:World) (j:Nat):Prop:=∃ cs,w.heap[j]? = some (.cells cs 5 (0,0))
structure Kp (B:Nat) (w w':World):Prop extends Below B w w' where
 others:Lib.OthersKept 5 none w w'
theorem Kp.refl (B:Nat) (w:World):Kp B w w:=⟨Below.refl _ _,Lib.OthersKept.refl _ _ _⟩
theorem Kp.trans {B:Nat} {a c d:World} (h:Kp B a c) (k:Kp B c d):Kp B a d:=⟨h.toBelow.trans k.toBelow,h.others.trans k.others⟩
theorem Kp.alloc {B:Nat} {a w:World} (h:Kp B a w) (hB:B ≤ w.heap.size) (o:Obj):Kp B a (w.alloc o):=⟨h.toBelow.alloc hB o,h.others.alloc o⟩
theorem Kp.drew {B:Nat} {a w:World} (h:Kp B a w):Kp B a w.drew:=⟨h.toBelow.drew,h.others.drew⟩
theorem Kp.grown {B:Nat} {a w w':World} {row:Option Nat} (h:Kp B a w) (hg:w.grownBy w' row) (hB:B ≤ w.heap.size) (hr:∀ j,row = some j → B ≤ j ∧ IsU8 w j):Kp B a w':=⟨h.toBelow.grown hg hB (fun j hj => (hr j hj).1),h.others.grown hg (fun j hj => by obtain ⟨cs,q⟩:=(hr j hj).2;exact ⟨cs,(0,0),q⟩)⟩
theorem Kp.kept {B:Nat} {w w':World} (h:Kp B w w') {j:Nat} {cs:Array Value} {t:TypeId} {fz:Nat × Nat} (hj:w.heap[j]? = some (.cells cs t fz)) (ht:t ≠ 5):w'.heap[j]? = some (.cells cs t fz):=h.others j _ hj (by simp) (fun c z e => by simp at e;exact ht e.2.1)
def WEnds (w:World) (B:Nat) (l x:List UInt8) (e:Ending) (w':World):Prop:=∃ v',e = .returned v' ∧ TxAt w' B v' (l ++ x) ∧ Kp B w w'
abbrev PowB (B:Nat) (w:World):Prop:=Lib.TabBelow Tryz.prog B w "internal/strconv.uint64pow10" .u64 Lib.pow10Tab
theorem byteCells_append (a b:List UInt8):Lib.byteCells (a ++ b) = Lib.byteCells a ++ Lib.byteCells b:=by simp [Lib.byteCells]
theorem TxAt.form {w:World} {B:Nat} {v:Value} {l:List UInt8} (h:TxAt w B v l):∃ a c,v = .slice a l.length c:=own_form h
set_option maxHeartbeats 1600000 in
theorem appendDecimal_any (B:Nat) (v:Value) (l:List UInt8) (i:Int) (w:World) (h0:-9223372036854775808 ≤ i) (h1:i ≤ 9223372036854775807) (hT:TxAt w B v l) (hB:B ≤ w.heap.size) (hl:l.length ≤ 1000000) (hP:PowB B w) :
 Calls Tryz.prog 256 #[v,.int .i64 i] w (WEnds w B l (Lib.itoa i)):=by
 have HA:Hid (Calls Tryz.prog 280 #[v,.int .i64 i,.int .i64 10] w (WEnds w B l (Lib.itoa i))):=by
  refine (Tryz.strconv_AppendInt_10 B l.length i h0 h1 v (Lib.byteCells l) w hT hB (by omega) hP).mono ?_
  rintro e w' ⟨v',rfl,ho,hb,hok⟩
  refine ⟨v',rfl,?_,⟨hb,hok⟩⟩
  unfold TxAt
  rw [byteCells_append,List.length_append]
  exact ho
 obtain ⟨a,c,rfl⟩:=hT.form
 clear hT hP
 generalize Lib.itoa i = x at HA ⊢
 generalize l.length = n at HA ⊢
 go_enter Tryz.func256,Tryz.ntmps256
 go_wp2_with fail
 refine Calls.mono HA.out ?_
 rintro e w1 ⟨v',rfl,hT,hb⟩
 obtain ⟨a',c',rfl⟩:=hT.form
 have HT:Hid (TxAt w1 B (.slice a' (l ++ x).length c') (l ++ x)):=hT
 clear hT
 generalize (l ++ x).length = n2 at HT ⊢
 go_wp2_with fail
 go_ret
 exact ⟨_,rfl,HT.out,hb⟩
theorem tx_u8 {w:World} {B:Nat} {v:Value} {l:List UInt8} (h:TxAt w B v l):∀ j,v.ownBlock = some j → B ≤ j ∧ IsU8 w j:=fun j hj => by
 refine ⟨(World.ownsRow.lt h j hj).1,?_⟩
 rcases h.2 with ⟨q,_⟩ | ⟨g,cap,cur,q,_,q3,_⟩
 · rw [q] at hj;cases hj
 · rw [q] at hj;simp [Value.ownBlock] at hj;subst hj;exact ⟨cur,q3⟩
theorem txAt_more {w w6:World} {B:Nat} {v v':Value} {l x:List UInt8} {o:Obj} (h:TxAt w B v l) (hB:B ≤ w.heap.size) (h6:w6.ownsRow B 5 1 v' (l.length + x.length) (Lib.byteCells l ++ Lib.byteCells x)) (hg:(w.alloc o).grownBy w6 v.ownBlock):TxAt w6 B v' (l ++ x) ∧ Kp B w w6:=by
 refine ⟨?_,?_⟩
 · unfold TxAt
   rw [byteCells_append,List.length_append]
   exact h6
 · exact Kp.grown ((Kp.refl _ _).alloc hB _) hg (by simp;omega) (fun j hj => by
    obtain ⟨q1,cs,q2⟩:=tx_u8 h j hj
    exact ⟨q1,cs,(Below.heap_alloc _ _ _ (Array.getElem?_eq_some_iff.1 q2).1).trans q2⟩)
set_option maxHeartbeats 1600000 in
set_option maxRecDepth 20000 in
theorem appendBool_any (B:Nat) (v:Value) (l:List UInt8) (i:Int) (w:World) (hT:TxAt w B v l) (hB:B ≤ w.heap.size) (hl:l.length ≤ 1000000) :
 Calls Tryz.prog 257 #[v,.int .i64 i] w (WEnds w B l [if i = 0 then 102 else 116]):=by
 obtain ⟨i0,hi0,hz0,hz1,hz2⟩:=info_parts Tryz.info5
 obtain ⟨a,c,rfl⟩:=hT.form
 have HT:Hid (TxAt w B (.slice a l.length c) l):=hT
 clear hT
 obtain ⟨n,hn⟩:∃ n,n = l.length:=⟨_,rfl⟩
 rw [← hn] at HT hl ⊢
 have HN:Hid (n = l.length):=hn
 have HO:Hid (w.ownsRow B 5 1 (.slice a n c) n (Lib.byteCells l)):=by have:=HT.out;unfold TxAt at this;rw [← hn] at this;exact this
 clear hn
 by_cases h:i = 0
 · rw [if_pos h]
   subst h
   go_enter Tryz.func257,Tryz.ntmps257
   go_wp2_with (at_builtin;refine wpList_append_own_at _ rfl _ _ 166 rfl B 5 i0 _ 1 1 Tryz.underlying166 hi0 hz0 hz1 hz2 rfl (by decide) _ _ _ rfl (HO.out.alloc _) ⟨w.heap.size,0,none⟩ 1 1 [.int .u8 102] rfl rfl new_one (fun u hu => by simp at hu;rw [hu];rfl) (by unfold maxLen;omega) (by omega) (by simp;omega) ?_;intro v' w6 hown6 hgrow6 _ _;have HM:Hid (TxAt w6 B v' (l ++ [102]) ∧ Kp B w w6):=txAt_more HT.out hB (by rw [← HN.out];exact hown6) hgrow6;obtain ⟨sa',sc',rfl⟩:=own_form hown6;clear hown6 hgrow6)
   go_ret
   exact ⟨_,rfl,HM.out.1,HM.out.2⟩
 · rw [if_neg h]
   go_enter Tryz.func257,Tryz.ntmps257
   go_wp2_with (at_builtin;refine wpList_append_own_at _ rfl _ _ 166 rfl B 5 i0 _ 1 1 Tryz.underlying166 hi0 hz0 hz1 hz2 rfl (by decide) _ _ _ rfl (HO.out.alloc _) ⟨w.heap.size,0,none⟩ 1 1 [.int .u8 116] rfl rfl new_one (fun u hu => by simp at hu;rw [hu];rfl) (by unfold maxLen;omega) (by omega) (by simp;omega) ?_;intro v' w6 hown6 hgrow6 _ _;have HM:Hid (TxAt w6 B v' (l ++ [116]) ∧ Kp B w w6):=txAt_more HT.out hB (by rw [← HN.out];exact hown6) hgrow6;obtain ⟨sa',sc',rfl⟩:=own_form hown6;clear hown6 hgrow6)
   go_ret
   exact ⟨_,rfl,HM.out.1,HM.out.2⟩
theorem PowB.on {B:Nat} {w w1:World} (h:PowB B w) (hb:Kp B w w1):PowB B w1:=Lib.TabBelow.on h hb.toBelow
set_option maxHeartbeats 1600000 in
set_option maxRecDepth 20000 in
theorem appendRef_any (B:Nat) (v:Value) (l:List UInt8) (i:Nat) (w:World) (hi:i ≤ 1000) (hT:TxAt w B v l) (hB:B ≤ w.heap.size) (hl:l.length ≤ 1000000 - 1) (hP:PowB B w) :
 Calls Tryz.prog 259 #[v,.int .i64 (i:Int)] w (WEnds w B l (if i = 0 then [45] else 64 :: Lib.itoa ((i:Int) - 1))):=by
 obtain ⟨i0,hi0,hz0,hz1,hz2⟩:=info_parts Tryz.info5
 obtain ⟨a,c,rfl⟩:=hT.form
 have HT:Hid (TxAt w B (.slice a l.length c) l):=hT
 have HP:Hid (PowB B w):=hP
 clear hT hP
 obtain ⟨n,hn⟩:∃ n,n = l.length:=⟨_,rfl⟩
 rw [← hn] at HT hl ⊢
 have HN:Hid (n = l.length):=hn
 have HO:Hid (w.ownsRow B 5 1 (.slice a n c) n (Lib.byteCells l)):=by have:=HT.out;unfold TxAt at this;rw [← hn] at this;exact this
 clear hn
 by_cases h:i = 0
 · rw [if_pos h]
   subst h
   go_enter Tryz.func259,Tryz.ntmps259
   go_wp2_with (at_builtin;refine wpList_append_own_at _ rfl _ _ 166 rfl B 5 i0 _ 1 1 Tryz.underlying166 hi0 hz0 hz1 hz2 rfl (by decide) _ _ _ rfl (HO.out.alloc _) ⟨w.heap.size,0,none⟩ 1 1 [.int .u8 45] rfl rfl new_one (fun u hu => by simp at hu;rw [hu];rfl) (by unfold maxLen;omega) (by omega) (by simp;omega) ?_;intro v' w6 hown6 hgrow6 _ _;have HM:Hid (TxAt w6 B v' (l ++ [45]) ∧ Kp B w w6):=txAt_more HT.out hB (by rw [← HN.out];exact hown6) hgrow6;obtain ⟨sa',sc',rfl⟩:=own_form hown6;clear hown6 hgrow6)
   go_ret
   exact ⟨_,rfl,HM.out.1,HM.out.2⟩
 · rw [if_neg h]
   have hz:¬ ((i:Int) = 0):=by omega
   have hw:IntKind.i64.wrap ((i:Int) - 1) = (i:Int) - 1:=by rw [IntKind.wrap_i64];omega
   go_enter Tryz.func259,Tryz.ntmps259
   go_wp2_with (at_builtin;refine wpList_append_own_at _ rfl _ _ 166 rfl B 5 i0 _ 1 1 Tryz.underlying166 hi0 hz0 hz1 hz2 rfl (by decide) _ _ _ rfl (HO.out.alloc _) ⟨w.heap.size,0,none⟩ 1 1 [.int .u8 64] rfl rfl new_one (fun u hu => by simp at hu;rw [hu];rfl) (by unfold maxLen;omega) (by omega) (by simp;omega) ?_;intro v' w6 hown6 hgrow6 _ _;have HM:Hid (TxAt w6 B v' (l ++ [64]) ∧ Kp B w w6):=txAt_more HT.out hB (by rw [← HN.out];exact hown6) hgrow6;obtain ⟨sa',sc',rfl⟩:=own_form hown6;clear hown6 hgrow6)
   refine (appendDecimal_any B _ (l ++ [64]) ((i:Int) - 1) w6 (by omega) (by omega) HM.out.1 (Nat.le_trans hB HM.out.2.size) (by rw [List.length_append,← HN.out];simp;omega) (HP.out.on HM.out.2)).mono ?_
   rintro e w7 ⟨v7,rfl,hT7,hb7⟩
   have HM7:Hid (TxAt w7 B v7 (l ++ 64 :: Lib.itoa ((i:Int) - 1)) ∧ Kp B w w7):=⟨by rw [List.append_assoc] at hT7;exact hT7,HM.out.2.trans hb7⟩
   obtain ⟨a7,c7,rfl⟩:=hT7.form
   clear hT7 hb7
   generalize ((l ++ [64]) ++ Lib.itoa ((i:Int) - 1)).length = n7 at HM7 ⊢
   go_wp2_with fail
   go_ret
   exact ⟨_,rfl,HM7.out.1,HM7.out.2⟩
theorem step_append_own_at {ops:Array Oper} {o:Oper} {a:Act} {w:World} {K:Act → World → Prop} {Q:Exit → Act → World → Prop} {E:Prop}
 (hg:o.guard = none) (s x:Operand) (t:TypeId) (hop:o.op = Op.call { callee:=Callee.builtin Builtin.append,args:=#[s,x],argTypes:=#[t,t] }) (base:Nat) (e:TypeId) (i:TypeInfo) (z:Value) (size bytes:Nat)
 (ht:Tryz.prog.underlying t = some (.slice e)) (hi:Tryz.prog.info? e = some i) (hz:i.zero = some z) (hsize:i.size = size) (hby:i.bytes = bytes) (hzs:z.cells.size = size) (hsz:0 < size)
 (v:Value) (n:Nat) (xs:List Value) (hs:a.eval s = v) (hown:w.ownsRow base e size v n xs)
 (ad:Addr) (m c:Nat) (news:List Value) (hx:a.eval x = .slice (some ad) m c) (hl:news.length = m * size) (hnews:∀ j u,news[j]? = some u → w.cell? (ad.add j) = some u) (h1:∀ u ∈ news,u.oneCell' = true)
 (h63:n + m ≤ maxLen) (hbytes:(n + m) * bytes ≤ 140737488355328) (hbase:base ≤ w.heap.size)
 (hK:∀ v' w',w'.ownsRow base e size v' (n + m) (xs ++ news) → w.grownBy w' v.ownBlock → (v'.ownBlock = v.ownBlock ∨ v'.ownBlock = some w.heap.size) → K (a.put o.dst v') w') :
 if Region.wanted o (yielded ops a.tmps) = true then Oper.wp Tryz.prog o a w K Q else E:=by
 have hw:Region.wanted o (yielded ops a.tmps) = true:=by simp [Region.wanted,hg]
 rw [if_pos hw]
 obtain ⟨v',w',hr,h2,h3,_,h5⟩:=run_append_own_at (P:=Tryz.prog) w base t o.type e i z size bytes ht hi hz hsize hby hzs hsz v n xs hown ad m c news hl hnews h1 h63 hbytes hbase
 unfold Oper.wp
 simp [execOp,hop,resolve,invoke,builtin,hs,hx,hr,Result.andThen]
 exact hK v' w' h2 h3 h5
def hexAt (k:Nat):UInt8:=([48,49,50,51,52,53,54,55,56,57,97,98,99,100,101,102]:List UInt8).getD k 0
theorem hexAt_get (k:Nat) (hk:k < 16):∀ h,(⟨#[48,49,50,51,52,53,54,55,56,57,97,98,99,100,101,102]⟩:ByteArray)[k]'h = hexAt k:=by
 intro h
 have hs:k = 0 ∨ k = 1 ∨ k = 2 ∨ k = 3 ∨ k = 4 ∨ k = 5 ∨ k = 6 ∨ k = 7 ∨ k = 8 ∨ k = 9 ∨ k = 10 ∨ k = 11 ∨ k = 12 ∨ k = 13 ∨ k = 14 ∨ k = 15:=by omega
 rcases hs with rfl | rfl | rfl | rfl | rfl | rfl | rfl | rfl | rfl | rfl | rfl | rfl | rfl | rfl | rfl | rfl <;> rfl
theorem low_all:∀ n:Fin 256,bits BinOp.and IntKind.u8 ((n.val:Nat):Int) 15 = ((n.val % 16:Nat):Int):=by decide +kernel
theorem low_bits (n:Nat) (h:n < 256):bits BinOp.and IntKind.u8 (n:Int) 15 = ((n % 16:Nat):Int):=low_all ⟨n,h⟩
def byteTx (b:UInt8):List UInt8:=if plainL b then [b] else [92,120,hexAt (b.toNat / 16),hexAt (b.toNat % 16)]
set_option maxHeartbeats 3200000 in
set_option maxRecDepth 20000 in
theorem appendByte_any (B:Nat) (v:Value) (l:List UInt8) (b:UInt8) (w:World) (hT:TxAt w B v l) (hB:B ≤ w.heap.size) (hl:l.length ≤ 1000000) :
 Calls Tryz.prog 281 #[v,.int .u8 b.toNat] w (WEnds w B l (byteTx b)):=by
 obtain ⟨i0,hi0,hz0,hz1,hz2⟩:=info_parts Tryz.info5
 obtain ⟨a,c,rfl⟩:=hT.form
 have HT:Hid (TxAt w B (.slice a l.length c) l):=hT
 clear hT
 obtain ⟨n,hn⟩:∃ n,n = l.length:=⟨_,rfl⟩
 rw [← hn] at HT hl ⊢
 have HN:Hid (n = l.length):=hn
 have HO:Hid (w.ownsRow B 5 1 (.slice a n c) n (Lib.byteCells l)):=by have:=HT.out;unfold TxAt at this;rw [← hn] at this;exact this
 have HPl:Hid _:=plain_any b w
 have hb:b.toNat < 256:=UInt8.toNat_lt b
 clear hn
 cases hp:plainL b with
 | true =>
  rw [hp] at HPl
  have HX:Hid (byteTx b = [b]):=by show _ = _;unfold byteTx;rw [if_pos hp]
  go_enter Tryz.func281,Tryz.ntmps281
  go_wp2_with fail
  refine Calls.mono HPl.out ?_
  rintro e w1 ⟨rfl,h1⟩
  obtain rfl:=h1.symm
  go_wp2_with (at_builtin;refine wpList_append_own_at _ rfl _ _ 166 rfl B 5 i0 _ 1 1 Tryz.underlying166 hi0 hz0 hz1 hz2 rfl (by decide) _ _ _ rfl (HO.out.alloc _) ⟨w.heap.size,0,none⟩ 1 1 [.int .u8 b.toNat] rfl rfl new_one (fun u hu => by simp at hu;rw [hu];rfl) (by unfold maxLen;omega) (by omega) (by simp;omega) ?_;intro v' w6 hown6 hgrow6 _ _;have HM:Hid (TxAt w6 B v' (l ++ [b]) ∧ Kp B w w6):=txAt_more HT.out hB (by rw [← HN.out];exact hown6) hgrow6;obtain ⟨sa',sc',rfl⟩:=own_form hown6;clear hown6 hgrow6)
  go_ret
  exact ⟨_,rfl,by rw [HX.out];exact HM.out.1,HM.out.2⟩
 | false =>
  rw [hp] at HPl
  obtain ⟨q,hq⟩:∃ q,q = b.toNat / 16:=⟨_,rfl⟩
  obtain ⟨r,hr⟩:∃ r,r = b.toNat % 16:=⟨_,rfl⟩
  have hq16:q < 16:=by omega
  have hr16:r < 16:=by omega
  have HX:Hid (byteTx b = [92,120,hexAt q,hexAt r]):=by show _ = _;unfold byteTx;rw [if_neg (by rw [hp];decide),hq,hr]
  have e1:((b.toNat:Nat):Int) / 16 = (q:Int):=by omega
  have e2:bits BinOp.and IntKind.u8 ((b.toNat:Nat):Int) 15 = (r:Int):=by rw [hr];exact low_bits _ hb
  have x1:=hexAt_get q hq16
  have x2:=hexAt_get r hr16
  have y1:(q:Int) < 16:=by omega
  have y2:(r:Int) < 16:=by omega
  clear hq hr hp
  go_enter Tryz.func281,Tryz.ntmps281
  go_wp2_with fail
  refine Calls.mono HPl.out ?_
  rintro e w1 ⟨rfl,h1⟩
  obtain rfl:=h1.symm
  go_wp2_with fail
  go_region_law (refine step_append_own_at rfl (.tmp 11) (.tmp 18) 166 rfl B 5 i0 (.int .u8 0) 1 1 Tryz.underlying166 hi0 hz0 hz1 hz2 rfl (by decide) (.slice a n c) n (Lib.byteCells l) (by simp [Act.eval]) (HO.out.alloc _) ⟨w.heap.size,0,none⟩ 4 4 (Lib.byteCells [92,120,hexAt q,hexAt r]) (by simp [Act.eval]) rfl (new_cells (w:=w) (t:=5) (Lib.byteCells [92,120,hexAt q,hexAt r])) (fun u hu => by simp [Lib.byteCells] at hu;rcases hu with rfl | rfl | rfl | rfl <;> rfl) (by unfold maxLen;omega) (by omega) (by simp;omega) ?_;intro v' w6 hown6 hgrow6 _)
  all_goals
   have HM:Hid (TxAt w6 B v' (l ++ [92,120,hexAt q,hexAt r]) ∧ Kp B w w6):=txAt_more HT.out hB (o:=.cells (Lib.byteCells [92,120,hexAt q,hexAt r]).toArray 5) (by rw [← HN.out];exact hown6) ⟨hgrow6.os,hgrow6.tape,hgrow6.output,hgrow6.size,hgrow6.block⟩
   obtain ⟨sa',sc',rfl⟩:=own_form hown6
   clear hown6 hgrow6
   go_simp
   go_wp2_with fail
   go_ret
   exact ⟨_,rfl,by rw [HX.out];exact HM.out.1,HM.out.2⟩
def quotedTx (s:List UInt8):List UInt8:=34 :: (s.flatMap byteTx ++ [34])
theorem byteTx_len (b:UInt8):(byteTx b).length ≤ 4:=by unfold byteTx;split <;> simp
theorem flat_len4:∀ s:List UInt8,(s.flatMap byteTx).length ≤ 4 * s.length
 | [] => by simp
 | b :: s => by
  have:=flat_len4 s
  have:=byteTx_len b
  simp only [List.flatMap_cons,List.length_append,List.length_cons]
  omega
set_option maxHeartbeats 3200000 in
set_option maxRecDepth 20000 in
theorem appendQuoted_any (B:Nat) (v:Value) (l s:List UInt8) (w:World) (hs:s.length ≤ 100) (hT:TxAt w B v l) (hB:B ≤ w.heap.size) (hl:l.length ≤ 900000) :
 Calls Tryz.prog 258 #[v,.string (mk s)] w (WEnds w B l (quotedTx s)):=by
 obtain ⟨i0,hi0,hz0,hz1,hz2⟩:=info_parts Tryz.info5
 obtain ⟨a,c,rfl⟩:=hT.form
 have HT:Hid (TxAt w B (.slice a l.length c) l):=hT
 clear hT
 obtain ⟨n,hn⟩:∃ n,n = l.length:=⟨_,rfl⟩
 rw [← hn] at HT hl ⊢
 have HN:Hid (n = l.length):=hn
 have HO:Hid (w.ownsRow B 5 1 (.slice a n c) n (Lib.byteCells l)):=by have:=HT.out;unfold TxAt at this;rw [← hn] at this;exact this
 clear hn
 obtain ⟨z,hz⟩:∃ z,z = s.length:=⟨_,rfl⟩
 have HZ:Hid (z = s.length):=hz
 have hsz:(mk s).size = z:=by rw [size_mk,hz]
 have hz100:z ≤ 100:=by omega
 clear hz hs
 go_enter Tryz.func258,Tryz.ntmps258
 go_wp2_with (at_builtin;refine wpList_append_own_at _ rfl _ _ 166 rfl B 5 i0 _ 1 1 Tryz.underlying166 hi0 hz0 hz1 hz2 rfl (by decide) _ _ _ rfl (HO.out.alloc _) ⟨w.heap.size,0,none⟩ 1 1 [.int .u8 34] rfl rfl new_one (fun u hu => by simp at hu;rw [hu];rfl) (by unfold maxLen;omega) (by omega) (by simp;omega) ?_;intro v' w6 hown6 hgrow6 _ _;have HM:Hid (TxAt w6 B v' (l ++ [34]) ∧ Kp B w w6):=txAt_more HT.out hB (by rw [← HN.out];exact hown6) hgrow6;obtain ⟨sa',sc',rfl⟩:=own_form hown6;clear hown6 hgrow6)
 go_loopw [0,11] (fun x t wr => ∃ (q:Nat) (sa:Option Addr) (m sc:Nat) (acc:List UInt8),q ≤ z ∧ t = .int .i64 q ∧ x = .slice sa m sc ∧ m ≤ 900001 + 4 * q ∧ Hid (m = acc.length ∧ acc = l ++ [34] ++ (s.take q).flatMap byteTx) ∧ Hid (TxAt wr B (.slice sa m sc) acc ∧ Kp B w wr)) (fun _ t _ => z - (intOf t).toNat)
 case atStart => exact ⟨0,_,_,_,l ++ [34],by omega,rfl,rfl,by omega,⟨by rw [List.length_append,← HN.out];rfl,by simp⟩,HM⟩
 case round =>
  obtain ⟨q,sa,m,sc,acc,hq,rfl,rfl,hm,HA,HX⟩:=hrel
  by_cases hlt:q < z
  · have hqs:q < s.length:=by rw [← HZ.out];exact hlt
    have htk:s.take (q + 1) = s.take q ++ [s[q]]:=List.take_succ_eq_append_getElem hqs
    have HC:Hid (Calls Tryz.prog 281 #[.slice sa m sc,.int .u8 s[q].toNat] wr (WEnds wr B acc (byteTx s[q]))):=appendByte_any B _ acc s[q] wr HX.out.1 (Nat.le_trans hB HX.out.2.size) (by rw [← HA.out.1];omega)
    have HE:Hid (acc ++ byteTx s[q] = l ++ [34] ++ (s.take (q + 1)).flatMap byteTx):=by
     show _ = _
     have e1:[s[q]].flatMap byteTx = byteTx s[q]:=by simp
     rw [htk,List.flatMap_append,e1,HA.out.2,List.append_assoc (l ++ [34])]
    have hb4:=byteTx_len s[q]
    clear htk
    generalize hbt:byteTx s[q] = bt at HC HE hb4
    clear hbt
    go_wp2_with fail
    refine Calls.mono HC.out ?_
    rintro e w8 ⟨v8,rfl,hT8,hb8⟩
    obtain ⟨a8,c8,rfl⟩:=hT8.form
    obtain ⟨m8,hm8⟩:∃ m8,m8 = (acc ++ bt).length:=⟨_,rfl⟩
    rw [← hm8] at hT8 ⊢
    have h8:m8 ≤ 900001 + 4 * (q + 1):=by rw [hm8,List.length_append,← HA.out.1];omega
    have HA8:Hid (m8 = (acc ++ bt).length ∧ acc ++ bt = l ++ [34] ++ (s.take (q + 1)).flatMap byteTx):=⟨hm8,HE.out⟩
    have HX8:Hid (TxAt w8 B (.slice a8 m8 c8) (acc ++ bt) ∧ Kp B w w8):=⟨hT8,HX.out.2.trans hb8⟩
    clear hT8 hb8 hm8
    go_wp2_with fail
    exact ⟨⟨q + 1,a8,m8,c8,acc ++ bt,by omega,by go_num,rfl,h8,HA8,HX8⟩,by simp [intOf];omega⟩
  · obtain rfl:q = z:=by omega
    have HO7:Hid (wr.ownsRow B 5 1 (.slice sa m sc) m (Lib.byteCells acc)):=by have:=HX.out.1;unfold TxAt at this;rw [← HA.out.1] at this;exact this
    have HE:Hid (acc = l ++ [34] ++ s.flatMap byteTx):=by have:=HA.out.2;rw [HZ.out,List.take_length] at this;exact this
    have hwr:B ≤ wr.heap.size:=Nat.le_trans hB HX.out.2.size
    go_wp2_with (at_builtin;refine wpList_append_own_at _ rfl _ _ 166 rfl B 5 i0 _ 1 1 Tryz.underlying166 hi0 hz0 hz1 hz2 rfl (by decide) _ _ _ rfl (HO7.out.alloc _) ⟨wr.heap.size,0,none⟩ 1 1 [.int .u8 34] rfl rfl new_one (fun u hu => by simp at hu;rw [hu];rfl) (by unfold maxLen;omega) (by omega) (by simp;omega) ?_;intro v' w8 hown6 hgrow6 _ _;have HM8:Hid (TxAt w8 B v' (acc ++ [34]) ∧ Kp B wr w8):=txAt_more HX.out.1 hwr (by rw [← HA.out.1];exact hown6) hgrow6;obtain ⟨sa',sc',rfl⟩:=own_form hown6;clear hown6 hgrow6)
    go_ret
    refine ⟨_,rfl,?_,HX.out.2.trans HM8.out.2⟩
    have e:l ++ quotedTx s = acc ++ [34]:=by rw [HE.out];simp [quotedTx]
    rw [e]
    exact HM8.out.1
end Go.Proofs.YthkbeaffkcfgiabGreatDoor
