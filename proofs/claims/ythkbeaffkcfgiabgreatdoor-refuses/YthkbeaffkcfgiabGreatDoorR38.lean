import Derived.Test.YthkbeaffkcfgiabGreatDoorR34
import Derived.Test.YthkbeaffkcfgiabGreatDoorR20
import Derived.Test.YthkbeaffkcfgiabGreatDoorR31
set_option linter.unusedSimpArgs false
set_option linter.unusedVariables false
namespace Go.Proofs.YthkbeaffkcfgiabGreatDoor
open Go.RowKit
def EntBlk (sl:Nat → Value) (lv:Nat → List Value) (j:Nat):Prop:=(∃ k,k < 6 ∧ (sl k).ownBlock = some j) ∨ ∃ (k i:Nat) (u:Value),k < 6 ∧ (lv k)[i]? = some u ∧ u.ownBlock = some j
theorem EntOwn.turnB {W W':World} {B:Nat} {e:Ent} {sl:Nat → Value} {lv:Nat → List Value} (h:EntOwn W B e sl lv) (hb:∀ j,EntBlk sl lv j → j < W.heap.size → W'.heap[j]? = W.heap[j]?):EntOwn W' B e sl lv:=fun k hk => by
 obtain ⟨h1,h2,h3⟩:=h k hk
 exact ⟨h1,own_turn h2 fun j hj hjl => hb j (Or.inl ⟨k,hk,hj⟩) hjl,fun i hi hi' => own_turn (h3 i hi hi') fun j hj hjl => hb j (Or.inr ⟨k,i,(lv k)[i],hk,List.getElem?_eq_getElem hi',hj⟩) hjl⟩
theorem FillAt.turns {w wr:World} {own:Nat → Nat} {b g lc N:Nat} {L:List CompS} {S:St} {i:Nat} {e:Ent} {hs:List (Int × Int)} {tb k f:Nat} (h:FillAt w own b g lc N L S i e hs tb k f wr):Turns w wr (fun j => 32 ≤ own j):=h.1
set_option maxHeartbeats 6400000 in
set_option maxRecDepth 100000 in
theorem fill_wt (own:Nat → Nat) (b g lc N i B sg scap:Nat) (lf:Int) (L:List CompS) (S:St) (e:Ent) (sl:Nat → Value) (lv:Nat → List Value) (hs:List (Int × Int)) (w:World) (hW:WT w own b g lc N L S) (hi:i < 20) (ht:S.tk i = true) (hcp:S.cp i = e.c) (hE:EntOwn w B e sl lv) (hEb:∀ j,EntBlk sl lv j → own j = 0)
 (hS:∀ j (h:j < hs.length),w.cell? ⟨sg,j * 2,none⟩ = some (.int .i64 hs[j].1) ∧ w.cell? ⟨sg,j * 2 + 1,none⟩ = some (.int .i64 hs[j].2)) (hsg:sg < w.heap.size) (hsg0:own sg = 0) (hsc:hs.length ≤ scap) (hsl:hs.length ≤ 20) (hfit:EntFit L hs.length e) :
 Calls Tryz.prog 116 #[.pointer (some ⟨b,0,none⟩),.agg #[.int .i64 ((i:Int) + 1),.int .i64 lf],.agg #[.int .u64 e.c,sl 0,sl 1,sl 2,sl 3,sl 4,sl 5],.slice (some ⟨sg,0,none⟩) hs.length scap] w fun e' w' => e' = .returned (.tuple #[]) ∧ Turns w w' (fun j => 32 ≤ own j) ∧ ∃ own' lv',(∀ j,j < w.heap.size → own' j = own j) ∧ WT w' own' b g lc N L { S with vals:=fillV L S.vals i e hs 6 0,lv:=lv' }:=by
 have hlt:=hW.lt
 obtain ⟨tb,hTO⟩:=hW.tabOf i hi ht
 obtain ⟨W1,hW1⟩:∃ W1,W1 = (w.alloc (.cells #[.int .i64 ((i:Int) + 1),.int .i64 lf] 46)).alloc (.cells #[.int .u64 e.c,sl 0,sl 1,sl 2,sl 3,sl 4,sl 5] 164):=⟨_,rfl⟩
 have hB1:Below w.heap.size w W1:=by rw [hW1];exact ((Below.refl _ _).alloc (Nat.le_refl _) _).alloc (by simp) _
 have hs1:W1.heap.size = w.heap.size + 2:=by rw [hW1];simp
 have hbh:W1.heap[w.heap.size]? = some (.cells #[.int .i64 ((i:Int) + 1),.int .i64 lf] 46 (0,0)):=by rw [hW1,Below.heap_alloc _ _ _ (by simp)];exact heap_alloc_at rfl _
 have hbe:W1.heap[w.heap.size + 1]? = some (.cells #[.int .u64 e.c,sl 0,sl 1,sl 2,sl 3,sl 4,sl 5] 164 (0,0)):=by rw [hW1];exact heap_alloc_at (by simp) _
 have HTab:Hid (Calls Tryz.prog 74 #[.pointer (some ⟨b,0,none⟩),.agg #[.int .i64 ((i:Int) + 1),.int .i64 lf]] W1 fun e' w2 => e' = .returned (.pointer (some ⟨tb,0,none⟩)) ∧ w2.cell? ⟨w.heap.size + 1,1,none⟩ = some (sl 0) ∧ w2.cell? ⟨w.heap.size + 1,2,none⟩ = some (sl 1) ∧ w2.cell? ⟨w.heap.size + 1,3,none⟩ = some (sl 2) ∧ w2.cell? ⟨w.heap.size + 1,4,none⟩ = some (sl 3) ∧ w2.cell? ⟨w.heap.size + 1,5,none⟩ = some (sl 4) ∧ w2.cell? ⟨w.heap.size + 1,6,none⟩ = some (sl 5) ∧
  Hid (w2.heap[w.heap.size]? = some (.cells #[.int .i64 ((i:Int) + 1),.int .i64 lf] 46 (0,0)) ∧ w.heap.size < w2.heap.size) ∧ Hid (Below w.heap.size w w2) ∧ Hid (FillAt w2 own b g lc N L S i e hs tb 0 0 w2)):=by
  refine (tableOf_wt own b g lc N i tb lf L S W1 (hW.below hB1) hi ht (hTO.below hB1)).mono ?_
  rintro e' w2 ⟨rfl,hb2⟩
  have hbw:Below w.heap.size w w2:=hB1.trans (hb2.mono hB1.size)
  have q:=(hb2.block (w.heap.size + 1) (by omega)).trans hbe
  have hz:=hb2.size
  refine ⟨rfl,by rw [cell_row q];rfl,by rw [cell_row q];rfl,by rw [cell_row q];rfl,by rw [cell_row q];rfl,by rw [cell_row q];rfl,by rw [cell_row q];rfl,⟨(hb2.block w.heap.size (by omega)).trans hbh,by omega⟩,hbw,⟨rfl,rfl,rfl,Nat.le_refl _,fun _ _ _ => rfl⟩,hTO.below hbw,own,S.lv,fun _ _ => rfl,?_⟩
  rw [fillV_zero]
  exact hW.below hbw
 have HKl:Hid (∀ k,k < 6 → (e.vs.getD k []).length ≤ 4):=fun k hk => by
  rcases (hfit.2 k hk).1 with ⟨_,q⟩ | ⟨_,q⟩
  · rw [q];exact hW.lay.kl k
  · rw [q];simp
 have HE:Hid (EntOwn w B e sl lv):=hE
 have HEb:Hid (∀ j,EntBlk sl lv j → own j = 0):=hEb
 have HS:Hid (∀ j (h:j < hs.length),w.cell? ⟨sg,j * 2,none⟩ = some (.int .i64 hs[j].1) ∧ w.cell? ⟨sg,j * 2 + 1,none⟩ = some (.int .i64 hs[j].2)):=hS
 have HFit:Hid (EntFit L hs.length e):=hfit
 have HT:Hid (S.tk i = true):=ht
 have HCp:Hid (S.cp i = e.c):=hcp
 obtain ⟨z,hz⟩:∃ z,z = hs.length:=⟨_,rfl⟩
 rw [← hz] at hsc hsl ⊢
 have HZ:Hid (z = hs.length):=hz
 have HSg:Hid (own sg = 0):=hsg0
 have ho:own w.heap.size = 0:=hW.out _ (Nat.le_refl _)
 have HOw:Hid (own w.heap.size = 0):=ho
 have hsls:∀ k,k < 6 → ∃ a m c,sl k = .slice a m c:=fun k hk => by obtain ⟨a,c,q⟩:=own_form (hE k hk).row;exact ⟨a,_,c,q⟩
 obtain ⟨a0,m0,c0,s0⟩:=hsls 0 (by omega)
 obtain ⟨a1,m1,c1,s1⟩:=hsls 1 (by omega)
 obtain ⟨a2,m2,c2,s2⟩:=hsls 2 (by omega)
 obtain ⟨a3,m3,c3,s3⟩:=hsls 3 (by omega)
 obtain ⟨a4,m4,c4,s4⟩:=hsls 4 (by omega)
 obtain ⟨a5,m5,c5,s5⟩:=hsls 5 (by omega)
 rw [hW1] at HTab
 clear hW hE hEb hS hfit ht hcp hz hsg0 hTO hB1 hs1 hbh hbe hW1 ho hsls
 generalize e.c = ec at HTab
 rw [s0,s1,s2,s3,s4,s5] at HTab
 rw [s0,s1,s2,s3,s4,s5]
 have HIx:Hid (∀ k:Nat,k < 6 → ∀ w,(Instr.index 162 (.agg #[.slice a0 m0 c0,.slice a1 m1 c1,.slice a2 m2 c2,.slice a3 m3 c3,.slice a4 m4 c4,.slice a5 m5 c5]) (.int .i64 k)).run Tryz.prog w = .ok (sl k) w):=fun k hk w => by
  refine index162 _ k hk _ ?_ w
  rw [← s0,← s1,← s2,← s3,← s4,← s5]
  exact colArr_get sl k hk
 clear s0 s1 s2 s3 s4 s5
 go_enter Tryz.func116,Tryz.ntmps116
 go_wp2_with (go_at_call 74;refine HTab.out.mono ?_;rintro e' w2 ⟨rfl,d1,d2,d3,d4,d5,d6,HBx,HB2,HF⟩)
 go_loopw [18] (fun t wr => ∃ k:Nat,k ≤ 6 ∧ t = .int .i64 k ∧ Hid (FillAt w2 own b g lc N L S i e hs tb k 0 wr)) (fun t _ => 6 - (intOf t).toNat)
 case atStart => exact ⟨0,by omega,rfl,HF⟩
 case round =>
  obtain ⟨k,hk,rfl,HI⟩:=hrel
  by_cases hlt:k < 6
  · have hid:=HIx.out k hlt
    obtain ⟨va,vc,hsk⟩:=own_form (HE.out k hlt).row
    rw [hsk] at hid
    obtain ⟨m,hm⟩:∃ m,m = (e.vs.getD k []).length:=⟨_,rfl⟩
    rw [← hm] at hid
    have HM:Hid (m = (e.vs.getD k []).length):=hm
    have hm4:m ≤ 4:=by rw [hm];exact HKl.out k hlt
    have HSk:Hid (sl k = .slice va m vc):=by rw [hm];exact hsk
    have hdk:decide ((k:Int) < 6) = true:=decide_eq_true (by omega)
    clear hm hsk
    go_wp2
    go_loopw [24] (fun t wk => ∃ f:Nat,f ≤ m ∧ t = .int .i64 f ∧ Hid (FillAt w2 own b g lc N L S i e hs tb k f wk)) (fun t _ => m - (intOf t).toNat)
    case atStart => exact ⟨0,by omega,rfl,HI⟩
    case round =>
     obtain ⟨f,hf,rfl,HF2⟩:=hrel
     by_cases hfm:f < m
     · have hfl:f < (e.vs.getD k []).length:=by rw [← HM.out];exact hfm
       have hxe:(e.vs.getD k [])[f] = svAt e k f:=by
        unfold svAt
        generalize e.vs.getD k [] = l at hfl
        simp [List.getD,hfl]
       obtain ⟨gv,cap,lv0,hs0,_,hgv,hcap,hlv0,hlo,hcell⟩:=(HE.out k hlt).cell f hfl
       rw [hxe] at hlo hcell
       have hs1:=HSk.out
       rw [hs0] at hs1
       simp only [Value.slice.injEq] at hs1
       obtain ⟨rfl,hm2,rfl⟩:=hs1
       have hz0:own gv = 0:=HEb.out gv (Or.inl ⟨k,hlt,by rw [hs0];rfl⟩)
       have hw2:=HB2.out.size
       have hKp:∀ j,j < w.heap.size → own j = 0 → wr.heap[j]? = w.heap[j]?:=fun j hj h0 => (HF2.out.turns.block j (by omega) (by omega)).trans (HB2.out.block j hj)
       have hgk:∀ o,wr.cell? ⟨gv,o,none⟩ = w.cell? ⟨gv,o,none⟩:=fun o => World.cell?_of_block (a:=⟨gv,o,none⟩) (hKp gv hgv hz0)
       have y0:wr.cell? ⟨gv,f * 6,none⟩ = some (.int .i64 (svAt e k f).k):=(hgk _).trans (hcell 0 (by omega))
       have y1:wr.cell? ⟨gv,f * 6 + 1,none⟩ = some (.int .i64 (svAt e k f).n):=(hgk _).trans (hcell 1 (by omega))
       have y2:wr.cell? ⟨gv,f * 6 + 2,none⟩ = some (.string (mk (svAt e k f).s)):=(hgk _).trans (hcell 2 (by omega))
       have y3:wr.cell? ⟨gv,f * 6 + 3,none⟩ = some (.int .i64 0):=(hgk _).trans (hcell 3 (by omega))
       have y4:wr.cell? ⟨gv,f * 6 + 4,none⟩ = some (.int .i64 0):=(hgk _).trans (hcell 4 (by omega))
       have y5:wr.cell? ⟨gv,f * 6 + 5,none⟩ = some lv0:=(hgk _).trans (hcell 5 (by omega))
       have hbx:wr.heap[w.heap.size]? = some (.cells #[.int .i64 ((i:Int) + 1),.int .i64 lf] 46 (0,0)):=(HF2.out.turns.block w.heap.size HBx.out.2 (by rw [HOw.out];omega)).trans HBx.out.1
       have b0:wr.cell? ⟨w.heap.size,0,none⟩ = some (.int .i64 ((i:Int) + 1)):=by rw [cell_row hbx];rfl
       have b1:wr.cell? ⟨w.heap.size,1,none⟩ = some (.int .i64 lf):=by rw [cell_row hbx];rfl
       have hwl:w.heap.size < wr.heap.size:=Nat.lt_of_lt_of_le HBx.out.2 HF2.out.turns.size
       have hsgk:∀ j (h:j < hs.length),wr.cell? ⟨sg,j * 2,none⟩ = some (.int .i64 hs[j].1) ∧ wr.cell? ⟨sg,j * 2 + 1,none⟩ = some (.int .i64 hs[j].2):=fun j hj => ⟨(World.cell?_of_block (a:=⟨sg,j * 2,none⟩) (hKp sg hsg HSg.out)).trans (HS.out j hj).1,(World.cell?_of_block (a:=⟨sg,j * 2 + 1,none⟩) (hKp sg hsg HSg.out)).trans (HS.out j hj).2⟩
       have HSet:Hid (∀ W,Below wr.heap.size wr W → Calls Tryz.prog 75 #[.pointer (some ⟨tb,0,none⟩),.agg #[.int .i64 ((i:Int) + 1),.int .i64 lf],.int .i64 k,.int .i64 f,.agg #[.int .i64 (svAt e k f).k,.int .i64 (svAt e k f).n,.string (mk (svAt e k f).s),.int .i64 (refOf hs (svAt e k f)).1,.int .i64 (refOf hs (svAt e k f)).2,lv0]] W fun e' w3 => e' = .returned (.tuple #[]) ∧ Hid (FillAt w2 own b g lc N L S i e hs tb k (f + 1) w3)):=fun W hW =>
        FillAt.set HF2.out hW hi HT.out HCp.out hlt HFit.out hfl lf lv0 B (own_turn hlo fun j hj hjl => (hW.block j (by omega)).trans (hKp j hjl (HEb.out j (Or.inr ⟨k,f,lv0,hlt,hlv0,hj⟩))))
       obtain ⟨_,hok,hrn⟩:=(HFit.out.2 k hlt).2 f hfl
       have hrr:=hok.ref
       obtain ⟨la,lb,hlf⟩:=own_form hlo
       clear hlo hcell hgk hKp hs0 hlv0 hok hxe hbx hm2
       generalize svAt e k f = x at y0 y1 y2 HSet hrn hrr hlf
       obtain ⟨xk,xn,xs,xl⟩:=x
       simp only at y0 y1 y2 hrn hrr hlf
       subst hlf
       by_cases h4:xk = 4 ∧ 0 < xn
       · obtain ⟨rfl,hn0⟩:=h4
         obtain ⟨y,hy⟩:∃ y:Nat,xn = (y:Int) + 1:=⟨(xn - 1).toNat,by omega⟩
         subst hy
         have hyl:y < hs.length:=by have:=hrn rfl;omega
         have hyz:(y:Int) < (z:Int):=by rw [HZ.out];omega
         have href:refOf hs ⟨4,(y:Int) + 1,xs,xl⟩ = hs[y]:=by
          unfold refOf
          rw [if_pos ⟨rfl,hn0⟩]
          have e:(((y:Int) + 1) - 1).toNat = y:=by omega
          simp only [e]
          simp [List.getD,hyl]
         obtain ⟨g0,g1⟩:=hsgk y hyl
         rw [href] at HSet
         generalize hs[y] = hh at g0 g1 HSet
         obtain ⟨hp,hq⟩:=hh
         simp only at g0 g1 HSet
         have hsgr:sg < wr.heap.size:=by omega
         have hsgn:sg ≠ wr.heap.size:=by omega
         have hwrp:IntKind.i64.wrap ((y:Int) + 1 - 1) = (y:Int):=by rw [IntKind.wrap_i64];omega
         clear hsgk hrn hrr href
         go_wp2_with (go_at_call 75;refine (HSet.out _ ?_).mono ?_;(first | exact (((Below.refl _ _).alloc (Nat.le_refl _) _).setCell (by simp) _).setCell (by simp) _ | exact (Below.refl _ _).alloc (Nat.le_refl _) _);rintro e' w3 ⟨rfl,HF3⟩)
         exact ⟨⟨f + 1,by omega,by go_num,HF3⟩,by simp [intOf];omega⟩
       · have href:refOf hs ⟨xk,xn,xs,xl⟩ = (0,0):=by
          unfold refOf
          exact if_neg h4
         rw [href] at HSet
         simp only at HSet
         clear hsgk hrn href
         by_cases hk4:xk = 4
         · subst hk4
           obtain rfl:xn = 0:=by have:=hrr rfl;omega
           clear hrr
           go_wp2_with (go_at_call 75;refine (HSet.out _ ?_).mono ?_;(first | exact (((Below.refl _ _).alloc (Nat.le_refl _) _).setCell (by simp) _).setCell (by simp) _ | exact (Below.refl _ _).alloc (Nat.le_refl _) _);rintro e' w3 ⟨rfl,HF3⟩)
           exact ⟨⟨f + 1,by omega,by go_num,HF3⟩,by simp [intOf];omega⟩
         · have hk4':¬ ((xk:Int) = 4):=by omega
           clear hrr
           go_wp2_with (go_at_call 75;refine (HSet.out _ ?_).mono ?_;(first | exact (((Below.refl _ _).alloc (Nat.le_refl _) _).setCell (by simp) _).setCell (by simp) _ | exact (Below.refl _ _).alloc (Nat.le_refl _) _);rintro e' w3 ⟨rfl,HF3⟩)
           exact ⟨⟨f + 1,by omega,by go_num,HF3⟩,by simp [intOf];omega⟩
     · obtain rfl:f = m:=by omega
       have HI2:Hid (FillAt w2 own b g lc N L S i e hs tb (k + 1) 0 wr):=FillAt.next (by rw [← HM.out];exact HF2.out)
       go_wp2_with fail
       go_roundw
       case rel => exact ⟨k + 1,by omega,by go_num,HI2⟩
       case measure => simp [intOf];omega
  · go_wp2
    go_end0
    obtain rfl:k = 6:=by omega
    obtain ⟨q1,_,own',lv',q2,q3⟩:=HI.out
    have:=HB2.out.size
    exact ⟨rfl,(Turns.ofBelow _ HB2.out).trans' q1,own',lv',fun j hj => q2 j (by omega),q3⟩
def freeB (bg:Nat → Nat) (tk:Nat → Bool) (i:Nat):Bool:=!tk i && decide (bg i < 3)
def roomN (bg:Nat → Nat) (tk:Nat → Bool) (k:Nat):Nat:=((List.range k).filter (freeB bg tk)).length
theorem roomN_succ (bg:Nat → Nat) (tk:Nat → Bool) (k:Nat):roomN bg tk (k + 1) = roomN bg tk k + (if freeB bg tk k then 1 else 0):=by
 unfold roomN
 rw [List.range_succ,List.filter_append,List.length_append]
 congr 1
 by_cases h:freeB bg tk k = true <;> simp [h]
theorem roomN_le (bg:Nat → Nat) (tk:Nat → Bool) (k:Nat):roomN bg tk k ≤ k:=by
 unfold roomN
 exact Nat.le_trans (List.length_filter_le _ _) (by simp)
set_option maxHeartbeats 1600000 in
set_option maxRecDepth 20000 in
theorem room_any (b:Nat) (bg:Nat → Nat) (tk:Nat → Bool) (cp:Nat → Nat) (w:World) (hP:PlacesAt w b bg tk cp) :
 Calls Tryz.prog 115 #[.pointer (some ⟨b,0,none⟩)] w fun e w' => e = .returned (.int .i64 (roomN bg tk 20)) ∧ w' = w:=by
 have HP:Hid (PlacesAt w b bg tk cp):=hP
 have HF:Hid (∀ i,i < 20 → Calls Tryz.prog 119 #[.pointer (some ⟨b,1 + i * 3,none⟩)] w fun e w' => e = .returned (.bool (freeB bg tk i)) ∧ w' = w):=fun i hi => by
  obtain ⟨a1,a2,_⟩:=hP.2 i hi
  cases ht:tk i with
  | true =>
    rw [ht] at a2
    have e:freeB bg tk i = false:=by unfold freeB;rw [ht];rfl
    rw [e]
    exact free_taken b _ w a2
  | false =>
    rw [ht] at a2
    have:=free_empty b (1 + i * 3) (bg i) w a1 a2
    have e:freeB bg tk i = decide ((bg i:Int) < 3):=by unfold freeB;rw [ht];simp;omega
    rw [e]
    exact this
 clear hP
 go_enter Tryz.func115,Tryz.ntmps115
 go_wp2_with fail
 go_loopw [3,7] (fun fr t wr => ∃ k:Nat,k ≤ 20 ∧ t = .int .i64 k ∧ fr = .int .i64 (roomN bg tk k) ∧ wr = w) (fun _ t _ => 20 - (intOf t).toNat)
 case atStart => exact ⟨0,by omega,rfl,rfl,rfl⟩
 case round =>
  obtain ⟨k,hk,rfl,rfl,rfl⟩:=hrel
  have hle:=roomN_le bg tk k
  by_cases hlt:k < 20
  · have HFk:Hid _:=HF.out k hlt
    cases hf:freeB bg tk k with
    | true =>
      have hsu:roomN bg tk (k + 1) = roomN bg tk k + 1:=by rw [roomN_succ,hf];rfl
      rw [hf] at HFk
      generalize roomN bg tk k = q at hsu hle ⊢
      have HSu:Hid (roomN bg tk (k + 1) = q + 1):=hsu
      clear hsu hf
      go_wp2_with fail
      refine Calls.mono HFk.out ?_
      rintro e w3 ⟨rfl,rfl⟩
      go_wp2_with fail
      exact ⟨⟨k + 1,by omega,by go_num,by rw [HSu.out];go_num,trivial⟩,by simp [intOf];omega⟩
    | false =>
      have hsu:roomN bg tk (k + 1) = roomN bg tk k:=by rw [roomN_succ,hf];rfl
      rw [hf] at HFk
      generalize roomN bg tk k = q at hsu hle ⊢
      have HSu:Hid (roomN bg tk (k + 1) = q):=hsu
      clear hsu hf
      go_wp2_with fail
      refine Calls.mono HFk.out ?_
      rintro e w3 ⟨rfl,rfl⟩
      go_wp2_with fail
      exact ⟨⟨k + 1,by omega,by go_num,by rw [HSu.out],trivial⟩,by simp [intOf];omega⟩
  · obtain rfl:k = 20:=by omega
    obtain ⟨q,hq⟩:∃ q,q = roomN bg tk 20:=⟨_,rfl⟩
    have HQ:Hid (q = roomN bg tk 20):=hq
    rw [← hq]
    clear hq
    go_wp2_with fail
    go_ret
    exact ⟨by rw [← HQ.out];rfl,rfl⟩
def firstFree (bg:Nat → Nat) (tk:Nat → Bool):Nat:=((List.range 20).find? (freeB bg tk)).getD 20
theorem firstFree_spec (bg:Nat → Nat) (tk:Nat → Bool) (h:1 ≤ roomN bg tk 20):firstFree bg tk < 20 ∧ freeB bg tk (firstFree bg tk) = true ∧ ∀ j,j < firstFree bg tk → freeB bg tk j = false:=by
 unfold firstFree
 cases e:(List.range 20).find? (freeB bg tk) with
 | none =>
   exfalso
   have h2:=List.find?_eq_none.1 e
   have:(List.range 20).filter (freeB bg tk) = []:=List.filter_eq_nil_iff.2 h2
   unfold roomN at h
   rw [this] at h
   simp at h
 | some i =>
   have h2:=List.find?_range_eq_some.1 e
   exact ⟨List.mem_range.1 h2.2.1,h2.1,fun j hj => by simpa using h2.2.2 j hj⟩
theorem shut_of (bg:Nat → Nat) (tk:Nat → Bool) (j:Nat) (h:freeB bg tk j = false):shutAt bg tk j:=by
 unfold freeB at h
 unfold shutAt
 cases ht:tk j with
 | true => exact Or.inl rfl
 | false => rw [ht] at h;simp at h;exact Or.inr h
theorem free_of (bg:Nat → Nat) (tk:Nat → Bool) (j:Nat) (h:freeB bg tk j = true):tk j = false ∧ bg j < 3:=by
 unfold freeB at h
 simpa using h
theorem roomN_spawn (bg:Nat → Nat) (tk:Nat → Bool) (i:Nat) (hi:i < 20) (h:freeB bg tk i = true):roomN (upd bg i (bg i + 1)) (upd tk i true) 20 + 1 = roomN bg tk 20:=by
 unfold roomN
 have e0:∀ q:Nat → Bool,(List.range 20).filter q = (List.range i).filter q ++ (if q i then [i] else []) ++ (List.range' (i + 1) (19 - i)).filter q:=fun q => by
  rw [range_split ⟨i,hi⟩,List.filter_append,List.filter_cons]
  cases q i <;> simp
 have hne:∀ j,j ≠ i → freeB (upd bg i (bg i + 1)) (upd tk i true) j = freeB bg tk j:=fun j hj => by simp [freeB,upd,hj]
 have hi':freeB (upd bg i (bg i + 1)) (upd tk i true) i = false:=by simp [freeB,upd]
 rw [e0,e0 (freeB bg tk),hi',h]
 have e1:(List.range i).filter (freeB (upd bg i (bg i + 1)) (upd tk i true)) = (List.range i).filter (freeB bg tk):=List.filter_congr fun x hx => hne x (by have:=List.mem_range.1 hx;omega)
 have e2:(List.range' (i + 1) (19 - i)).filter (freeB (upd bg i (bg i + 1)) (upd tk i true)) = (List.range' (i + 1) (19 - i)).filter (freeB bg tk):=List.filter_congr fun x hx => hne x (by have:=List.mem_range'_1.1 hx;omega)
 rw [e1,e2]
 simp
 omega
def spawnN (S:St) (cs:List Nat):Nat → St
 | 0 => S
 | j + 1 => (spawnN S cs j).spawn (firstFree (spawnN S cs j).bg (spawnN S cs j).tk) (cs.getD j 0)
def placeN (S:St) (cs:List Nat) (j:Nat):Nat:=firstFree (spawnN S cs j).bg (spawnN S cs j).tk
def handN (S:St) (cs:List Nat) (j:Nat):Int × Int:=((placeN S cs j:Int) + 1,((spawnN S cs j).bg (placeN S cs j):Int) + 1)
def handsN (S:St) (cs:List Nat) (j:Nat):List (Int × Int):=(List.range j).map (handN S cs)
theorem room_spawnN (S:St) (cs:List Nat):∀ j,j ≤ roomN S.bg S.tk 20 → roomN (spawnN S cs j).bg (spawnN S cs j).tk 20 + j = roomN S.bg S.tk 20
 | 0,_ => rfl
 | j + 1,h => by
   have ih:=room_spawnN S cs j (by omega)
   have hs:=firstFree_spec (spawnN S cs j).bg (spawnN S cs j).tk (by omega)
   have:=roomN_spawn (spawnN S cs j).bg (spawnN S cs j).tk _ hs.1 hs.2.1
   show roomN (upd (spawnN S cs j).bg _ _) (upd (spawnN S cs j).tk _ true) 20 + (j + 1) = _
   omega
theorem place_spec (S:St) (cs:List Nat) (j:Nat) (h:j < roomN S.bg S.tk 20):placeN S cs j < 20 ∧ (spawnN S cs j).tk (placeN S cs j) = false ∧ (spawnN S cs j).bg (placeN S cs j) < 3 ∧ ∀ i,i < placeN S cs j → shutAt (spawnN S cs j).bg (spawnN S cs j).tk i:=by
 have ih:=room_spawnN S cs j (by omega)
 have hs:=firstFree_spec (spawnN S cs j).bg (spawnN S cs j).tk (by omega)
 exact ⟨hs.1,(free_of _ _ _ hs.2.1).1,(free_of _ _ _ hs.2.1).2,fun i hi => shut_of _ _ _ (hs.2.2 i hi)⟩
theorem place_stays (S:St) (cs:List Nat) (j:Nat):∀ d,j + 1 + d ≤ roomN S.bg S.tk 20 → (spawnN S cs (j + 1 + d)).tk (placeN S cs j) = true ∧ (spawnN S cs (j + 1 + d)).cp (placeN S cs j) = cs.getD j 0
 | 0,_ => by
   show upd _ _ true _ = true ∧ upd _ _ _ _ = _
   exact ⟨upd_same _ _ _,upd_same _ _ _⟩
 | d + 1,h => by
   have ih:=place_stays S cs j d (by omega)
   have hp:=place_spec S cs (j + 1 + d) (by omega)
   have hne:placeN S cs j ≠ placeN S cs (j + 1 + d):=by
    intro e
    rw [e] at ih
    rw [hp.2.1] at ih
    cases ih.1
   refine ⟨(upd_ne _ _ _ hne).trans ih.1,(upd_ne _ _ _ hne).trans ih.2⟩
def fillN (L:List CompS) (S:St) (cs:List Nat) (sc:List Ent) (hs:List (Int × Int)) (V:Nat → Nat → Nat → FV):Nat → Nat → Nat → Nat → FV
 | 0 => V
 | j + 1 => fillV L (fillN L S cs sc hs V j) (placeN S cs j) (entAt sc j) hs 6 0
def setsOf (sc:List Ent):List Nat:=sc.map Ent.c
theorem setsOf_get (sc:List Ent) (j:Nat) (h:j < sc.length):(setsOf sc).getD j 0 = (entAt sc j).c:=by
 rw [entAt_get sc j h]
 simp [setsOf,List.getD,h]
theorem make29 (n:Nat) (h:n ≤ 20) (W:World):(Instr.makeSlice 29 (.int .i64 (n:Int)) (.int .i64 (n:Int))).run Tryz.prog W = .ok (.slice (some ⟨W.heap.size,0,none⟩) n n) (W.alloc (.cells (eCells (List.replicate n (0,0))).toArray 46)):=by
 obtain ⟨i9,hi,hz0,hz1,hz2⟩:=info_parts Tryz.info46
 have:=run_make (P:=Tryz.prog) W 29 46 i9 _ Tryz.underlying29 hi hz0 .i64 .i64 (n:Int) (n:Int) (by omega) (by omega) (by rw [hz2];omega) (by omega)
 rw [hz1] at this
 have e:madeCells (Value.agg #[.int .i64 0,.int .i64 0]).cells (n * 2) = (eCells (List.replicate n (0,0))).toArray:=by
  apply Array.ext
  · rw [size_madeCells];simp [eCells_length]
  · intro j h1 h2
    have a1:∀ u ∈ eCells (List.replicate n ((0:Int),(0:Int))),u = .int .i64 0:=fun u hu => by
     obtain ⟨z,hz,hu⟩:=List.mem_flatMap.1 hu
     have:=List.eq_of_mem_replicate hz
     subst this
     simp [hNews] at hu
     exact hu
    have a2:(madeCells (Value.agg #[.int .i64 0,.int .i64 0]).cells (n * 2))[j] = .int .i64 0:=by
     unfold madeCells
     have h:j % 2 = 0 ∨ j % 2 = 1:=by omega
     rcases h with h | h <;> simp [Value.cells,h]
    rw [a2]
    exact (a1 _ (by rw [List.getElem_toArray];exact List.getElem_mem _)).symm
 rw [← e]
 simpa using this
def setCells (m:Nat) (H:List (Int × Int)):List Value:=eCells (H ++ List.replicate (m - H.length) (0,0))
theorem setCells_next (m:Nat) (H:List (Int × Int)) (p l:Int) (h:H.length < m):((setCells m H).set (H.length * 2) (.int .i64 p)).set (H.length * 2 + 1) (.int .i64 l) = setCells m (H ++ [(p,l)]):=by
 unfold setCells
 have e:m - H.length = (m - (H ++ [(p,l)]).length) + 1:=by simp;omega
 rw [e,List.replicate_succ,List.append_assoc]
 simp only [eCells_append]
 have e2:eCells ((0,0) :: List.replicate (m - (H ++ [(p,l)]).length) (0,0)) = .int .i64 0 :: .int .i64 0 :: eCells (List.replicate (m - (H ++ [(p,l)]).length) (0,0)):=rfl
 have e3:∀ R,eCells ([(p,l)] ++ R) = .int .i64 p :: .int .i64 l :: eCells R:=fun _ => rfl
 rw [e2]
 have:=set_two (eCells H) (eCells (List.replicate (m - (H ++ [(p,l)]).length) (0,0))) (.int .i64 0) (.int .i64 0) (.int .i64 p) (.int .i64 l)
 rw [eCells_length] at this
 rw [this]
 rfl
theorem setCells_get (m:Nat) (H:List (Int × Int)) (j:Nat) (h:j < H.length):(setCells m H)[j * 2]? = some (.int .i64 H[j].1) ∧ (setCells m H)[j * 2 + 1]? = some (.int .i64 H[j].2):=by
 unfold setCells
 rw [eCells_append]
 have hl:=eCells_length H
 rw [List.getElem?_append_left (by omega),List.getElem?_append_left (by omega)]
 unfold eCells
 exact flat2_get (fun z:Int × Int => Value.int .i64 z.1) (fun z => Value.int .i64 z.2) H j h
structure SpawnAt (w:World) (own:Nat → Nat) (b g lc N sg m:Nat) (L:List CompS) (S:St) (cs:List Nat) (j:Nat) (wr:World):Prop where
 turns:Turns w wr (fun k => Tur own k ∨ k = sg)
 row:wr.heap[sg]? = some (.cells (setCells m (handsN S cs j)).toArray 46 (0,0))
 wt:∃ own',(∀ k,k < w.heap.size → own' k = own k) ∧ WT wr own' b g lc (N + j) L (spawnN S cs j)
theorem handsN_len (S:St) (cs:List Nat) (j:Nat):(handsN S cs j).length = j:=by simp [handsN]
theorem handsN_succ (S:St) (cs:List Nat) (j:Nat):handsN S cs (j + 1) = handsN S cs j ++ [handN S cs j]:=by simp [handsN,List.range_succ]
def SpawnPost (w:World) (own:Nat → Nat) (b g lc N sg m:Nat) (L:List CompS) (S:St) (cs:List Nat) (j:Nat) (hd:Int × Int) (e:Ending) (w':World):Prop :=
 e = .returned (.tuple #[.agg #[.int .i64 hd.1,.int .i64 hd.2],.int .i64 0]) ∧ w'.cell? ⟨sg,j * 2,none⟩ = some (.int .i64 0) ∧ w'.cell? ⟨sg,j * 2 + 1,none⟩ = some (.int .i64 0) ∧ w'.frozen? ⟨sg,j * 2,none⟩ = false ∧ w'.frozen? ⟨sg,j * 2 + 1,none⟩ = false ∧
     Hid (SpawnAt w own b g lc N sg m L S cs (j + 1) ((w'.setCell ⟨sg,j * 2,none⟩ (.int .i64 hd.1)).setCell ⟨sg,j * 2 + 1,none⟩ (.int .i64 hd.2)))
theorem SpawnAt.next {w wr W:World} {own:Nat → Nat} {b g lc N sg m j:Nat} {L:List CompS} {S:St} {cs:List Nat} (h:SpawnAt w own b g lc N sg m L S cs j wr) (hb:Below wr.heap.size wr W) (hj:j < m) (hN:N + m ≤ 1000) (hN1:1 ≤ N) (hroom:m ≤ roomN S.bg S.tk 20) (hsg:sg < w.heap.size) (hsg0:own sg = 0) (hsgb:b < sg) (hc:cs.getD j 0 < 64) :
 Calls Tryz.prog 58 #[.pointer (some ⟨b,0,none⟩),.int .u64 (cs.getD j 0:Int)] W (SpawnPost w own b g lc N sg m L S cs j (handN S cs j)):=by
 obtain ⟨hT,hrow,own',ho,hW⟩:=h
 obtain ⟨p1,p2,p3,p4⟩:=place_spec S cs j (by omega)
 refine (spawn_wt own' b g lc (N + j) (placeN S cs j) (cs.getD j 0) L (spawnN S cs j) W p1 hc (by omega) (by omega) (hW.below hb) p4 p2 p3).mono ?_
 rintro e w' ⟨rfl,t1,own2,t2,t3⟩
 have hsz:=hT.size
 have hsz2:=hb.size
 have hsz3:=t1.size
 have hnt:¬ Tur own' sg:=by unfold Tur;rw [ho sg hsg,hsg0];omega
 have hrw:w'.heap[sg]? = some (.cells (setCells m (handsN S cs j)).toArray 46 (0,0)):=(t1.block sg (by omega) hnt).trans ((hb.block sg (by omega)).trans hrow)
 have hHl:=handsN_len S cs j
 have hz:(setCells m (handsN S cs j)) = eCells (handsN S cs j) ++ eCells (List.replicate (m - j) (0,0)):=by unfold setCells;rw [eCells_append,hHl]
 have hel:=eCells_length (handsN S cs j)
 have hrep:List.replicate (m - j) ((0:Int),(0:Int)) = (0,0) :: List.replicate (m - j - 1) (0,0):=by rw [← List.replicate_succ];congr 1;omega
 have z0:(setCells m (handsN S cs j))[j * 2]? = some (.int .i64 0):=by
  rw [hz,List.getElem?_append_right (by omega),hel,hHl,Nat.sub_self,hrep];rfl
 have z1:(setCells m (handsN S cs j))[j * 2 + 1]? = some (.int .i64 0):=by
  rw [hz,List.getElem?_append_right (by omega),hel,hHl,show j * 2 + 1 - j * 2 = 1 by omega,hrep];rfl
 refine ⟨rfl,by rw [cell_row hrw];simpa using z0,by rw [cell_row hrw];simpa using z1,frozen_row hrw _,frozen_row hrw _,?_⟩
 obtain ⟨W4,hW4⟩:∃ W4,W4 = (w'.setCell ⟨sg,j * 2,none⟩ (.int .i64 (handN S cs j).1)).setCell ⟨sg,j * 2 + 1,none⟩ (.int .i64 (handN S cs j).2):=⟨_,rfl⟩
 rw [← hW4]
 have hs4:W4.heap.size = w'.heap.size:=by rw [hW4];simp [World.setCell]
 have h4:∀ k,k ≠ sg → W4.heap[k]? = w'.heap[k]?:=fun k hk => by rw [hW4,Below.heap_setCell _ _ _ _ hk,Below.heap_setCell _ _ _ _ hk]
 have hsg2:own2 sg = 0:=(t2 sg (by omega)).trans ((ho sg hsg).trans hsg0)
 refine ⟨?_,?_,own2,fun k hk => (t2 k (by omega)).trans (ho k hk),?_⟩
 · have hT2:Turns w w' (fun k => Tur own k ∨ k = sg):=hT.trans ⟨t1.os.trans hb.os,t1.tape.trans hb.tape,t1.output.trans hb.output,by omega,fun k hk hn => by
    rw [t1.block k (by omega) ?_,hb.block k hk]
    intro q
    refine hn ?_
    by_cases hq:k < w.heap.size
    · exact Or.inl (Or.inl (by unfold Tur at q ⊢;rw [ho k hq] at q;exact q))
    · exact Or.inr ⟨by omega,by omega⟩⟩
   rw [hW4]
   exact (hT2.set sg _ _ (fun _ => Or.inr rfl)).set sg _ _ (fun _ => Or.inr rfl)
 · rw [hW4,setCell_block _ (setCell_block _ hrw)]
   congr 2
   rw [handsN_succ,← setCells_next m (handsN S cs j) _ _ (by omega),hHl]
   simp
 · have:=t3.turn (W':=W4) (by omega) fun k hk hk2 => h4 k (by
    rintro rfl
    rcases hk2 with q | q
    · omega
    · omega)
   exact this
theorem txAt_own {w:World} {B:Nat} {v:Value} {l:List UInt8} (h:TxAt w B v l) (n:Nat) (hn:n = l.length):w.ownsRow B 5 1 v n (Lib.byteCells l):=by rw [hn];exact h
theorem new_two {w:World} {o:Obj} {u:Value} {t:TypeId}:∀ j v,[u][j]? = some v → ((w.alloc o).alloc (.cells #[u] t)).cell? ((⟨w.heap.size + 1,0,none⟩:Addr).add j) = some v:=by
 have h:=new_one (w:=w.alloc o) (u:=u) (t:=t)
 rw [World.size_alloc] at h
 exact h
set_option maxHeartbeats 6400000 in
set_option maxRecDepth 20000 in
theorem appendLine_any (c:CompS) (fs vv v:Value) (vs:List SV) (lvs:List Value) (l:List UInt8) (w0 w:World) (hc:CompOk c) (hF:FieldsN w0 fs c.2) (hV:ValsOwn w0 0 vv vs lvs) (hlen:vs.length = c.2.length) (hok:∀ x ∈ vs,SVOk x) (hb:Kp w0.heap.size w0 w) (hT:TxAt w w0.heap.size v l) (hl:l.length ≤ 700000) (hP:PowB w0.heap.size w0) :
 Calls Tryz.prog 148 #[v,.agg #[.string (mk c.1),fs],vv] w (WEnds w w0.heap.size l (lineTx c vs)):=by
 obtain ⟨i0,hi0,hz0,hz1,hz2⟩:=info_parts Tryz.info5
 obtain ⟨B,hB⟩:∃ B,B = w0.heap.size:=⟨_,rfl⟩
 rw [← hB] at hb hT hP ⊢
 have hBw:B ≤ w.heap.size:=by rw [hB];exact hb.size
 obtain ⟨a,cc,rfl⟩:=hT.form
 obtain ⟨fa,fc,rfl⟩:=hF.form
 obtain ⟨va,vc,rfl⟩:=own_form hV.row
 have hnm:c.1.length ≤ 8:=hc.1
 have hnf:c.2.length ≤ 4:=hc.2.1
 have HFk:Hid (∀ f ∈ c.2,f.1.length ≤ 8 ∧ 1 ≤ f.2 ∧ f.2 ≤ 5):=hc.2.2
 rw [hlen] at hV ⊢
 obtain ⟨n,hn⟩:∃ n,n = l.length:=⟨_,rfl⟩
 obtain ⟨m,hm⟩:∃ m,m = c.2.length:=⟨_,rfl⟩
 rw [← hn] at hT hl ⊢
 rw [← hm] at hF hV hnf hlen ⊢
 have HN:Hid (n = l.length):=hn
 have HM:Hid (m = c.2.length):=hm
 have HLn:Hid (vs.length = m):=hlen
 have HT:Hid (TxAt w B (.slice a n cc) l):=hT
 have HO:Hid (w.ownsRow B 5 1 (.slice a n cc) n (Lib.byteCells l)):=by have:=hT;unfold TxAt at this;rw [← hn] at this;exact this
 have HF:Hid (FieldsN w0 (.slice fa m fc) c.2):=hF
 have HV:Hid (ValsOwn w0 0 (.slice va m vc) vs lvs):=hV
 have HOk:Hid (∀ x ∈ vs,SVOk x):=hok
 have HB:Hid (B = w0.heap.size):=hB
 have Hb:Hid (Kp B w0 w):=hb
 have HP:Hid (PowB B w0):=hP
 have hmk:(mk c.1).size = c.1.length:=size_mk _
 clear hF hV hok hB hb hP hT hn hm hc hlen
 obtain ⟨nm,hnme⟩:∃ nm,nm = c.1:=⟨_,rfl⟩
 rw [← hnme] at hnm hmk ⊢
 have HNm:Hid (nm = c.1):=hnme
 clear hnme
 go_enter Tryz.func148,Tryz.ntmps148
 go_wp2_with (at_builtin;refine Lib.wpList_append_own_string _ rfl _ _ 166 9 rfl B 5 i0 Tryz.underlying166 Tryz.underlying9 hi0 hz0 hz1 hz2 _ _ _ rfl (HO.out.alloc _) (mk nm) rfl (by unfold maxLen;omega) (by omega) (by simp;omega) ?_;intro v' w6 hown6 hgrow6 _;have HM6:Hid (TxAt w6 B v' (l ++ nm) ∧ Kp B w w6):=(by have q:=txAt_str (w:=w.alloc (.cells #[.string (mk nm),.slice fa m fc] 138)) (x:=nm) (l:=l) (World.ownsRow.alloc HT.out _) (by simp;omega) (by rw [← HN.out];exact hown6) hgrow6;exact ⟨q.1,((Kp.refl _ _).alloc hBw _).trans q.2⟩);have e6:w6.cell? ⟨w.heap.size,1,none⟩ = some (.slice fa m fc):=hgrow6.cell (by simp) (fun e => by have:=(HO.out.lt _ e.symm).2;simp at this);obtain ⟨sa',sc',rfl⟩:=own_form hown6;clear hown6 hgrow6)
 go_loopw [0,16] (fun x t wr => ∃ (q:Nat) (sa:Option Addr) (p sc:Nat) (acc:List UInt8),q ≤ m ∧ t = .int .i64 q ∧ x = .slice sa p sc ∧ p ≤ 700010 + 600 * q ∧ Hid (p = acc.length ∧ acc = l ++ nm ++ fieldsTx c vs q) ∧ Hid (TxAt wr B (.slice sa p sc) acc ∧ Kp B w wr)) (fun _ t _ => m - (intOf t).toNat)
 case atStart => exact ⟨0,_,_,_,l ++ nm,by omega,rfl,rfl,by omega,⟨by rw [List.length_append,← HN.out],by simp [fieldsTx]⟩,HM6⟩
 case round =>
  obtain ⟨q,sa,p,sc,acc,hq,rfl,rfl,hp,HA,HX⟩:=hrel
  have hwr:B ≤ wr.heap.size:=Nat.le_trans hBw HX.out.2.size
  have HO7:Hid (wr.ownsRow B 5 1 (.slice sa p sc) p (Lib.byteCells acc)):=txAt_own HX.out.1 p HA.out.1
  by_cases hlt:q < m
  · have hqc:q < c.2.length:=by rw [← HM.out];exact hlt
    have hqv:q < vs.length:=by rw [HLn.out];exact hlt
    obtain ⟨gf,hfa,f0,f1,hgl⟩:∃ gf,fa = some ⟨gf,0,none⟩ ∧ wr.cell? ⟨gf,q * 2,none⟩ = some (.string (mk c.2[q].1)) ∧ wr.cell? ⟨gf,q * 2 + 1,none⟩ = some (.int .i64 (c.2[q].2:Int)) ∧ m ≤ fc:=by
     rcases HF.out with ⟨h1,h2⟩ | ⟨gf,c',h1,h2,h3,h4⟩
     · rw [h2] at hqc;simp at hqc
     · simp at h1
       have hlb:gf < B:=by rw [HB.out];exact h3
       have hb2:=Hb.out.trans HX.out.2
       exact ⟨gf,h1.1,(World.cell?_of_block (a:=⟨gf,q * 2,none⟩) (hb2.block gf hlb)).trans (h4 q hqc).1,(World.cell?_of_block (a:=⟨gf,q * 2 + 1,none⟩) (hb2.block gf hlb)).trans (h4 q hqc).2,by rw [h1.2.2,HM.out];exact h2⟩
    subst hfa
    obtain ⟨gv,cap,lv,hva,hgv0,hgv,hcap,hlv,hlo,hcell⟩:=HV.out.cell q hqv
    simp only [Value.slice.injEq] at hva
    obtain ⟨rfl,hvn,rfl⟩:=hva
    have hlvf:∃ la ln lc,lv = .slice la ln lc:=by obtain ⟨a1,a2,a3⟩:=own_form hlo;exact ⟨a1,_,a2,a3⟩
    have HVc:Hid (∀ W,Kp B w W → W.cell? ⟨gv,q * 6,none⟩ = some (.int .i64 vs[q].k) ∧ W.cell? ⟨gv,q * 6 + 1,none⟩ = some (.int .i64 vs[q].n) ∧ W.cell? ⟨gv,q * 6 + 2,none⟩ = some (.string (mk vs[q].s)) ∧ W.cell? ⟨gv,q * 6 + 3,none⟩ = some (.int .i64 0) ∧ W.cell? ⟨gv,q * 6 + 4,none⟩ = some (.int .i64 0) ∧ W.cell? ⟨gv,q * 6 + 5,none⟩ = some lv):=fun W hW => by
     have hk:∀ o,W.cell? ⟨gv,o,none⟩ = w0.cell? ⟨gv,o,none⟩:=fun o => World.cell?_of_block (a:=⟨gv,o,none⟩) ((Hb.out.trans hW).block gv (by rw [HB.out];exact hgv))
     exact ⟨(hk _).trans (hcell 0 (by omega)),(hk _).trans (hcell 1 (by omega)),(hk _).trans (hcell 2 (by omega)),(hk _).trans (hcell 3 (by omega)),(hk _).trans (hcell 4 (by omega)),(hk _).trans (hcell 5 (by omega))⟩
    have HLo:Hid (∀ W,Kp B w W → W.ownsRow 0 3 1 lv vs[q].l.length (vs[q].l.map (Value.int .i64))):=fun W hW => own_turn hlo fun j hj hjl => (Hb.out.trans hW).block j (by rw [HB.out];exact hjl)
    have HLb:Hid (∀ j,lv.ownBlock = some j → j < B):=fun j hj => by rw [HB.out];exact (hlo.lt j hj).2
    have hx:=HOk.out vs[q] (List.getElem_mem hqv)
    have hvl:=valTx_len hx
    have hfn:=(HFk.out c.2[q] (List.getElem_mem hqc)).1
    have HX1:Hid (SVOk vs[q]):=hx
    have hsu:fieldsTx c vs (q + 1) = fieldsTx c vs q ++ (32 :: (c.2[q].1 ++ 61 :: valTx vs[q])):=by
     rw [fieldsTx_succ]
     simp [fieldTx,List.getD,hqc,hqv]
    have HE:Hid (acc ++ [32] ++ c.2[q].1 ++ [61] ++ valTx vs[q] = l ++ nm ++ fieldsTx c vs (q + 1)):=by show _ = _;rw [hsu,HA.out.2];simp
    have hmf:(mk c.2[q].1).size = c.2[q].1.length:=size_mk _
    clear hsu hcell hlo hlv hx hvn
    generalize c.2[q].1 = fn at f0 HE hfn hmf
    generalize (c.2[q].2:Int) = fk at f1
    generalize vs[q] = x at HVc HLo hvl HX1 HE
    obtain ⟨la,ln,lc,rfl⟩:=hlvf
    go_wp2_with (first
     | (at_builtin;refine wpList_append_own_at _ rfl _ _ 166 rfl B 5 i0 _ 1 1 Tryz.underlying166 hi0 hz0 hz1 hz2 rfl (by decide) _ _ _ rfl ((HO7.out.alloc _).alloc _) ⟨wr.heap.size + 1,0,none⟩ 1 1 [.int .u8 32] rfl rfl new_two (fun u hu => by simp at hu;rw [hu];rfl) (by unfold maxLen;omega) (by omega) (by simp;omega) ?_;intro v7 w7 hown7 hgrow7 _ _;have HM7:Hid (TxAt w7 B v7 (acc ++ [32]) ∧ Kp B wr w7):=tx_one_step (x:=32) (w7:=wr.alloc (.cells #[.string (mk fn),.int .i64 fk] 135)) hwr ⟨World.ownsRow.alloc HX.out.1 _,(Kp.refl _ _).alloc hwr _⟩ HA.out.1 hown7 hgrow7;have e7:w7.cell? ⟨wr.heap.size,0,none⟩ = some (.string (mk fn)):=hgrow7.cell (by simp) (fun e => by have:=(HO7.out.lt _ e.symm).2;simp at this);obtain ⟨sa7,sc7,rfl⟩:=own_form hown7;have HO8:Hid (w7.ownsRow B 5 1 (.slice sa7 (p + 1) sc7) (p + 1) (Lib.byteCells (acc ++ [32]))):=txAt_own HM7.out.1 (p + 1) (by simp [HA.out.1]);clear hown7 hgrow7)
     | (at_builtin;refine Lib.wpList_append_own_string _ rfl _ _ 166 9 rfl B 5 i0 Tryz.underlying166 Tryz.underlying9 hi0 hz0 hz1 hz2 _ _ _ rfl HO8.out (mk fn) rfl (by unfold maxLen;omega) (by omega) (Nat.le_trans hwr HM7.out.2.size) ?_;intro v8 w8 hown8 hgrow8 _;have HM8:Hid (TxAt w8 B v8 (acc ++ [32] ++ fn) ∧ Kp B wr w8):=tx_str_step (p:=p + 1) hwr HM7.out (by simp [HA.out.1]) hown8 hgrow8;obtain ⟨sa8,sc8,rfl⟩:=own_form hown8;have HO9:Hid (w8.ownsRow B 5 1 (.slice sa8 (p + 1 + (mk fn).size) sc8) (p + 1 + (mk fn).size) (Lib.byteCells (acc ++ [32] ++ fn))):=txAt_own HM8.out.1 _ (by simp [HA.out.1,hmf];omega);clear hown8 hgrow8)
     | (at_builtin;refine wpList_append_own_at _ rfl _ _ 166 rfl B 5 i0 _ 1 1 Tryz.underlying166 hi0 hz0 hz1 hz2 rfl (by decide) _ _ _ rfl (HO9.out.alloc _) ⟨w8.heap.size,0,none⟩ 1 1 [.int .u8 61] rfl rfl new_one (fun u hu => by simp at hu;rw [hu];rfl) (by unfold maxLen;omega) (by omega) (by have:=HM8.out.2.size;simp;omega) ?_;intro v9 w9 hown9 hgrow9 _ _;have HM9:Hid (TxAt w9 B v9 (acc ++ [32] ++ fn ++ [61]) ∧ Kp B wr w9):=tx_one_step (x:=61) (p:=p + 1 + (mk fn).size) hwr HM8.out (by simp [HA.out.1,hmf];omega) hown9 hgrow9;obtain ⟨x0,x1,x2,x3,x4,x5⟩:=HVc.out w9 (HX.out.2.trans HM9.out.2);obtain ⟨sa9,sc9,rfl⟩:=own_form hown9;clear hown9 hgrow9))
    have h9:TxAt w9 B (.slice sa9 (p + 1 + fn.length + 1) sc9) (acc ++ [32] ++ fn ++ [61]):=by rw [← hmf];exact HM9.out.1
    have HC:Hid (Calls Tryz.prog 216 #[.slice sa9 (p + 1 + fn.length + 1) sc9,.agg #[.int .i64 x.k,.int .i64 x.n,.string (mk x.s),.int .i64 0,.int .i64 0,.slice la ln lc]] w9 (WEnds w9 B (acc ++ [32] ++ fn ++ [61]) (valTx x))) :=
     appendValue_any B _ _ x (.slice la ln lc) 0 w9 HX1.out (HLo.out w9 (HX.out.2.trans HM9.out.2)) HLb.out h9 (Nat.le_trans hwr HM9.out.2.size) (by simp only [List.length_append,List.length_singleton,← HA.out.1];omega) (((HP.out.on Hb.out).on HX.out.2).on HM9.out.2)
    clear h9
    generalize valTx x = tx at HC HE hvl
    refine Calls.mono HC.out ?_
    rintro e w10 ⟨v10,rfl,hT10,hb10⟩
    obtain ⟨a8,c8,rfl⟩:=hT10.form
    obtain ⟨m8,hm8⟩:∃ m8,m8 = (acc ++ [32] ++ fn ++ [61] ++ tx).length:=⟨_,rfl⟩
    rw [← hm8] at hT10 ⊢
    have h8:m8 ≤ 700010 + 600 * (q + 1):=by rw [hm8];simp only [List.length_append,List.length_singleton,← HA.out.1];omega
    have HA8:Hid (m8 = (acc ++ [32] ++ fn ++ [61] ++ tx).length ∧ acc ++ [32] ++ fn ++ [61] ++ tx = l ++ nm ++ fieldsTx c vs (q + 1)):=⟨hm8,HE.out⟩
    have HX8:Hid (TxAt w10 B (.slice a8 m8 c8) (acc ++ [32] ++ fn ++ [61] ++ tx) ∧ Kp B w w10):=⟨hT10,(HX.out.2.trans HM9.out.2).trans hb10⟩
    clear hT10 hb10 hm8
    go_wp2_with fail
    exact ⟨⟨q + 1,a8,m8,c8,acc ++ [32] ++ fn ++ [61] ++ tx,by omega,by go_num,rfl,h8,HA8,HX8⟩,by simp [intOf];omega⟩
  · obtain rfl:q = m:=by omega
    have HE:Hid (acc = l ++ nm ++ fieldsTx c vs c.2.length):=by have:=HA.out.2;rw [HM.out] at this;exact this
    go_wp2_with (at_builtin;refine wpList_append_own_at _ rfl _ _ 166 rfl B 5 i0 _ 1 1 Tryz.underlying166 hi0 hz0 hz1 hz2 rfl (by decide) _ _ _ rfl (HO7.out.alloc _) ⟨wr.heap.size,0,none⟩ 1 1 [.int .u8 10] rfl rfl new_one (fun u hu => by simp at hu;rw [hu];rfl) (by unfold maxLen;omega) (by omega) (by simp;omega) ?_;intro v8 w8 hown8 hgrow8 _ _;have HM8:Hid (TxAt w8 B v8 (acc ++ [10]) ∧ Kp B w w8):=tx_one_step (x:=10) hBw HX.out HA.out.1 hown8 hgrow8;obtain ⟨sa8,sc8,rfl⟩:=own_form hown8;clear hown8 hgrow8)
    go_ret
    refine ⟨_,rfl,?_,HM8.out.2⟩
    have e:l ++ lineTx c vs = acc ++ [10]:=by rw [HE.out,HNm.out];simp [lineTx]
    rw [e]
    exact HM8.out.1
end Go.Proofs.YthkbeaffkcfgiabGreatDoor
