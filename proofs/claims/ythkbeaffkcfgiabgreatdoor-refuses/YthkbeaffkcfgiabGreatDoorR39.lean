import Derived.Test.YthkbeaffkcfgiabGreatDoorR38
import Derived.Test.YthkbeaffkcfgiabGreatDoorR13
import Derived.Test.YthkbeaffkcfgiabGreatDoorR08
import Derived.Test.YthkbeaffkcfgiabGreatDoorR28
set_option linter.unusedSimpArgs false
set_option linter.unusedVariables false
namespace Go.Proofs.YthkbeaffkcfgiabGreatDoor
open Go.RowKit
structure FilledAt (w:World) (own:Nat → Nat) (b g lc N:Nat) (L:List CompS) (S1 S:St) (cs:List Nat) (sc:List Ent) (hs:List (Int × Int)) (j:Nat) (wr:World):Prop where
 turns:Turns w wr (fun k => 32 ≤ own k)
 wt:∃ own' lv',(∀ k,k < w.heap.size → own' k = own k) ∧ WT wr own' b g lc N L { S1 with vals:=fillN L S cs sc hs S1.vals j,lv:=lv' }
theorem FilledAt.next {w wr W:World} {own:Nat → Nat} {b g lc N B sg scap j:Nat} {L:List CompS} {S1 S:St} {cs:List Nat} {sc:List Ent} {hs:List (Int × Int)} {sl:Nat → Value} {lv:Nat → List Value} (h:FilledAt w own b g lc N L S1 S cs sc hs j wr) (hb:Below wr.heap.size wr W) (hi:placeN S cs j < 20) (ht:S1.tk (placeN S cs j) = true) (hcp:S1.cp (placeN S cs j) = (entAt sc j).c) (hE:EntOwn w B (entAt sc j) sl lv) (hEb:∀ k,EntBlk sl lv k → own k = 0)
 (hS:∀ j (h:j < hs.length),w.cell? ⟨sg,j * 2,none⟩ = some (.int .i64 hs[j].1) ∧ w.cell? ⟨sg,j * 2 + 1,none⟩ = some (.int .i64 hs[j].2)) (hsg:sg < w.heap.size) (hsg0:own sg = 0) (hsc:hs.length ≤ scap) (hsl:hs.length ≤ 20) (hfit:EntFit L hs.length (entAt sc j)) (lf:Int) :
 Calls Tryz.prog 116 #[.pointer (some ⟨b,0,none⟩),.agg #[.int .i64 ((placeN S cs j:Int) + 1),.int .i64 lf],.agg #[.int .u64 (entAt sc j).c,sl 0,sl 1,sl 2,sl 3,sl 4,sl 5],.slice (some ⟨sg,0,none⟩) hs.length scap] W fun e' w' => e' = .returned (.tuple #[]) ∧ FilledAt w own b g lc N L S1 S cs sc hs (j + 1) w':=by
 obtain ⟨hT,own',lv',ho,hW⟩:=h
 have hsz:=hT.size
 have hsz2:=hb.size
 have hkeep:∀ k,k < w.heap.size → own k = 0 → W.heap[k]? = w.heap[k]?:=fun k hk h0 => (hb.block k (by omega)).trans (hT.block k hk (by omega))
 have hblt:∀ k,EntBlk sl lv k → k < w.heap.size:=fun k hk => by
  rcases hk with ⟨q,hq,e⟩ | ⟨q,i,u,hq,e1,e2⟩
  · exact ((hE q hq).row.lt k e).2
  · obtain ⟨hil,hie⟩:=List.getElem?_eq_some_iff.1 e1
    have hv:=(hE q hq).len
    subst hie
    exact (((hE q hq).lists i (by omega) hil).lt k e2).2
 refine (fill_wt own' b g lc N (placeN S cs j) B sg scap lf L _ (entAt sc j) sl lv hs W (hW.below hb) hi ht hcp (hE.turnB fun k hk hkl => hkeep k hkl (hEb k hk)) (fun k hk => (ho k (hblt k hk)).trans (hEb k hk)) (fun i hi => ⟨(World.cell?_of_block (a:=⟨sg,i * 2,none⟩) (hkeep sg hsg hsg0)).trans (hS i hi).1,(World.cell?_of_block (a:=⟨sg,i * 2 + 1,none⟩) (hkeep sg hsg hsg0)).trans (hS i hi).2⟩) (by omega) ((ho sg hsg).trans hsg0) hsc hsl hfit).mono ?_
 rintro e' w' ⟨rfl,t1,own2,lv2,t2,t3⟩
 refine ⟨rfl,?_,own2,lv2,fun k hk => (t2 k (by omega)).trans (ho k hk),t3⟩
 refine hT.trans ⟨t1.os.trans hb.os,t1.tape.trans hb.tape,t1.output.trans hb.output,Nat.le_trans hb.size t1.size,fun k hk hn => ?_⟩
 rw [t1.block k (by omega) ?_,hb.block k hk]
 intro q
 refine hn ?_
 by_cases hq:k < w.heap.size
 · refine Or.inl ?_
   show 32 ≤ own k
   rw [← ho k hq];exact q
 · exact Or.inr ⟨by omega,by omega⟩
def SettleEnds (w:World) (own:Nat → Nat) (b g lc N:Nat) (L:List CompS) (S:St) (sc:List Ent) (e:Ending) (w':World):Prop :=
 ∃ v',e = .returned (.tuple #[v',.int .i64 0]) ∧ Turns w w' (Tur own) ∧ w'.ownsRow w.heap.size 46 2 v' sc.length (eCells (handsN S (setsOf sc) sc.length)) ∧
   ∃ own' lv',(∀ k,k < w.heap.size → own' k = own k) ∧ (∀ j,v'.ownBlock = some j → own' j = 0) ∧ WT w' own' b g lc (N + sc.length) L { spawnN S (setsOf sc) sc.length with vals:=fillN L S (setsOf sc) sc (handsN S (setsOf sc) sc.length) (spawnN S (setsOf sc) sc.length).vals sc.length,lv:=lv' }
set_option maxHeartbeats 6400000 in
set_option maxRecDepth 100000 in
theorem settle_wt (own:Nat → Nat) (b g lc N B vc:Nat) (va:Option Addr) (L:List CompS) (S:St) (sc:List Ent) (sls:Nat → Nat → Value) (lvs:Nat → Nat → List Value) (w:World) (hW:WT w own b g lc N L S) (hS:SceneOwn w B (.slice va sc.length vc) sc sls lvs) (hB:∀ j,B ≤ j → own j = 0) (hroom:sc.length ≤ roomN S.bg S.tk 20) (hN:N + sc.length ≤ 1000) (hN1:1 ≤ N) (hfit:∀ j,j < sc.length → EntFit L sc.length (entAt sc j)) :
 Calls Tryz.prog 56 #[.pointer (some ⟨b,0,none⟩),.slice va sc.length vc] w (SettleEnds w own b g lc N L S sc):=by
 have hlt:=hW.lt
 have hr20:=roomN_le S.bg S.tk 20
 obtain ⟨m,hm⟩:∃ m,m = sc.length:=⟨_,rfl⟩
 have hm20:m ≤ 20:=by omega
 have HM:Hid (m = sc.length):=hm
 have HP:Hid (PlacesAt w b S.bg S.tk S.cp):=hW.places
 have HRoom:Hid (m ≤ roomN S.bg S.tk 20):=by rw [hm];exact hroom
 have hdm:decide (roomN S.bg S.tk 20 < m) = false:=decide_eq_false (by omega)
 have hdm2:decide ((roomN S.bg S.tk 20:Int) < (m:Int)) = false:=decide_eq_false (by omega)
 have mk29:=make29 m hm20 w
 have hB0:Below w.heap.size w (w.alloc (.cells (eCells (List.replicate m (0,0))).toArray 46)):=(Below.refl _ _).alloc (Nat.le_refl _) _
 obtain ⟨W0,hW0⟩:∃ W0,W0 = w.alloc (.cells (eCells (List.replicate m (0,0))).toArray 46):=⟨_,rfl⟩
 rw [← hW0] at hB0 mk29
 have hs0:W0.heap.size = w.heap.size + 1:=by rw [hW0];simp
 have HSp0:Hid (SpawnAt W0 own b g lc N w.heap.size m L S (setsOf sc) 0 W0):=by
  refine ⟨⟨rfl,rfl,rfl,Nat.le_refl _,fun _ _ _ => rfl⟩,?_,own,fun _ _ => rfl,hW.below hB0⟩
  rw [hW0,heap_alloc_at rfl]
  simp [setCells,handsN]
 have HW:Hid (WT w own b g lc N L S):=hW
 have HS:Hid (SceneOwn w B (.slice va sc.length vc) sc sls lvs):=hS
 have HB:Hid (∀ j,B ≤ j → own j = 0):=hB
 have HB0:Hid (Below w.heap.size w W0):=hB0
 have HFit:Hid (∀ j,j < sc.length → EntFit L sc.length (entAt sc j)):=hfit
 have HN:Hid (N + m ≤ 1000 ∧ 1 ≤ N):=by rw [hm];exact ⟨hN,hN1⟩
 have HOs:Hid (own w.heap.size = 0):=hW.out _ (Nat.le_refl _)
 rw [← hm]
 clear hW hS hB hB0 hfit hroom hN hN1 hm hW0
 go_enter Tryz.func56,Tryz.ntmps56
 go_wp2_with (go_at_call 115;refine (room_any b S.bg S.tk S.cp w HP.out).mono ?_;rintro e w' ⟨rfl,h⟩;obtain rfl:=h.symm)
 go_loopw [21] (fun t wr => ∃ j:Nat,j ≤ m ∧ t = .int .i64 j ∧ Hid (SpawnAt W0 own b g lc N w.heap.size m L S (setsOf sc) j wr)) (fun t _ => m - (intOf t).toNat)
 case atStart => exact ⟨0,by omega,rfl,HSp0⟩
 case round =>
  obtain ⟨j,hj,rfl,HI⟩:=hrel
  by_cases hlt2:j < m
  · have hjs:j < sc.length:=by rw [← HM.out];exact hlt2
    obtain ⟨gs,cap,hgs,hgB,hgl,hcap,hcell⟩:=HS.out.cell j hjs
    simp only [Value.slice.injEq] at hgs
    obtain ⟨rfl,_,rfl⟩:=hgs
    have hg0:own gs = 0:=HB.out gs hgB
    have hgk:∀ o,wr.cell? ⟨gs,o,none⟩ = w.cell? ⟨gs,o,none⟩:=fun o => World.cell?_of_block (a:=⟨gs,o,none⟩) ((HI.out.turns.block gs (by omega) (by unfold Tur;omega)).trans (HB0.out.block gs hgl))
    have y0:wr.cell? ⟨gs,j * 7,none⟩ = some (.int .u64 (entAt sc j).c):=(hgk _).trans (hcell 0 (by omega))
    have y1:wr.cell? ⟨gs,j * 7 + 1,none⟩ = some (sls j 0):=(hgk _).trans (hcell 1 (by omega))
    have y2:wr.cell? ⟨gs,j * 7 + 2,none⟩ = some (sls j 1):=(hgk _).trans (hcell 2 (by omega))
    have y3:wr.cell? ⟨gs,j * 7 + 3,none⟩ = some (sls j 2):=(hgk _).trans (hcell 3 (by omega))
    have y4:wr.cell? ⟨gs,j * 7 + 4,none⟩ = some (sls j 3):=(hgk _).trans (hcell 4 (by omega))
    have y5:wr.cell? ⟨gs,j * 7 + 5,none⟩ = some (sls j 4):=(hgk _).trans (hcell 5 (by omega))
    have y6:wr.cell? ⟨gs,j * 7 + 6,none⟩ = some (sls j 5):=(hgk _).trans (hcell 6 (by omega))
    have hf:∀ k,k < 6 → ∃ a n c,sls j k = .slice a n c:=fun k hk => by obtain ⟨a,c,q⟩:=own_form ((HS.out.ents j hjs).2.2 k hk).row;exact ⟨a,_,c,q⟩
    obtain ⟨a0,m0,c0,s0⟩:=hf 0 (by omega)
    obtain ⟨a1,m1,c1,s1⟩:=hf 1 (by omega)
    obtain ⟨a2,m2,c2,s2⟩:=hf 2 (by omega)
    obtain ⟨a3,m3,c3,s3⟩:=hf 3 (by omega)
    obtain ⟨a4,m4,c4,s4⟩:=hf 4 (by omega)
    obtain ⟨a5,m5,c5,s5⟩:=hf 5 (by omega)
    rw [s0] at y1;rw [s1] at y2;rw [s2] at y3;rw [s3] at y4;rw [s4] at y5;rw [s5] at y6
    have hc64:=(HS.out.ents j hjs).1
    have HNx:Hid (∀ W,Below wr.heap.size wr W → Calls Tryz.prog 58 #[.pointer (some ⟨b,0,none⟩),.int .u64 ((setsOf sc).getD j 0:Int)] W (SpawnPost W0 own b g lc N w.heap.size m L S (setsOf sc) j (handN S (setsOf sc) j))):=fun W hW => SpawnAt.next HI.out hW hlt2 HN.out.1 HN.out.2 HRoom.out (by omega) HOs.out (by omega) (by rw [setsOf_get sc j hjs];exact hc64)
    rw [setsOf_get sc j hjs] at HNx
    clear hcell hgk hf s0 s1 s2 s3 s4 s5
    generalize (entAt sc j).c = ec at y0 HNx hc64
    generalize handN S (setsOf sc) j = hd at HNx
    obtain ⟨hp,hq⟩:=hd
    have hws:w.heap.size < wr.heap.size:=by have:=HI.out.turns.size;omega
    go_wp2_with (go_at_call 58;refine (HNx.out _ ?_).mono ?_;exact (Below.refl _ _).alloc (Nat.le_refl _) _;rintro e w3 ⟨rfl,z0,z1,z2,z3,HF3⟩)
    exact ⟨⟨j + 1,by omega,by go_num,HF3⟩,by simp [intOf];omega⟩
  · obtain rfl:j = m:=by omega
    obtain ⟨own1,ho1,hW1⟩:=HI.out.wt
    have HO1:Hid (∀ k,k < W0.heap.size → own1 k = own k):=ho1
    have HFl0:Hid (FilledAt wr own1 b g lc (N + j) L (spawnN S (setsOf sc) j) S (setsOf sc) sc (handsN S (setsOf sc) j) 0 wr):=⟨⟨rfl,rfl,rfl,Nat.le_refl _,fun _ _ _ => rfl⟩,own1,(spawnN S (setsOf sc) j).lv,fun _ _ => rfl,hW1⟩
    clear ho1 hW1
    have hz1:=HI.out.turns.size
    have hsr:w.heap.size < wr.heap.size:=by omega
    have HRow1:Hid (wr.heap[w.heap.size]? = some (.cells (setCells j (handsN S (setsOf sc) j)).toArray 46 (0,0))):=HI.out.row
    have HT1:Hid (Turns W0 wr (fun k => Tur own k ∨ k = w.heap.size)):=HI.out.turns
    clear HI HSp0
    rename World => w1
    go_wp2_with fail
    go_loopw [39] (fun t wr => ∃ i:Nat,i ≤ j ∧ t = .int .i64 i ∧ Hid (FilledAt w1 own1 b g lc (N + j) L (spawnN S (setsOf sc) j) S (setsOf sc) sc (handsN S (setsOf sc) j) i wr)) (fun t _ => j - (intOf t).toNat)
    case atStart => exact ⟨0,by omega,rfl,HFl0⟩
    case round =>
     obtain ⟨i,hi,rfl,HI⟩:=hrel
     have hz2:=HI.out.turns.size
     by_cases hlt2:i < j
     · have hjs:i < sc.length:=by rw [← HM.out];exact hlt2
       obtain ⟨gs,cap,hgs,hgB,hgl,hcap,hcell⟩:=HS.out.cell i hjs
       simp only [Value.slice.injEq] at hgs
       obtain ⟨rfl,_,rfl⟩:=hgs
       have hg0:own gs = 0:=HB.out gs hgB
       have hK:∀ k,k < w.heap.size → own k = 0 → w1.heap[k]? = w.heap[k]?:=fun k hk h0 => (HT1.out.block k (by omega) (by unfold Tur;omega)).trans (HB0.out.block k hk)
       have hO1:∀ k,k < W0.heap.size → own k = 0 → own1 k = 0:=fun k hk h0 => (HO1.out k hk).trans h0
       have hgk:∀ o,wr.cell? ⟨gs,o,none⟩ = w.cell? ⟨gs,o,none⟩:=fun o => World.cell?_of_block (a:=⟨gs,o,none⟩) ((HI.out.turns.block gs (by omega) (by rw [hO1 gs (by omega) hg0];omega)).trans (hK gs hgl hg0))
       have y0:wr.cell? ⟨gs,i * 7,none⟩ = some (.int .u64 (entAt sc i).c):=(hgk _).trans (hcell 0 (by omega))
       have y1:wr.cell? ⟨gs,i * 7 + 1,none⟩ = some (sls i 0):=(hgk _).trans (hcell 1 (by omega))
       have y2:wr.cell? ⟨gs,i * 7 + 2,none⟩ = some (sls i 1):=(hgk _).trans (hcell 2 (by omega))
       have y3:wr.cell? ⟨gs,i * 7 + 3,none⟩ = some (sls i 2):=(hgk _).trans (hcell 3 (by omega))
       have y4:wr.cell? ⟨gs,i * 7 + 4,none⟩ = some (sls i 3):=(hgk _).trans (hcell 4 (by omega))
       have y5:wr.cell? ⟨gs,i * 7 + 5,none⟩ = some (sls i 4):=(hgk _).trans (hcell 5 (by omega))
       have y6:wr.cell? ⟨gs,i * 7 + 6,none⟩ = some (sls i 5):=(hgk _).trans (hcell 6 (by omega))
       have hf:∀ k,k < 6 → ∃ a n c,sls i k = .slice a n c:=fun k hk => by obtain ⟨a,c,q⟩:=own_form ((HS.out.ents i hjs).2.2 k hk).row;exact ⟨a,_,c,q⟩
       have hhl:=handsN_len S (setsOf sc) j
       have hhi:i < (handsN S (setsOf sc) j).length:=by omega
       have hhe:(handsN S (setsOf sc) j)[i] = handN S (setsOf sc) i:=by simp [handsN]
       have hsl:own1 w.heap.size = 0:=hO1 _ (by omega) HOs.out
       have hsk:wr.heap[w.heap.size]? = some (.cells (setCells j (handsN S (setsOf sc) j)).toArray 46 (0,0)):=(HI.out.turns.block w.heap.size hsr (by omega)).trans HRow1.out
       have hc1:∀ q (h:q < (handsN S (setsOf sc) j).length),w1.cell? ⟨w.heap.size,q * 2,none⟩ = some (.int .i64 (handsN S (setsOf sc) j)[q].1) ∧ w1.cell? ⟨w.heap.size,q * 2 + 1,none⟩ = some (.int .i64 (handsN S (setsOf sc) j)[q].2):=fun q hq => by
        have:=setCells_get j (handsN S (setsOf sc) j) q hq
        rw [cell_row HRow1.out,cell_row HRow1.out]
        simpa using this
       have z0:wr.cell? ⟨w.heap.size,i * 2,none⟩ = some (.int .i64 (handN S (setsOf sc) i).1):=by
        rw [← hhe,← (hc1 i hhi).1]
        exact World.cell?_of_block (a:=⟨w.heap.size,i * 2,none⟩) (hsk.trans HRow1.out.symm)
       have z1:wr.cell? ⟨w.heap.size,i * 2 + 1,none⟩ = some (.int .i64 (handN S (setsOf sc) i).2):=by
        rw [← hhe,← (hc1 i hhi).2]
        exact World.cell?_of_block (a:=⟨w.heap.size,i * 2 + 1,none⟩) (hsk.trans HRow1.out.symm)
       have hps:=place_spec S (setsOf sc) i (by have:=HRoom.out;omega)
       have hst:=place_stays S (setsOf sc) i (j - (i + 1)) (by have:=HRoom.out;omega)
       rw [show i + 1 + (j - (i + 1)) = j by omega,setsOf_get sc i hjs] at hst
       have hEn:=(HS.out.ents i hjs).2.2
       have hblk:∀ k,EntBlk (sls i) (lvs i) k → B ≤ k ∧ k < w.heap.size:=fun k hk => by
        rcases hk with ⟨q,hq,e⟩ | ⟨q,x,u,hq,e1,e2⟩
        · exact (hEn q hq).row.lt k e
        · obtain ⟨hil,hie⟩:=List.getElem?_eq_some_iff.1 e1
          have hv:=(hEn q hq).len
          subst hie
          exact ((hEn q hq).lists x (by omega) hil).lt k e2
       have HNx:Hid (∀ W,Below wr.heap.size wr W → Calls Tryz.prog 116 #[.pointer (some ⟨b,0,none⟩),.agg #[.int .i64 (handN S (setsOf sc) i).1,.int .i64 (handN S (setsOf sc) i).2],.agg #[.int .u64 (entAt sc i).c,sls i 0,sls i 1,sls i 2,sls i 3,sls i 4,sls i 5],.slice (some ⟨w.heap.size,0,none⟩) j j] W fun e' w' => e' = .returned (.tuple #[]) ∧ Hid (FilledAt w1 own1 b g lc (N + j) L (spawnN S (setsOf sc) j) S (setsOf sc) sc (handsN S (setsOf sc) j) (i + 1) w')):=fun W hW => by
        have:=FilledAt.next (B:=B) (sg:=w.heap.size) (scap:=j) (sl:=sls i) (lv:=lvs i) HI.out hW hps.1 hst.1 hst.2 (hEn.turnB fun k hk hkl => hK k (hblk k hk).2 (HB.out k (hblk k hk).1)) (fun k hk => hO1 k (by have:=(hblk k hk).2;omega) (HB.out k (hblk k hk).1)) hc1 hsr hsl (by omega) (by omega) (by rw [hhl,HM.out];exact HFit.out i hjs) (handN S (setsOf sc) i).2
        rw [hhl] at this
        exact this
       obtain ⟨a0,m0,c0,s0⟩:=hf 0 (by omega)
       obtain ⟨a1,m1,c1,s1⟩:=hf 1 (by omega)
       obtain ⟨a2,m2,c2,s2⟩:=hf 2 (by omega)
       obtain ⟨a3,m3,c3,s3⟩:=hf 3 (by omega)
       obtain ⟨a4,m4,c4,s4⟩:=hf 4 (by omega)
       obtain ⟨a5,m5,c5,s5⟩:=hf 5 (by omega)
       rw [s0,s1,s2,s3,s4,s5] at HNx
       rw [s0] at y1;rw [s1] at y2;rw [s2] at y3;rw [s3] at y4;rw [s4] at y5;rw [s5] at y6
       clear hcell hgk hf s0 s1 s2 s3 s4 s5 hEn hblk hst hps hc1 hsk hhe hhi hhl hK hO1 hsl
       generalize (entAt sc i).c = ec at y0 HNx
       generalize handN S (setsOf sc) i = hd at HNx z0 z1
       obtain ⟨hp,hq⟩:=hd
       simp only at HNx z0 z1
       have hws:w.heap.size < wr.heap.size:=by omega
       go_wp2_with fail
       go_region_with (go_at_call 116;refine (HNx.out _ ?_).mono ?_;exact ((Below.refl _ _).alloc (Nat.le_refl _) _).drew;rintro e w3 ⟨rfl,HF3⟩)
       all_goals go_wp2_with fail
       all_goals exact ⟨⟨i + 1,by omega,by go_num,HF3⟩,by simp [intOf];omega⟩
     · obtain rfl:i = j:=by omega
       go_wp2_with fail
       go_ret2
       obtain ⟨own2,lv2,o1,o2⟩:=HI.out.wt
       have hhl:=handsN_len S (setsOf sc) i
       have hsl:own1 w.heap.size = 0:=(HO1.out _ (by omega)).trans HOs.out
       have hsk:wr.heap[w.heap.size]? = some (.cells (setCells i (handsN S (setsOf sc) i)).toArray 46 (0,0)):=(HI.out.turns.block w.heap.size hsr (by omega)).trans HRow1.out
       have hec:setCells i (handsN S (setsOf sc) i) = eCells (handsN S (setsOf sc) i):=by unfold setCells;rw [hhl];simp
       rw [hec] at hsk
       have hel:=eCells_length (handsN S (setsOf sc) i)
       unfold SettleEnds
       rw [← HM.out]
       refine ⟨_,rfl,?_,⟨by omega,Or.inr ⟨w.heap.size,i,_,rfl,Nat.le_refl _,hsk,Nat.le_refl _,by unfold maxLen;omega,by rw [List.size_toArray];omega,List.take_of_length_le (by show (eCells (handsN S (setsOf sc) i)).length ≤ _;omega)⟩⟩,own2,lv2,fun k hk => (o1 k (by omega)).trans (HO1.out k (by omega)),fun j hj => by
        have e:w.heap.size = j:=by simpa [Value.ownBlock] using hj
        rw [← e]
        exact (o1 _ (by omega)).trans hsl,o2⟩
       refine ⟨HI.out.turns.os.trans (HT1.out.os.trans HB0.out.os),HI.out.turns.tape.trans (HT1.out.tape.trans HB0.out.tape),HI.out.turns.output.trans (HT1.out.output.trans HB0.out.output),by omega,fun k hk hn => ?_⟩
       rw [HI.out.turns.block k (by omega) ?_,HT1.out.block k (by omega) ?_,HB0.out.block k hk]
       · intro h
         rcases h with h | h
         · exact hn h
         · omega
       · rw [HO1.out k (by omega)]
         intro h
         exact hn (Or.inr (Or.inr h))
theorem fieldsTx_len (c:CompS) (vs:List SV) (hc:CompOk c) (hl:vs.length = c.2.length) (hok:∀ x ∈ vs,SVOk x):∀ q,q ≤ c.2.length → (fieldsTx c vs q).length ≤ 510 * q
 | 0,_ => by simp [fieldsTx]
 | q + 1,hq => by
   have ih:=fieldsTx_len c vs hc hl hok q (by omega)
   have h1:q < c.2.length:=by omega
   have h2:q < vs.length:=by omega
   have h3:=valTx_len (hok vs[q] (List.getElem_mem h2))
   have h4:=(hc.2.2 c.2[q] (List.getElem_mem h1)).1
   rw [fieldsTx_succ,List.length_append]
   have:(fieldTx c vs q).length ≤ 510:=by
    simp only [fieldTx,List.getD,List.getElem?_eq_getElem h1,List.getElem?_eq_getElem h2,Option.getD_some,List.length_cons,List.length_append]
    omega
   omega
theorem lineTx_len (c:CompS) (vs:List SV) (hc:CompOk c) (hl:vs.length = c.2.length) (hok:∀ x ∈ vs,SVOk x):(lineTx c vs).length ≤ 2500:=by
 have h1:=fieldsTx_len c vs hc hl hok c.2.length (Nat.le_refl _)
 have h2:=hc.1
 have h3:=hc.2.1
 simp only [lineTx,List.length_append,List.length_singleton]
 omega
def linesTx (L:List CompS) (e:Ent) (q:Nat):List UInt8:=(List.range q).flatMap fun k => if e.c.testBit k then lineTx (L.getD k ([],[])) (e.vs.getD k []) else []
theorem linesTx_succ (L:List CompS) (e:Ent) (q:Nat):linesTx L e (q + 1) = linesTx L e q ++ (if e.c.testBit q then lineTx (L.getD q ([],[])) (e.vs.getD q []) else []):=by
 unfold linesTx
 rw [List.range_succ,List.flatMap_append]
 simp
def EntW (L:List CompS) (e:Ent):Prop:=e.c < 64 ∧ ∀ k (h:k < L.length),e.c.testBit k = true → (e.vs.getD k []).length = L[k].2.length ∧ ∀ x ∈ e.vs.getD k [],SVOk x
set_option maxHeartbeats 1600000 in
set_option maxRecDepth 20000 in
theorem appendLines_any (L:List CompS) (e:Ent) (sl:Nat → Value) (lv:Nat → List Value) (b0 g lc:Nat) (v:Value) (l:List UInt8) (w0 w:World) (hL:LayN w0 b0 g L) (hlc:L.length ≤ lc) (hE:EntOwn w0 0 e sl lv) (hW:EntW L e) (hb:Kp w0.heap.size w0 w) (hT:TxAt w w0.heap.size v l) (hl:l.length ≤ 600000) (hP:PowB w0.heap.size w0) :
 Calls Tryz.prog 98 #[.agg #[.int .u64 e.c,sl 0,sl 1,sl 2,sl 3,sl 4,sl 5],v,.slice (some ⟨g,0,none⟩) L.length lc] w (WEnds w w0.heap.size l (linesTx L e L.length)):=by
 obtain ⟨B,hB⟩:∃ B,B = w0.heap.size:=⟨_,rfl⟩
 rw [← hB] at hb hT hP ⊢
 have hBw:B ≤ w.heap.size:=by rw [hB];exact hb.size
 obtain ⟨a,cc,rfl⟩:=hT.form
 obtain ⟨n,hn⟩:∃ n,n = l.length:=⟨_,rfl⟩
 obtain ⟨m,hm⟩:∃ m,m = L.length:=⟨_,rfl⟩
 rw [← hn] at hT hl ⊢
 have hm6:m ≤ 6:=by rw [hm];exact hL.few
 rw [← hm] at hlc ⊢
 have HN:Hid (n = l.length):=hn
 have HM:Hid (m = L.length):=hm
 have HL:Hid (LayN w0 b0 g L):=hL
 have HE:Hid (EntOwn w0 0 e sl lv):=hE
 have HEW:Hid (EntW L e):=hW
 have HB:Hid (B = w0.heap.size):=hB
 have Hb:Hid (Kp B w0 w):=hb
 have HP:Hid (PowB B w0):=hP
 have hsls:∀ k,k < 6 → ∃ a m c,sl k = .slice a m c:=fun k hk => by obtain ⟨a,c,q⟩:=own_form (hE k hk).row;exact ⟨a,_,c,q⟩
 obtain ⟨a0,m0,c0,s0⟩:=hsls 0 (by omega)
 obtain ⟨a1,m1,c1,s1⟩:=hsls 1 (by omega)
 obtain ⟨a2,m2,c2,s2⟩:=hsls 2 (by omega)
 obtain ⟨a3,m3,c3,s3⟩:=hsls 3 (by omega)
 obtain ⟨a4,m4,c4,s4⟩:=hsls 4 (by omega)
 obtain ⟨a5,m5,c5,s5⟩:=hsls 5 (by omega)
 obtain ⟨W1,hW1⟩:∃ W1,W1 = w.alloc (.cells #[.int .u64 e.c,sl 0,sl 1,sl 2,sl 3,sl 4,sl 5] 164):=⟨_,rfl⟩
 have hK1:Kp B w W1:=by rw [hW1];exact (Kp.refl _ _).alloc hBw _
 have hbx:W1.heap[w.heap.size]? = some (.cells #[.int .u64 e.c,sl 0,sl 1,sl 2,sl 3,sl 4,sl 5] 164 (0,0)):=by rw [hW1];exact heap_alloc_at rfl _
 have HBx:Hid (∀ W,Kp B W1 W → W.cell? ⟨w.heap.size,0,none⟩ = some (.int .u64 e.c) ∧ ∀ k,k < 6 → W.cell? ⟨w.heap.size,1 + k,none⟩ = some (sl k)):=fun W hW => by
  have q:=hW.kept hbx (by decide)
  refine ⟨by rw [cell_row q];rfl,fun k hk => ?_⟩
  rw [cell_row q]
  have e:k = 0 ∨ k = 1 ∨ k = 2 ∨ k = 3 ∨ k = 4 ∨ k = 5:=by omega
  rcases e with rfl | rfl | rfl | rfl | rfl | rfl <;> rfl
 have HX0:Hid (TxAt W1 B (.slice a n cc) l ∧ Kp B W1 W1):=⟨by rw [hW1];exact World.ownsRow.alloc hT _,Kp.refl _ _⟩
 have HK1:Hid (Kp B w W1):=hK1
 have hs1:W1.heap.size = w.heap.size + 1:=by rw [hW1];simp
 rw [s0,s1,s2,s3,s4,s5] at hW1
 rw [s0,s1,s2,s3,s4,s5]
 have hec:e.c < 64:=hW.1
 have HW1:Hid (w.alloc (.cells #[.int .u64 e.c,.slice a0 m0 c0,.slice a1 m1 c1,.slice a2 m2 c2,.slice a3 m3 c3,.slice a4 m4 c4,.slice a5 m5 c5] 164) = W1):=hW1.symm
 clear hL hE hW hB hb hP hT hn hm hsls s0 s1 s2 s3 s4 s5 hK1 hbx hW1
 obtain ⟨ec,hece⟩:∃ ec,ec = e.c:=⟨_,rfl⟩
 have HEc:Hid (ec = e.c):=hece
 rw [← hece] at hec HW1 ⊢
 clear hece
 go_enter Tryz.func98,Tryz.ntmps98
 go_wp2_with fail
 rw [HW1.out]
 go_loopw [1,11] (fun x t wr => ∃ (q:Nat) (sa:Option Addr) (p sc:Nat) (acc:List UInt8),q ≤ m ∧ t = .int .i64 q ∧ x = .slice sa p sc ∧ p ≤ 600000 + 3000 * q ∧ Hid (p = acc.length ∧ acc = l ++ linesTx L e q) ∧ Hid (TxAt wr B (.slice sa p sc) acc ∧ Kp B W1 wr)) (fun _ t _ => m - (intOf t).toNat)
 case atStart => exact ⟨0,_,_,_,l,by omega,rfl,rfl,by omega,⟨HN.out,by simp [linesTx]⟩,HX0⟩
 case round =>
  obtain ⟨q,sa,p,sc,acc,hq,rfl,rfl,hp,HA,HX⟩:=hrel
  have hwr1:=HX.out.2.size
  have hwr:B ≤ wr.heap.size:=by omega
  by_cases hlt:q < m
  · have hql:q < L.length:=by rw [← HM.out];exact hlt
    have hq6:q < 6:=by omega
    have hK:Kp B w0 wr:=(Hb.out.trans HK1.out).trans HX.out.2
    obtain ⟨hok,k0,fs,k1,hfs,hfb⟩:=HL.out.comp q hql
    have hgl:g < B:=by rw [HB.out];exact Nat.lt_of_lt_of_le HL.out.lt HL.out.le
    have y0:wr.cell? ⟨g,q * 2,none⟩ = some (.string (mk L[q].1)):=(World.cell?_of_block (a:=⟨g,q * 2,none⟩) (hK.block g hgl)).trans k0
    have y1:wr.cell? ⟨g,q * 2 + 1,none⟩ = some fs:=(World.cell?_of_block (a:=⟨g,q * 2 + 1,none⟩) (hK.block g hgl)).trans k1
    obtain ⟨x0,x1⟩:=HBx.out wr HX.out.2
    have x2:=x1 q hq6
    rw [← HEc.out] at x0
    have hgd:L.getD q ([],[]) = L[q]:=by simp [List.getD,hql]
    obtain ⟨fa,fc,rfl⟩:=hfs.form
    obtain ⟨va,vc,hvf⟩:=own_form (HE.out q hq6).row
    rw [hvf] at x2
    have hwl:w.heap.size < wr.heap.size:=by omega
    have hne:w.heap.size ≠ wr.heap.size:=by omega
    clear x1 k0 k1
    cases ht:ec.testBit q with
    | false =>
      have HE2:Hid (acc = l ++ linesTx L e (q + 1)):=by show _ = _;rw [linesTx_succ,← HEc.out,ht,HA.out.2];simp
      clear hgd
      generalize L[q].1 = nm at y0
      generalize L[q].2.length = fn at y1
      go_wp2_with (go_at_call 66;refine (has_any ec q _ hec hq6).mono ?_;rw [ht];rintro e w' ⟨rfl,rfl⟩)
      exact ⟨⟨q + 1,sa,p,sc,acc,by omega,by go_num,rfl,by omega,⟨HA.out.1,HE2.out⟩,⟨World.ownsRow.alloc HX.out.1 _,HX.out.2.alloc hwr _⟩⟩,by simp [intOf];omega⟩
    | true =>
      have hfit:=HEW.out.2 q hql (by rw [← HEc.out];exact ht)
      have hll:=lineTx_len L[q] (e.vs.getD q []) hok hfit.1 hfit.2
      have HE2:Hid (acc ++ lineTx L[q] (e.vs.getD q []) = l ++ linesTx L e (q + 1)):=by show _ = _;rw [linesTx_succ,← HEc.out,ht,HA.out.2,hgd];simp
      have HC:Hid (∀ W,Kp B wr W → TxAt W B (.slice sa p sc) acc → Calls Tryz.prog 148 #[.slice sa p sc,.agg #[.string (mk L[q].1),.slice fa L[q].2.length fc],.slice va (e.vs.getD q []).length vc] W (WEnds W B acc (lineTx L[q] (e.vs.getD q [])))):=fun W hW hT => by
       have hV:=HE.out q hq6
       rw [hvf] at hV
       have:=appendLine_any L[q] (.slice fa L[q].2.length fc) _ (.slice sa p sc) (e.vs.getD q []) (lv q) acc w0 W hok hfs hV hfit.1 hfit.2 (by rw [← HB.out];exact hK.trans hW) (by rw [← HB.out];exact hT) (by rw [← HA.out.1];omega) (by rw [← HB.out];exact HP.out)
       rw [← HB.out] at this
       exact this
      clear hgd hfs hok hvf hfb hK
      generalize lineTx L[q] (e.vs.getD q []) = tx at hll HE2 HC
      generalize L[q].1 = nm at y0 HC
      generalize L[q].2.length = fn at y1 HC
      generalize (e.vs.getD q []).length = vn at x2 HC
      go_wp2_with (go_at_call 66;refine (has_any ec q _ hec hq6).mono ?_;rw [ht];rintro e w' ⟨rfl,rfl⟩)
      go_region_with (go_at_call 148;refine (HC.out _ ?_ ?_).mono ?_;exact ((Kp.refl _ _).alloc hwr _).drew;exact World.ownsRow.drew (World.ownsRow.alloc HX.out.1 _);rintro e w8 ⟨v8,rfl,hT8,hb8⟩;obtain ⟨a8,c8,rfl⟩:=hT8.form;obtain ⟨m8,hm8⟩:∃ m8,m8 = (acc ++ tx).length:=⟨_,rfl⟩;rw [← hm8] at hT8 ⊢;have h8:m8 ≤ 600000 + 3000 * (q + 1):=(by rw [hm8,List.length_append,← HA.out.1];omega);have HA8:Hid (m8 = (acc ++ tx).length ∧ acc ++ tx = l ++ linesTx L e (q + 1)):=⟨hm8,HE2.out⟩;have HX8:Hid (TxAt w8 B (.slice a8 m8 c8) (acc ++ tx) ∧ Kp B W1 w8):=⟨hT8,(HX.out.2.trans (((Kp.refl _ _).alloc hwr _).drew)).trans hb8⟩;clear hT8 hb8 hm8)
      all_goals go_wp2_with fail
      all_goals exact ⟨⟨q + 1,a8,m8,c8,acc ++ tx,by omega,by go_num,rfl,h8,HA8,HX8⟩,by simp [intOf];omega⟩
  · obtain rfl:q = m:=by omega
    go_wp2_with fail
    go_ret
    refine ⟨_,rfl,?_,HK1.out.trans HX.out.2⟩
    rw [← HA.out.2]
    exact HX.out.1
end Go.Proofs.YthkbeaffkcfgiabGreatDoor
