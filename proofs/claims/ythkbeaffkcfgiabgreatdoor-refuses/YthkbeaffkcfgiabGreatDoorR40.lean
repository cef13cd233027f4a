import Derived.Test.YthkbeaffkcfgiabGreatDoorR25
import Derived.Test.YthkbeaffkcfgiabGreatDoorR39
import Derived.Test.YthkbeaffkcfgiabGreatDoorR36
import Derived.Test.YthkbeaffkcfgiabGreatDoorR28
import Derived.Test.YthkbeaffkcfgiabGreatDoorR31
import Derived.Test.YthkbeaffkcfgiabGreatDoorR33
set_option linter.unusedSimpArgs false
set_option linter.unusedVariables false
namespace Go.Proofs.YthkbeaffkcfgiabGreatDoor
open Go.RowKit
def St.nought:St:=⟨fun _ => 0,fun _ => false,fun _ => 0,fun _ _ _ => .zero,fun _ _ _ => .slice none 0 0⟩
def ownB (b:Nat):Nat → Nat:=fun k => if k = b then 1 else 0
theorem ents_nought (s:Nat):St.nought.ents s = []:=by unfold St.ents;rfl
theorem cells_nought (L:List CompS) (s:Nat):St.nought.cells L s = fun _ _ => []:=by funext k f;unfold St.cells;rfl
theorem wt_new {w':World} {b g c:Nat} {L:List CompS} (hblk:∃ arr,w'.heap[b]? = some (.cells arr 111 (0,0)) ∧ arr.size = 62) (hP:PlacesAt w' b (fun _ => 0) (fun _ => false) (fun _ => 0)) (c0:w'.cell? ⟨b,0,none⟩ = some (.slice (some ⟨g,0,none⟩) L.length c)) (hc:L.length ≤ c) (hL:LayN w' b g L) (c61:w'.cell? ⟨b,61,none⟩ = some (.map none)):WT w' (ownB b) b g c 1 L St.nought where
 me:=by simp [ownB]
 low:=fun k hk => by simp [ownB];omega
 out:=fun k hk => by have:=hP.1;simp [ownB];omega
 blk:=hblk
 places:=hP
 bgs:=fun i _ => by show 0 ≤ 3;omega
 cps:=fun i _ h => by cases h
 c0:=c0
 lcle:=hc
 lay:=hL
 tabs:=Or.inl ⟨c61,fun s _ => ⟨ents_nought s,cells_nought L s⟩⟩
 lists:=fun i _ k f => ⟨World.ownsRow_nil _ _ _ _,fun j h => by cases h⟩
set_option maxHeartbeats 800000 in
theorem counts_nil (w:World):Calls Tryz.prog 96 #[.slice none 0 0] w fun e w' => e = .returned (.agg (cntCells []).toArray) ∧ Below w.heap.size w w':=by
 have H1:Hid (((w.alloc (.cells (cntCells []).toArray 160)).alloc (.cells (cntCells []).toArray 160)).heap[w.heap.size + 1]? = some (.cells (cntCells []).toArray 160 (0,0))):=heap_alloc_at (by simp) _
 have H0:Hid (((w.alloc (.cells (cntCells []).toArray 160)).alloc (.cells (cntCells []).toArray 160)).heap[w.heap.size]? = some (.cells (cntCells []).toArray 160 (0,0))):=by show _ = _;rw [Below.heap_alloc _ _ _ (by simp)];exact heap_alloc_at rfl _
 have HB:Hid (Below w.heap.size w ((w.alloc (.cells (cntCells []).toArray 160)).alloc (.cells (cntCells []).toArray 160))):=((Below.refl _ _).alloc (Nat.le_refl _) _).alloc (by simp) _
 have hsz:(cntCells []).length = 21:=by simp [cntCells,cntsL_len]
 have hso:((cntCells []).toArray.all (·.oneCell')) = true:=by
  simp only [Array.all_eq_true_iff_forall_mem]
  intro v hv
  simp [cntCells] at hv
  obtain ⟨x,_,rfl⟩:=hv
  rfl
 go_enter Tryz.func96,Tryz.ntmps96
 go_wp2
 refine wp_loop_rounds 1 ?_
 rw [rounds_succ]
 go_wp2_with (first
  | refine wpList_load_row rfl 160 _ rfl _ rfl 160 _ _ _ H1.out Tryz.underlying160 rfl (by rw [Tryz.info160];simp [hsz]) ?_
  | refine wpList_store_row rfl 160 _ _ rfl _ _ rfl rfl 160 _ H0.out (by rw [Tryz.info160];simp [hsz]) (by simp [cntCells,cntsL_len]) hso ?_)
 refine bodyPost_ret_by (v:=.agg (cntCells []).toArray) ?_ rfl ⟨rfl,?_⟩
 · exact results_cell_row (p:=2) (ty:=160) rfl _ _ w.heap.size 160 _ (0,0) _ rfl (setRow_heap _ _ _ _ _ _ H0.out) Tryz.underlying160 rfl (by rw [Tryz.info160];simp [hsz])
 · exact ⟨HB.out.os,HB.out.tape,HB.out.output,by simpa [World.setRow] using HB.out.size,fun k hk => (setRow_other _ _ _ _ (by omega)).trans (HB.out.block k hk)⟩
theorem counts_all (B:Nat) (v:Value) (ents:List (Int × Int)) (w:World) (h:w.ownsRow B 46 2 v ents.length (eCells ents)) (hl:ents.length ≤ 20) (hp:∀ z ∈ ents,1 ≤ z.1 ∧ z.1 ≤ 20) :
 Calls Tryz.prog 96 #[v] w fun e w' => e = .returned (.agg (cntCells ents).toArray) ∧ Below w.heap.size w w':=by
 rcases h.2 with ⟨q,hn⟩ | ⟨ga,cap,cur,q,_,q3,q4,_⟩
 · have:ents = []:=List.length_eq_zero_iff.1 hn
   subst this
   rw [q]
   exact counts_nil w
 · rw [q] at h ⊢
   refine counts_any ga cap ents w (fun j hj => ?_) (Array.getElem?_eq_some_iff.1 q3).1 q4 hl hp
   have:=flat2_get (fun z:Int × Int => Value.int .i64 z.1) (fun z => Value.int .i64 z.2) ents j hj
   exact ⟨(h.cellAt (j * 2) (by omega)).trans this.1,(h.cellAt (j * 2 + 1) (by omega)).trans this.2⟩
def backL (L:List CompS) (S:St):List Ent:=((List.range 20).filter S.tk).map fun i => entOf L (S.cp i) (S.vals i) (cntsL (entsOf S.bg S.tk))
theorem entsOf_len (bg:Nat → Nat) (tk:Nat → Bool):(entsOf bg tk).length = ((List.range 20).filter tk).length:=by simp [entsOf]
theorem backL_len (L:List CompS) (S:St):(backL L S).length = (entsOf S.bg S.tk).length:=by simp [backL,entsOf_len]
theorem make99z (n:Nat) (h:n ≤ 20) (W:World):(Instr.makeSlice 99 (.int .i64 0) (.int .i64 (n:Int))).run Tryz.prog W = .ok (.slice (some ⟨W.heap.size,0,none⟩) 0 n) (W.alloc (.cells (madeCells (Value.agg #[.int .u64 0,.slice none 0 0,.slice none 0 0,.slice none 0 0,.slice none 0 0,.slice none 0 0,.slice none 0 0]).cells (n * 7)) 164)):=by
 obtain ⟨i9,hi,hz0,hz1,hz2⟩:=info_parts Tryz.info164
 have:=run_make (P:=Tryz.prog) W 99 164 i9 _ Tryz.underlying99 hi hz0 .i64 .i64 (0:Int) (n:Int) (by omega) (by omega) (by rw [hz2];omega) (by omega)
 rw [hz1] at this
 simpa using this
theorem entOwn_base {W:World} {B B':Nat} {e:Ent} {sl:Nat → Value} {lv:Nat → List Value} (h:EntOwn W B e sl lv) (hb:B' ≤ B):EntOwn W B' e sl lv:=fun k hk => (h k hk).base hb
theorem scene_start {w w1 w2:World} {sa:Option Addr} {sc n:Nat} {ents:List (Int × Int)} {ca z mc:Array Value} (h1:w1.ownsRow w.heap.size 46 2 (.slice sa n sc) n (eCells ents) ∧ Below w.heap.size w w1) (h2:Below w1.heap.size w1 w2) (hn:n ≤ 20) (hmc:mc.size = n * 7) :
 SceneOwn (((w2.alloc (.cells z 160)).setRow w2.heap.size ca).alloc (.cells mc 164)) w.heap.size (.slice (some ⟨w2.heap.size + 1,0,none⟩) 0 n) [] (fun _ _ => .slice none 0 0) (fun _ _ => []) ∧ ((((w2.alloc (.cells z 160)).setRow w2.heap.size ca).alloc (.cells mc 164)).ownsRow w.heap.size 46 2 (.slice sa n sc) n (eCells ents) ∧ (((w2.alloc (.cells z 160)).setRow w2.heap.size ca).alloc (.cells mc 164)).heap[w2.heap.size]? = some (.cells ca 160 (0,0)) ∧ Below w.heap.size w (((w2.alloc (.cells z 160)).setRow w2.heap.size ca).alloc (.cells mc 164))):=by
 have hz1:=h1.2.size
 have hz2:=h2.size
 have hs3:((w2.alloc (.cells z 160)).setRow w2.heap.size ca).heap.size = w2.heap.size + 1:=by simp [World.setRow]
 have hb3:∀ j,j < w2.heap.size → ((w2.alloc (.cells z 160)).setRow w2.heap.size ca).heap[j]? = w2.heap[j]?:=fun j hj => (setRow_other _ _ _ _ (by omega)).trans (Below.heap_alloc _ _ _ hj)
 have hb4:∀ j,j < w2.heap.size → (((w2.alloc (.cells z 160)).setRow w2.heap.size ca).alloc (.cells mc 164)).heap[j]? = w2.heap[j]?:=fun j hj => (Below.heap_alloc _ _ _ (by omega)).trans (hb3 j hj)
 refine ⟨⟨?_,fun j hj => by simp at hj⟩,own_turn h1.1 fun j _ hj => (hb4 j (by omega)).trans (h2.block j hj),?_,⟨h2.os.trans h1.2.os,h2.tape.trans h1.2.tape,h2.output.trans h1.2.output,by simp [World.setRow];omega,fun j hj => (hb4 j (by omega)).trans ((h2.block j (by omega)).trans (h1.2.block j hj))⟩⟩
 · have:=World.ownsRow_made (base:=w.heap.size) (e:=164) (size:=7) ((w2.alloc (.cells z 160)).setRow w2.heap.size ca) mc n (by omega) (by unfold maxLen;omega) hmc
   rw [hs3] at this
   exact this
 · rw [Below.heap_alloc _ _ _ (by omega)]
   exact setRow_heap _ _ _ _ _ _ (heap_alloc_at rfl _)
def Sane (L:List CompS) (S:St):Prop:=∀ i,i < 20 → S.tk i = true → (∀ k f,kindAt L k f = 4 → f < cntC (S.cp i) L k → 0 ≤ (S.vals i k f).p ∧ (S.vals i k f).p ≤ 20) ∧ ∀ k f,(S.vals i k f).ls.length ≤ 100
set_option maxHeartbeats 3200000 in
set_option maxRecDepth 100000 in
theorem scene_wt (own:Nat → Nat) (b g lc N:Nat) (L:List CompS) (S:St) (w:World) (hW:WT w own b g lc N L S) (hs:Sane L S) :
 Calls Tryz.prog 48 #[.pointer (some ⟨b,0,none⟩)] w fun e w' => ∃ v sls lvs,e = .returned v ∧ SceneOwn w' w.heap.size v (backL L S) sls lvs ∧ Below w.heap.size w w':=by
 obtain ⟨i0,hi0,hz0,hz1,hz2⟩:=info_parts Tryz.info164
 obtain ⟨ents,hents⟩:∃ ents,ents = entsOf S.bg S.tk:=⟨_,rfl⟩
 obtain ⟨ps,hps⟩:∃ ps,ps = (List.range 20).filter S.tk:=⟨_,rfl⟩
 have HEn:Hid (ents = entsOf S.bg S.tk):=hents
 have HPs:Hid (ps = (List.range 20).filter S.tk):=hps
 have hpl:ps.length = ents.length:=by rw [hps,hents,entsOf_len]
 have hel:ents.length ≤ 20:=by rw [hents];exact ents_len _ _
 have HPm:Hid (∀ j (h:j < ps.length) (h':j < ents.length),ps[j] < 20 ∧ S.tk ps[j] = true ∧ ents[j] = ((ps[j]:Int) + 1,(S.bg ps[j]:Int))):=fun j h h' => by
  have hall:∀ y ∈ ps,y < 20 ∧ S.tk y = true:=fun y hy => by
   rw [hps] at hy
   have:=List.mem_filter.1 hy
   exact ⟨List.mem_range.1 this.1,this.2⟩
  have hmap:ents = ps.map fun i:Nat => ((i:Int) + 1,(S.bg i:Int)):=by rw [hents,hps];rfl
  refine ⟨(hall _ (List.getElem_mem h)).1,(hall _ (List.getElem_mem h)).2,?_⟩
  simp [hmap]
 have HEp:Hid (∀ z ∈ ents,1 ≤ z.1 ∧ z.1 ≤ 20):=fun z hz => by
  rw [hents] at hz
  obtain ⟨i,hi,rfl⟩:=List.mem_map.1 hz
  have:=List.mem_range.1 (List.mem_filter.1 hi).1
  constructor
  · show (1:Int) ≤ (i:Int) + 1;omega
  · show (i:Int) + 1 ≤ 20;omega
 have HLv:Hid (Calls Tryz.prog 95 #[.pointer (some ⟨b,0,none⟩)] w fun e w' => ∃ sa sc,e = .returned (.slice sa ents.length sc) ∧ Hid (w'.ownsRow w.heap.size 46 2 (.slice sa ents.length sc) ents.length (eCells ents) ∧ Below w.heap.size w w')):=by
  rw [hents]
  refine (living_any b S.bg S.tk S.cp w hW.places hW.bgs).mono ?_
  rintro e w' ⟨sa,sc,rfl,h1,h2⟩
  exact ⟨sa,sc,rfl,h1,h2⟩
 have HW:Hid (WT w own b g lc N L S):=hW
 have HSn:Hid (Sane L S):=hs
 obtain ⟨n,hn⟩:∃ n,n = ents.length:=⟨_,rfl⟩
 have HN:Hid (n = ents.length):=hn
 have HPl:Hid (ps.length = n):=by rw [hn];exact hpl
 rw [← hn] at HLv hel
 have hcsz:(cntCells ents).length = 21:=by simp [cntCells,cntsL_len]
 have hcso:((cntCells ents).toArray.all (·.oneCell')) = true:=by
  simp only [Array.all_eq_true_iff_forall_mem]
  intro v hv
  simp [cntCells] at hv
  obtain ⟨x,_,rfl⟩:=hv
  rfl
 obtain ⟨ca,hca⟩:∃ ca,ca = (cntCells ents).toArray:=⟨_,rfl⟩
 have hcas:ca.size = 21:=by rw [hca];simpa using hcsz
 rw [← hca] at hcso
 have HCa:Hid (∀ j,j < 21 → ca[j]? = some (.int .i64 ((cntsL ents).getD j 0))):=fun j hj => by
  rw [hca]
  have hl:=cntsL_len ents
  simp [cntCells,List.getD,hl,hj]
 have HCt:Hid (∀ W v,W.ownsRow w.heap.size 46 2 v n (eCells ents) → Calls Tryz.prog 96 #[v] W fun e w' => e = .returned (.agg ca) ∧ Hid (Below W.heap.size W w')):=fun W v h => by
  rw [hca]
  rw [hn] at h
  exact counts_all _ v ents W h (by omega) HEp.out
 have hC0:Hid (cntCells ([]:List (Int × Int)) = cntCells []):=rfl
 obtain ⟨mc,hmc⟩:∃ mc,mc = madeCells (Value.agg #[.int .u64 0,.slice none 0 0,.slice none 0 0,.slice none 0 0,.slice none 0 0,.slice none 0 0,.slice none 0 0]).cells (n * 7):=⟨_,rfl⟩
 have HMc:Hid (mc.size = n * 7):=by rw [hmc];exact size_madeCells _ _
 have mk0:=make99z n hel
 rw [← hmc] at mk0
 clear hW hs hents hps hpl hn hca hcsz hmc
 go_enter Tryz.func48,Tryz.ntmps48
 go_wp2_with (first
  | (go_at_call 95;refine HLv.out.mono ?_;rintro e w1 ⟨sa,sc,rfl,HR1⟩)
  | (go_at_call 96;refine (HCt.out _ _ HR1.out.1).mono ?_;rintro e w2 ⟨rfl,HB2⟩;have HZ2:Hid ((w2.alloc (.cells (cntCells []).toArray 160)).heap[w2.heap.size]? = some (.cells (cntCells []).toArray 160 (0,0))):=heap_alloc_at rfl _)
  | refine wpList_store_row rfl 160 _ _ rfl _ _ rfl rfl 160 _ HZ2.out (by rw [Tryz.info160];simp [hcas]) (by rw [hcas];simp [cntCells,cntsL_len]) hcso ?_)
 obtain ⟨hSc0,hSt0⟩:=scene_start (z:=(cntCells []).toArray) (ca:=ca) (mc:=mc) HR1.out HB2.out hel HMc.out
 have HSc0:Hid _:=hSc0
 have HSt0:Hid _:=hSt0
 clear hSc0 hSt0
 go_loopw [5,17] (fun x t wr => ∃ (j:Nat) (xa:Option Addr) (xc:Nat) (sls:Nat → Nat → Value) (lvs:Nat → Nat → List Value),j ≤ n ∧ t = .int .i64 j ∧ x = .slice xa j xc ∧ Hid (SceneOwn wr w.heap.size (.slice xa j xc) ((backL L S).take j) sls lvs) ∧ Hid (wr.ownsRow w.heap.size 46 2 (.slice sa n sc) n (eCells ents) ∧ wr.heap[w2.heap.size]? = some (.cells ca 160 (0,0)) ∧ Below w.heap.size w wr)) (fun _ t _ => n - (intOf t).toNat)
 case atStart => exact ⟨0,_,_,_,_,by omega,rfl,rfl,HSc0,HSt0⟩
 case round =>
  obtain ⟨j,xa,xc,sls,lvs,hj,rfl,rfl,HSc,HSt⟩:=hrel
  have hwr:w.heap.size ≤ wr.heap.size:=HSt.out.2.2.size
  have hbl:=backL_len L S
  have HBl:Hid ((backL L S).length = n):=by show _ = _;rw [hbl,HN.out,HEn.out]
  clear hbl
  by_cases hlt:j < n
  · have hjp:j < ps.length:=by rw [HPl.out];exact hlt
    have hje:j < ents.length:=by rw [← HN.out];exact hlt
    obtain ⟨hi20,htk,hee⟩:=HPm.out j hjp hje
    obtain ⟨ga,hga,x0,x1,hgc⟩:∃ ga,sa = some ⟨ga,0,none⟩ ∧ wr.cell? ⟨ga,j * 2,none⟩ = some (.int .i64 ents[j].1) ∧ wr.cell? ⟨ga,j * 2 + 1,none⟩ = some (.int .i64 ents[j].2) ∧ n ≤ sc:=by
     have hr:=HSt.out.1
     rcases hr.2 with ⟨_,q⟩ | ⟨ga,cap,cur,q1,q2,q3,q4,_⟩
     · omega
     · simp at q1
       obtain ⟨rfl,rfl⟩:=q1
       have:=flat2_get (fun z:Int × Int => Value.int .i64 z.1) (fun z => Value.int .i64 z.2) ents j hje
       exact ⟨ga,rfl,(hr.cellAt (j * 2) (by omega)).trans this.1,(hr.cellAt (j * 2 + 1) (by omega)).trans this.2,q4⟩
    subst hga
    rw [hee] at x0 x1
    simp only at x0 x1
    have hbj:j < (backL L S).length:=by rw [HBl.out];exact hlt
    have hbe:(backL L S)[j] = entOf L (S.cp ps[j]) (S.vals ps[j]) (cntsL ents):=by
     have hp:=HPs.out
     have he:=HEn.out
     subst hp
     rw [he]
     simp [backL]
    have HTk:Hid ((backL L S).take (j + 1) = (backL L S).take j ++ [entOf L (S.cp ps[j]) (S.vals ps[j]) (cntsL ents)]):=by
     show _ = _
     rw [List.take_succ_eq_append_getElem hbj,hbe]
    have hlen:((backL L S).take j).length = j:=by rw [List.length_take];omega
    have HRow:Hid (wr.ownsRow w.heap.size 164 7 (.slice xa j xc) j (sceneCells ((backL L S).take j) sls)):=by
     have:=HSc.out.row
     rw [hlen] at this
     exact this
    obtain ⟨W5,hW5⟩:∃ W5,W5 = wr.alloc (.cells #[.int .i64 ((ps[j]:Int) + 1),.int .i64 (S.bg ps[j])] 46):=⟨_,rfl⟩
    have hB5:Below wr.heap.size wr W5:=by rw [hW5];exact (Below.refl _ _).alloc (Nat.le_refl _) _
    have hbW:Below w.heap.size w W5:=HSt.out.2.2.trans (hB5.mono hwr)
    have HCb:Hid (W5.heap[w2.heap.size]? = some (.cells ca 160 (0,0))):=(hB5.block _ (Array.getElem?_eq_some_iff.1 HSt.out.2.1).1).trans HSt.out.2.1
    have hsn:=HSn.out ps[j] hi20 htk
    have hs5:W5.heap.size = wr.heap.size + 1:=by rw [hW5];simp
    have HEnt:Hid (Calls Tryz.prog 97 #[.pointer (some ⟨b,0,none⟩),.agg #[.int .i64 ((ps[j]:Int) + 1),.int .i64 (S.bg ps[j])],.agg ca] W5 fun e w6 => ∃ a0 n0 c0 a1 n1 c1 a2 n2 c2 a3 n3 c3 a4 n4 c4 a5 n5 c5,e = .returned (.agg #[.int .u64 (S.cp ps[j]),.slice a0 n0 c0,.slice a1 n1 c1,.slice a2 n2 c2,.slice a3 n3 c3,.slice a4 n4 c4,.slice a5 n5 c5]) ∧ Hid (∃ sl lv,entCells (S.cp ps[j]) sl = [.int .u64 (S.cp ps[j]),.slice a0 n0 c0,.slice a1 n1 c1,.slice a2 n2 c2,.slice a3 n3 c3,.slice a4 n4 c4,.slice a5 n5 c5] ∧ EntOwn w6 w.heap.size (entOf L (S.cp ps[j]) (S.vals ps[j]) (cntsL ents)) sl lv) ∧ Hid (Below wr.heap.size wr w6)):=by
     refine (entity_wt own b g lc N ps[j] (S.bg ps[j]) L S ca (cntsL ents) W5 (HW.out.below hbW) hi20 htk HCa.out hsn.1 hsn.2).mono ?_
     rintro e w6 ⟨sl,lv,rfl,g1,g2⟩
     have hf:∀ k,k < 6 → ∃ a n c,sl k = .slice a n c:=fun k hk => by obtain ⟨a,c,z⟩:=own_form (g1 k hk).row;exact ⟨a,_,c,z⟩
     obtain ⟨a0,n0,c0,s0⟩:=hf 0 (by omega)
     obtain ⟨a1,n1,c1,s1⟩:=hf 1 (by omega)
     obtain ⟨a2,n2,c2,s2⟩:=hf 2 (by omega)
     obtain ⟨a3,n3,c3,s3⟩:=hf 3 (by omega)
     obtain ⟨a4,n4,c4,s4⟩:=hf 4 (by omega)
     obtain ⟨a5,n5,c5,s5⟩:=hf 5 (by omega)
     refine ⟨a0,n0,c0,a1,n1,c1,a2,n2,c2,a3,n3,c3,a4,n4,c4,a5,n5,c5,by rw [s0,s1,s2,s3,s4,s5],⟨sl,lv,?_,entOwn_base g1 (by omega)⟩,hB5.trans (g2.mono (by omega))⟩
     unfold entCells
     rw [s0,s1,s2,s3,s4,s5]
    have HXc:Hid (S.cp ps[j] < 64):=HW.out.cps _ hi20 htk
    rw [hW5] at HCb HEnt
    clear hB5 hbW hs5 hW5 hsn hee hbe
    generalize (S.bg ps[j]:Int) = lf at x1 HCb HEnt
    generalize hcpe:S.cp ps[j] = cp at HEnt HTk HXc
    generalize hpe:(ps[j]:Int) = pj at x0 HCb HEnt
    clear hpe hcpe
    go_wp2_with (first
     | refine wpList_load_row rfl 160 _ rfl _ rfl 160 _ _ _ HCb.out Tryz.underlying160 rfl (by rw [Tryz.info160];simp [hcas]) ?_
     | (go_at_call 97;refine HEnt.out.mono ?_;rintro e w6 ⟨a0,n0,c0,a1,n1,c1,a2,n2,c2,a3,n3,c3,a4,n4,c4,a5,n5,c5,rfl,HEo,HB6⟩;have HRow6:Hid (w6.ownsRow w.heap.size 164 7 (.slice xa j xc) j (sceneCells ((backL L S).take j) sls)):=own_turn HRow.out fun i _ hi => HB6.out.block i hi;have hw6:w.heap.size ≤ w6.heap.size:=Nat.le_trans hwr HB6.out.size)
     | (at_builtin;refine wpList_append_own_at _ rfl _ _ 99 rfl w.heap.size 164 i0 _ 7 152 Tryz.underlying99 hi0 hz0 hz1 hz2 rfl (by decide) _ _ _ rfl (HRow6.out.alloc _) ⟨w6.heap.size,0,none⟩ 1 1 [.int .u64 cp,.slice a0 n0 c0,.slice a1 n1 c1,.slice a2 n2 c2,.slice a3 n3 c3,.slice a4 n4 c4,.slice a5 n5 c5] rfl rfl (new_cells [.int .u64 cp,.slice a0 n0 c0,.slice a1 n1 c1,.slice a2 n2 c2,.slice a3 n3 c3,.slice a4 n4 c4,.slice a5 n5 c5]) (by simp [Value.oneCell']) (by unfold maxLen;omega) (by omega) (by simp;omega) ?_;intro v7 w7 hown7 hgrow7 _ _;obtain ⟨sa7,sc7,rfl⟩:=own_form hown7;have HO7:Hid (w7.ownsRow w.heap.size 164 7 (.slice sa7 (j + 1) sc7) (j + 1) (sceneCells ((backL L S).take j) sls ++ [.int .u64 cp,.slice a0 n0 c0,.slice a1 n1 c1,.slice a2 n2 c2,.slice a3 n3 c3,.slice a4 n4 c4,.slice a5 n5 c5])):=hown7;have HG7:Hid ((w6.alloc (.cells #[.int .u64 cp,.slice a0 n0 c0,.slice a1 n1 c1,.slice a2 n2 c2,.slice a3 n3 c3,.slice a4 n4 c4,.slice a5 n5 c5] 164)).grownBy w7 (Value.slice xa j xc).ownBlock):=hgrow7;clear hown7 hgrow7))
    obtain ⟨sl,lv,hec,hEo⟩:=HEo.out
    have hz6:=HB6.out.size
    have hzg:=HG7.out.size
    simp at hzg
    have hbk:∀ i,i < wr.heap.size → (Value.slice xa j xc).ownBlock ≠ some i → w7.heap[i]? = wr.heap[i]?:=fun i hi hne => (HG7.out.block i (by simp;omega) (fun e => hne e.symm)).trans ((Below.heap_alloc _ _ _ (by omega)).trans (HB6.out.block i hi))
    have hty:∀ i,(Value.slice xa j xc).ownBlock = some i → ∃ cs,wr.heap[i]? = some (.cells cs 164 (0,0)):=fun i hi => by
     rcases HRow.out.2 with ⟨q,_⟩ | ⟨g',cap,cur,q,_,q3,_⟩
     · rw [q] at hi;cases hi
     · rw [q] at hi;simp [Value.ownBlock] at hi;subst hi;exact ⟨cur,q3⟩
    refine ⟨⟨j + 1,sa7,sc7,upd sls j sl,upd lvs j lv,by omega,by first | go_num | simp,rfl,?_,?_,?_,?_⟩,by simp [intOf];omega⟩
    · rw [HTk.out]
      have hS6:SceneOwn (w6.alloc (.cells #[.int .u64 cp,.slice a0 n0 c0,.slice a1 n1 c1,.slice a2 n2 c2,.slice a3 n3 c3,.slice a4 n4 c4,.slice a5 n5 c5] 164)) w.heap.size (.slice xa j xc) ((backL L S).take j) sls lvs:=HSc.out.keep fun i _ hi => (Below.heap_alloc _ _ _ (by omega)).trans (HB6.out.block i hi)
      have:=SceneOwn.push (x:=entOf L cp (S.vals ps[j]) (cntsL ents)) (sl:=sl) (lv:=lv) (v':=.slice sa7 (j + 1) sc7) hS6 HXc.out (by simp [entOf]) (fun k hk => (hEo k hk).keep fun i _ hi => Below.heap_alloc _ _ _ hi) (by
       rw [hlen]
       show w7.ownsRow _ _ _ _ _ (sceneCells ((backL L S).take j) sls ++ entCells cp sl)
       rw [hec]
       exact HO7.out) HG7.out
      rw [hlen] at this
      exact this
    · refine own_turn HSt.out.1 fun i hi hil => hbk i hil (fun e => ?_)
      obtain ⟨c1,q1⟩:=hty i e
      rcases HSt.out.1.2 with ⟨q,_⟩ | ⟨g',cap,cur,q,_,q3,_⟩
      · rw [q] at hi;cases hi
      · rw [q] at hi;simp [Value.ownBlock] at hi;subst hi;rw [q1] at q3;simp at q3
    · refine (hbk _ (Array.getElem?_eq_some_iff.1 HSt.out.2.1).1 (fun e => ?_)).trans HSt.out.2.1
      obtain ⟨c1,q1⟩:=hty _ e
      rw [HSt.out.2.1] at q1;simp at q1
    · refine ⟨HG7.out.os.trans (HB6.out.os.trans HSt.out.2.2.os),HG7.out.tape.trans (HB6.out.tape.trans HSt.out.2.2.tape),HG7.out.output.trans (HB6.out.output.trans HSt.out.2.2.output),by omega,fun i hi => (hbk i (by omega) (fun e => ?_)).trans (HSt.out.2.2.block i hi)⟩
      have:=(HRow.out.lt i e).1
      omega
  · obtain rfl:j = n:=by omega
    go_wp2_with fail
    go_ret
    refine ⟨_,sls,lvs,rfl,?_,HSt.out.2.2⟩
    have:=HSc.out
    rw [List.take_of_length_le (by rw [HBl.out];exact Nat.le_refl _)] at this
    exact this
def entsTx (L:List CompS) (sc:List Ent) (q:Nat):List UInt8:=(List.range q).flatMap fun j => [101,10] ++ linesTx L (entAt sc j) L.length
def textTx (L:List CompS) (sc:List Ent):List UInt8:=[115,99,101,110,101,10] ++ (entsTx L sc sc.length ++ [101,110,100,10])
theorem entsTx_succ (L:List CompS) (sc:List Ent) (q:Nat):entsTx L sc (q + 1) = entsTx L sc q ++ ([101,10] ++ linesTx L (entAt sc q) L.length):=by
 unfold entsTx
 rw [List.range_succ,List.flatMap_append]
 simp
theorem linesTx_len (L:List CompS) (e:Ent) (hc:∀ k (h:k < L.length),CompOk L[k]) (hW:EntW L e):∀ q,q ≤ L.length → (linesTx L e q).length ≤ 2500 * q
 | 0,_ => by simp [linesTx]
 | q + 1,hq => by
   have ih:=linesTx_len L e hc hW q (by omega)
   have h1:q < L.length:=by omega
   have hgd:L.getD q ([],[]) = L[q]:=by simp [List.getD,h1]
   rw [linesTx_succ,List.length_append,hgd]
   cases ht:e.c.testBit q with
   | false => simp;omega
   | true =>
     have hf:=hW.2 q h1 ht
     have:=lineTx_len L[q] (e.vs.getD q []) (hc q h1) hf.1 hf.2
     simp only [if_true]
     omega
set_option maxHeartbeats 1600000 in
set_option maxRecDepth 20000 in
theorem text_any (L:List CompS) (sc:List Ent) (sls:Nat → Nat → Value) (lvs:Nat → Nat → List Value) (v:Value) (b0 g lc:Nat) (w:World) (hL:LayN w b0 g L) (hlc:L.length ≤ lc) (hS:SceneOwn w 0 v sc sls lvs) (hW:∀ j,j < sc.length → EntW L (entAt sc j)) (hn:sc.length ≤ 20) (hP:PowB w.heap.size w) :
 Calls Tryz.prog 49 #[v,.slice (some ⟨g,0,none⟩) L.length lc] w fun e w' => e = .returned (.string (mk (textTx L sc))) ∧ Below w.heap.size w w':=by
 obtain ⟨i0,hi0,hz0,hz1,hz2⟩:=info_parts Tryz.info5
 obtain ⟨va,vc,rfl⟩:=own_form hS.row
 obtain ⟨m,hm⟩:∃ m,m = sc.length:=⟨_,rfl⟩
 obtain ⟨nl,hnl⟩:∃ nl,nl = L.length:=⟨_,rfl⟩
 rw [← hm] at hn ⊢
 rw [← hnl]
 have HM:Hid (m = sc.length):=hm
 have HNl:Hid (nl = L.length):=hnl
 have HL:Hid (LayN w b0 g L):=hL
 have HLc:Hid (L.length ≤ lc):=hlc
 have HS:Hid (SceneOwn w 0 (.slice va sc.length vc) sc sls lvs):=hS
 have HW:Hid (∀ j,j < sc.length → EntW L (entAt sc j)):=hW
 have HP:Hid (PowB w.heap.size w):=hP
 have h6:L.length ≤ 6:=hL.few
 have hcv0:(convert 166 166 (.slice (some ⟨w.heap.size,0,none⟩) 6 6)).run Tryz.prog (w.alloc (.cells #[.int .u8 115,.int .u8 99,.int .u8 101,.int .u8 110,.int .u8 101,.int .u8 10] 5)) = .ok (.slice (some ⟨w.heap.size,0,none⟩) 6 6) (w.alloc (.cells #[.int .u8 115,.int .u8 99,.int .u8 101,.int .u8 110,.int .u8 101,.int .u8 10] 5 (6,7))):=Lib.run_convert_bytes_const w 166 5 _ 6 6 Tryz.underlying166 Tryz.underlying5
 have HX0:Hid (TxS (w.alloc (.cells #[.int .u8 115,.int .u8 99,.int .u8 101,.int .u8 110,.int .u8 101,.int .u8 10] 5 (6,7))) w.heap.size (.slice (some ⟨w.heap.size,0,none⟩) 6 6) [115,99,101,110,101,10] ∧ Kp w.heap.size w (w.alloc (.cells #[.int .u8 115,.int .u8 99,.int .u8 101,.int .u8 110,.int .u8 101,.int .u8 10] 5 (6,7)))):=⟨Or.inr (lit_made w w.heap.size [115,99,101,110,101,10] _ _ (Nat.le_refl _) rfl),(Kp.refl _ _).alloc (Nat.le_refl _) _⟩
 clear hL hS hW hP hm hlc hnl
 go_enter Tryz.func49,Tryz.ntmps49
 go_wp2_with fail
 go_loopw [5,12] (fun x t wr => ∃ (q:Nat) (sa:Option Addr) (p sc':Nat) (acc:List UInt8),q ≤ m ∧ t = .int .i64 q ∧ x = .slice sa p sc' ∧ p ≤ 6 + 16000 * q ∧ Hid (p = acc.length ∧ acc = [115,99,101,110,101,10] ++ entsTx L sc q) ∧ Hid (TxS wr w.heap.size (.slice sa p sc') acc ∧ Kp w.heap.size w wr)) (fun _ t _ => m - (intOf t).toNat)
 case atStart => exact ⟨0,_,_,_,[115,99,101,110,101,10],by omega,rfl,rfl,by omega,⟨rfl,by simp [entsTx]⟩,HX0⟩
 case round =>
  obtain ⟨q,sa,p,sc',acc,hq,rfl,rfl,hp,HA,HX⟩:=hrel
  have hwr:=HX.out.2.size
  by_cases hlt:q < m
  · have hqs:q < sc.length:=by rw [← HM.out];exact hlt
    obtain ⟨gs,cap,hgs,_,hgl,hcap,hcell⟩:=HS.out.cell q hqs
    simp only [Value.slice.injEq] at hgs
    obtain ⟨rfl,_,rfl⟩:=hgs
    have hgk:∀ o,wr.cell? ⟨gs,o,none⟩ = w.cell? ⟨gs,o,none⟩:=fun o => World.cell?_of_block (a:=⟨gs,o,none⟩) (HX.out.2.block gs hgl)
    have y0:wr.cell? ⟨gs,q * 7,none⟩ = some (.int .u64 (entAt sc q).c):=(hgk _).trans (hcell 0 (by omega))
    have y1:wr.cell? ⟨gs,q * 7 + 1,none⟩ = some (sls q 0):=(hgk _).trans (hcell 1 (by omega))
    have y2:wr.cell? ⟨gs,q * 7 + 2,none⟩ = some (sls q 1):=(hgk _).trans (hcell 2 (by omega))
    have y3:wr.cell? ⟨gs,q * 7 + 3,none⟩ = some (sls q 2):=(hgk _).trans (hcell 3 (by omega))
    have y4:wr.cell? ⟨gs,q * 7 + 4,none⟩ = some (sls q 3):=(hgk _).trans (hcell 4 (by omega))
    have y5:wr.cell? ⟨gs,q * 7 + 5,none⟩ = some (sls q 4):=(hgk _).trans (hcell 5 (by omega))
    have y6:wr.cell? ⟨gs,q * 7 + 6,none⟩ = some (sls q 5):=(hgk _).trans (hcell 6 (by omega))
    have hE:=(HS.out.ents q hqs).2.2
    have hf:∀ k,k < 6 → ∃ a n c,sls q k = .slice a n c:=fun k hk => by obtain ⟨a,c,z⟩:=own_form (hE k hk).row;exact ⟨a,_,c,z⟩
    have hll:=linesTx_len L (entAt sc q) (fun k hk => (HL.out.comp k hk).1) (HW.out q hqs) L.length (Nat.le_refl _)
    have HE2:Hid (acc ++ [101,10] ++ linesTx L (entAt sc q) L.length = [115,99,101,110,101,10] ++ entsTx L sc (q + 1)):=by show _ = _;rw [entsTx_succ,HA.out.2];simp
    have HC:Hid (∀ W sa7 p7 sc7,Kp w.heap.size w W → TxAt W w.heap.size (.slice sa7 p7 sc7) (acc ++ [101,10]) → Calls Tryz.prog 98 #[.agg #[.int .u64 (entAt sc q).c,sls q 0,sls q 1,sls q 2,sls q 3,sls q 4,sls q 5],.slice sa7 p7 sc7,.slice (some ⟨g,0,none⟩) nl lc] W (WEnds W w.heap.size (acc ++ [101,10]) (linesTx L (entAt sc q) L.length))):=fun W sa7 p7 sc7 hW hT => by
     rw [HNl.out]
     exact appendLines_any L (entAt sc q) (sls q) (lvs q) b0 g lc _ _ w W HL.out HLc.out hE (HW.out q hqs) hW hT (by rw [List.length_append,← HA.out.1];simp;omega) HP.out
    obtain ⟨a0,m0,c0,s0⟩:=hf 0 (by omega)
    obtain ⟨a1,m1,c1,s1⟩:=hf 1 (by omega)
    obtain ⟨a2,m2,c2,s2⟩:=hf 2 (by omega)
    obtain ⟨a3,m3,c3,s3⟩:=hf 3 (by omega)
    obtain ⟨a4,m4,c4,s4⟩:=hf 4 (by omega)
    obtain ⟨a5,m5,c5,s5⟩:=hf 5 (by omega)
    rw [s0,s1,s2,s3,s4,s5] at HC
    rw [s0] at y1;rw [s1] at y2;rw [s2] at y3;rw [s3] at y4;rw [s4] at y5;rw [s5] at y6
    clear hcell hgk hf s0 s1 s2 s3 s4 s5 hE
    generalize (entAt sc q).c = ec at y0 HC
    generalize linesTx L (entAt sc q) L.length = tx at HE2 HC hll
    go_wp2_with (at_builtin;refine wpList_append_S rfl _ _ rfl w.heap.size _ acc rfl (HX.out.1.alloc _) [101,10] rfl (by decide) (by rw [← HA.out.1];simp;omega) (by simp;omega) ?_;intro v7 w7 hT7 hK7;have hb7:=hK7.kept (heap_alloc_at (w:=wr) rfl (.cells #[.int .u64 ec,.slice a0 m0 c0,.slice a1 m1 c1,.slice a2 m2 c2,.slice a3 m3 c3,.slice a4 m4 c4,.slice a5 m5 c5] 164)) (by decide);have u0:w7.cell? ⟨wr.heap.size,0,none⟩ = some (.int .u64 ec):=(by rw [cell_row hb7];rfl);have u1:w7.cell? ⟨wr.heap.size,1,none⟩ = some (.slice a0 m0 c0):=(by rw [cell_row hb7];rfl);have u2:w7.cell? ⟨wr.heap.size,2,none⟩ = some (.slice a1 m1 c1):=(by rw [cell_row hb7];rfl);have u3:w7.cell? ⟨wr.heap.size,3,none⟩ = some (.slice a2 m2 c2):=(by rw [cell_row hb7];rfl);have u4:w7.cell? ⟨wr.heap.size,4,none⟩ = some (.slice a3 m3 c3):=(by rw [cell_row hb7];rfl);have u5:w7.cell? ⟨wr.heap.size,5,none⟩ = some (.slice a4 m4 c4):=(by rw [cell_row hb7];rfl);have u6:w7.cell? ⟨wr.heap.size,6,none⟩ = some (.slice a5 m5 c5):=(by rw [cell_row hb7];rfl);obtain ⟨sa7,sc7,rfl⟩:=hT7.form;have HC7:Hid _:=HC.out w7 sa7 _ sc7 ((HX.out.2.alloc hwr _).trans hK7) hT7;have HK7:Hid (Kp w.heap.size w w7):=(HX.out.2.alloc hwr _).trans hK7;clear hT7 hK7 hb7;generalize (acc ++ [101,10]).length = n7 at HC7 ⊢)
    refine Calls.mono HC7.out ?_
    rintro e w8 ⟨v8,rfl,hT8,hb8⟩
    obtain ⟨a8,c8,rfl⟩:=hT8.form
    obtain ⟨m8,hm8⟩:∃ m8,m8 = (acc ++ [101,10] ++ tx).length:=⟨_,rfl⟩
    rw [← hm8] at hT8 ⊢
    have h8:m8 ≤ 6 + 16000 * (q + 1):=by rw [hm8,List.length_append,List.length_append,← HA.out.1];simp;omega
    have HA8:Hid (m8 = (acc ++ [101,10] ++ tx).length ∧ acc ++ [101,10] ++ tx = [115,99,101,110,101,10] ++ entsTx L sc (q + 1)):=⟨hm8,HE2.out⟩
    have HX8:Hid (TxS w8 w.heap.size (.slice a8 m8 c8) (acc ++ [101,10] ++ tx) ∧ Kp w.heap.size w w8):=⟨Or.inl hT8,HK7.out.trans hb8⟩
    clear hT8 hb8 hm8
    go_wp2_with fail
    exact ⟨⟨q + 1,a8,m8,c8,acc ++ [101,10] ++ tx,by omega,by go_num,rfl,h8,HA8,HX8⟩,by simp [intOf];omega⟩
  · obtain rfl:q = m:=by omega
    have HTx:Hid (acc ++ [101,110,100,10] = textTx L sc):=by show _ = _;rw [HA.out.2,HM.out];simp [textTx]
    go_wp2_with (at_builtin;refine wpList_append_S rfl _ _ rfl w.heap.size _ acc rfl HX.out.1 [101,110,100,10] rfl (by decide) (by rw [← HA.out.1];simp;omega) hwr ?_;intro v7 w7 hT7 hK7;obtain ⟨sa7,sc7,rfl⟩:=hT7.form;have hcv:=own_string hT7;have HK7:Hid (Kp w.heap.size w w7):=HX.out.2.trans hK7;clear hT7 hK7;generalize (acc ++ [101,110,100,10]).length = n7 at hcv ⊢;rw [HTx.out] at hcv)
    go_ret
    exact ⟨rfl,HK7.out.toBelow⟩
theorem powB_up {B B':Nat} {w:World} (h:PowB B w) (hB:B ≤ B'):PowB B' w:=fun w' h' => h w' (h'.mono hB)
set_option maxHeartbeats 1600000 in
theorem save_wt (own:Nat → Nat) (b g lc N:Nat) (L:List CompS) (S:St) (w:World) (hW:WT w own b g lc N L S) (hs:Sane L S) (hE:∀ j,j < (backL L S).length → EntW L (entAt (backL L S) j)) (hP:PowB w.heap.size w) :
 Calls Tryz.prog 17 #[.pointer (some ⟨b,0,none⟩)] w fun e w' => e = .returned (.string (mk (textTx L (backL L S)))) ∧ Below w.heap.size w w':=by
 have hlt:=hW.lt
 have hn:(backL L S).length ≤ 20:=by rw [backL_len];exact ents_len _ _
 have c0:=hW.c0
 have HO:Hid _:=orEmpty_some b w
 have HSc:Hid (∀ W,W = w.drew → Calls Tryz.prog 48 #[.pointer (some ⟨b,0,none⟩)] W fun e w1 => ∃ xa xn xc,e = .returned (.slice xa xn xc) ∧ w1.cell? ⟨b,0,none⟩ = some (.slice (some ⟨g,0,none⟩) L.length lc) ∧ Hid (Calls Tryz.prog 49 #[.slice xa xn xc,.slice (some ⟨g,0,none⟩) L.length lc] w1 fun e w' => e = .returned (.string (mk (textTx L (backL L S)))) ∧ Hid (Below w.heap.size w w'))):=by
  rintro W rfl
  refine (scene_wt own b g lc N L S w.drew (hW.below ((Below.refl _ _).drew)) hs).mono ?_
  rintro e w1 ⟨v,sls,lvs,rfl,h1,h2⟩
  have hb:Below w.heap.size w w1:=⟨h2.os,h2.tape,h2.output,h2.size,h2.block⟩
  obtain ⟨xa,xc,rfl⟩:=own_form h1.row
  refine ⟨xa,_,xc,rfl,(hb.cell (p:=⟨b,0,none⟩) hlt).trans c0,?_⟩
  have hW1:=hW.below hb
  refine (text_any L (backL L S) sls lvs _ b g lc w1 hW1.lay hW1.lcle (h1.base (Nat.zero_le _)) hE hn (powB_up (Lib.TabBelow.on hP hb) hb.size)).mono ?_
  rintro e w' ⟨rfl,h3⟩
  exact ⟨rfl,hb.trans (h3.mono hb.size)⟩
 generalize L.length = nl at HSc c0
 generalize textTx L (backL L S) = tx at HSc ⊢
 clear hW hs hE hP hn
 go_enter Tryz.func17,Tryz.ntmps17
 go_wp2_with fail
 refine Calls.mono HO.out ?_
 rintro e w1 ⟨rfl,h1⟩
 obtain rfl:=h1.symm
 go_wp2_with fail
 go_region_with (first
  | (go_at_call 48;refine (HSc.out _ rfl).mono ?_;rintro e w1 ⟨xa,xn,xc,rfl,d0,HT⟩)
  | (go_at_call 49;refine HT.out.mono ?_;rintro e w3 ⟨rfl,HB⟩))
 all_goals go_wp2_with fail
 all_goals go_ret
 all_goals exact ⟨rfl,HB.out⟩
end Go.Proofs.YthkbeaffkcfgiabGreatDoor
