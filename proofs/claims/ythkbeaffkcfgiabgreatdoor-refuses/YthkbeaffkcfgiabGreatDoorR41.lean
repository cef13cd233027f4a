import Derived.Test.YthkbeaffkcfgiabGreatDoorR37
import Derived.Test.YthkbeaffkcfgiabGreatDoorR20
import Derived.Test.YthkbeaffkcfgiabGreatDoorR40
set_option linter.unusedSimpArgs false
set_option linter.unusedVariables false
namespace Go.Proofs.YthkbeaffkcfgiabGreatDoor
open Go.RowKit
def MoveEnds (w:World) (own:Nat → Nat) (b g lc N:Nat) (L:List CompS) (S:St) (i s':Nat) (w':World):Prop :=
 ∃ own' lv',Stp w own w' own' ∧ WT w' own' b g lc (N + 1) L (S.move L i s' lv')
def ChS (b i s sz:Nat) (l:Int) (W:World):Prop :=
 W.cell? ⟨b,1 + i * 3 + 2,none⟩ = some (.int .u64 (s:Int)) ∧ W.cell? ⟨sz,0,none⟩ = some (.int .i64 ((i:Int) + 1)) ∧ W.cell? ⟨sz,1,none⟩ = some (.int .i64 l)
set_option maxHeartbeats 800000 in
set_option maxRecDepth 100000 in
theorem change_wt {own:Nat → Nat} {b g lc N:Nat} {L:List CompS} {S:St} {w:World} (hW:WT w own b g lc N L S) (i s':Nat) (hi:i < 20) (ht:S.tk i = true) (hs':s' < 64) (hne:s' ≠ S.cp i) (hN:N + 1 ≤ 1000) (hN1:1 ≤ N) (hx:∀ k f,(S.vals i k f).ls.length ≤ 100 ∧ (S.vals i k f).s.length ≤ 1000) :
 Calls Tryz.prog 67 #[.pointer (some ⟨b,0,none⟩),.agg #[.int .i64 ((i:Int) + 1),.int .i64 (S.bg i:Int)],.int .u64 (s':Int)] w fun e w' => e = .returned (.tuple #[]) ∧ MoveEnds w own b g lc N L S i s' w':=by
 obtain ⟨V,hV⟩:∃ V,V = w.alloc (.cells #[.int .i64 ((i:Int) + 1),.int .i64 (S.bg i:Int)] 46):=⟨_,rfl⟩
 have hB:Below w.heap.size w V:=by rw [hV];exact (Below.refl _ _).alloc (Nat.le_refl _) _
 have hs:V.heap.size = w.heap.size + 1:=by rw [hV];simp
 have hblkV:V.heap[w.heap.size]? = some (.cells #[.int .i64 ((i:Int) + 1),.int .i64 (S.bg i:Int)] 46 (0,0)):=by rw [hV];exact heap_alloc_at rfl _
 have hc64:=hW.cps i hi ht
 have hlt:=hW.lt
 have hS0:∀ W,W.heap[b]? = w.heap[b]? → W.heap[w.heap.size]? = V.heap[w.heap.size]? → ChS b i (S.cp i) w.heap.size (S.bg i) W:=fun W h1 h2 =>
  ⟨(World.cell?_of_block (a:=⟨b,1 + i * 3 + 2,none⟩) h1).trans (hW.places.2 i hi).2.2.1,by rw [cell_row (h2.trans hblkV)];rfl,by rw [cell_row (h2.trans hblkV)];rfl⟩
 have HPl:Hid (∀ W,W = V → Calls Tryz.prog 59 #[.pointer (some ⟨b,0,none⟩),.agg #[.int .i64 ((i:Int) + 1),.int .i64 (S.bg i:Int)]] W fun e w' => e = .returned (.pointer (some ⟨b,1 + i * 3,none⟩)) ∧ ChS b i (S.cp i) w.heap.size (S.bg i) w' ∧ Hid (Below V.heap.size V w')):=by
  rintro W rfl
  refine (placeOf_any b i _ W hi).mono ?_
  rintro e w' ⟨rfl,hb⟩
  exact ⟨rfl,hS0 w' ((hb.block b (by omega)).trans (hB.block b hlt)) (hb.block _ (by omega)),hb⟩
 have HEn:Hid (∀ w1,Below V.heap.size V w1 → Calls Tryz.prog 121 #[.pointer (some ⟨b,0,none⟩),.agg #[.int .i64 ((i:Int) + 1),.int .i64 (S.bg i:Int)],.int .u64 (s':Int)] w1 fun e w2 => e = .returned (.tuple #[]) ∧ ∃ bm tb tb',ChS b i (S.cp i) w.heap.size (S.bg i) w2 ∧ w2.cell? ⟨b,61,none⟩ = some (.map (some bm)) ∧ (Instr.lookup 109 (.map (some bm)) (.int .u64 (s':Int)) false).run Tryz.prog w2 = .ok (.pointer (some ⟨tb',0,none⟩)) w2 ∧ (Instr.lookup 109 (.map (some bm)) (.int .u64 (S.cp i:Int)) false).run Tryz.prog w2 = .ok (.pointer (some ⟨tb,0,none⟩)) w2 ∧ Hid ((Instr.lookup 109 (.map (some bm)) (.int .u64 (s':Int)) false).run Tryz.prog w2.drew = .ok (.pointer (some ⟨tb',0,none⟩)) w2.drew ∧ (Instr.lookup 109 (.map (some bm)) (.int .u64 (S.cp i:Int)) false).run Tryz.prog w2.drew = .ok (.pointer (some ⟨tb,0,none⟩)) w2.drew) ∧
  Hid (∀ W2,W2 = w2.drew → Calls Tryz.prog 128 #[.pointer (some ⟨tb',0,none⟩),.agg #[.int .i64 ((i:Int) + 1),.int .i64 (S.bg i:Int)],.pointer (some ⟨tb,0,none⟩)] W2 fun e w3 => e = .returned (.tuple #[]) ∧ ChS b i (S.cp i) w.heap.size (S.bg i) w3 ∧ w3.cell? ⟨b,61,none⟩ = some (.map (some bm)) ∧ (Instr.lookup 109 (.map (some bm)) (.int .u64 (s':Int)) false).run Tryz.prog w3 = .ok (.pointer (some ⟨tb',0,none⟩)) w3 ∧ (Instr.lookup 109 (.map (some bm)) (.int .u64 (S.cp i:Int)) false).run Tryz.prog w3 = .ok (.pointer (some ⟨tb,0,none⟩)) w3 ∧
   Hid (∀ W3,W3 = w3.drew → Calls Tryz.prog 60 #[.pointer (some ⟨b,0,none⟩),.agg #[.int .i64 ((i:Int) + 1),.int .i64 (S.bg i:Int)],.int .u64 (S.cp i:Int)] W3 fun e w4 => e = .returned (.tuple #[]) ∧ ChS b i (S.cp i) w.heap.size (S.bg i) w4 ∧ w4.frozen? ⟨b,1 + i * 3 + 2,none⟩ = false ∧ Hid (MoveEnds w own b g lc N L S i s' (w4.setCell ⟨b,1 + i * 3 + 2,none⟩ (.int .u64 (s':Int))))))):=fun w1 hb1 => by
  have hbw:Below w.heap.size w w1:=hB.trans (hb1.mono hB.size)
  have hW1:=hW.below hbw
  have z1:=hb1.size
  have hsel:S.sel s' i = false:=by simp [St.sel];intro _ h;exact hne h.symm
  refine (enter_wt own b g lc N s' L S.ents (S.cells L) ((i:Int) + 1) (S.bg i) w1 hW1.me hW1.blk hW1.c0 hW1.lcle hW1.lay hW1.tabs (by omega) hN1 hs' (Nat.le_trans (ents_lenS _ _) (by omega)) (ents_sortS _ _) (hW1.ones s')).mono ?_
  rintro e w2 ⟨rfl,t1,t2,t3,own2,o1,o2,t4⟩
  have z2:=t1.size
  have hosz:own w.heap.size = 0:=hW.out _ (Nat.le_refl _)
  have hT2:Turns w w2 (Tur own):=(Turns.ofBelow _ hbw).trans' t1
  have hb2:w2.heap[w.heap.size]? = V.heap[w.heap.size]?:=(t1.block _ (by omega) (by unfold Tur;omega)).trans (hb1.block _ (by omega))
  have hc2:∀ o,o ≠ 61 → w2.cell? ⟨b,o,none⟩ = w.cell? ⟨b,o,none⟩:=fun o ho => (t2 o ho).trans (hbw.cell (p:=⟨b,o,none⟩) hlt)
  have hCh2:ChS b i (S.cp i) w.heap.size (S.bg i) w2:=⟨(hc2 _ (by omega)).trans (hW.places.2 i hi).2.2.1,by rw [cell_row (hb2.trans hblkV)];rfl,by rw [cell_row (hb2.trans hblkV)];rfl⟩
  have q:∃ bm n m,TabsIn w2 own2 b bm n m L (upd S.ents s' (setIn (S.ents s') (ahead (S.ents s') ((i:Int) + 1)) [((i:Int) + 1,(S.bg i:Int))])) (upd (S.cells L) s' fun k f => setIn (S.cells L s' k f) (ahead (S.ents s') ((i:Int) + 1) * kSz (kindAt L k f)) (kZero (kindAt L k f))) ∧ n ≤ N + 1:=by
   rcases t4 with ⟨_,q⟩ | q
   · have:=(q s' hs').1
     rw [upd_same] at this
     simp [setIn] at this
   · exact q
  obtain ⟨bm,n,m,q1,q2⟩:=q
  have hin:ahead (S.ents (S.cp i)) ((i:Int) + 1) < (S.ents (S.cp i)).length:=ahead_in S i hi ht
  have eS':setIn (S.ents s') (ahead (S.ents s') ((i:Int) + 1)) [((i:Int) + 1,(S.bg i:Int))] = entsOf S.bg (upd (S.sel s') i true):=(ents_enter S.bg _ i hi hsel).symm
  have hin':=(ents_despawn S.bg (upd (S.sel s') i true) i hi (upd_same _ _ _)).1
  obtain ⟨tb,hm⟩:∃ tb,m (S.cp i) = some tb:=by
   rcases q1.tab _ hc64 with ⟨_,h2,_⟩ | ⟨tb,h1,_⟩
   · rw [upd_ne _ _ _ (Ne.symm hne)] at h2
     rw [h2] at hin
     simp at hin
   · exact ⟨tb,h1⟩
  obtain ⟨tb',hm'⟩:∃ tb',m s' = some tb':=by
   rcases q1.tab _ hs' with ⟨_,h2,_⟩ | ⟨tb,h1,_⟩
   · rw [upd_same] at h2
     simp [setIn] at h2
   · exact ⟨tb,h1⟩
  have lk':=q1.map.look s' hs'
  have lk:=q1.map.look (S.cp i) hc64
  rw [hm'] at lk'
  rw [hm] at lk
  have q1d:TabsIn w2.drew own2 b bm n m L _ _:=q1.turn hW.lay.kl rfl fun _ _ _ => ⟨rfl,rfl⟩
  have lkd':=q1d.map.look s' hs'
  have lkd:=q1d.map.look (S.cp i) hc64
  rw [hm'] at lkd'
  rw [hm] at lkd
  refine ⟨rfl,bm,tb,tb',hCh2,q1.c61,lk',lk,⟨lkd',lkd⟩,?_⟩
  rintro W2 rfl
  have ho2:∀ j,j < w.heap.size → own2 j = own j:=fun j hj => o1 j (by omega)
  refine (take_mid own2 b bm n (S.cp i) s' tb tb' m L _ _ ((i:Int) + 1) (S.bg i) (S.vals i) (S.lv i) w2.drew q1d ((ho2 b hlt).trans hW.me) (by show b < w2.heap.size;omega) o2 hc64 hs' hne hm hm' hW.lay.kl hW.lay.kk (by rw [upd_ne _ _ _ (Ne.symm hne)];exact Nat.le_trans (ents_lenS _ _) (by omega)) (by rw [upd_ne _ _ _ (Ne.symm hne)];exact ents_sortS _ _) (by rw [upd_ne _ _ _ (Ne.symm hne)];exact hin) (by rw [upd_same,eS'];exact Nat.le_trans (ents_len _ _) (by omega)) (by rw [upd_same,eS'];exact ents_sort _ _) (by rw [upd_same,eS'];exact hin') (fun k f o ho => ?_) (fun k f => ?_) hx).mono ?_
  · rw [upd_ne _ _ _ (Ne.symm hne),upd_ne _ _ _ (Ne.symm hne)]
    exact cells_row S.bg (S.sel (S.cp i)) (fun i => fvCells (kindAt L k f) (S.vals i k f) (S.lv i k f)) (kSz (kindAt L k f)) i o hi (by simp [St.sel,ht]) (fun j => fvCells_len _ _ _) ho
  · obtain ⟨l1,l2⟩:=hW.lists i hi k f
    refine ⟨own_turn l1 fun j hj hjl => hT2.block j hjl (by have:=l2 j hj;unfold Tur;omega),fun j hj => (ho2 j (l1.lt j hj).2).trans (l2 j hj)⟩
  · rintro e w3 ⟨rfl,own3,lv,hTM⟩
    have hTM':=hTM
    obtain ⟨u1,u2,u3,u4,u5⟩:=hTM'
    have z3:w2.heap.size ≤ w3.heap.size:=u1.size
    have own3b:own3 b = 1:=(u2 b (by show b < w2.heap.size;omega)).trans ((ho2 b hlt).trans hW.me)
    have e3:∀ j,j < w2.heap.size → own2 j < 32 → w3.heap[j]? = w2.heap[j]?:=fun j hj h => u1.block j hj (by omega)
    have hos2:own2 w.heap.size = 0:=(o1 _ (by omega)).trans hosz
    have eb3:w3.heap[b]? = w2.heap[b]?:=e3 b (by omega) (by rw [ho2 b hlt,hW.me];omega)
    have esz3:w3.heap[w.heap.size]? = w2.heap[w.heap.size]?:=e3 _ (by omega) (by omega)
    have hCh3:ChS b i (S.cp i) w.heap.size (S.bg i) w3:=⟨(World.cell?_of_block (a:=⟨b,1 + i * 3 + 2,none⟩) eb3).trans hCh2.1,(World.cell?_of_block (a:=⟨w.heap.size,0,none⟩) esz3).trans hCh2.2.1,(World.cell?_of_block (a:=⟨w.heap.size,1,none⟩) esz3).trans hCh2.2.2⟩
    have lk3':=u4.map.look s' hs'
    have lk3:=u4.map.look (S.cp i) hc64
    rw [hm'] at lk3'
    rw [hm] at lk3
    refine ⟨rfl,hCh3,u4.c61,lk3',lk3,?_⟩
    rintro W3 rfl
    have u4d:TabsIn w3.drew own3 b bm n m L _ _:=u4.turn hW.lay.kl rfl fun _ _ _ => ⟨rfl,rfl⟩
    have hb3:∃ arr,w3.drew.heap[b]? = some (.cells arr 111 (0,0)) ∧ arr.size = 62:=by obtain ⟨arr,r1,r2⟩:=t3;exact ⟨arr,eb3.trans r1,r2⟩
    refine (leave_wt own3 b bm n (N + 1) (S.cp i) tb m L _ _ ((i:Int) + 1) (S.bg i) w3.drew own3b hb3 hW.lay.kl hW.lay.kk u4d q2 hc64 hm (by rw [upd_ne _ _ _ (Ne.symm hne)];exact Nat.le_trans (ents_lenS _ _) (by omega)) (by rw [upd_ne _ _ _ (Ne.symm hne)];exact ents_sortS _ _) (by rw [upd_ne _ _ _ (Ne.symm hne),upd_ne _ _ _ (Ne.symm hne)];exact hW.ones _) (by rw [upd_ne _ _ _ (Ne.symm hne)];exact hin) (fun hnil => ?_)).mono ?_
    · rw [upd_ne _ _ _ (Ne.symm hne)] at hnil ⊢
      rw [upd_ne _ _ _ (Ne.symm hne),upd_ne _ _ _ (Ne.symm hne)]
      funext k f
      rw [← cells_move_from S L i s' (fun _ _ => .slice none 0 0) hi ht hne k f]
      have e5:(S.move L i s' fun _ _ => .slice none 0 0).ents (S.cp i) = []:=by
       rw [ents_move S L i s' _ hi ht hne,upd_same];exact hnil
      unfold St.ents entsOf at e5
      have e6:=List.map_eq_nil_iff.1 e5
      unfold St.cells cellsOf
      rw [e6]
      rfl
    · rintro e w4 ⟨rfl,v1,own4,v2,v3,v4⟩
      have hE:∀ A,(upd S.ents s' A) (S.cp i) = S.ents (S.cp i):=fun A => upd_ne _ _ _ (Ne.symm hne)
      have hX:∀ A B,upd (upd (S.cells L) s' A) s' B = upd (S.cells L) s' B:=fun A B => by funext t;unfold upd;split <;> rfl
      have hX2:∀ A,(upd (S.cells L) s' A) (S.cp i) = S.cells L (S.cp i):=fun A => upd_ne _ _ _ (Ne.symm hne)
      simp only [upd_same,hE,hX,hX2] at v4
      have hfin:=hW.moved (w2:=w2.drew) (w3:=w3) (w4:=w4) (own2:=own2) (own3:=own3) (own4:=own4) (bm:=bm) (n:=n) (m:=m) i s' hi ht hs' hne lv hT2.drew ho2 t3 hc2 hTM ⟨v1.os,v1.tape,v1.output,v1.size,v1.block⟩ v2 v3 v4
      have z4:=v1.size
      have eb4:w4.heap[w.heap.size]? = w3.heap[w.heap.size]?:=v1.block _ (by show w.heap.size < w3.heap.size;omega) (by rw [u2 _ (by show w.heap.size < w2.heap.size;omega)];omega)
      exact ⟨rfl,⟨hfin.2.2.2,(World.cell?_of_block (a:=⟨w.heap.size,0,none⟩) eb4).trans hCh3.2.1,(World.cell?_of_block (a:=⟨w.heap.size,1,none⟩) eb4).trans hCh3.2.2⟩,hfin.2.2.1,own4,lv,hfin.1,hfin.2.1⟩
 have HVe:Hid (_ = V):=hV.symm
 clear hW hB hs hblkV hS0 hV hx ht hne hN hN1 hc64
 generalize (S.bg i:Int) = l at HPl HEn HVe ⊢
 generalize S.cp i = s at HPl HEn
 unfold ChS at HPl HEn
 go_enter Tryz.func67,Tryz.ntmps67
 go_wp2_with (first
  | (go_at_call 59;refine (HPl.out _ HVe.out).mono ?_;rintro e w1 ⟨rfl,⟨c1,c2,c3⟩,HB1⟩)
  | (go_at_call 121;refine (HEn.out _ HB1.out).mono ?_;rintro e w2 ⟨rfl,bm,tb,tb',⟨d1,d2,d3⟩,d4,k1,k2,HKd,HTk⟩))
 clear c1 c2 c3
 have HS2:Hid ((w2.cell? ⟨b,1 + i * 3 + 2,none⟩ = some (.int .u64 (s:Int)) ∧ w2.cell? ⟨w.heap.size,0,none⟩ = some (.int .i64 ((i:Int) + 1)) ∧ w2.cell? ⟨w.heap.size,1,none⟩ = some (.int .i64 l)) ∧ w2.cell? ⟨b,61,none⟩ = some (.map (some bm)) ∧ (Instr.lookup 109 (.map (some bm)) (.int .u64 (s':Int)) false).run Tryz.prog w2 = .ok (.pointer (some ⟨tb',0,none⟩)) w2 ∧ (Instr.lookup 109 (.map (some bm)) (.int .u64 (s:Int)) false).run Tryz.prog w2 = .ok (.pointer (some ⟨tb,0,none⟩)) w2):=⟨⟨d1,d2,d3⟩,d4,k1,k2⟩
 have HS2d:Hid ((w2.drew.cell? ⟨b,1 + i * 3 + 2,none⟩ = some (.int .u64 (s:Int)) ∧ w2.drew.cell? ⟨w.heap.size,0,none⟩ = some (.int .i64 ((i:Int) + 1)) ∧ w2.drew.cell? ⟨w.heap.size,1,none⟩ = some (.int .i64 l)) ∧ w2.drew.cell? ⟨b,61,none⟩ = some (.map (some bm)) ∧ (Instr.lookup 109 (.map (some bm)) (.int .u64 (s':Int)) false).run Tryz.prog w2.drew = .ok (.pointer (some ⟨tb',0,none⟩)) w2.drew ∧ (Instr.lookup 109 (.map (some bm)) (.int .u64 (s:Int)) false).run Tryz.prog w2.drew = .ok (.pointer (some ⟨tb,0,none⟩)) w2.drew):=by
  obtain ⟨⟨x1,x2,x3⟩,x4,x5,x6⟩:=HS2.out
  exact ⟨⟨x1,x2,x3⟩,x4,HKd.out.1,HKd.out.2⟩
 go_region_held3 (fun W => (W.cell? ⟨b,1 + i * 3 + 2,none⟩ = some (.int .u64 (s:Int)) ∧ W.cell? ⟨w.heap.size,0,none⟩ = some (.int .i64 ((i:Int) + 1)) ∧ W.cell? ⟨w.heap.size,1,none⟩ = some (.int .i64 l)) ∧ W.cell? ⟨b,61,none⟩ = some (.map (some bm)) ∧ (Instr.lookup 109 (.map (some bm)) (.int .u64 (s':Int)) false).run Tryz.prog W = .ok (.pointer (some ⟨tb',0,none⟩)) W ∧ (Instr.lookup 109 (.map (some bm)) (.int .u64 (s:Int)) false).run Tryz.prog W = .ok (.pointer (some ⟨tb,0,none⟩)) W) ((first | exact HS3.out | exact HS2d.out | exact HS2.out)) ((go_at_call 128;refine (HTk.out _ rfl).mono ?_;rintro e w3 ⟨rfl,m1,m2,m3,m4,HLv⟩;have HS3:Hid ((w3.cell? ⟨b,1 + i * 3 + 2,none⟩ = some (.int .u64 (s:Int)) ∧ w3.cell? ⟨w.heap.size,0,none⟩ = some (.int .i64 ((i:Int) + 1)) ∧ w3.cell? ⟨w.heap.size,1,none⟩ = some (.int .i64 l)) ∧ w3.cell? ⟨b,61,none⟩ = some (.map (some bm)) ∧ (Instr.lookup 109 (.map (some bm)) (.int .u64 (s':Int)) false).run Tryz.prog w3 = .ok (.pointer (some ⟨tb',0,none⟩)) w3 ∧ (Instr.lookup 109 (.map (some bm)) (.int .u64 (s:Int)) false).run Tryz.prog w3 = .ok (.pointer (some ⟨tb,0,none⟩)) w3):=⟨m1,m2,m3,m4⟩;clear m1 m2 m3 m4))
 all_goals clear d1 d2 d3 d4 k1 k2
 all_goals (obtain ⟨⟨f1,f2,f3⟩,_⟩:=HS3.out)
 all_goals go_wp2_with fail
 all_goals go_region_held3 (fun W => (W.cell? ⟨b,1 + i * 3 + 2,none⟩ = some (.int .u64 (s:Int)) ∧ W.cell? ⟨w.heap.size,0,none⟩ = some (.int .i64 ((i:Int) + 1)) ∧ W.cell? ⟨w.heap.size,1,none⟩ = some (.int .i64 l))) ((first | exact HS4.out | exact ⟨f1,f2,f3⟩ | exact HS3.out.1)) ((go_at_call 60;refine (HLv.out _ rfl).mono ?_;rintro e w4 ⟨rfl,m1,m2,HEnd⟩;have HS4:Hid ((w4.cell? ⟨b,1 + i * 3 + 2,none⟩ = some (.int .u64 (s:Int)) ∧ w4.cell? ⟨w.heap.size,0,none⟩ = some (.int .i64 ((i:Int) + 1)) ∧ w4.cell? ⟨w.heap.size,1,none⟩ = some (.int .i64 l))):=m1;clear m1))
 all_goals (obtain ⟨g1,g2,g3⟩:=HS4.out)
 all_goals go_wp2_with fail
 all_goals go_end0
 all_goals exact ⟨rfl,HEnd.out⟩
def addE (L:List CompS) (S:St) (p l:Int) (nm:List UInt8):Int :=
 if (findCompP L S p l nm).2 = 0 then (if (S.cp (p - 1).toNat).testBit (findCompP L S p l nm).1.toNat then 5 else 0) else (findCompP L S p l nm).2
def St.addc (S:St) (L:List CompS) (p:Int) (nm:List UInt8):St:=S.move L (p - 1).toNat (S.cp (p - 1).toNat ||| 2 ^ (compAt L nm).toNat) (fun _ _ => .slice none 0 0)
def AddEnds (w:World) (own:Nat → Nat) (b g lc N:Nat) (L:List CompS) (S S':St) (e:Ending) (er:Int) (w':World):Prop :=
 e = .returned (.int .i64 er) ∧ ∃ own' lv',Stp w own w' own' ∧ WT w' own' b g lc (N + 1) L { (if er = 0 then S' else S) with lv:=lv' }
theorem TabsW.more {W:World} {own:Nat → Nat} {b N N':Nat} {L:List CompS} {ents:Nat → List (Int × Int)} {xs:Nat → Nat → Nat → List Value} (h:TabsW W own b N L ents xs) (hN:N ≤ N'):TabsW W own b N' L ents xs:=by
 rcases h with h | ⟨bm,n,m,h1,h2⟩
 · exact Or.inl h
 · exact Or.inr ⟨bm,n,m,h1,by omega⟩
theorem WT.more {w:World} {own:Nat → Nat} {b g lc N N':Nat} {L:List CompS} {S:St} (h:WT w own b g lc N L S) (hN:N ≤ N'):WT w own b g lc N' L S:={ h with tabs:=h.tabs.more hN }
theorem AddEnds.no {w w':World} {own:Nat → Nat} {b g lc N:Nat} {L:List CompS} {S S':St} {er:Int} (hW:WT w own b g lc N L S) (he:er ≠ 0) (hb:Below w.heap.size w w'):AddEnds w own b g lc N L S S' (.returned (.int .i64 er)) er w' :=
 ⟨rfl,own,S.lv,Stp.below hb,by rw [if_neg he];exact (hW.below hb).more (by omega)⟩
theorem or_small64 (s k:Nat) (hs:s < 64) (hk:k < 6):s ||| 2 ^ k < 64:=by
 have:2 ^ k < 2 ^ 6:=Nat.pow_lt_pow_right (by omega) hk
 exact Nat.or_lt_two_pow (n:=6) hs this
theorem or_ne (s k:Nat) (h:s.testBit k = false):s ||| 2 ^ k ≠ s:=fun e => by
 have:(s ||| 2 ^ k).testBit k = true:=by simp [Nat.testBit_or,Nat.testBit_two_pow_self]
 rw [e,h] at this
 cases this
set_option maxHeartbeats 800000 in
set_option maxRecDepth 100000 in
theorem add_w {own:Nat → Nat} {b g lc N:Nat} {L:List CompS} {S:St} {w:World} (hW:WT w own b g lc N L S) (p l:Int) (nm:List UInt8) (hN:N + 1 ≤ 1000) (hN1:1 ≤ N) (hx:∀ i k f,(S.vals i k f).ls.length ≤ 100 ∧ (S.vals i k f).s.length ≤ 1000) :
 Calls Tryz.prog 36 #[.pointer (some ⟨b,0,none⟩),.agg #[.int .i64 p,.int .i64 l],.string (mk nm)] w fun e w' => AddEnds w own b g lc N L S (S.addc L p nm) e (addE L S p l nm) w':=by
 obtain ⟨V,hV⟩:∃ V,V = w.alloc (.cells #[.int .i64 p,.int .i64 l] 46):=⟨_,rfl⟩
 have hB:Below w.heap.size w V:=by rw [hV];exact (Below.refl _ _).alloc (Nat.le_refl _) _
 have hs:V.heap.size = w.heap.size + 1:=by rw [hV];simp
 have hblkV:V.heap[w.heap.size]? = some (.cells #[.int .i64 p,.int .i64 l] 46 (0,0)):=by rw [hV];exact heap_alloc_at rfl _
 have HC:Hid (∀ W,Below V.heap.size V W → W.cell? ⟨w.heap.size,0,none⟩ = some (.int .i64 p) ∧ W.cell? ⟨w.heap.size,1,none⟩ = some (.int .i64 l)):=fun W hb => ⟨by rw [cell_row ((hb.block _ (by omega)).trans hblkV)];rfl,by rw [cell_row ((hb.block _ (by omega)).trans hblkV)];rfl⟩
 have HK:Hid (∀ W,W = V → Calls Tryz.prog 65 #[.pointer (some ⟨b,0,none⟩),.agg #[.int .i64 p,.int .i64 l],.string (mk nm)] W fun e w' => e = .returned (.tuple #[.int .i64 (findCompP L S p l nm).1,.int .i64 (findCompP L S p l nm).2]) ∧ Hid (Below V.heap.size V w')):=by
  rintro W rfl
  exact findComp_wt (hW.below hB) p l nm
 have HNo:Hid (∀ er:Int,er ≠ 0 → ∀ w',Below V.heap.size V w' → AddEnds w own b g lc N L S (S.addc L p nm) (.returned (.int .i64 er)) er w'):=fun er he w' hb => AddEnds.no hW he (hB.trans (hb.mono hB.size))
 by_cases he:(findCompP L S p l nm).2 = 0
 · obtain ⟨hal,h1,h2⟩:=findCompP_ok he
   obtain ⟨i,hi,hp,hpi,hti,hbi⟩:=alive_place hal
   have hkL:=compAt_lt L nm
   have hfew:=hW.lay.few
   obtain ⟨k,hk⟩:∃ k:Nat,compAt L nm = (k:Int):=⟨(compAt L nm).toNat,by omega⟩
   have hk6:k < 6:=by omega
   have hc64:=hW.cps i hi hti
   have HE:Hid (addE L S p l nm = if (S.cp i).testBit k then 5 else 0):=by
    show addE L S p l nm = _
    unfold addE
    rw [if_pos he,hpi,h1,hk]
    simp
   have HA:Hid (S.addc L p nm = S.move L i (S.cp i ||| 2 ^ k) (fun _ _ => .slice none 0 0)):=by
    show S.addc L p nm = _
    unfold St.addc
    rw [hpi,hk]
    simp
   rw [h1,hk,he] at HK
   subst hp
   subst hbi
   have HPl:Hid (∀ W,Below V.heap.size V W → Calls Tryz.prog 59 #[.pointer (some ⟨b,0,none⟩),.agg #[.int .i64 ((i:Int) + 1),.int .i64 (S.bg i:Int)]] W fun e w' => e = .returned (.pointer (some ⟨b,1 + i * 3,none⟩)) ∧ w'.cell? ⟨b,1 + i * 3 + 2,none⟩ = some (.int .u64 (S.cp i:Int)) ∧ Hid (Below V.heap.size V w')):=fun W hb => by
    refine (placeOf_any b i _ W hi).mono ?_
    rintro e w' ⟨rfl,hb2⟩
    have hb3:Below V.heap.size V w':=hb.trans (hb2.mono hb.size)
    exact ⟨rfl,((hW.below (hB.trans (hb3.mono hB.size))).places.2 i hi).2.2.1,hb3⟩
   cases hq:(S.cp i).testBit k with
   | true =>
     rw [hq,if_pos rfl] at HE
     generalize S.addc L ((i:Int) + 1) nm = S' at HNo ⊢
     generalize addE L S ((i:Int) + 1) (S.bg i) nm = er at HE ⊢
     have HVe:Hid (_ = V):=hV.symm
     generalize (S.bg i:Int) = l at HC HK HPl HVe
     generalize S.cp i = s at HPl hc64 hq
     clear hW hB hs hblkV hV hx hti hal h1 h2 he hpi HA
     go_enter Tryz.func36,Tryz.ntmps36
     go_wp2_with (first
      | (go_at_call 65;refine (HK.out _ HVe.out).mono ?_;rintro e w1 ⟨rfl,HB1⟩;obtain ⟨c0,c1⟩:=HC.out _ HB1.out)
      | (go_at_call 59;refine (HPl.out _ HB1.out).mono ?_;rintro e w2 ⟨rfl,cp,HB2⟩)
      | (go_at_call 66;refine (has_any s k _ hc64 hk6).mono ?_;rw [hq];rintro e w3 ⟨rfl,rfl⟩))
     go_ret
     rw [HE.out]
     exact HNo.out 5 (by decide) _ HB2.out
   | false =>
     rw [hq,if_neg (by simp)] at HE
     have HCh:Hid (∀ W,Below V.heap.size V W → Calls Tryz.prog 67 #[.pointer (some ⟨b,0,none⟩),.agg #[.int .i64 ((i:Int) + 1),.int .i64 (S.bg i:Int)],.int .u64 ((S.cp i ||| 2 ^ k:Nat):Int)] W fun e w' => e = .returned (.tuple #[]) ∧ (w'.cell? ⟨w.heap.size,0,none⟩ = some (.int .i64 ((i:Int) + 1)) ∧ w'.cell? ⟨w.heap.size,1,none⟩ = some (.int .i64 (S.bg i:Int))) ∧ Hid (AddEnds w own b g lc N L S (S.addc L ((i:Int) + 1) nm) (.returned (.int .i64 0)) 0 w')):=fun W hb => by
      have hbw:Below w.heap.size w W:=hB.trans (hb.mono hB.size)
      refine (change_wt (hW.below hbw) i (S.cp i ||| 2 ^ k) hi hti (or_small64 _ _ hc64 hk6) (or_ne _ _ hq) hN hN1 (hx i)).mono ?_
      rintro e w' ⟨rfl,own',lv',q1,q2⟩
      have z:=hb.size
      have hosz:own w.heap.size = 0:=hW.out _ (Nat.le_refl _)
      have hbl:w'.heap[w.heap.size]? = V.heap[w.heap.size]?:=(q1.1.block _ (by omega) (by unfold Tur;omega)).trans (hb.block _ (by omega))
      refine ⟨rfl,⟨by rw [cell_row (hbl.trans hblkV)];rfl,by rw [cell_row (hbl.trans hblkV)];rfl⟩,rfl,own',(S.move L i (S.cp i ||| 2 ^ k) lv').lv,(Stp.below hbw).trans q1,?_⟩
      rw [if_pos rfl,HA.out]
      exact q2
     generalize S.addc L ((i:Int) + 1) nm = S' at HCh ⊢
     generalize addE L S ((i:Int) + 1) (S.bg i) nm = er at HE ⊢
     have HVe:Hid (_ = V):=hV.symm
     generalize (S.bg i:Int) = l at HC HK HPl HVe HCh
     generalize S.cp i = s at HPl hc64 hq HCh
     clear hW hB hs hblkV hV hx hti hal h1 h2 he hpi HA HNo
     go_enter Tryz.func36,Tryz.ntmps36
     go_wp2_with (first
      | (go_at_call 65;refine (HK.out _ HVe.out).mono ?_;rintro e w1 ⟨rfl,HB1⟩;obtain ⟨c0,c1⟩:=HC.out _ HB1.out)
      | (go_at_call 59;refine (HPl.out _ HB1.out).mono ?_;rintro e w2 ⟨rfl,cp,HB2⟩)
      | (go_at_call 66;refine (has_any s k _ hc64 hk6).mono ?_;rw [hq];rintro e w3 ⟨rfl,rfl⟩))
     go_region_held3 (fun W => W.cell? ⟨w.heap.size,0,none⟩ = some (.int .i64 ((i:Int) + 1)) ∧ W.cell? ⟨w.heap.size,1,none⟩ = some (.int .i64 l)) ((first | exact HS5.out | exact HC.out _ HB2.out.drew | exact HC.out _ HB2.out)) (first
      | (go_at_call 68;refine (with_any s k _ hc64 hk6).mono ?_;rintro e w4 ⟨rfl,rfl⟩)
      | (go_at_call 67;refine (HCh.out _ HB2.out.drew).mono ?_;rintro e w5 ⟨rfl,m1,HEnd⟩;have HS5:Hid (w5.cell? ⟨w.heap.size,0,none⟩ = some (.int .i64 ((i:Int) + 1)) ∧ w5.cell? ⟨w.heap.size,1,none⟩ = some (.int .i64 l)):=m1;clear m1))
     all_goals go_wp2_with fail
     all_goals go_ret
     all_goals rw [HE.out]
     all_goals exact HEnd.out
 · have HE:Hid (addE L S p l nm = (findCompP L S p l nm).2):=if_neg he
   have hd:((findCompP L S p l nm).2 == 0) = false:=by simpa using he
   have HN2:=HNo.out _ he
   have HN3:Hid _:=HN2
   clear HN2 HNo
   generalize S.addc L p nm = S' at HN3 ⊢
   generalize addE L S p l nm = er at HE ⊢
   generalize findCompP L S p l nm = q at HE HK HN3 hd
   have HVe:Hid (_ = V):=hV.symm
   clear hV hW hB hs he hblkV hx
   go_enter Tryz.func36,Tryz.ntmps36
   go_wp2_with (go_at_call 65;refine (HK.out _ HVe.out).mono ?_;rintro e w1 ⟨rfl,HB1⟩)
   go_ret
   rw [HE.out]
   exact HN3.out _ HB1.out
end Go.Proofs.YthkbeaffkcfgiabGreatDoor
namespace Go.Proofs.YthkbeaffkcfgiabGreatDoor
open Go.RowKit Go.Maps
theorem callFgt1 (cb:Nat) (u:Value) (w:World):(callMethod (colVal 1 cb) "Forget" #[u]).run Tryz.prog w = .ok (.enter 360 #[.pointer (some ⟨cb,0,none⟩),u]) w:=by kernel_rfl
theorem callFgt2 (cb:Nat) (u:Value) (w:World):(callMethod (colVal 2 cb) "Forget" #[u]).run Tryz.prog w = .ok (.enter 371 #[.pointer (some ⟨cb,0,none⟩),u]) w:=by kernel_rfl
theorem callFgt3 (cb:Nat) (u:Value) (w:World):(callMethod (colVal 3 cb) "Forget" #[u]).run Tryz.prog w = .ok (.enter 382 #[.pointer (some ⟨cb,0,none⟩),u]) w:=by kernel_rfl
theorem callFgt4 (cb:Nat) (u:Value) (w:World):(callMethod (colVal 4 cb) "Forget" #[u]).run Tryz.prog w = .ok (.enter 393 #[.pointer (some ⟨cb,0,none⟩),u]) w:=by kernel_rfl
theorem callFgt5 (cb:Nat) (u:Value) (w:World):(callMethod (colVal 5 cb) "Forget" #[u]).run Tryz.prog w = .ok (.enter 398 #[.pointer (some ⟨cb,0,none⟩),u]) w:=by kernel_rfl
theorem forget360 (v:Value) (p l:Int) (w:World):Calls Tryz.prog 360 #[v,.agg #[.int .i64 p,.int .i64 l]] w fun e w' => e = .returned (.tuple #[]) ∧ Below w.heap.size w w':=by
 go_enter Tryz.func360,Tryz.ntmps360
 go_wp2
 go_end0
 exact ⟨rfl,(Below.refl _ _).alloc (Nat.le_refl _) _⟩
theorem forget371 (v:Value) (p l:Int) (w:World):Calls Tryz.prog 371 #[v,.agg #[.int .i64 p,.int .i64 l]] w fun e w' => e = .returned (.tuple #[]) ∧ Below w.heap.size w w':=by
 go_enter Tryz.func371,Tryz.ntmps371
 go_wp2
 go_end0
 exact ⟨rfl,(Below.refl _ _).alloc (Nat.le_refl _) _⟩
theorem forget382 (v:Value) (p l:Int) (w:World):Calls Tryz.prog 382 #[v,.agg #[.int .i64 p,.int .i64 l]] w fun e w' => e = .returned (.tuple #[]) ∧ Below w.heap.size w w':=by
 go_enter Tryz.func382,Tryz.ntmps382
 go_wp2
 go_end0
 exact ⟨rfl,(Below.refl _ _).alloc (Nat.le_refl _) _⟩
theorem forget398 (v:Value) (p l:Int) (w:World):Calls Tryz.prog 398 #[v,.agg #[.int .i64 p,.int .i64 l]] w fun e w' => e = .returned (.tuple #[]) ∧ Below w.heap.size w w':=by
 go_enter Tryz.func398,Tryz.ntmps398
 go_wp2
 go_end0
 exact ⟨rfl,(Below.refl _ _).alloc (Nat.le_refl _) _⟩
theorem forget393 (cb:Nat) (a:Option Addr) (c:Nat) (p l:Int) (w:World) (hc:w.cell? ⟨cb,0,none⟩ = some (.slice a 0 c)):Calls Tryz.prog 393 #[.pointer (some ⟨cb,0,none⟩),.agg #[.int .i64 p,.int .i64 l]] w fun e w' => e = .returned (.tuple #[]) ∧ Below w.heap.size w w':=by
 have hlt:cb < w.heap.size:=World.block_lt_of_cell? _ _ hc
 have hne:cb ≠ w.heap.size:=by omega
 go_enter Tryz.func393,Tryz.ntmps393
 go_wp2
 go_loopw [12] (fun t wr => t = .int .i64 0 ∧ Below w.heap.size w wr) (fun _ _ => 0)
 case atStart => exact ⟨rfl,(Below.refl _ _).alloc (Nat.le_refl _) _⟩
 case round =>
  obtain ⟨rfl,hb⟩:=hrel
  go_wp2
  go_end0
  exact ⟨rfl,hb⟩
set_option maxHeartbeats 400000 in
theorem forget125_1 (k f:Value) (cb hb:Nat) (a:Option Addr) (c:Nat) (p l:Int) (w:World) (hc:w.cell? ⟨cb,0,none⟩ = some (.slice a 0 c)) (b0:w.cell? ⟨hb,0,none⟩ = some (.int .i64 p)) (b1:w.cell? ⟨hb,1,none⟩ = some (.int .i64 l)) :
 Calls Tryz.prog 125 #[k,f,colVal 1 cb,.pointer (some ⟨hb,0,none⟩)] w fun e w' => e = .returned (.tuple #[]) ∧ Below w.heap.size w w':=by
 have HI:Hid (Calls Tryz.prog 360 #[.pointer (some ⟨cb,0,none⟩),.agg #[.int .i64 p,.int .i64 l]] w fun e w' => e = .returned (.tuple #[]) ∧ Below w.heap.size w w'):=forget360 _ p l w
 clear hc
 go_enter Tryz.func125,Tryz.ntmps125
 go_wp2_with (refine wpList_invoke rfl _ _ "Forget" 46 rfl (colVal 1 cb) (.agg #[.int .i64 p,.int .i64 l]) rfl rfl 360 #[.pointer (some ⟨cb,0,none⟩),.agg #[.int .i64 p,.int .i64 l]] (callFgt1 cb _ w) ?_;refine HI.out.mono ?_;rintro e w2 ⟨rfl,hB⟩;refine ⟨_,rfl,?_⟩)
 go_end0
 exact ⟨rfl,hB⟩
set_option maxHeartbeats 400000 in
theorem forget125_2 (k f:Value) (cb hb:Nat) (a:Option Addr) (c:Nat) (p l:Int) (w:World) (hc:w.cell? ⟨cb,0,none⟩ = some (.slice a 0 c)) (b0:w.cell? ⟨hb,0,none⟩ = some (.int .i64 p)) (b1:w.cell? ⟨hb,1,none⟩ = some (.int .i64 l)) :
 Calls Tryz.prog 125 #[k,f,colVal 2 cb,.pointer (some ⟨hb,0,none⟩)] w fun e w' => e = .returned (.tuple #[]) ∧ Below w.heap.size w w':=by
 have HI:Hid (Calls Tryz.prog 371 #[.pointer (some ⟨cb,0,none⟩),.agg #[.int .i64 p,.int .i64 l]] w fun e w' => e = .returned (.tuple #[]) ∧ Below w.heap.size w w'):=forget371 _ p l w
 clear hc
 go_enter Tryz.func125,Tryz.ntmps125
 go_wp2_with (refine wpList_invoke rfl _ _ "Forget" 46 rfl (colVal 2 cb) (.agg #[.int .i64 p,.int .i64 l]) rfl rfl 371 #[.pointer (some ⟨cb,0,none⟩),.agg #[.int .i64 p,.int .i64 l]] (callFgt2 cb _ w) ?_;refine HI.out.mono ?_;rintro e w2 ⟨rfl,hB⟩;refine ⟨_,rfl,?_⟩)
 go_end0
 exact ⟨rfl,hB⟩
set_option maxHeartbeats 400000 in
theorem forget125_3 (k f:Value) (cb hb:Nat) (a:Option Addr) (c:Nat) (p l:Int) (w:World) (hc:w.cell? ⟨cb,0,none⟩ = some (.slice a 0 c)) (b0:w.cell? ⟨hb,0,none⟩ = some (.int .i64 p)) (b1:w.cell? ⟨hb,1,none⟩ = some (.int .i64 l)) :
 Calls Tryz.prog 125 #[k,f,colVal 3 cb,.pointer (some ⟨hb,0,none⟩)] w fun e w' => e = .returned (.tuple #[]) ∧ Below w.heap.size w w':=by
 have HI:Hid (Calls Tryz.prog 382 #[.pointer (some ⟨cb,0,none⟩),.agg #[.int .i64 p,.int .i64 l]] w fun e w' => e = .returned (.tuple #[]) ∧ Below w.heap.size w w'):=forget382 _ p l w
 clear hc
 go_enter Tryz.func125,Tryz.ntmps125
 go_wp2_with (refine wpList_invoke rfl _ _ "Forget" 46 rfl (colVal 3 cb) (.agg #[.int .i64 p,.int .i64 l]) rfl rfl 382 #[.pointer (some ⟨cb,0,none⟩),.agg #[.int .i64 p,.int .i64 l]] (callFgt3 cb _ w) ?_;refine HI.out.mono ?_;rintro e w2 ⟨rfl,hB⟩;refine ⟨_,rfl,?_⟩)
 go_end0
 exact ⟨rfl,hB⟩
set_option maxHeartbeats 400000 in
theorem forget125_4 (k f:Value) (cb hb:Nat) (a:Option Addr) (c:Nat) (p l:Int) (w:World) (hc:w.cell? ⟨cb,0,none⟩ = some (.slice a 0 c)) (b0:w.cell? ⟨hb,0,none⟩ = some (.int .i64 p)) (b1:w.cell? ⟨hb,1,none⟩ = some (.int .i64 l)) :
 Calls Tryz.prog 125 #[k,f,colVal 4 cb,.pointer (some ⟨hb,0,none⟩)] w fun e w' => e = .returned (.tuple #[]) ∧ Below w.heap.size w w':=by
 have HI:Hid (Calls Tryz.prog 393 #[.pointer (some ⟨cb,0,none⟩),.agg #[.int .i64 p,.int .i64 l]] w fun e w' => e = .returned (.tuple #[]) ∧ Below w.heap.size w w'):=forget393 cb a c p l w hc
 clear hc
 go_enter Tryz.func125,Tryz.ntmps125
 go_wp2_with (refine wpList_invoke rfl _ _ "Forget" 46 rfl (colVal 4 cb) (.agg #[.int .i64 p,.int .i64 l]) rfl rfl 393 #[.pointer (some ⟨cb,0,none⟩),.agg #[.int .i64 p,.int .i64 l]] (callFgt4 cb _ w) ?_;refine HI.out.mono ?_;rintro e w2 ⟨rfl,hB⟩;refine ⟨_,rfl,?_⟩)
 go_end0
 exact ⟨rfl,hB⟩
set_option maxHeartbeats 400000 in
theorem forget125_5 (k f:Value) (cb hb:Nat) (a:Option Addr) (c:Nat) (p l:Int) (w:World) (hc:w.cell? ⟨cb,0,none⟩ = some (.slice a 0 c)) (b0:w.cell? ⟨hb,0,none⟩ = some (.int .i64 p)) (b1:w.cell? ⟨hb,1,none⟩ = some (.int .i64 l)) :
 Calls Tryz.prog 125 #[k,f,colVal 5 cb,.pointer (some ⟨hb,0,none⟩)] w fun e w' => e = .returned (.tuple #[]) ∧ Below w.heap.size w w':=by
 have HI:Hid (Calls Tryz.prog 398 #[.pointer (some ⟨cb,0,none⟩),.agg #[.int .i64 p,.int .i64 l]] w fun e w' => e = .returned (.tuple #[]) ∧ Below w.heap.size w w'):=forget398 _ p l w
 clear hc
 go_enter Tryz.func125,Tryz.ntmps125
 go_wp2_with (refine wpList_invoke rfl _ _ "Forget" 46 rfl (colVal 5 cb) (.agg #[.int .i64 p,.int .i64 l]) rfl rfl 398 #[.pointer (some ⟨cb,0,none⟩),.agg #[.int .i64 p,.int .i64 l]] (callFgt5 cb _ w) ?_;refine HI.out.mono ?_;rintro e w2 ⟨rfl,hB⟩;refine ⟨_,rfl,?_⟩)
 go_end0
 exact ⟨rfl,hB⟩
theorem forget125 (k f:Value) (kd:Nat) (h1:1 ≤ kd) (h5:kd ≤ 5) (cb hb:Nat) (a:Option Addr) (c:Nat) (p l:Int) (w:World) (hc:w.cell? ⟨cb,0,none⟩ = some (.slice a 0 c)) (b0:w.cell? ⟨hb,0,none⟩ = some (.int .i64 p)) (b1:w.cell? ⟨hb,1,none⟩ = some (.int .i64 l)) :
 Calls Tryz.prog 125 #[k,f,colVal kd cb,.pointer (some ⟨hb,0,none⟩)] w fun e w' => e = .returned (.tuple #[]) ∧ Below w.heap.size w w':=by
 have h:kd = 1 ∨ kd = 2 ∨ kd = 3 ∨ kd = 4 ∨ kd = 5:=by omega
 rcases h with rfl | rfl | rfl | rfl | rfl
 · exact forget125_1 k f cb hb a c p l w hc b0 b1
 · exact forget125_2 k f cb hb a c p l w hc b0 b1
 · exact forget125_3 k f cb hb a c p l w hc b0 b1
 · exact forget125_4 k f cb hb a c p l w hc b0 b1
 · exact forget125_5 k f cb hb a c p l w hc b0 b1
theorem runs125' (args:Array Value) (w:World):(callFunc 125 args).run Tryz.prog w = .ok (.enter 125 args) w:=by kernel_rfl
set_option maxHeartbeats 800000 in
theorem forget_tab (own:Nat → Nat) (base tb s:Nat) (cks:List (List Nat)) (ents:List (Int × Int)) (xs:Nat → Nat → List Value) (p l:Int) (w:World) (hT:TabC w own base tb s cks ents xs) (hkl:∀ k,(cks.getD k []).length ≤ 4) (hkk:∀ k,∀ x ∈ cks.getD k [],1 ≤ x ∧ x ≤ 5) (h0:ents = [] ∨ s = 0) :
 Calls Tryz.prog 62 #[.pointer (some ⟨tb,0,none⟩),.agg #[.int .i64 p,.int .i64 l]] w fun e w' => e = .returned (.tuple #[]) ∧ Below w.heap.size w w':=by
 obtain ⟨V,hV⟩:∃ V,V = w.alloc (.cells #[.int .i64 p,.int .i64 l] 46):=⟨_,rfl⟩
 have hB:Below w.heap.size w V:=by rw [hV];exact (Below.refl _ _).alloc (Nat.le_refl _) _
 have hs:V.heap.size = w.heap.size + 1:=by rw [hV];simp
 have hblkV:V.heap[w.heap.size]? = some (.cells #[.int .i64 p,.int .i64 l] 46 (0,0)):=by rw [hV];exact heap_alloc_at rfl _
 have hTV:TabC V own base tb s cks ents xs:=hT.turn hkl fun j hj _ _ => ⟨hB.block j hj,rfl⟩
 obtain ⟨hme,ev,slc,hb0,hown,hevb,hcols⟩:=hTV
 obtain ⟨cbs,hM⟩:=mix_of hcols
 have HE:Hid (∀ W,W = V → Calls Tryz.prog 124 #[.pointer (some ⟨tb,0,none⟩),.func (.func 125) #[] #[.pointer (some ⟨w.heap.size,0,none⟩)]] W fun e w' => e = .returned (.tuple #[]) ∧ Below V.heap.size V w'):=by
  rintro W rfl
  refine each_any 125 #[.pointer (some ⟨w.heap.size,0,none⟩)] tb slc (colList s cks cbs) (fun _ _ W' => Below W.heap.size W W') W runs125' (fun k hk => by
   rw [cell_row hb0]
   have:k = 0 ∨ k = 1 ∨ k = 2 ∨ k = 3 ∨ k = 4 ∨ k = 5:=by omega
   rcases this with rfl | rfl | rfl | rfl | rfl | rfl <;> rfl) ?_ (Below.refl _ _) (fun _ _ _ h => h) ?_
  · intro k hk
    have h1:=hM k hk
    by_cases hq:hasC s cks k = true
    · rw [if_pos hq] at h1
      have hl0:(colList s cks cbs k).length = (cks.getD k []).length:=by unfold colList;rw [if_pos hq,List.length_zipWith,h1.len];simp
      have h4:=hkl k
      have hrw:=h1.row
      rcases h1.row.2 with ⟨e1,e2⟩ | ⟨g,cap,cur,e1,_,e3,e4,_⟩
      · exact Or.inl ⟨e1,List.length_eq_zero_iff.1 (by omega)⟩
      · refine Or.inr ⟨g,cap,by rw [hl0];exact e1,by omega,by omega,fun f W' hb j hj => ?_⟩
        have hgl:g < W.heap.size:=(Array.getElem?_eq_some_iff.1 e3).1
        rw [e1] at hrw
        rw [World.cell?_of_block (a:=⟨g,j,none⟩) (hb.block g hgl),hrw.cellAt j (by omega)]
        unfold colList
        simp only [if_pos hq]
        rw [List.getElem?_eq_getElem]
    · rw [if_neg hq] at h1
      exact Or.inl ⟨h1,by unfold colList;rw [if_neg hq]⟩
  · intro k f hk hf W' hb
    have hq:hasC s cks k = true:=by
     by_cases hq:hasC s cks k = true
     · exact hq
     · unfold colList at hf;rw [if_neg hq] at hf;simp at hf
    have hen:ents = []:=by
     rcases h0 with h0 | h0
     · exact h0
     · exfalso;subst h0;simp [hasC] at hq
    have h1:=hM k hk
    rw [if_pos hq] at h1
    have hfl:f < (cks.getD k []).length:=by unfold colList at hf;rw [if_pos hq,List.length_zipWith,h1.len] at hf;simpa using hf
    have hfc:f < (cbs k).length:=by rw [h1.len];exact hfl
    have hkd:=hkk k _ (List.getElem_mem hfl)
    obtain ⟨c1,v,c2,c3,c4⟩:=h1.col f hfl hfc
    subst hen
    obtain ⟨a,cc,hv⟩:=own_form c3
    have hcbl:(cbs k)[f] < W.heap.size:=(Array.getElem?_eq_some_iff.1 c2).1
    have hce:(colList s cks cbs k)[f] = colVal (cks.getD k [])[f] (cbs k)[f]:=by
     unfold colList
     simp only [if_pos hq,List.getElem_zipWith]
    rw [hce]
    have z:=hb.size
    refine (forget125 _ _ _ hkd.1 hkd.2 _ w.heap.size a cc p l W' (by rw [cell_row ((hb.block _ hcbl).trans c2),hv];rfl) (by rw [cell_row ((hb.block _ (by omega)).trans hblkV)];rfl) (by rw [cell_row ((hb.block _ (by omega)).trans hblkV)];rfl)).mono ?_
    rintro e w' ⟨rfl,hb'⟩
    exact ⟨rfl,hb.trans (hb'.mono hb.size)⟩
 have HVe:Hid (_ = V):=hV.symm
 have HB:Hid (Below w.heap.size w V):=hB
 clear hT hB hV hcols hM hb0 hown hevb hblkV hme h0
 have hmf:∀ (fn:Fn) (first cap:Array Value) (w:World),(Instr.makeFunc fn first cap).run Tryz.prog w = .ok (.func fn first cap) w:=fun _ _ _ _ => rfl
 go_enter Tryz.func62,Tryz.ntmps62
 go_wp2_with (go_at_call 124;refine (HE.out _ HVe.out).mono ?_;rintro e w3 ⟨rfl,hP⟩)
 go_end0
 exact ⟨rfl,HB.out.trans (hP.mono HB.out.size)⟩
def St.gone (S:St) (i:Nat):St:={ S with tk:=upd S.tk i false }
theorem sel_gone (S:St) (i t:Nat):(S.gone i).sel t = if t = S.cp i then upd (S.sel (S.cp i)) i false else S.sel t:=by
 funext j
 by_cases e:j = i
 · subst e
   by_cases e2:t = S.cp j
   · subst e2;simp [St.sel,St.gone,upd]
   · have:¬ S.cp j = t:=fun h => e2 h.symm
     simp [St.sel,St.gone,upd,e2,this]
 · by_cases e2:t = S.cp i
   · subst e2;simp [St.sel,St.gone,upd,e];rfl
   · simp [St.sel,St.gone,upd,e,e2];rfl
theorem ents_gone (S:St) (i:Nat) (hi:i < 20) (ht:S.tk i = true):(S.gone i).ents = upd S.ents (S.cp i) (cutOut (S.ents (S.cp i)) (ahead (S.ents (S.cp i)) ((i:Int) + 1)) 1):=by
 funext t
 have e0:(S.gone i).ents t = entsOf S.bg ((S.gone i).sel t):=rfl
 rw [e0,sel_gone]
 by_cases e2:t = S.cp i
 · subst e2
   rw [if_pos rfl,upd_same]
   exact (ents_despawn S.bg _ i hi (by simp [St.sel,ht])).2
 · rw [if_neg e2,upd_ne _ _ _ e2]
   rfl
theorem cells_gone (S:St) (L:List CompS) (i:Nat) (hi:i < 20) (ht:S.tk i = true):(S.gone i).cells L = upd (S.cells L) (S.cp i) (fun k f => cutOut (S.cells L (S.cp i) k f) (ahead (S.ents (S.cp i)) ((i:Int) + 1) * kSz (kindAt L k f)) (kSz (kindAt L k f))):=by
 funext t k f
 have e0:(S.gone i).cells L t k f = cellsOf ((S.gone i).sel t) fun j => fvCells (kindAt L k f) (S.vals j k f) (S.lv j k f):=rfl
 rw [e0,sel_gone]
 by_cases e2:t = S.cp i
 · subst e2
   rw [if_pos rfl,upd_same]
   exact cells_cut S.bg (S.sel (S.cp i)) _ _ _ i hi (by simp [St.sel,ht]) (fun j _ => rfl) (fun j => fvCells_len _ _ _)
 · rw [if_neg e2,upd_ne _ _ _ e2]
   rfl
theorem WT.left {w w3:World} {own own3:Nat → Nat} {b g lc N:Nat} {L:List CompS} {S:St} (hW:WT w own b g lc N L S) (i:Nat) (hi:i < 20) (ht:S.tk i = true)
 (hT:Turns w w3 (fun j => own j = 2 ∨ 32 ≤ own j)) (ho:∀ j,j < w.heap.size → own3 j = own j) (hout:∀ j,w3.heap.size ≤ j → own3 j = 0)
 (hTW:TabsW w3 own3 b N L (upd S.ents (S.cp i) (cutOut (S.ents (S.cp i)) (ahead (S.ents (S.cp i)) ((i:Int) + 1)) 1)) (upd (S.cells L) (S.cp i) fun k f => cutOut (S.cells L (S.cp i) k f) (ahead (S.ents (S.cp i)) ((i:Int) + 1) * kSz (kindAt L k f)) (kSz (kindAt L k f)))) :
 Stp w own (w3.setCell ⟨b,1 + i * 3 + 1,none⟩ (.bool false)) own3 ∧ WT (w3.setCell ⟨b,1 + i * 3 + 1,none⟩ (.bool false)) own3 b g lc N L (S.gone i):=by
 have hlt:=hW.lt
 have z:=hT.size
 have hme:=hW.me
 have hkl:=hW.lay.kl
 have eb:w3.heap[b]? = w.heap[b]?:=hT.block b hlt (by omega)
 obtain ⟨arr,ha,has⟩:=hW.blk
 have hset:(w3.setCell ⟨b,1 + i * 3 + 1,none⟩ (.bool false)).heap[b]? = some (.cells (arr.setIfInBounds (1 + i * 3 + 1) (.bool false)) 111 (0,0)):=setCell_block _ (eb.trans ha)
 have hsz:(w3.setCell ⟨b,1 + i * 3 + 1,none⟩ (.bool false)).heap.size = w3.heap.size:=by simp [World.setCell]
 have h5:∀ j,j ≠ b → (w3.setCell ⟨b,1 + i * 3 + 1,none⟩ (.bool false)).heap[j]? = w3.heap[j]?:=fun j hj => Below.heap_setCell _ _ _ _ hj
 have hTot:Turns w (w3.setCell ⟨b,1 + i * 3 + 1,none⟩ (.bool false)) (Tur own):=by
  refine ⟨?_,?_,?_,by rw [hsz];omega,fun j hj hn => ?_⟩
  · rw [show (w3.setCell ⟨b,1 + i * 3 + 1,none⟩ (.bool false)).os = w3.os by simp [World.setCell],hT.os]
  · rw [show (w3.setCell ⟨b,1 + i * 3 + 1,none⟩ (.bool false)).tape = w3.tape by simp [World.setCell],hT.tape]
  · rw [show (w3.setCell ⟨b,1 + i * 3 + 1,none⟩ (.bool false)).output = w3.output by simp [World.setCell],hT.output]
  · have hq:own j ≠ 1 ∧ own j ≠ 2 ∧ own j < 32:=by unfold Tur at hn;omega
    rw [h5 j (by rintro rfl;omega),hT.block j hj (by omega)]
 refine ⟨⟨hTot,ho⟩,{ me:=(ho b hlt).trans hme,low:=fun j hj => (ho j (by omega)).trans (hW.low j hj),out:=fun j hj => hout j (by omega),blk:=⟨_,hset,by simp [has]⟩,places:=(hW.places.kept z eb).leave i hi,bgs:=hW.bgs,cps:=fun j hj htj => ?_,c0:=?_,lcle:=hW.lcle,lay:=hW.lay.below (by rw [hsz];omega) (fun j hj => hTot.block j (by omega) (by rw [show Tur own j = (own j = 1 ∨ own j = 2 ∨ 32 ≤ own j) from rfl,hW.low j hj];omega)),tabs:=?_,lists:=fun j hj k f => ?_ }⟩
 · have htj':upd S.tk i false j = true:=htj
   by_cases e:j = i
   · subst e;rw [upd_same] at htj';cases htj'
   · rw [upd_ne _ _ _ e] at htj';exact hW.cps j hj htj'
 · rw [set_other _ (Or.inr (by omega)),World.cell?_of_block (a:=⟨b,0,none⟩) eb]
   exact hW.c0
 · rw [ents_gone S i hi ht,cells_gone S L i hi ht]
   exact hTW.turn hkl (set_other _ (Or.inr (by omega))) (fun k hk h => ⟨h5 k (by rintro rfl;rw [ho k hlt,hme] at h;omega),rfl⟩)
 · obtain ⟨l1,l2⟩:=hW.lists j hj k f
   refine ⟨own_turn l1 fun q hq hql => hTot.block q hql ?_,fun q hq => (ho q (l1.lt q hq).2).trans (l2 q hq)⟩
   have:=l2 q hq
   unfold Tur
   omega
def GoneEnds (w:World) (own:Nat → Nat) (b g lc N:Nat) (L:List CompS) (S:St) (i:Nat) (e:Ending) (w':World):Prop :=
 e = .returned (.int .i64 0) ∧ ∃ own',Stp w own w' own' ∧ WT w' own' b g lc N L (S.gone i)
theorem range_tab {D:DataW Unit} {m:Nat → Option Nat} {c:Option Nat} {kl:Go.Lit} {y:DataW Unit × List MemPlace} (hall:∀ kl y,(∀ zd,D.atKey kl zd = y) → ∃ s tb:Nat,s < 64 ∧ kl = .int .u64 (s:Int) ∧ m s = some tb ∧ y = .lit (.int .u64 (tb:Int))) (hat:∀ zd,D.atKey kl zd = y.1) (hv:ptrElem (ptrTo c) = some y):∃ s tb,s < 64 ∧ m s = some tb ∧ c = some tb:=by
 obtain ⟨s,tb,q1,_,q3,q4⟩:=hall kl y.1 hat
 refine ⟨s,tb,q1,q3,?_⟩
 cases c with
 | none => simp [ptrTo,ptrElem] at hv;rw [← hv] at q4;cases q4
 | some n =>
   simp [ptrTo,ptrElem] at hv
   rw [← hv] at q4
   simp at q4
   exact congrArg some (by omega)
set_option maxHeartbeats 1600000 in
set_option maxRecDepth 100000 in
theorem despawn_w {own:Nat → Nat} {b g lc N:Nat} {L:List CompS} {S:St} {w:World} (hW:WT w own b g lc N L S) (i:Nat) (hi:i < 20) (ht:S.tk i = true) (hcp:∀ j,j < 20 → S.tk j = true → S.cp j = 0) :
 Calls Tryz.prog 27 #[.pointer (some ⟨b,0,none⟩),.agg #[.int .i64 ((i:Int) + 1),.int .i64 (S.bg i:Int)]] w (GoneEnds w own b g lc N L S i):=by
 obtain ⟨V,hV⟩:∃ V,V = w.alloc (.cells #[.int .i64 ((i:Int) + 1),.int .i64 (S.bg i:Int)] 46):=⟨_,rfl⟩
 have hB:Below w.heap.size w V:=by rw [hV];exact (Below.refl _ _).alloc (Nat.le_refl _) _
 have hs:V.heap.size = w.heap.size + 1:=by rw [hV];simp
 have hblkV:V.heap[w.heap.size]? = some (.cells #[.int .i64 ((i:Int) + 1),.int .i64 (S.bg i:Int)] 46 (0,0)):=by rw [hV];exact heap_alloc_at rfl _
 have hcpi:=hcp i hi ht
 have hlt:=hW.lt
 have hal:aliveB S.bg S.tk ((i:Int) + 1) (S.bg i) = true:=by
  have e1:((i:Int) + 1 - 1).toNat = i:=by omega
  unfold aliveB
  rw [e1,ht]
  simp
  omega
 have HC:Hid (∀ W,Below V.heap.size V W → W.cell? ⟨w.heap.size,0,none⟩ = some (.int .i64 ((i:Int) + 1)) ∧ W.cell? ⟨w.heap.size,1,none⟩ = some (.int .i64 (S.bg i:Int)) ∧ W.cell? ⟨b,1 + i * 3 + 2,none⟩ = some (.int .u64 0)):=fun W hb => ⟨by rw [cell_row ((hb.block _ (by omega)).trans hblkV)];rfl,by rw [cell_row ((hb.block _ (by omega)).trans hblkV)];rfl,by
  have:=((hW.below (hB.trans (hb.mono hB.size))).places.2 i hi).2.2.1
  rw [hcpi] at this
  exact this⟩
 have HAl:Hid (∀ W,W = V → Calls Tryz.prog 28 #[.pointer (some ⟨b,0,none⟩),.agg #[.int .i64 ((i:Int) + 1),.int .i64 (S.bg i:Int)]] W fun e w' => e = .returned (.bool true) ∧ Hid (Below V.heap.size V w')):=by
  rintro W rfl
  have:=alive_wt (hW.below hB) ((i:Int) + 1) (S.bg i) W (Below.refl _ _)
  rw [hal] at this
  exact this
 have HPl:Hid (∀ W,Below V.heap.size V W → Calls Tryz.prog 59 #[.pointer (some ⟨b,0,none⟩),.agg #[.int .i64 ((i:Int) + 1),.int .i64 (S.bg i:Int)]] W fun e w' => e = .returned (.pointer (some ⟨b,1 + i * 3,none⟩)) ∧ Hid (Below V.heap.size V w')):=fun W hb =>
  (placeOf_any b i _ W hi).mono fun _ _ ⟨h1,h2⟩ => ⟨h1,hb.trans (h2.mono hb.size)⟩
 have HLv:Hid (∀ W,Below V.heap.size V W → Calls Tryz.prog 60 #[.pointer (some ⟨b,0,none⟩),.agg #[.int .i64 ((i:Int) + 1),.int .i64 (S.bg i:Int)],.int .u64 0] W fun e w3 => e = .returned (.tuple #[]) ∧ w3.cell? ⟨b,1 + i * 3 + 1,none⟩ = some (.bool true) ∧ w3.frozen? ⟨b,1 + i * 3 + 1,none⟩ = false ∧ (w3.cell? ⟨w.heap.size,0,none⟩ = some (.int .i64 ((i:Int) + 1)) ∧ w3.cell? ⟨w.heap.size,1,none⟩ = some (.int .i64 (S.bg i:Int)) ∧ w3.cell? ⟨b,1 + i * 3 + 2,none⟩ = some (.int .u64 0)) ∧
  Hid (∀ w4,w4 = w3.setCell ⟨b,1 + i * 3 + 1,none⟩ (.bool false) → ∃ (bm n:Nat) (D:DataW Unit) (m:Nat → Option Nat),w4.cell? ⟨b,61,none⟩ = some (.map (some bm)) ∧ w4.cell? ⟨w.heap.size,0,none⟩ = some (.int .i64 ((i:Int) + 1)) ∧ w4.cell? ⟨w.heap.size,1,none⟩ = some (.int .i64 (S.bg i:Int)) ∧ w.heap.size < w4.heap.size ∧ Hid (w4.ownsMap Tryz.prog 105 ptrElem bm n D ∧ (∀ kl y,(∀ zd,D.atKey kl zd = y) → ∃ s tb:Nat,s < 64 ∧ kl = .int .u64 (s:Int) ∧ m s = some tb ∧ y = .lit (.int .u64 (tb:Int))) ∧
   (∀ s tb,s < 64 → m s = some tb → ∀ W',Below w4.heap.size w4 W' → Calls Tryz.prog 62 #[.pointer (some ⟨tb,0,none⟩),.agg #[.int .i64 ((i:Int) + 1),.int .i64 (S.bg i:Int)]] W' fun e w' => e = .returned (.tuple #[]) ∧ Below W'.heap.size W' w') ∧ ∀ W',Below w4.heap.size w4 W' → GoneEnds w own b g lc N L S i (.returned (.int .i64 0)) W'))):=fun W hb => by
  have hbw:Below w.heap.size w W:=hB.trans (hb.mono hB.size)
  have hW1:=hW.below hbw
  have hin:=ahead_in S i hi ht
  rw [hcpi] at hin
  obtain ⟨bm,n,m,tb,q1,q2,q3,q4⟩:=hW1.tab i hi ht
  rw [hcpi] at q3
  refine (leave_wt own b bm n N 0 tb m L S.ents (S.cells L) ((i:Int) + 1) (S.bg i) W hW1.me hW1.blk hW1.lay.kl hW1.lay.kk q1 q2 (by omega) q3 (Nat.le_trans (ents_lenS _ _) (by omega)) (ents_sortS _ _) (hW1.ones 0) hin (fun hnil => ?_)).mono ?_
  · have hcg:=cells_gone S L i hi ht
    have heg:=ents_gone S i hi ht
    rw [hcpi] at hcg heg
    have e1:(S.gone i).ents 0 = []:=by rw [heg,upd_same];exact hnil
    have e2:=congrFun hcg 0
    rw [upd_same] at e2
    rw [← e2]
    funext k f
    unfold St.ents entsOf at e1
    have e6:=List.map_eq_nil_iff.1 e1
    unfold St.cells cellsOf
    rw [e6]
    rfl
  · rintro e w3 ⟨rfl,t1,own3,t2,t3,t4⟩
    have z1:=hb.size
    have z3:=t1.size
    have hosz:own w.heap.size = 0:=hW.out _ (Nat.le_refl _)
    have hme:=hW.me
    have eb3:w3.heap[b]? = W.heap[b]?:=t1.block b (by omega) (by omega)
    have es3:w3.heap[w.heap.size]? = W.heap[w.heap.size]?:=t1.block _ (by omega) (by omega)
    obtain ⟨x0,x1,x2⟩:=HC.out W hb
    have p1:=(hW1.places.2 i hi).2.1
    rw [ht] at p1
    have c0:w3.cell? ⟨w.heap.size,0,none⟩ = some (.int .i64 ((i:Int) + 1)):=(World.cell?_of_block (a:=⟨w.heap.size,0,none⟩) es3).trans x0
    have c1:w3.cell? ⟨w.heap.size,1,none⟩ = some (.int .i64 (S.bg i:Int)):=(World.cell?_of_block (a:=⟨w.heap.size,1,none⟩) es3).trans x1
    refine ⟨rfl,(World.cell?_of_block (a:=⟨b,_,none⟩) eb3).trans p1,(World.frozen?_of_block (a:=⟨b,_,none⟩) eb3).trans (hW1.places.2 i hi).2.2.2.2.1,⟨c0,c1,(World.cell?_of_block (a:=⟨b,_,none⟩) eb3).trans x2⟩,?_⟩
    rintro w4 rfl
    have hfin:=hW1.left i hi ht t1 t2 t3 (by rw [hcpi];exact t4)
    obtain ⟨f1,f2⟩:=hfin
    have hTn:∃ bm n m,TabsIn (w3.setCell ⟨b,1 + i * 3 + 1,none⟩ (.bool false)) own3 b bm n m L (S.gone i).ents ((S.gone i).cells L):=by
     rcases f2.tabs with ⟨q,_⟩ | ⟨bm',n',m',q,_⟩
     · exfalso
       have h61:(w3.setCell ⟨b,1 + i * 3 + 1,none⟩ (.bool false)).cell? ⟨b,61,none⟩ = some (.map (some bm)):=by
        rw [set_other _ (Or.inr (by omega)),World.cell?_of_block (a:=⟨b,61,none⟩) eb3]
        exact q1.c61
       rw [h61] at q;cases q
     · exact ⟨bm',n',m',q⟩
    obtain ⟨bm',n',m',q⟩:=hTn
    have hmm:=q.map
    obtain ⟨D,d0,_,_,d3⟩:=hmm
    have hsz:(w3.setCell ⟨b,1 + i * 3 + 1,none⟩ (.bool false)).heap.size = w3.heap.size:=by simp [World.setCell]
    refine ⟨bm',n',D,m',q.c61,by rw [set_other _ (by omega)];exact c0,by rw [set_other _ (by omega)];exact c1,by omega,d0,d3,fun s tb' hs64 hm W' hb' => ?_,fun W' hb' => ⟨rfl,own3,(Stp.below hbw).trans (f1.trans (Stp.below hb')),f2.below hb'⟩⟩
    rcases q.tab s hs64 with ⟨r,_⟩ | ⟨tt,r1,r2⟩
    · rw [hm] at r;cases r
    · rw [hm] at r1
      cases r1
      refine forget_tab own3 _ tb' s (kinds L) _ _ _ _ W' (r2.turn hW.lay.kl fun j hj _ _ => ⟨hb'.block j hj,rfl⟩) hW.lay.kl hW.lay.kk ?_
      by_cases e:s = 0
      · exact Or.inr e
      · left
        unfold St.ents entsOf
        have:(List.range 20).filter ((S.gone i).sel s) = []:=by
         refine List.filter_eq_nil_iff.2 fun j hj => ?_
         have hj20:=List.mem_range.1 hj
         intro h
         obtain ⟨h1,h2⟩:=(Bool.and_eq_true _ _ ▸ h:(S.gone i).tk j = true ∧ decide ((S.gone i).cp j = s) = true)
         have h2':S.cp j = s:=of_decide_eq_true h2
         have h1':upd S.tk i false j = true:=h1
         by_cases ej:j = i
         · subst ej;rw [upd_same] at h1';cases h1'
         · rw [upd_ne _ _ _ ej] at h1'
           rw [hcp j hj20 h1'] at h2'
           exact e h2'.symm
        rw [this]
        rfl
 have HVe:Hid (_ = V):=hV.symm
 clear hW hB hs hblkV hV hcp hcpi hal ht
 generalize (S.bg i:Int) = l at HC HAl HPl HLv HVe ⊢
 go_enter Tryz.func27,Tryz.ntmps27
 go_wp2_with (first
  | (go_at_call 28;refine (HAl.out _ HVe.out).mono ?_;rintro e w1 ⟨rfl,HB1⟩;obtain ⟨a0,a1,a2⟩:=HC.out _ HB1.out)
  | (go_at_call 59;refine (HPl.out _ HB1.out).mono ?_;rintro e w2 ⟨rfl,HB2⟩;obtain ⟨d0,d1,d2⟩:=HC.out _ HB2.out))
 go_region_held3 (fun w' => w'.cell? ⟨w.heap.size,0,none⟩ = some (.int .i64 ((i:Int) + 1)) ∧ w'.cell? ⟨w.heap.size,1,none⟩ = some (.int .i64 l) ∧ w'.cell? ⟨b,1 + i * 3 + 2,none⟩ = some (.int .u64 0)) ((first | exact HX3.out | exact HC.out _ HB2.out.drew | exact HC.out _ HB2.out)) ((go_at_call 60;refine (HLv.out _ HB2.out.drew).mono ?_;rintro e w3 ⟨rfl,x1,x2,x3,HAE⟩;have HX3:Hid _:=x3))
 clear a0 a1 a2 d0 d1 d2
 go_wp2_with (first
  | (go_at_call 61;refine (end_any b (1 + i * 3) true _ x1 x2).mono ?_;rintro e w4 ⟨rfl,hw4⟩;obtain ⟨bm,n,D,m,y1,y2,y3,y4,HY⟩:=HAE.out w4 hw4;clear hw4 x1 x2 x3 HX3 HAE)
  | (at_range;refine wpList_range_own _ rfl _ 109 rfl 105 125 key79 Tryz.underlying109 ptrElem bm n D rfl HY.out.1 ?_;intro w5 hrg5 hg5 hs5))
 go_frame
 have HB5:Hid (Below w4.heap.size w4 w5):=⟨hg5.os,hg5.tape,hg5.output,hg5.size,fun k hk => hg5.block k hk (by simp)⟩
 clear hg5
 go_loopw [7] (fun _ wr => ∃ left cnt,wr.ranges Tryz.prog 105 ptrElem bm w4.heap.size n D left cnt ∧ Below w4.heap.size w4 wr) (fun _ wr => wr.rangeLeft bm w4.heap.size)
 case atStart => exact ⟨_,_,hrg5,HB5.out⟩
 case round =>
  obtain ⟨left,cnt,hrg,hB⟩:=hrel
  have HB:Hid (Below w4.heap.size w4 wr):=hB
  have HRg:Hid (wr.ranges Tryz.prog 105 ptrElem bm w4.heap.size n D left cnt):=hrg
  clear hB hrg hrg5 hs5
  go_wp2_with (at_next;refine wpList_next_ranges _ rfl _ rfl 105 key79 ptrElem (Value.int .u64) ptrTo key_form ptrElem_form bm w4.heap.size n D _ _ rfl HRg.out ?_ ?_)
  · intro _ _
    go_wp2_with fail
    go_ret
    exact HY.out.2.2.2 _ HB.out
  · intro x c kl yy ps w6 cnt6 hkey hlk hv hat hrg6 hlt6 hg6 hs6 hen
    obtain ⟨s,tb,hs64,ht,hc⟩:=range_tab (y:=(yy,ps)) HY.out.2.1 hat hv
    rw [hc] at hen
    rw [hc]
    simp only [ptrTo,Option.map] at hen ⊢
    have hB6:Hid (Below w4.heap.size w4 w6):=⟨hg6.os.trans HB.out.os,hg6.tape.trans HB.out.tape,hg6.output.trans HB.out.output,Nat.le_trans HB.out.size hg6.size,fun k hk => (hg6.block k (Nat.lt_of_lt_of_le hk HB.out.size) (by simp;omega)).trans (HB.out.block k hk)⟩
    have HR6:Hid (w6.ranges Tryz.prog 105 ptrElem bm w4.heap.size n D (fun z => left z && !z.sameKey kl) cnt6):=hrg6
    have z0:w6.cell? ⟨w.heap.size,0,none⟩ = some (.int .i64 ((i:Int) + 1)):=(hB6.out.cell (p:=⟨w.heap.size,0,none⟩) y4).trans y2
    have z1:w6.cell? ⟨w.heap.size,1,none⟩ = some (.int .i64 l):=(hB6.out.cell (p:=⟨w.heap.size,1,none⟩) y4).trans y3
    have HLt:Hid (cnt6 < cnt):=hlt6
    have HF:Hid _:=HY.out.2.2.1 s tb hs64 ht w6 hB6.out
    clear hkey hlk hv hat hrg6 hlt6 hg6 hs6 ht hc
    go_wp2_with (go_at_call 62;refine Calls.mono HF.out ?_;rintro e w7 ⟨rfl,hb7⟩)
    have hr7:w7.ranges Tryz.prog 105 ptrElem bm w4.heap.size n D (fun z => left z && !z.sameKey kl) cnt6:=HR6.out.kept (row:=none) ⟨hb7.os,hb7.tape,hb7.output,hb7.size,fun k hk _ => hb7.block k hk⟩ (by simp) (by simp)
    go_roundw
    case rel => exact ⟨_,_,hr7,hB6.out.trans (hb7.mono hB6.out.size)⟩
    case measure => rw [hr7.left_eq,HRg.out.left_eq];exact HLt.out
theorem despawn_stale {own:Nat → Nat} {b g lc N:Nat} {L:List CompS} {S:St} {w:World} (hW:WT w own b g lc N L S) (p l:Int) (hal:aliveB S.bg S.tk p l = false) :
 Calls Tryz.prog 27 #[.pointer (some ⟨b,0,none⟩),.agg #[.int .i64 p,.int .i64 l]] w fun e w' => e = .returned (.int .i64 3) ∧ Below w.heap.size w w':=by
 have HA:Hid (∀ V,Below w.heap.size w V → Calls Tryz.prog 28 #[.pointer (some ⟨b,0,none⟩),.agg #[.int .i64 p,.int .i64 l]] V fun e w' => e = .returned (.bool false) ∧ Below w.heap.size w w'):=fun V hV => by
  have:=alive_wt hW p l V hV
  rw [hal] at this
  exact this
 clear hW hal
 go_enter Tryz.func27,Tryz.ntmps27
 go_wp2_with (go_at_call 28;refine (HA.out _ ((Below.refl _ _).alloc (Nat.le_refl _) _)).mono ?_;rintro e w1 ⟨rfl,hb1⟩)
 go_ret
 exact ⟨rfl,hb1⟩
end Go.Proofs.YthkbeaffkcfgiabGreatDoor
namespace Go.Proofs.YthkbeaffkcfgiabGreatDoor
open Go.RowKit
set_option maxHeartbeats 800000 in
set_option maxRecDepth 100000 in
theorem spawn_w {own:Nat → Nat} {b g lc N:Nat} {L:List CompS} {S:St} {w:World} (hW:WT w own b g lc N L S) (i:Nat) (hi:i < 20) (hN:N ≤ 1000) (hN1:1 ≤ N) (hf:∀ j,j < i → shutAt S.bg S.tk j) (ht:S.tk i = false) (hg:S.bg i < 3) :
 Calls Tryz.prog 26 #[.pointer (some ⟨b,0,none⟩)] w fun e w' => e = .returned (.tuple #[.agg #[.int .i64 ((i:Int) + 1),.int .i64 ((S.bg i:Int) + 1)],.int .i64 0]) ∧ ∃ own',Stp w own w' own' ∧ WT w' own' b g lc (N + 1) L (S.spawn i 0):=by
 obtain ⟨W1,hW1⟩:∃ W1,W1 = w.alloc (.cells #[.int .i64 0,.int .i64 0] 46):=⟨_,rfl⟩
 have hb1:Below w.heap.size w W1:=by rw [hW1];exact (Below.refl _ _).alloc (Nat.le_refl _) _
 have hr1:W1.heap[w.heap.size]? = some (.cells #[.int .i64 0,.int .i64 0] 46 (0,0)):=by rw [hW1];exact heap_alloc_at rfl _
 have hs1:W1.heap.size = w.heap.size + 1:=by rw [hW1];simp
 have HI:Hid (∀ W,W = W1 → Calls Tryz.prog 58 #[.pointer (some ⟨b,0,none⟩),.int .u64 0] W fun e w' => e = .returned (.tuple #[.agg #[.int .i64 ((i:Int) + 1),.int .i64 ((S.bg i:Int) + 1)],.int .i64 0]) ∧ w'.cell? ⟨w.heap.size,0,none⟩ = some (.int .i64 0) ∧ w'.cell? ⟨w.heap.size,1,none⟩ = some (.int .i64 0) ∧ w'.frozen? ⟨w.heap.size,0,none⟩ = false ∧ w'.frozen? ⟨w.heap.size,1,none⟩ = false ∧
  Hid (∀ u0 u1,∃ own',Stp w own ((w'.setCell ⟨w.heap.size,0,none⟩ u0).setCell ⟨w.heap.size,1,none⟩ u1) own' ∧ WT ((w'.setCell ⟨w.heap.size,0,none⟩ u0).setCell ⟨w.heap.size,1,none⟩ u1) own' b g lc (N + 1) L (S.spawn i 0))):=by
  rintro W rfl
  refine (spawn_wt own b g lc N i 0 L S W hi (by omega) hN hN1 (hW.below hb1) hf ht hg).mono ?_
  rintro e w' ⟨rfl,hT,own',ho,hP⟩
  have hosz:own w.heap.size = 0:=hW.out _ (Nat.le_refl _)
  have hr2:=(hT.block w.heap.size (by omega) (by unfold Tur;omega)).trans hr1
  have hsz:=hT.size
  refine ⟨rfl,by rw [cell_row hr2];rfl,by rw [cell_row hr2];rfl,frozen_row hr2 0,frozen_row hr2 1,fun u0 u1 => ⟨own',?_,?_⟩⟩
  · refine ⟨(((Turns.ofBelow (Tur own) hb1).trans' hT).set w.heap.size 0 u0 (fun h => by omega)).set w.heap.size 1 u1 (fun h => by omega),fun j hj => ho j (by omega)⟩
  · have hset:∀ k,k ≠ w.heap.size → ((w'.setCell ⟨w.heap.size,0,none⟩ u0).setCell ⟨w.heap.size,1,none⟩ u1).heap[k]? = w'.heap[k]?:=fun k hk => by rw [Below.heap_setCell _ _ _ _ hk,Below.heap_setCell _ _ _ _ hk]
    have hz:((w'.setCell ⟨w.heap.size,0,none⟩ u0).setCell ⟨w.heap.size,1,none⟩ u1).heap.size = w'.heap.size:=by simp [World.setCell]
    have hbl:=hW.lt
    refine hP.turn (by rw [hz];exact Nat.le_refl _) fun k hk hq => hset k ?_
    rintro rfl
    have:=ho w.heap.size (by omega)
    omega
 have HVe:Hid (_ = W1):=hW1.symm
 clear hW hf hb1 hr1 hs1 hW1
 generalize (S.bg i:Int) + 1 = l1 at HI ⊢
 go_enter Tryz.func26,Tryz.ntmps26
 go_wp2_with (go_at_call 58;refine (HI.out _ HVe.out).mono ?_;rintro e w2 ⟨rfl,q3,q4,q5,q6,HB⟩)
 exact bodyPost_ret (v:=.tuple #[.agg #[.int .i64 ((i:Int) + 1),.int .i64 l1],.int .i64 0]) (by simp [results,Tryz.results26,go_sem,q3,q4]) rfl ⟨rfl,HB.out _ _⟩
set_option maxHeartbeats 800000 in
theorem remove_no {own:Nat → Nat} {b g lc N:Nat} {L:List CompS} {S:St} {w:World} (hW:WT w own b g lc N L S) (p l:Int) (nm:List UInt8) (he:(findOwnP L S p l nm).2 ≠ 0) :
 Calls Tryz.prog 37 #[.pointer (some ⟨b,0,none⟩),.agg #[.int .i64 p,.int .i64 l],.string (mk nm)] w fun e w' => e = .returned (.int .i64 (findOwnP L S p l nm).2) ∧ Below w.heap.size w w':=by
 have hA:Below w.heap.size w (w.alloc (.cells #[.int .i64 p,.int .i64 l] 46)):=(Below.refl _ _).alloc (Nat.le_refl _) _
 have HK:Hid (Calls Tryz.prog 69 #[.pointer (some ⟨b,0,none⟩),.agg #[.int .i64 p,.int .i64 l],.string (mk nm)] (w.alloc (.cells #[.int .i64 p,.int .i64 l] 46)) fun e w' => e = .returned (.tuple #[.int .i64 (findOwnP L S p l nm).1,.int .i64 (findOwnP L S p l nm).2]) ∧ Below w.heap.size w w') :=
  (findOwn_wt (hW.below hA) p l nm).mono fun e w' ⟨h1,h2⟩ => ⟨h1,hA.trans (h2.mono hA.size)⟩
 have hd:((findOwnP L S p l nm).2 == 0) = false:=by simpa using he
 generalize findOwnP L S p l nm = q at HK hd ⊢
 clear hW he hA
 go_enter Tryz.func37,Tryz.ntmps37
 go_wp2_with (go_at_call 69;refine HK.out.mono ?_;rintro e w1 ⟨rfl,hb1⟩)
 go_ret
 exact ⟨rfl,hb1⟩
end Go.Proofs.YthkbeaffkcfgiabGreatDoor
