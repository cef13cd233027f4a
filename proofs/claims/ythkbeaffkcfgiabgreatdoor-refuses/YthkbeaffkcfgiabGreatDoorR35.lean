import Derived.Deep.RegionHeld3
import Derived.Test.YthkbeaffkcfgiabGreatDoorR32
import Derived.Test.YthkbeaffkcfgiabGreatDoorR34
set_option linter.unusedSimpArgs false
set_option linter.unusedVariables false
namespace Go.Proofs.YthkbeaffkcfgiabGreatDoor
open Go.RowKit
def Stp (w:World) (own:Nat → Nat) (w':World) (own':Nat → Nat):Prop:=Turns w w' (Tur own) ∧ ∀ j,j < w.heap.size → own' j = own j
theorem Stp.below {w w':World} {own:Nat → Nat} (h:Below w.heap.size w w'):Stp w own w' own:=⟨Turns.ofBelow _ h,fun _ _ => rfl⟩
theorem Stp.trans {w w' w'':World} {own own' own'':Nat → Nat} (h:Stp w own w' own') (h':Stp w' own' w'' own''):Stp w own w'' own'':=by
 have h1:=h.1.size
 refine ⟨⟨h'.1.os.trans h.1.os,h'.1.tape.trans h.1.tape,h'.1.output.trans h.1.output,Nat.le_trans h1 h'.1.size,fun j hj hn => ?_⟩,fun j hj => (h'.2 j (by omega)).trans (h.2 j hj)⟩
 rw [h'.1.block j (by omega) (fun q => hn (by unfold Tur at q ⊢;rw [h.2 j hj] at q;exact q)),h.1.block j hj hn]
theorem findFieldP_ok {L:List CompS} {S:St} {p l:Int} {nm fn:List UInt8} (h:(findFieldP L S p l nm fn).2.2 = 0):∃ i k f:Nat,i < 20 ∧ p = (i:Int) + 1 ∧ S.tk i = true ∧ (S.bg i:Int) = l ∧ ∃ hk:k < L.length,∃ hf:f < L[k].2.length,(findFieldP L S p l nm fn) = ((k:Int),(f:Int),(0:Int)) ∧ (S.cp i).testBit k = true:=by
 by_cases he:(findOwnP L S p l nm).2 = 0
 · obtain ⟨i,k,hi,hp,hpi,hti,hbi,hk,h1,h2,hbit⟩:=findOwnP_ok he
   have HO:findFieldP L S p l nm fn = if fieldAt L k fn < 0 then (0,0,7) else ((k:Int),fieldAt L k fn,0):=by
    unfold findFieldP
    rw [if_pos he,h1]
    simp
   by_cases hf:fieldAt L k fn < 0
   · rw [HO,if_pos hf] at h
     cases h
   · have e1:(L.map Prod.snd).getD k [] = L[k].2:=by simp [List.getD,hk]
     have hlt:=findN_lt (((L.map Prod.snd).getD k []).map Prod.fst) fn
     have e2:fieldAt L k fn = findN (((L.map Prod.snd).getD k []).map Prod.fst) fn:=rfl
     rw [← e2] at hlt
     rw [e1] at hlt
     simp only [List.length_map] at hlt
     refine ⟨i,k,(fieldAt L k fn).toNat,hi,hp,hti,hbi,hk,by omega,?_,hbit⟩
     rw [HO,if_neg hf]
     congr 2
     omega
 · have HO:findFieldP L S p l nm fn = (0,0,(findOwnP L S p l nm).2):=if_neg he
   rw [HO] at h
   exact absurd h he
def setE (L:List CompS) (S:St) (p l:Int) (nm fn:List UInt8) (k n:Int) (sl:Nat) (vp vq:Int) (ll:Nat):Int :=
 if (findFieldP L S p l nm fn).2.2 = 0 then (if fitsB (kindAt L (findFieldP L S p l nm fn).1.toNat (findFieldP L S p l nm fn).2.1.toNat) k n sl ll then (if danglesP S k vp vq then 9 else 0) else 8) else (findFieldP L S p l nm fn).2.2
def St.set (S:St) (L:List CompS) (p l:Int) (nm fn:List UInt8) (x:FV):St :=
 S.put (p - 1).toNat (findFieldP L S p l nm fn).1.toNat (findFieldP L S p l nm fn).2.1.toNat (x.norm (kindAt L (findFieldP L S p l nm fn).1.toNat (findFieldP L S p l nm fn).2.1.toNat)) (.slice none 0 0)
def SetEnds (w:World) (own:Nat → Nat) (b g lc N:Nat) (L:List CompS) (S S':St) (e:Ending) (er:Int) (w':World):Prop :=
 e = .returned (.int .i64 er) ∧ ∃ own' lv',Stp w own w' own' ∧ WT w' own' b g lc N L { (if er = 0 then S' else S) with lv:=lv' }
theorem SetEnds.no {w w':World} {own:Nat → Nat} {b g lc N:Nat} {L:List CompS} {S S':St} {er:Int} (hW:WT w own b g lc N L S) (he:er ≠ 0) (hb:Below w.heap.size w w'):SetEnds w own b g lc N L S S' (.returned (.int .i64 er)) er w' :=
 ⟨rfl,own,S.lv,Stp.below hb,by rw [if_neg he];exact hW.below hb⟩
theorem kindAt_get (L:List CompS) (k f:Nat) (hk:k < L.length) (hf:f < L[k].2.length):kindAt L k f = L[k].2[f].2:=by
 unfold kindAt
 rw [kinds_get L k hk]
 simp [List.getD,hf]
set_option maxHeartbeats 1600000 in
set_option maxRecDepth 100000 in
theorem set_w {own:Nat → Nat} {b g lc N:Nat} {L:List CompS} {S:St} {w:World} (hW:WT w own b g lc N L S) (p l:Int) (nm fn:List UInt8) (k n:Int) (sb:List UInt8) (vp vq:Int) (va:Option Addr) (vc:Nat) (ls:List Int) (hsb:sb.length ≤ 1000) (hls:ls.length ≤ 100) (hvl:IntsAt w (.slice va ls.length vc) ls) :
 Calls Tryz.prog 38 #[.pointer (some ⟨b,0,none⟩),.agg #[.int .i64 p,.int .i64 l],.string (mk nm),.string (mk fn),.agg #[.int .i64 k,.int .i64 n,.string (mk sb),.int .i64 vp,.int .i64 vq,.slice va ls.length vc]] w fun e w' => SetEnds w own b g lc N L S (S.set L p l nm fn ⟨n,sb,vp,vq,ls⟩) e (setE L S p l nm fn k n sb.length vp vq ls.length) w':=by
 obtain ⟨V,hV⟩:∃ V,V = (w.alloc (.cells #[.int .i64 p,.int .i64 l] 46)).alloc (.cells #[.int .i64 k,.int .i64 n,.string (mk sb),.int .i64 vp,.int .i64 vq,.slice va ls.length vc] 56):=⟨_,rfl⟩
 have hB:Below w.heap.size w V:=by rw [hV];exact ((Below.refl _ _).alloc (Nat.le_refl _) _).alloc (by simp) _
 have hs:V.heap.size = w.heap.size + 2:=by rw [hV];simp
 have hW1:=hW.below hB
 have HK:Hid (∀ W,W = V → Calls Tryz.prog 71 #[.pointer (some ⟨b,0,none⟩),.agg #[.int .i64 p,.int .i64 l],.string (mk nm),.string (mk fn)] W fun e w' => e = .returned (.tuple #[.int .i64 (findFieldP L S p l nm fn).1,.int .i64 (findFieldP L S p l nm fn).2.1,.int .i64 (findFieldP L S p l nm fn).2.2]) ∧ Below V.heap.size V w'):=fun W hWe => by rw [hWe];exact findField_wt hW1 p l nm fn
 by_cases h0:(findFieldP L S p l nm fn).2.2 = 0
 · obtain ⟨i,kk,f,hi,hp,hti,hbi,hkL,hfL,hff,hbit⟩:=findFieldP_ok h0
   have HE:Hid (setE L S p l nm fn k n sb.length vp vq ls.length = if fitsB (kindAt L kk f) k n sb.length ls.length then (if danglesP S k vp vq then 9 else 0) else 8):=by
    show setE L S p l nm fn k n sb.length vp vq ls.length = _
    unfold setE
    rw [if_pos h0,hff]
    simp
   have HS':Hid (S.set L p l nm fn ⟨n,sb,vp,vq,ls⟩ = S.put i kk f (FV.norm (kindAt L kk f) ⟨n,sb,vp,vq,ls⟩) (.slice none 0 0)):=by
    show S.set L p l nm fn ⟨n,sb,vp,vq,ls⟩ = _
    unfold St.set
    rw [hff,hp]
    simp
   rw [hff] at HK
   dsimp only at HK
   subst hp
   have hA2:Below (w.heap.size + 1) (w.alloc (.cells #[.int .i64 ((i:Int) + 1),.int .i64 l] 46)) V:=by rw [hV];exact (Below.refl _ _).alloc (by simp) _
   have hn6:=hW.lay.few
   have hlcle:=hW.lcle
   obtain ⟨ok,q1,fs,q2,q3,q4⟩:=hW.lay.comp kk hkL
   have hg:=hW.lay.lt
   have hgs:=hW.lay.le
   obtain ⟨fg,fc,rfl,hfc,hfg,hfcell⟩:∃ fg fc,fs = .slice (some ⟨fg,0,none⟩) L[kk].2.length fc ∧ L[kk].2.length ≤ fc ∧ fg < w.heap.size ∧ ∀ j (h:j < L[kk].2.length),w.cell? ⟨fg,j * 2,none⟩ = some (.string (mk L[kk].2[j].1)) ∧ w.cell? ⟨fg,j * 2 + 1,none⟩ = some (.int .i64 (L[kk].2[j].2:Int)):=by
    rcases q3 with ⟨_,q⟩ | q
    · exfalso
      have:L[kk].2.length = 0:=by rw [q];rfl
      omega
    · exact q
   have hf4:L[kk].2.length ≤ 4:=ok.2.1
   have hkd:1 ≤ kindAt L kk f ∧ kindAt L kk f ≤ 5:=by
    rw [kindAt_get L kk f hkL hfL]
    exact (ok.2.2 _ (List.getElem_mem hfL)).2
   have HV:Hid (∀ W,Below V.heap.size V W → (W.cell? ⟨b,0,none⟩ = some (.slice (some ⟨g,0,none⟩) L.length lc) ∧ W.cell? ⟨g,kk * 2 + 1,none⟩ = some (.slice (some ⟨fg,0,none⟩) L[kk].2.length fc) ∧ W.cell? ⟨fg,f * 2,none⟩ = some (.string (mk L[kk].2[f].1)) ∧ W.cell? ⟨fg,f * 2 + 1,none⟩ = some (.int .i64 (kindAt L kk f:Int))) ∧
    (W.cell? ⟨w.heap.size,0,none⟩ = some (.int .i64 ((i:Int) + 1)) ∧ W.cell? ⟨w.heap.size,1,none⟩ = some (.int .i64 l)) ∧ W.cell? ⟨w.heap.size + 1,0,none⟩ = some (.int .i64 k) ∧ W.cell? ⟨w.heap.size + 1,1,none⟩ = some (.int .i64 n) ∧ W.cell? ⟨w.heap.size + 1,2,none⟩ = some (.string (mk sb)) ∧ W.cell? ⟨w.heap.size + 1,3,none⟩ = some (.int .i64 vp) ∧ W.cell? ⟨w.heap.size + 1,4,none⟩ = some (.int .i64 vq) ∧ W.cell? ⟨w.heap.size + 1,5,none⟩ = some (.slice va ls.length vc)):=fun W hb => by
    have hb':Below w.heap.size w W:=hB.trans (hb.mono hB.size)
    have hblk0:W.heap[w.heap.size]? = some (.cells #[.int .i64 ((i:Int) + 1),.int .i64 l] 46 (0,0)):=(hb.block _ (by omega)).trans ((hA2.block _ (by omega)).trans (heap_alloc_at rfl _))
    have hblk1:W.heap[w.heap.size + 1]? = some (.cells #[.int .i64 k,.int .i64 n,.string (mk sb),.int .i64 vp,.int .i64 vq,.slice va ls.length vc] 56 (0,0)):=by rw [hb.block _ (by omega),hV];exact heap_alloc_at (by simp) _
    refine ⟨⟨(hW.below hb').c0,(hb'.cell (p:=⟨g,_,none⟩) (by show g < _;omega)).trans q2,(hb'.cell (p:=⟨fg,_,none⟩) hfg).trans (hfcell f hfL).1,(hb'.cell (p:=⟨fg,_,none⟩) hfg).trans ?_⟩,⟨by rw [cell_row hblk0];rfl,by rw [cell_row hblk0];rfl⟩,by rw [cell_row hblk1];rfl,by rw [cell_row hblk1];rfl,by rw [cell_row hblk1];rfl,by rw [cell_row hblk1];rfl,by rw [cell_row hblk1];rfl,by rw [cell_row hblk1];rfl⟩
    rw [(hfcell f hfL).2,kindAt_get L kk f hkL hfL]
   have HFi:Hid (∀ W,Below V.heap.size V W → Calls Tryz.prog 72 #[.agg #[.string (mk L[kk].2[f].1),.int .i64 (kindAt L kk f:Int)],.agg #[.int .i64 k,.int .i64 n,.string (mk sb),.int .i64 vp,.int .i64 vq,.slice va ls.length vc]] W fun e w' => e = .returned (.bool (fitsB (kindAt L kk f) k n sb.length ls.length)) ∧ Below V.heap.size V w'):=fun W hb => by
    have:=fits_any (mk L[kk].2[f].1) (kindAt L kk f:Int) k n vp vq (mk sb) va ls.length vc W
    rw [size_mk] at this
    exact this.mono fun _ _ ⟨h1,h2⟩ => ⟨h1,hb.trans (h2.mono hb.size)⟩
   have HDa:Hid (∀ W,Below V.heap.size V W → Calls Tryz.prog 73 #[.pointer (some ⟨b,0,none⟩),.agg #[.int .i64 k,.int .i64 n,.string (mk sb),.int .i64 vp,.int .i64 vq,.slice va ls.length vc]] W fun e w' => e = .returned (.bool (danglesP S k vp vq)) ∧ Below V.heap.size V w'):=fun W hb =>
    (dangles_wt (hW1.below hb) k n vp vq (mk sb) va ls.length vc).mono fun _ _ ⟨h1,h2⟩ => ⟨h1,hb.trans (h2.mono hb.size)⟩
   obtain ⟨tb,hTb⟩:=hW.tabOf i hi hti
   have HTo:Hid (∀ W,Below V.heap.size V W → Calls Tryz.prog 74 #[.pointer (some ⟨b,0,none⟩),.agg #[.int .i64 ((i:Int) + 1),.int .i64 l]] W fun e w' => e = .returned (.pointer (some ⟨tb,0,none⟩)) ∧ Below V.heap.size V w'):=fun W hb =>
    (tableOf_wt own b g lc N i tb l L S W (hW1.below hb) hi hti ((hTb.below hB).below hb)).mono fun _ _ ⟨h1,h2⟩ => ⟨h1,hb.trans (h2.mono hb.size)⟩
   have HSt:Hid (setE L S ((i:Int) + 1) l nm fn k n sb.length vp vq ls.length = 0 → ∀ W,Below V.heap.size V W → Calls Tryz.prog 75 #[.pointer (some ⟨tb,0,none⟩),.agg #[.int .i64 ((i:Int) + 1),.int .i64 l],.int .i64 kk,.int .i64 f,.agg #[.int .i64 k,.int .i64 n,.string (mk sb),.int .i64 vp,.int .i64 vq,.slice va ls.length vc]] W fun e w' => e = .returned (.tuple #[]) ∧ Hid (SetEnds w own b g lc N L S (S.set L ((i:Int) + 1) l nm fn ⟨n,sb,vp,vq,ls⟩) (.returned (.int .i64 0)) (setE L S ((i:Int) + 1) l nm fn k n sb.length vp vq ls.length) w') ∧ Hid ((w'.cell? ⟨b,0,none⟩ = some (.slice (some ⟨g,0,none⟩) L.length lc) ∧ w'.cell? ⟨g,kk * 2 + 1,none⟩ = some (.slice (some ⟨fg,0,none⟩) L[kk].2.length fc) ∧ w'.cell? ⟨fg,f * 2,none⟩ = some (.string (mk L[kk].2[f].1)) ∧ w'.cell? ⟨fg,f * 2 + 1,none⟩ = some (.int .i64 (kindAt L kk f:Int))) ∧ (w'.cell? ⟨w.heap.size,0,none⟩ = some (.int .i64 ((i:Int) + 1)) ∧ w'.cell? ⟨w.heap.size,1,none⟩ = some (.int .i64 l)) ∧ w'.cell? ⟨w.heap.size + 1,0,none⟩ = some (.int .i64 k) ∧ w'.cell? ⟨w.heap.size + 1,1,none⟩ = some (.int .i64 n) ∧ w'.cell? ⟨w.heap.size + 1,2,none⟩ = some (.string (mk sb)) ∧ w'.cell? ⟨w.heap.size + 1,3,none⟩ = some (.int .i64 vp) ∧ w'.cell? ⟨w.heap.size + 1,4,none⟩ = some (.int .i64 vq) ∧ w'.cell? ⟨w.heap.size + 1,5,none⟩ = some (.slice va ls.length vc))):=fun hz W hb => by
    have hb':Below w.heap.size w W:=hB.trans (hb.mono hB.size)
    have hW2:=hW1.below hb
    obtain ⟨bm,nn,m,r1,r2,r3,r4⟩:=hW2.tabAt i hi hti ((hTb.below hB).below hb)
    have hkl:=hW.lay.kl
    have hfk:f < ((kinds L).getD kk []).length:=by rw [kinds_get L kk hkL];simpa using hfL
    refine (set_tabC own (32 * (1 + S.cp i)) tb (S.cp i) (kinds L) _ _ ((i:Int) + 1) l kk f (kindAt L kk f) k n sb vp vq (.slice va ls.length vc) ls W r4 hkl (by omega) (by unfold hasC;rw [hbit];simp [kinds,hkL]) (kind_get hfk) hkd (Nat.le_trans (ents_lenS _ _) (by omega)) (ents_sortS _ _) (ahead_in _ i hi hti) hsb hls (fun _ => hvl.below hb') ⟨_,_,_,rfl⟩).mono ?_
    rintro e' w3 ⟨rfl,t1,v',t2,t3⟩
    obtain ⟨own2,o1,o2⟩:=hW2.put i kk f hi hti (by omega) (by omega) (FV.norm (kindAt L kk f) ⟨n,sb,vp,vq,ls⟩) v' bm nn tb m r1 r2 r3 t1 t2 t3
    refine ⟨rfl,?_,?_⟩
    rotate_left
    · obtain ⟨⟨y1,y2,y3,y4⟩,⟨y5,y6⟩,y7,y8,y9,y10,y11,y12⟩:=HV.out W hb
      have hsz:=hb.size
      have hgo:own g = 0:=hW.low g hg
      have hfo:own fg = 0:=hW.low fg (q4 fg rfl)
      have hbo:own b = 1:=hW.me
      have h0o:own w.heap.size = 0:=hW.out _ (Nat.le_refl _)
      have h1o:own (w.heap.size + 1) = 0:=hW.out _ (by omega)
      have hbl:=hW.lt
      have key:∀ j o,j < W.heap.size → own j < 32 → w3.cell? ⟨j,o,none⟩ = W.cell? ⟨j,o,none⟩:=fun j o hj ho => World.cell?_of_block (a:=⟨j,o,none⟩) (t1.block j hj fun q => by have q':own j = 32 * (1 + S.cp i) + lCol kk f:=q;omega)
      exact ⟨⟨(key _ _ (by omega) (by omega)).trans y1,(key _ _ (by omega) (by omega)).trans y2,(key _ _ (by omega) (by omega)).trans y3,(key _ _ (by omega) (by omega)).trans y4⟩,⟨(key _ _ (by omega) (by omega)).trans y5,(key _ _ (by omega) (by omega)).trans y6⟩,(key _ _ (by omega) (by omega)).trans y7,(key _ _ (by omega) (by omega)).trans y8,(key _ _ (by omega) (by omega)).trans y9,(key _ _ (by omega) (by omega)).trans y10,(key _ _ (by omega) (by omega)).trans y11,(key _ _ (by omega) (by omega)).trans y12⟩
    show SetEnds _ _ _ _ _ _ _ _ _ _ _ _
    refine ⟨by rw [hz],own2,fun i' k' f' => if i' = i ∧ k' = kk ∧ f' = f then v' else S.lv i' k' f',(Stp.below hb').trans ⟨⟨t1.os,t1.tape,t1.output,t1.size,fun j hj hn => t1.block j hj fun q => hn (Or.inr (Or.inr (by have q':own j = 32 * (1 + S.cp i) + lCol kk f:=q;omega)))⟩,o1⟩,?_⟩
    rw [if_pos hz,HS'.out]
    exact o2
   generalize hSS:S.set L ((i:Int) + 1) l nm fn ⟨n,sb,vp,vq,ls⟩ = S' at HSt
   have HNo:Hid (∀ er:Int,er ≠ 0 → ∀ w',Below V.heap.size V w' → SetEnds w own b g lc N L S S' (.returned (.int .i64 er)) er w'):=fun er he w' hb => SetEnds.no hW he (hB.trans (hb.mono hB.size))
   clear hW hW1 hB hvl hTb q1 q2 q3 q4 hfcell hbit hff h0 hti hbi HS' ok hkd
   generalize setE L S ((i:Int) + 1) l nm fn k n sb.length vp vq ls.length = er at HE HSt ⊢
   generalize danglesP S k vp vq = dg at HE HDa
   generalize fitsB (kindAt L kk f) k n sb.length ls.length = ft at HE HFi
   generalize kindAt L kk f = kd at HV HFi HSt
   generalize mk L[kk].2[f].1 = fnm at HV HFi HSt
   generalize L[kk].2.length = nf at HV hfL hf4 hfc HSt
   generalize L.length = nL at HV hkL hn6 hlcle HSt
   generalize ls.length = nl at hV HV HFi HDa HSt ⊢
   generalize mk sb = ms at hV HV HFi HDa HSt ⊢
   have HVs:Hid (V.heap.size = w.heap.size + 2):=hs
   clear hs
   have HVe:Hid (_ = V):=hV.symm
   clear hV
   have hfI:(f:Int) < (nf:Int):=by omega
   cases ft with
   | false =>
     rw [if_neg (by simp)] at HE
     go_enter Tryz.func38,Tryz.ntmps38
     go_wp2_with (go_at_call 71;refine (HK.out _ HVe.out).mono ?_;rintro e w1 ⟨rfl,hb1⟩;have HB1:Hid (Below V.heap.size V w1):=hb1;clear hb1)
     go_region_held3 (fun W => (W.cell? ⟨b,0,none⟩ = some (.slice (some ⟨g,0,none⟩) nL lc) ∧ W.cell? ⟨g,kk * 2 + 1,none⟩ = some (.slice (some ⟨fg,0,none⟩) nf fc) ∧ W.cell? ⟨fg,f * 2,none⟩ = some (.string fnm) ∧ W.cell? ⟨fg,f * 2 + 1,none⟩ = some (.int .i64 (kd:Int))) ∧ (W.cell? ⟨w.heap.size,0,none⟩ = some (.int .i64 ((i:Int) + 1)) ∧ W.cell? ⟨w.heap.size,1,none⟩ = some (.int .i64 l)) ∧ W.cell? ⟨w.heap.size + 1,0,none⟩ = some (.int .i64 k) ∧ W.cell? ⟨w.heap.size + 1,1,none⟩ = some (.int .i64 n) ∧ W.cell? ⟨w.heap.size + 1,2,none⟩ = some (.string ms) ∧ W.cell? ⟨w.heap.size + 1,3,none⟩ = some (.int .i64 vp) ∧ W.cell? ⟨w.heap.size + 1,4,none⟩ = some (.int .i64 vq) ∧ W.cell? ⟨w.heap.size + 1,5,none⟩ = some (.slice va nl vc)) ((first | exact HV.out _ HB2.out | exact HV.out _ HB1.out.drew | exact HV.out _ HB1.out)) ((go_at_call 72;refine (HFi.out _ HB1.out.drew).mono ?_;rintro e w2 ⟨rfl,hb2⟩;have HB2:Hid (Below V.heap.size V w2):=hb2;clear hb2))
     go_wp2_with fail
     go_ret
     rw [HE.out]
     exact HNo.out 8 (by decide) _ HB2.out
   | true =>
     rw [if_pos rfl] at HE
     cases dg with
     | true =>
       rw [if_pos rfl] at HE
       go_enter Tryz.func38,Tryz.ntmps38
       go_wp2_with (go_at_call 71;refine (HK.out _ HVe.out).mono ?_;rintro e w1 ⟨rfl,hb1⟩;have HB1:Hid (Below V.heap.size V w1):=hb1;clear hb1)
       go_region_held3 (fun W => (W.cell? ⟨b,0,none⟩ = some (.slice (some ⟨g,0,none⟩) nL lc) ∧ W.cell? ⟨g,kk * 2 + 1,none⟩ = some (.slice (some ⟨fg,0,none⟩) nf fc) ∧ W.cell? ⟨fg,f * 2,none⟩ = some (.string fnm) ∧ W.cell? ⟨fg,f * 2 + 1,none⟩ = some (.int .i64 (kd:Int))) ∧ (W.cell? ⟨w.heap.size,0,none⟩ = some (.int .i64 ((i:Int) + 1)) ∧ W.cell? ⟨w.heap.size,1,none⟩ = some (.int .i64 l)) ∧ W.cell? ⟨w.heap.size + 1,0,none⟩ = some (.int .i64 k) ∧ W.cell? ⟨w.heap.size + 1,1,none⟩ = some (.int .i64 n) ∧ W.cell? ⟨w.heap.size + 1,2,none⟩ = some (.string ms) ∧ W.cell? ⟨w.heap.size + 1,3,none⟩ = some (.int .i64 vp) ∧ W.cell? ⟨w.heap.size + 1,4,none⟩ = some (.int .i64 vq) ∧ W.cell? ⟨w.heap.size + 1,5,none⟩ = some (.slice va nl vc)) ((first | exact HV.out _ HB2.out | exact HV.out _ HB1.out.drew | exact HV.out _ HB1.out)) ((go_at_call 72;refine (HFi.out _ HB1.out.drew).mono ?_;rintro e w2 ⟨rfl,hb2⟩;have HB2:Hid (Below V.heap.size V w2):=hb2;clear hb2))
       obtain ⟨_,_,d0,d1,d2,d3,d4,d5⟩:=HV.out _ HB2.out
       go_wp2_with (go_at_call 73;refine (HDa.out _ HB2.out).mono ?_;rintro e w3 ⟨rfl,hb3⟩;have HB3:Hid (Below V.heap.size V w3):=hb3;clear hb3)
       go_ret
       rw [HE.out]
       exact HNo.out 9 (by decide) _ HB3.out
     | false =>
       rw [if_neg (by simp)] at HE
       have HSt2:=HSt.out HE.out
       have HSt3:Hid _:=HSt2
       clear HSt2
       go_enter Tryz.func38,Tryz.ntmps38
       go_wp2_with (go_at_call 71;refine (HK.out _ HVe.out).mono ?_;rintro e w1 ⟨rfl,hb1⟩;have HB1:Hid (Below V.heap.size V w1):=hb1;clear hb1)
       go_region_held3 (fun W => (W.cell? ⟨b,0,none⟩ = some (.slice (some ⟨g,0,none⟩) nL lc) ∧ W.cell? ⟨g,kk * 2 + 1,none⟩ = some (.slice (some ⟨fg,0,none⟩) nf fc) ∧ W.cell? ⟨fg,f * 2,none⟩ = some (.string fnm) ∧ W.cell? ⟨fg,f * 2 + 1,none⟩ = some (.int .i64 (kd:Int))) ∧ (W.cell? ⟨w.heap.size,0,none⟩ = some (.int .i64 ((i:Int) + 1)) ∧ W.cell? ⟨w.heap.size,1,none⟩ = some (.int .i64 l)) ∧ W.cell? ⟨w.heap.size + 1,0,none⟩ = some (.int .i64 k) ∧ W.cell? ⟨w.heap.size + 1,1,none⟩ = some (.int .i64 n) ∧ W.cell? ⟨w.heap.size + 1,2,none⟩ = some (.string ms) ∧ W.cell? ⟨w.heap.size + 1,3,none⟩ = some (.int .i64 vp) ∧ W.cell? ⟨w.heap.size + 1,4,none⟩ = some (.int .i64 vq) ∧ W.cell? ⟨w.heap.size + 1,5,none⟩ = some (.slice va nl vc)) ((first | exact HV.out _ HB2.out | exact HV.out _ HB1.out.drew | exact HV.out _ HB1.out)) ((go_at_call 72;refine (HFi.out _ HB1.out.drew).mono ?_;rintro e w2 ⟨rfl,hb2⟩;have HB2:Hid (Below V.heap.size V w2):=hb2;clear hb2))
       obtain ⟨_,_,d0,d1,d2,d3,d4,d5⟩:=HV.out _ HB2.out
       go_wp2_with (go_at_call 73;refine (HDa.out _ HB2.out).mono ?_;rintro e w3 ⟨rfl,hb3⟩;have HB3:Hid (Below V.heap.size V w3):=hb3;clear hb3)
       clear d0 d1 d2 d3 d4 d5
       go_region_held3 (fun W => (W.cell? ⟨b,0,none⟩ = some (.slice (some ⟨g,0,none⟩) nL lc) ∧ W.cell? ⟨g,kk * 2 + 1,none⟩ = some (.slice (some ⟨fg,0,none⟩) nf fc) ∧ W.cell? ⟨fg,f * 2,none⟩ = some (.string fnm) ∧ W.cell? ⟨fg,f * 2 + 1,none⟩ = some (.int .i64 (kd:Int))) ∧ (W.cell? ⟨w.heap.size,0,none⟩ = some (.int .i64 ((i:Int) + 1)) ∧ W.cell? ⟨w.heap.size,1,none⟩ = some (.int .i64 l)) ∧ W.cell? ⟨w.heap.size + 1,0,none⟩ = some (.int .i64 k) ∧ W.cell? ⟨w.heap.size + 1,1,none⟩ = some (.int .i64 n) ∧ W.cell? ⟨w.heap.size + 1,2,none⟩ = some (.string ms) ∧ W.cell? ⟨w.heap.size + 1,3,none⟩ = some (.int .i64 vp) ∧ W.cell? ⟨w.heap.size + 1,4,none⟩ = some (.int .i64 vq) ∧ W.cell? ⟨w.heap.size + 1,5,none⟩ = some (.slice va nl vc)) ((first | exact HV5.out | exact HV.out _ HB4.out | exact HV.out _ HB3.out.drew | exact HV.out _ HB3.out)) (first | (go_at_call 74;refine (HTo.out _ HB3.out.drew).mono ?_;rintro e w4 ⟨rfl,hb4⟩;have HB4:Hid (Below V.heap.size V w4):=hb4;clear hb4) | (go_at_call 75;refine (HSt3.out _ HB4.out).mono ?_;rintro e w5 ⟨rfl,HEnd,HV5⟩))
       go_wp2_with fail
       go_ret
       exact HEnd.out
 · have HE:Hid (setE L S p l nm fn k n sb.length vp vq ls.length = (findFieldP L S p l nm fn).2.2):=if_neg h0
   have HNo:Hid (∀ w',Below V.heap.size V w' → SetEnds w own b g lc N L S (S.set L p l nm fn ⟨n,sb,vp,vq,ls⟩) (.returned (.int .i64 (findFieldP L S p l nm fn).2.2)) (findFieldP L S p l nm fn).2.2 w'):=fun w' hb => SetEnds.no hW h0 (hB.trans (hb.mono hB.size))
   have hd:((findFieldP L S p l nm fn).2.2 == 0) = false:=by simpa using h0
   generalize S.set L p l nm fn ⟨n,sb,vp,vq,ls⟩ = S' at HNo ⊢
   generalize setE L S p l nm fn k n sb.length vp vq ls.length = er at HE ⊢
   generalize findFieldP L S p l nm fn = q at HE HK HNo hd
   generalize ls.length = nl at hV ⊢
   generalize mk sb = ms at hV ⊢
   have HVe:Hid (_ = V):=hV.symm
   clear hV hW hW1 hB hs h0 hvl
   go_enter Tryz.func38,Tryz.ntmps38
   go_wp2_with (go_at_call 71;refine (HK.out _ HVe.out).mono ?_;rintro e w1 ⟨rfl,hb1⟩)
   go_ret
   rw [HE.out]
   exact HNo.out _ hb1
def six (w:World) (q:Nat) (v0 v1 v2 v3 v4 v5:Value):World:=(((((w.setCell ⟨q,0,none⟩ v0).setCell ⟨q,1,none⟩ v1).setCell ⟨q,2,none⟩ v2).setCell ⟨q,3,none⟩ v3).setCell ⟨q,4,none⟩ v4).setCell ⟨q,5,none⟩ v5
theorem six_block {w:World} {q t:Nat} {a0 a1 a2 a3 a4 a5:Value} (h:w.heap[q]? = some (.cells #[a0,a1,a2,a3,a4,a5] t (0,0))) (v0 v1 v2 v3 v4 v5:Value):(six w q v0 v1 v2 v3 v4 v5).heap[q]? = some (.cells #[v0,v1,v2,v3,v4,v5] t (0,0)) :=
 setCell_block _ (setCell_block _ (setCell_block _ (setCell_block _ (setCell_block _ (setCell_block _ h)))))
theorem six_other (w:World) (q:Nat) (v0 v1 v2 v3 v4 v5:Value) (j:Nat) (h:j ≠ q):(six w q v0 v1 v2 v3 v4 v5).heap[j]? = w.heap[j]?:=by
 unfold six
 rw [Below.heap_setCell _ _ _ _ h,Below.heap_setCell _ _ _ _ h,Below.heap_setCell _ _ _ _ h,Below.heap_setCell _ _ _ _ h,Below.heap_setCell _ _ _ _ h,Below.heap_setCell _ _ _ _ h]
theorem six_size (w:World) (q:Nat) (v0 v1 v2 v3 v4 v5:Value):(six w q v0 v1 v2 v3 v4 v5).heap.size = w.heap.size:=by simp [six,World.setCell]
theorem six_below {w w3:World} {q n:Nat} (h:Below n w w3) (hq:n ≤ q) (v0 v1 v2 v3 v4 v5:Value):Below n w (six w3 q v0 v1 v2 v3 v4 v5) :=
 ⟨by simp [six,World.setCell,h.os],by simp [six,World.setCell,h.tape],by simp [six,World.setCell,h.output],by rw [six_size];exact h.size,fun j hj => (six_other _ _ _ _ _ _ _ _ j (by omega)).trans (h.block j hj)⟩
set_option maxHeartbeats 1600000 in
set_option maxRecDepth 100000 in
theorem get_tabC (own:Nat → Nat) (base tb s:Nat) (cks:List (List Nat)) (ents:List (Int × Int)) (xs:Nat → Nat → List Value) (p lf:Int) (k f kd:Nat) (x:FV) (v:Value) (w:World) (hT:TabC w own base tb s cks ents xs) (hkl:∀ k,(cks.getD k []).length ≤ 4) (hk:k < 6) (hh:hasC s cks k = true) (hf:(cks.getD k [])[f]? = some kd) (hkd:1 ≤ kd ∧ kd ≤ 5)
 (hl:ents.length ≤ 99) (hsort:ents.Pairwise fun a b => a.1 < b.1) (hin:ahead ents p < ents.length) (hrow:∀ o,o < kSz kd → (xs k f)[ahead ents p * kSz kd + o]? = (fvCells kd x v)[o]?) (hv:IntsAt w v x.ls) (hxl:x.ls.length ≤ 100) :
 Calls Tryz.prog 79 #[.pointer (some ⟨tb,0,none⟩),.agg #[.int .i64 p,.int .i64 lf],.int .i64 k,.int .i64 f] w fun e w' => ∃ la ln lc,e = .returned (.agg #[.int .i64 kd,.int .i64 (gN kd x),.string (mk (gS kd x)),.int .i64 (gP kd x),.int .i64 (gQ kd x),.slice la ln lc]) ∧ ListNew w' w.heap.size (.slice la ln lc) (gL kd x) ∧ Below w.heap.size w w':=by
 obtain ⟨ev,sl,g,c,cb,h1,h2,h3,h4,h5,h6,h7,h8,h9,h10⟩:=hT.col hkl k f kd hk hh hf
 have hfl:f < (cks.getD k []).length:=(List.getElem?_eq_some_iff.1 hf).1
 obtain ⟨nk,hnk⟩:∃ nk,nk = (cks.getD k []).length:=⟨_,rfl⟩
 rw [← hnk] at h4 h5 hfl
 have hn4:nk ≤ 4:=by rw [hnk];exact hkl k
 obtain ⟨W1,hW1⟩:∃ W1,W1 = (w.alloc (.cells #[.int .i64 p,.int .i64 lf] 46)).alloc (.cells #[.int .i64 0,.int .i64 0,.string ⟨#[]⟩,.int .i64 0,.int .i64 0,.slice none 0 0] 56):=⟨_,rfl⟩
 have hB1:Below w.heap.size w W1:=by rw [hW1];exact ((Below.refl _ _).alloc (Nat.le_refl _) _).alloc (by simp) _
 have hs1:W1.heap.size = w.heap.size + 2:=by rw [hW1];simp
 have hck:w.cell? ⟨tb,1 + k,none⟩ = some (.slice (some ⟨g,0,none⟩) nk c):=by rw [h3 k hk,h4]
 obtain ⟨r,hr⟩:∃ r,r = ahead ents p:=⟨_,rfl⟩
 have HR:Hid (ahead ents p = r):=hr.symm
 have e1:W1.cell? ⟨tb,1 + k,none⟩ = some (.slice (some ⟨g,0,none⟩) nk c):=(hB1.cell (p:=⟨tb,1 + k,none⟩) h8).trans hck
 have e2:W1.cell? ⟨g,f,none⟩ = some (colVal kd cb):=(hB1.cell (p:=⟨g,f,none⟩) h7).trans h6
 have HRow:Hid (∀ W,W = W1.drew → Calls Tryz.prog 130 #[.pointer (some ⟨tb,0,none⟩),.agg #[.int .i64 p,.int .i64 lf]] W fun e w' => e = .returned (.int .i64 r) ∧ w'.cell? ⟨tb,1 + k,none⟩ = some (.slice (some ⟨g,0,none⟩) nk c) ∧ w'.cell? ⟨g,f,none⟩ = some (colVal kd cb) ∧
  Hid (Calls Tryz.prog (getFn kd) #[.pointer (some ⟨cb,0,none⟩),.int .i64 r] w' fun e w3 => ∃ la ln lc,e = .returned (.agg #[.int .i64 kd,.int .i64 (gN kd x),.string (mk (gS kd x)),.int .i64 (gP kd x),.int .i64 (gQ kd x),.slice la ln lc]) ∧ (w3.heap[w.heap.size + 1]? = some (.cells #[.int .i64 0,.int .i64 0,.string ⟨#[]⟩,.int .i64 0,.int .i64 0,.slice none 0 0] 56 (0,0))) ∧ Hid (w.heap.size + 2 ≤ w3.heap.size ∧ Below w.heap.size w w3 ∧ ListNew w3 (w.heap.size + 2) (.slice la ln lc) (gL kd x)))):=by
  rintro W rfl
  refine (row_any tb ev ents p lf W1.drew ((hB1.cell (p:=⟨tb,0,none⟩) h8).trans h1) ((own_ents h2).below ⟨hB1.os,hB1.tape,hB1.output,hB1.size,hB1.block⟩) (by omega) hsort).mono ?_
  rw [HR.out]
  rintro e w' ⟨rfl,hb⟩
  have hb':Below W1.heap.size W1 w':=⟨hb.os,hb.tape,hb.output,hb.size,hb.block⟩
  have hbw:Below w.heap.size w w':=hB1.trans (hb'.mono hB1.size)
  have hblk:W1.heap[w.heap.size + 1]? = some (.cells #[.int .i64 0,.int .i64 0,.string ⟨#[]⟩,.int .i64 0,.int .i64 0,.slice none 0 0] 56 (0,0)):=by rw [hW1];exact heap_alloc_at (by simp) _
  refine ⟨rfl,(hb'.cell (p:=⟨tb,1 + k,none⟩) (by show tb < _;omega)).trans e1,(hb'.cell (p:=⟨g,f,none⟩) (by show g < _;omega)).trans e2,?_⟩
  have hC:=h9.turn (W':=w') (F':=fun b => own b = base + lCol k f) fun j hj hjl => ⟨hbw.block j hjl,hj⟩
  have hz:=hb'.size
  refine (getcol_any kd hkd.1 hkd.2 cb ents.length r (xs k f) x v w' hC (by rw [hr];exact hin) (by omega) (by rw [← HR.out];exact hrow) (hv.below hbw) hxl).mono ?_
  rintro e w3 ⟨v',rfl,t2,t3⟩
  obtain ⟨la,lc,rfl⟩:=own_form t2
  have hz3:=t3.size
  exact ⟨la,_,lc,rfl,(t3.block _ (by omega)).trans ((hb'.block _ (by omega)).trans hblk),by omega,hbw.trans (t3.mono hbw.size),own_base t2 (by omega)⟩
 have hIv:=callGet_any kd hkd.1 hkd.2 cb
 rw [hW1] at e1 e2 HRow
 have hf4:(f:Int) < (nk:Int):=by omega
 have hk6:(k:Int) < 6:=by omega
 clear hT h9 h10 hW1 hB1 hsort hin hck h1 h2 h3 h4 h6 hr hnk hf hh hs1 hrow hv
 go_enter Tryz.func79,Tryz.ntmps79
 go_wp2_with fail
 go_region_law (first | (refine step_call2 rfl 130 (.tmp 18) (.tmp 19) 125 46 rfl (.pointer (some ⟨tb,0,none⟩)) (.agg #[.int .i64 p,.int .i64 lf]) (by simp [Act.eval,Act.put]) (by simp [Act.eval,Act.put]) (runs130 _ _) ?_;refine (HRow.out _ rfl).mono ?_;rintro e w2 ⟨rfl,r1,r2,HGet⟩;refine ⟨_,rfl,?_⟩) | (refine step_invoke1 rfl (.tmp 22) (.tmp 20) "Get" 3 rfl (colVal kd cb) (.int .i64 r) (by simp [Act.eval,Act.put]) (by simp [Act.eval,Act.put]) (getFn kd) _ (hIv _ _) ?_;refine HGet.out.mono ?_;rintro e w3 ⟨la,ln,lc,rfl,hblk,HP⟩;have HBk:Hid (w3.heap[w.heap.size + 1]? = some (.cells #[.int .i64 0,.int .i64 0,.string ⟨#[]⟩,.int .i64 0,.int .i64 0,.slice none 0 0] 56 (0,0))):=hblk;have c0:w3.cell? ⟨w.heap.size + 1,0,none⟩ = some (.int .i64 0):=(by rw [cell_row hblk];rfl);have c1:w3.cell? ⟨w.heap.size + 1,1,none⟩ = some (.int .i64 0):=(by rw [cell_row hblk];rfl);have c2:w3.cell? ⟨w.heap.size + 1,2,none⟩ = some (.string ⟨#[]⟩):=(by rw [cell_row hblk];rfl);have c3:w3.cell? ⟨w.heap.size + 1,3,none⟩ = some (.int .i64 0):=(by rw [cell_row hblk];rfl);have c4:w3.cell? ⟨w.heap.size + 1,4,none⟩ = some (.int .i64 0):=(by rw [cell_row hblk];rfl);have c5:w3.cell? ⟨w.heap.size + 1,5,none⟩ = some (.slice none 0 0):=(by rw [cell_row hblk];rfl);have f0:=frozen_row hblk 0;have f1:=frozen_row hblk 1;have f2:=frozen_row hblk 2;have f3:=frozen_row hblk 3;have f4:=frozen_row hblk 4;have f5:=frozen_row hblk 5;clear hblk;refine ⟨_,rfl,?_⟩))
 all_goals clear c0 c1 c2 c3 c4 c5 f0 f1 f2 f3 f4 f5
 all_goals go_wp2_with fail
 all_goals (refine bodyPost_ret_by (v:=.agg #[.int .i64 kd,.int .i64 (gN kd x),.string (mk (gS kd x)),.int .i64 (gP kd x),.int .i64 (gQ kd x),.slice la ln lc]) ?_ rfl ⟨la,ln,lc,rfl,?_,?_⟩)
 all_goals first
  | exact results_cell_row (p:=8) (ty:=56) rfl _ _ (w.heap.size + 1) 56 _ (0,0) _ rfl (six_block HBk.out _ _ _ _ _ _) Tryz.underlying56 rfl (by kernel_rfl)
  | exact own_base (own_turn HP.out.2.2 fun j hj _ => six_other _ _ _ _ _ _ _ _ j (by have:=(HP.out.2.2.lt j hj).1;omega)) (by omega)
  | exact six_below HP.out.2.1 (by omega) _ _ _ _ _ _
end Go.Proofs.YthkbeaffkcfgiabGreatDoor
