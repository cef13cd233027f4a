import Derived.Test.YthkbeaffkcfgiabGreatDoorR41
import Derived.Test.YthkbeaffkcfgiabGreatDoorR33
set_option linter.unusedSimpArgs false
set_option linter.unusedVariables false
namespace Go.Proofs.YthkbeaffkcfgiabGreatDoor
open Go.RowKit
structure Ov where
 e:Int
 c:List UInt8
 f:List UInt8
 k:Int
 n:Int
 s:List UInt8
 p:Int
 l:Int
 ls:List Int
def fitsP (L:List CompS) (S:St) (k:Nat) (o:Ov):Bool:=if fieldAt L k o.f < 0 then false else fitsB (kindAt L k (fieldAt L k o.f).toNat) o.k o.n o.s.length o.ls.length && !danglesP S o.k o.p o.l
def allowsP (L:List CompS) (S:St) (cs:List Nat) (o:Ov):Bool :=
 if o.e < 0 ∨ (cs.length:Int) ≤ o.e then false else if compAt L o.c < 0 then false else if (cs.getD o.e.toNat 0).testBit (compAt L o.c).toNat = false then false else fitsP L S (compAt L o.c).toNat o
def ovCells (o:Ov) (ms mc mf:ByteArray) (va:Option Addr) (nl vc:Nat):Array Value:=#[.int .i64 o.e,.string mc,.string mf,.int .i64 o.k,.int .i64 o.n,.string ms,.int .i64 o.p,.int .i64 o.l,.slice va nl vc]
set_option maxHeartbeats 3200000 in
set_option maxRecDepth 100000 in
theorem allows_w {own:Nat → Nat} {b g lc N:Nat} {L:List CompS} {S:St} {w:World} (hW:WT w own b g lc N L S) (sg n vcs:Nat) (cs:List Nat) (hn:n = cs.length) (hnv:n ≤ vcs) (hn20:n ≤ 1000) (hsg:sg < w.heap.size) (hcs:∀ j,j < n → w.cell? ⟨sg,j * 7,none⟩ = some (.int .u64 (cs.getD j 0:Int)) ∧ cs.getD j 0 < 64) (o:Ov) (va:Option Addr) (vc:Nat) :
 Calls Tryz.prog 78 #[.pointer (some ⟨b,0,none⟩),.slice (some ⟨sg,0,none⟩) n vcs,.agg (ovCells o (mk o.s) (mk o.c) (mk o.f) va o.ls.length vc)] w fun e w' => e = .returned (.bool (allowsP L S cs o)) ∧ Below w.heap.size w w':=by
 obtain ⟨oe,oc,of,ok,on,os,op,ol,ols⟩:=o
 unfold ovCells
 simp only
 obtain ⟨V,hV⟩:∃ V,V = w.alloc (.cells #[.int .i64 oe,.string (mk oc),.string (mk of),.int .i64 ok,.int .i64 on,.string (mk os),.int .i64 op,.int .i64 ol,.slice va ols.length vc] 76):=⟨_,rfl⟩
 have hB:Below w.heap.size w V:=by rw [hV];exact (Below.refl _ _).alloc (Nat.le_refl _) _
 have hs:V.heap.size = w.heap.size + 1:=by rw [hV];simp
 have hblkV:V.heap[w.heap.size]? = some (.cells #[.int .i64 oe,.string (mk oc),.string (mk of),.int .i64 ok,.int .i64 on,.string (mk os),.int .i64 op,.int .i64 ol,.slice va ols.length vc] 76 (0,0)):=by rw [hV];exact heap_alloc_at rfl _
 have HP:Hid (allowsP L S cs ⟨oe,oc,of,ok,on,os,op,ol,ols⟩ = if oe < 0 ∨ (cs.length:Int) ≤ oe then false else if compAt L oc < 0 then false else if (cs.getD oe.toNat 0).testBit (compAt L oc).toNat = false then false else fitsP L S (compAt L oc).toNat ⟨oe,oc,of,ok,on,os,op,ol,ols⟩):=rfl
 have HVe:Hid (_ = V):=hV.symm
 by_cases h1:oe < 0
 · have hd:decide (oe < 0) = true:=decide_eq_true h1
   rw [if_pos (Or.inl h1)] at HP
   generalize allowsP L S cs ⟨oe,oc,of,ok,on,os,op,ol,ols⟩ = r at HP ⊢
   have HB:Hid (Below w.heap.size w V):=hB
   rw [hV] at HB
   clear hW hcs hB hblkV hV HVe hs
   go_enter Tryz.func78,Tryz.ntmps78
   go_wp2
   go_ret
   rw [HP.out]
   exact ⟨rfl,HB.out⟩
 have hd:decide (oe < 0) = false:=decide_eq_false h1
 by_cases h2:(n:Int) ≤ oe
 · have hd2:decide ((n:Int) ≤ oe) = true:=decide_eq_true h2
   rw [if_pos (Or.inr (by rw [← hn];exact h2))] at HP
   generalize allowsP L S cs ⟨oe,oc,of,ok,on,os,op,ol,ols⟩ = r at HP ⊢
   have HB:Hid (Below w.heap.size w V):=hB
   rw [hV] at HB
   clear hW hcs hB hblkV hV HVe hs
   go_enter Tryz.func78,Tryz.ntmps78
   go_wp2
   go_ret
   rw [HP.out]
   exact ⟨rfl,HB.out⟩
 have hd2:decide ((n:Int) ≤ oe) = false:=decide_eq_false h2
 rw [if_neg (by rw [← hn];omega)] at HP
 obtain ⟨j,rfl⟩:∃ j:Nat,oe = (j:Int):=⟨oe.toNat,by omega⟩
 have hjn:j < n:=by omega
 simp only [Int.toNat_natCast] at HP
 have hlt:=hW.lt
 have hW1:=hW.below hB
 have HC0:Hid (V.cell? ⟨b,0,none⟩ = some (.slice (some ⟨g,0,none⟩) L.length lc)):=hW1.c0
 have HBx:Hid (∀ W,Below V.heap.size V W → (W.cell? ⟨w.heap.size,0,none⟩ = some (.int .i64 (j:Int)) ∧ W.cell? ⟨w.heap.size,1,none⟩ = some (.string (mk oc)) ∧ W.cell? ⟨w.heap.size,2,none⟩ = some (.string (mk of)) ∧ W.cell? ⟨w.heap.size,3,none⟩ = some (.int .i64 ok) ∧ W.cell? ⟨w.heap.size,4,none⟩ = some (.int .i64 on) ∧ W.cell? ⟨w.heap.size,5,none⟩ = some (.string (mk os)) ∧ W.cell? ⟨w.heap.size,6,none⟩ = some (.int .i64 op) ∧ W.cell? ⟨w.heap.size,7,none⟩ = some (.int .i64 ol) ∧ W.cell? ⟨w.heap.size,8,none⟩ = some (.slice va ols.length vc))):=fun W hb => by
  have hk:=(hb.block w.heap.size (by omega)).trans hblkV
  exact ⟨by rw [cell_row hk];rfl,by rw [cell_row hk];rfl,by rw [cell_row hk];rfl,by rw [cell_row hk];rfl,by rw [cell_row hk];rfl,by rw [cell_row hk];rfl,by rw [cell_row hk];rfl,by rw [cell_row hk];rfl,by rw [cell_row hk];rfl⟩
 have HF:Hid (∀ W,W = V → Calls Tryz.prog 102 #[.slice (some ⟨g,0,none⟩) L.length lc,.string (mk oc)] W fun e w' => e = .returned (.int .i64 (compAt L oc)) ∧ Hid (Below V.heap.size V w')):=by
  rintro W rfl
  exact find102 g lc b L oc W hW1.lay
 have HSc:Hid (∀ W,Below V.heap.size V W → W.cell? ⟨sg,j * 7,none⟩ = some (.int .u64 (cs.getD j 0:Int))):=fun W hb => ((hB.trans (hb.mono hB.size)).cell (p:=⟨sg,j * 7,none⟩) hsg).trans (hcs j hjn).1
 have hc64:=(hcs j hjn).2
 have HBw:Hid (Below w.heap.size w V):=hB
 have hVsz:w.heap.size ≤ V.heap.size:=by omega
 have hcl:=compAt_lt L oc
 have hfew:=hW.lay.few
 by_cases h3:compAt L oc < 0
 · have hd3:decide (compAt L oc < 0) = true:=decide_eq_true h3
   rw [if_pos h3] at HP
   generalize allowsP L S cs ⟨(j:Int),oc,of,ok,on,os,op,ol,ols⟩ = r at HP ⊢
   generalize compAt L oc = k at HF hd3
   generalize L.length = nL at HF HC0
   generalize ols.length = nl at HBx HVe ⊢
   generalize mk os = ms at HBx HVe ⊢
   generalize mk of = mf at HBx HVe ⊢
   generalize mk oc = mc at HBx HVe HF ⊢
   have hne1:b ≠ w.heap.size:=by omega
   clear hW hW1 hcs hB hblkV hV hs hc64 h3 hcl hfew
   go_enter Tryz.func78,Tryz.ntmps78
   go_wp2_with fail
   rw [HVe.out]
   refine Calls.mono (orEmpty_some b V) ?_
   rintro e w1 ⟨rfl,rfl⟩
   obtain ⟨x0,x1,_⟩:=HBx.out _ (Below.refl _ _)
   have c0:=HC0.out
   go_wp2_with (go_at_call 102;refine (HF.out _ rfl).mono ?_;rintro e w2 ⟨rfl,HB2⟩)
   go_ret
   rw [HP.out]
   exact ⟨rfl,HBw.out.trans (HB2.out.mono hVsz)⟩
 have hd3:decide (compAt L oc < 0) = false:=decide_eq_false h3
 rw [if_neg h3] at HP
 obtain ⟨k,hk⟩:∃ k:Nat,compAt L oc = (k:Int):=⟨(compAt L oc).toNat,by omega⟩
 have hkL:k < L.length:=by omega
 have hk6:k < 6:=by omega
 rw [hk] at HP HF hd3
 simp only [Int.toNat_natCast] at HP
 have hne1:b ≠ w.heap.size:=by omega
 cases hq:(cs.getD j 0).testBit k with
 | false =>
   rw [hq,if_pos rfl] at HP
   generalize allowsP L S cs ⟨(j:Int),oc,of,ok,on,os,op,ol,ols⟩ = r at HP ⊢
   generalize L.length = nL at HF HC0
   generalize ols.length = nl at HBx HVe ⊢
   generalize mk os = ms at HBx HVe ⊢
   generalize mk of = mf at HBx HVe ⊢
   generalize mk oc = mc at HBx HVe HF ⊢
   generalize cs.getD j 0 = cj at HSc hc64 hq
   clear hW hW1 hcs hB hblkV hV hs h3 hcl hfew hk
   go_enter Tryz.func78,Tryz.ntmps78
   go_wp2_with fail
   rw [HVe.out]
   refine Calls.mono (orEmpty_some b V) ?_
   rintro e w1 ⟨rfl,rfl⟩
   obtain ⟨x0,x1,_⟩:=HBx.out _ (Below.refl _ _)
   have c0:=HC0.out
   go_wp2_with (first | (go_at_call 102;refine (HF.out _ rfl).mono ?_;rintro e w2 ⟨rfl,HB2⟩;obtain ⟨y0,y1,_⟩:=HBx.out _ HB2.out;have ys:=HSc.out _ HB2.out) | (go_at_call 66;refine (has_any cj k _ hc64 hk6).mono ?_;rw [hq];rintro e w3 ⟨rfl,rfl⟩))
   go_ret
   rw [HP.out]
   exact ⟨rfl,HBw.out.trans (HB2.out.mono hVsz)⟩
 | true =>
   rw [hq,if_neg (by simp)] at HP
   obtain ⟨cok,l1,fs,l2,l3,l4⟩:=hW.lay.comp k hkL
   have hg:=hW.lay.lt
   have hgs:=hW.lay.le
   have hlcle:=hW.lcle
   have e1:(L.map Prod.snd).getD k [] = L[k].2:=by simp [List.getD,hkL]
   have HFd:Hid (∀ W,Below V.heap.size V W → Calls Tryz.prog 129 #[.agg #[.string (mk L[k].1),fs],.string (mk of)] W fun e w' => e = .returned (.int .i64 (fieldAt L k of)) ∧ Hid (Below V.heap.size V w')):=fun W hb => by
    have hb':Below w.heap.size w W:=hB.trans (hb.mono hB.size)
    have:=find129 (mk L[k].1) fs L[k].2 of W (l3.keep hb'.size fun q _ hq => hb'.block q hq) cok.2.1
    unfold fieldAt
    rw [e1]
    exact this.mono fun _ _ ⟨h1,h2⟩ => ⟨h1,hb.trans (h2.mono hb.size)⟩
   have HLy:Hid (∀ W,Below V.heap.size V W → W.cell? ⟨g,k * 2,none⟩ = some (.string (mk L[k].1)) ∧ W.cell? ⟨g,k * 2 + 1,none⟩ = some fs):=fun W hb => by
    have hb':Below w.heap.size w W:=hB.trans (hb.mono hB.size)
    exact ⟨(hb'.cell (p:=⟨g,_,none⟩) (by show g < _;omega)).trans l1,(hb'.cell (p:=⟨g,_,none⟩) (by show g < _;omega)).trans l2⟩
   have HFP:Hid (fitsP L S k ⟨(j:Int),oc,of,ok,on,os,op,ol,ols⟩ = if fieldAt L k of < 0 then false else fitsB (kindAt L k (fieldAt L k of).toNat) ok on os.length ols.length && !danglesP S ok op ol):=rfl
   by_cases h5:fieldAt L k of < 0
   · have hd5:decide (0 ≤ fieldAt L k of) = false:=decide_eq_false (by omega)
     rw [if_pos h5] at HFP
     rw [HFP.out] at HP
     obtain ⟨fa,fnn,fc,hfs⟩:∃ a n c,fs = .slice a n c:=by obtain ⟨a,c,h⟩:=l3.form;exact ⟨a,_,c,h⟩
     subst hfs
     generalize allowsP L S cs ⟨(j:Int),oc,of,ok,on,os,op,ol,ols⟩ = r at HP ⊢
     generalize fieldAt L k of = f at HFd hd5 h5
     generalize mk L[k].1 = cn at HFd HLy
     clear l1 l2 l3 l4 cok e1 hW hW1
     generalize L.length = nL at HF HC0 hkL hfew hlcle
     generalize ols.length = nl at HBx HVe ⊢
     generalize mk os = ms at HBx HVe ⊢
     generalize mk of = mf at HBx HVe HFd ⊢
     generalize mk oc = mc at HBx HVe HF ⊢
     generalize cs.getD j 0 = cj at HSc hc64 hq
     clear hcs hB hblkV hV hs h3 hcl hk HFP
     go_enter Tryz.func78,Tryz.ntmps78
     go_wp2_with fail
     rw [HVe.out]
     refine Calls.mono (orEmpty_some b V) ?_
     rintro e w1 ⟨rfl,rfl⟩
     obtain ⟨x0,x1,_⟩:=HBx.out _ (Below.refl _ _)
     have c0:=HC0.out
     go_wp2_with (first | (go_at_call 102;refine (HF.out _ rfl).mono ?_;rintro e w2 ⟨rfl,HB2⟩;obtain ⟨y0,y1,_⟩:=HBx.out _ HB2.out;have ys:=HSc.out _ HB2.out) | (go_at_call 66;refine (has_any cj k _ hc64 hk6).mono ?_;rw [hq];rintro e w3 ⟨rfl,rfl⟩))
     clear x0 x1 y0 y1 ys c0
     go_region_held3 (fun W => (W.cell? ⟨w.heap.size,0,none⟩ = some (.int .i64 (j:Int)) ∧ W.cell? ⟨w.heap.size,1,none⟩ = some (.string mc) ∧ W.cell? ⟨w.heap.size,2,none⟩ = some (.string mf) ∧ W.cell? ⟨w.heap.size,3,none⟩ = some (.int .i64 ok) ∧ W.cell? ⟨w.heap.size,4,none⟩ = some (.int .i64 on) ∧ W.cell? ⟨w.heap.size,5,none⟩ = some (.string ms) ∧ W.cell? ⟨w.heap.size,6,none⟩ = some (.int .i64 op) ∧ W.cell? ⟨w.heap.size,7,none⟩ = some (.int .i64 ol) ∧ W.cell? ⟨w.heap.size,8,none⟩ = some (.slice va nl vc)) ∧ W.cell? ⟨g,k * 2,none⟩ = some (.string cn) ∧ W.cell? ⟨g,k * 2 + 1,none⟩ = some (.slice fa fnn fc)) ((first | exact ⟨HBx.out _ HB4.out,HLy.out _ HB4.out⟩ | exact ⟨HBx.out _ HB2.out.drew,HLy.out _ HB2.out.drew⟩ | exact ⟨HBx.out _ HB2.out,HLy.out _ HB2.out⟩)) ((go_at_call 129;refine (HFd.out _ HB2.out.drew).mono ?_;rintro e w4 ⟨rfl,HB4⟩))
     go_wp2_with fail
     go_region
     go_wp2_with fail
     go_ret
     rw [HP.out]
     exact ⟨rfl,HBw.out.trans (HB4.out.drew.mono hVsz)⟩
   · obtain ⟨f,hfe⟩:∃ f:Nat,fieldAt L k of = (f:Int):=⟨(fieldAt L k of).toNat,by omega⟩
     have hd5:decide (0 ≤ (f:Int)) = true:=decide_eq_true (by omega)
     rw [if_neg h5,hfe] at HFP
     simp only [Int.toNat_natCast] at HFP
     rw [hfe] at HFd
     have hfL:f < L[k].2.length:=by
      have:=findN_lt (((L.map Prod.snd).getD k []).map Prod.fst) of
      have e2:fieldAt L k of = findN (((L.map Prod.snd).getD k []).map Prod.fst) of:=rfl
      rw [← e2,hfe,e1] at this
      simp only [List.length_map] at this
      omega
     obtain ⟨fg,fc,rfl,hfc,hfg,hfcell⟩:∃ fg fc,fs = .slice (some ⟨fg,0,none⟩) L[k].2.length fc ∧ L[k].2.length ≤ fc ∧ fg < w.heap.size ∧ ∀ j (h:j < L[k].2.length),w.cell? ⟨fg,j * 2,none⟩ = some (.string (mk L[k].2[j].1)) ∧ w.cell? ⟨fg,j * 2 + 1,none⟩ = some (.int .i64 (L[k].2[j].2:Int)):=by
      rcases l3 with ⟨_,q⟩ | q
      · exfalso
        have:L[k].2.length = 0:=by rw [q];rfl
        omega
      · exact q
     have hf4:L[k].2.length ≤ 4:=cok.2.1
     have HFc:Hid (∀ W,Below V.heap.size V W → W.cell? ⟨fg,f * 2,none⟩ = some (.string (mk L[k].2[f].1)) ∧ W.cell? ⟨fg,f * 2 + 1,none⟩ = some (.int .i64 (kindAt L k f:Int))):=fun W hb => by
      have hb':Below w.heap.size w W:=hB.trans (hb.mono hB.size)
      refine ⟨(hb'.cell (p:=⟨fg,_,none⟩) hfg).trans (hfcell f hfL).1,(hb'.cell (p:=⟨fg,_,none⟩) hfg).trans ?_⟩
      rw [(hfcell f hfL).2,kindAt_get L k f hkL hfL]
     have HFi:Hid (∀ W,Below V.heap.size V W → Calls Tryz.prog 72 #[.agg #[.string (mk L[k].2[f].1),.int .i64 (kindAt L k f:Int)],.agg #[.int .i64 ok,.int .i64 on,.string (mk os),.int .i64 op,.int .i64 ol,.slice va ols.length vc]] W fun e w' => e = .returned (.bool (fitsB (kindAt L k f) ok on os.length ols.length)) ∧ Hid (Below V.heap.size V w')):=fun W hb => by
      have:=fits_any (mk L[k].2[f].1) (kindAt L k f:Int) ok on op ol (mk os) va ols.length vc W
      rw [size_mk] at this
      exact this.mono fun _ _ ⟨h1,h2⟩ => ⟨h1,hb.trans (h2.mono hb.size)⟩
     have HDa:Hid (∀ W,Below V.heap.size V W → Calls Tryz.prog 73 #[.pointer (some ⟨b,0,none⟩),.agg #[.int .i64 ok,.int .i64 on,.string (mk os),.int .i64 op,.int .i64 ol,.slice va ols.length vc]] W fun e w' => e = .returned (.bool (danglesP S ok op ol)) ∧ Hid (Below V.heap.size V w')):=fun W hb =>
      (dangles_wt (hW1.below hb) ok on op ol (mk os) va ols.length vc).mono fun _ _ ⟨h1,h2⟩ => ⟨h1,hb.trans (h2.mono hb.size)⟩
     rw [HFP.out] at HP
     generalize allowsP L S cs ⟨(j:Int),oc,of,ok,on,os,op,ol,ols⟩ = r at HP ⊢
     generalize danglesP S ok op ol = dg at HP HDa
     generalize fitsB (kindAt L k f) ok on os.length ols.length = ft at HP HFi
     generalize kindAt L k f = kd at HFc HFi
     generalize mk L[k].2[f].1 = fnm at HFc HFi
     generalize mk L[k].1 = cn at HFd HLy
     clear l1 l2 l3 l4 cok e1 hfcell hW hW1 h5 hfe HFP
     generalize L[k].2.length = nf at HLy HFd hfL hf4 hfc
     generalize L.length = nL at HF HC0 hkL hfew hlcle
     generalize ols.length = nl at HBx HVe HFi HDa ⊢
     generalize mk os = ms at HBx HVe HFi HDa ⊢
     generalize mk of = mf at HBx HVe HFd ⊢
     generalize mk oc = mc at HBx HVe HF ⊢
     generalize cs.getD j 0 = cj at HSc hc64 hq
     clear hcs hB hblkV hV hs h3 hcl hk
     have hfI:(f:Int) < (nf:Int):=by omega
     have hkI:(k:Int) < (nL:Int):=by omega
     cases ft with
     | false =>
       go_enter Tryz.func78,Tryz.ntmps78
       go_wp2_with fail
       rw [HVe.out]
       refine Calls.mono (orEmpty_some b V) ?_
       rintro e w1 ⟨rfl,rfl⟩
       obtain ⟨x0,x1,_⟩:=HBx.out _ (Below.refl _ _)
       have c0:=HC0.out
       go_wp2_with (first | (go_at_call 102;refine (HF.out _ rfl).mono ?_;rintro e w2 ⟨rfl,HB2⟩;obtain ⟨y0,y1,_⟩:=HBx.out _ HB2.out;have ys:=HSc.out _ HB2.out) | (go_at_call 66;refine (has_any cj k _ hc64 hk6).mono ?_;rw [hq];rintro e w3 ⟨rfl,rfl⟩))
       clear x0 x1 y0 y1 ys c0
       go_region_held3 (fun W => (W.cell? ⟨w.heap.size,0,none⟩ = some (.int .i64 (j:Int)) ∧ W.cell? ⟨w.heap.size,1,none⟩ = some (.string mc) ∧ W.cell? ⟨w.heap.size,2,none⟩ = some (.string mf) ∧ W.cell? ⟨w.heap.size,3,none⟩ = some (.int .i64 ok) ∧ W.cell? ⟨w.heap.size,4,none⟩ = some (.int .i64 on) ∧ W.cell? ⟨w.heap.size,5,none⟩ = some (.string ms) ∧ W.cell? ⟨w.heap.size,6,none⟩ = some (.int .i64 op) ∧ W.cell? ⟨w.heap.size,7,none⟩ = some (.int .i64 ol) ∧ W.cell? ⟨w.heap.size,8,none⟩ = some (.slice va nl vc)) ∧ (W.cell? ⟨g,k * 2,none⟩ = some (.string cn) ∧ W.cell? ⟨g,k * 2 + 1,none⟩ = some (.slice (some ⟨fg,0,none⟩) nf fc))) ((first | exact ⟨HBx.out _ HB4.out,HLy.out _ HB4.out⟩ | exact ⟨HBx.out _ HB2.out.drew,HLy.out _ HB2.out.drew⟩ | exact ⟨HBx.out _ HB2.out,HLy.out _ HB2.out⟩)) ((go_at_call 129;refine (HFd.out _ HB2.out.drew).mono ?_;rintro e w4 ⟨rfl,HB4⟩))
       go_wp2_with fail
       refine wp_region_held_drew (S:=fun W => (W.cell? ⟨w.heap.size,0,none⟩ = some (.int .i64 (j:Int)) ∧ W.cell? ⟨w.heap.size,1,none⟩ = some (.string mc) ∧ W.cell? ⟨w.heap.size,2,none⟩ = some (.string mf) ∧ W.cell? ⟨w.heap.size,3,none⟩ = some (.int .i64 ok) ∧ W.cell? ⟨w.heap.size,4,none⟩ = some (.int .i64 on) ∧ W.cell? ⟨w.heap.size,5,none⟩ = some (.string ms) ∧ W.cell? ⟨w.heap.size,6,none⟩ = some (.int .i64 op) ∧ W.cell? ⟨w.heap.size,7,none⟩ = some (.int .i64 ol) ∧ W.cell? ⟨w.heap.size,8,none⟩ = some (.slice va nl vc)) ∧ (W.cell? ⟨g,k * 2,none⟩ = some (.string cn) ∧ W.cell? ⟨g,k * 2 + 1,none⟩ = some (.slice (some ⟨fg,0,none⟩) nf fc)) ∧ W.cell? ⟨fg,f * 2,none⟩ = some (.string fnm) ∧ W.cell? ⟨fg,f * 2 + 1,none⟩ = some (.int .i64 (kd:Int))) (by kernel_rfl) ⟨HBx.out _ HB4.out.drew,HLy.out _ HB4.out.drew,HFc.out _ HB4.out.drew⟩ (fun hHeld => ?_)
       refine wpAnyH_take (i:=0) (oi:={ dst:=some 49,op:=Go.Op.move (Go.Operand.tmp 9),type:=3,pos := "load.go:60",after:=#[],guard:=none }) (v:=?_) rfl (by kernel_rfl) (by kernel_rfl) (by kernel_rfl) (fun _ _ _ h => h) (Or.inl ⟨by rfl,?_⟩) (by assumption) ?_
       rotate_left
       · (intro w hSw;(try dsimp only at hSw);go_simp;all_goals with_reducible rfl)
       try simp only [Act.put,List.setIfInBounds_toArray,List.set_cons_zero,List.set_cons_succ]
       refine wpAnyH_take (i:=1) (oi:={ dst:=some 50,op:=Go.Op.binOp Go.BinOp.geq 3 (Go.Operand.tmp 49) (Go.Operand.const (Go.Value.int Go.IntKind.i64 0)) 3,type:=4,pos := "load.go:60",after:=#[{ on:=0,ground:=Go.Ground.data }],guard:=none }) (v:=?_) rfl (by kernel_rfl) (by kernel_rfl) (by kernel_rfl) (fun _ _ _ h => h) (Or.inl ⟨by rfl,?_⟩) (by assumption) ?_
       rotate_left
       · (intro w hSw;(try dsimp only at hSw);go_simp;all_goals with_reducible rfl)
       try simp only [Act.put,List.setIfInBounds_toArray,List.set_cons_zero,List.set_cons_succ]
       refine wpAnyH_take (i:=2) (oi:={ dst:=some 51,op:=Go.Op.move (Go.Operand.tmp 50),type:=4,pos := "load.go:60",after:=#[{ on:=1,ground:=Go.Ground.data }],guard:=none }) (v:=?_) rfl (by kernel_rfl) (by kernel_rfl) (by kernel_rfl) (fun _ _ _ h => h) (Or.inl ⟨by rfl,?_⟩) (by assumption) ?_
       rotate_left
       · (intro w hSw;(try dsimp only at hSw);go_simp;all_goals with_reducible rfl)
       try simp only [Act.put,List.setIfInBounds_toArray,List.set_cons_zero,List.set_cons_succ]
       refine wpAnyH_take (i:=3) (oi:={ dst:=some 52,op:=Go.Op.move (Go.Operand.tmp 7),type:=103,pos := "load.go:60",after:=#[{ on:=2,ground:=Go.Ground.guard }],guard:=some (2,true) }) (v:=?_) rfl (by kernel_rfl) (by kernel_rfl) (by kernel_rfl) (fun _ _ _ h => h) (Or.inl ⟨by rfl,?_⟩) (by assumption) ?_
       rotate_left
       · (intro w hSw;(try dsimp only at hSw);go_simp;all_goals with_reducible rfl)
       try simp only [Act.put,List.setIfInBounds_toArray,List.set_cons_zero,List.set_cons_succ]
       refine wpAnyH_take (i:=4) (oi:={ dst:=some 53,op:=Go.Op.move (Go.Operand.tmp 8),type:=3,pos := "load.go:60",after:=#[{ on:=2,ground:=Go.Ground.guard }],guard:=some (2,true) }) (v:=?_) rfl (by kernel_rfl) (by kernel_rfl) (by kernel_rfl) (fun _ _ _ h => h) (Or.inl ⟨by rfl,?_⟩) (by assumption) ?_
       rotate_left
       · (intro w hSw;(try dsimp only at hSw);go_simp;all_goals with_reducible rfl)
       try simp only [Act.put,List.setIfInBounds_toArray,List.set_cons_zero,List.set_cons_succ]
       refine wpAnyH_take (i:=5) (oi:={ dst:=some 54,op:=Go.Op.indexAddr 103 (Go.Operand.tmp 52) (Go.Operand.tmp 53),type:=0,pos := "load.go:60",after:=#[{ on:=3,ground:=Go.Ground.data },{ on:=4,ground:=Go.Ground.data },{ on:=2,ground:=Go.Ground.guard }],guard:=some (2,true) }) (v:=?_) rfl (by kernel_rfl) (by kernel_rfl) (by kernel_rfl) (fun _ _ _ h => h) (Or.inl ⟨by rfl,?_⟩) (by assumption) ?_
       rotate_left
       · (intro w hSw;(try dsimp only at hSw);go_simp;all_goals with_reducible rfl)
       try simp only [Act.put,List.setIfInBounds_toArray,List.set_cons_zero,List.set_cons_succ]
       refine wpAnyH_take (i:=6) (oi:={ dst:=some 55,op:=Go.Op.fieldAddr 138 (Go.Operand.tmp 54) 1,type:=0,pos := "load.go:60",after:=#[{ on:=5,ground:=Go.Ground.data },{ on:=2,ground:=Go.Ground.guard }],guard:=some (2,true) }) (v:=?_) rfl (by kernel_rfl) (by kernel_rfl) (by kernel_rfl) (fun _ _ _ h => h) (Or.inl ⟨by rfl,?_⟩) (by assumption) ?_
       rotate_left
       · (intro w hSw;(try dsimp only at hSw);go_simp;all_goals with_reducible rfl)
       try simp only [Act.put,List.setIfInBounds_toArray,List.set_cons_zero,List.set_cons_succ]
       refine wpAnyH_take (i:=7) (oi:={ dst:=some 56,op:=Go.Op.load 136 (Go.Operand.tmp 55),type:=136,pos := "load.go:60",after:=#[{ on:=6,ground:=Go.Ground.data },{ on:=2,ground:=Go.Ground.guard }],guard:=some (2,true) }) (v:=?_) rfl (by kernel_rfl) (by kernel_rfl) (by kernel_rfl) (fun _ _ _ h => h) (Or.inl ⟨by rfl,?_⟩) (by assumption) ?_
       rotate_left
       · (intro w hSw;(try dsimp only at hSw);go_simp;all_goals with_reducible rfl)
       try simp only [Act.put,List.setIfInBounds_toArray,List.set_cons_zero,List.set_cons_succ]
       refine wpAnyH_take (i:=8) (oi:={ dst:=some 57,op:=Go.Op.move (Go.Operand.tmp 9),type:=3,pos := "load.go:60",after:=#[{ on:=2,ground:=Go.Ground.guard }],guard:=some (2,true) }) (v:=?_) rfl (by kernel_rfl) (by kernel_rfl) (by kernel_rfl) (fun _ _ _ h => h) (Or.inl ⟨by rfl,?_⟩) (by assumption) ?_
       rotate_left
       · (intro w hSw;(try dsimp only at hSw);go_simp;all_goals with_reducible rfl)
       try simp only [Act.put,List.setIfInBounds_toArray,List.set_cons_zero,List.set_cons_succ]
       refine wpAnyH_take (i:=9) (oi:={ dst:=some 58,op:=Go.Op.indexAddr 136 (Go.Operand.tmp 56) (Go.Operand.tmp 57),type:=0,pos := "load.go:60",after:=#[{ on:=7,ground:=Go.Ground.data },{ on:=8,ground:=Go.Ground.data },{ on:=2,ground:=Go.Ground.guard }],guard:=some (2,true) }) (v:=?_) rfl (by kernel_rfl) (by kernel_rfl) (by kernel_rfl) (fun _ _ _ h => h) (Or.inl ⟨by rfl,?_⟩) (by assumption) ?_
       rotate_left
       · (intro w hSw;(try dsimp only at hSw);go_simp;all_goals with_reducible rfl)
       try simp only [Act.put,List.setIfInBounds_toArray,List.set_cons_zero,List.set_cons_succ]
       refine wpAnyH_take (i:=10) (oi:={ dst:=some 59,op:=Go.Op.load 135 (Go.Operand.tmp 58),type:=135,pos := "load.go:60",after:=#[{ on:=9,ground:=Go.Ground.data },{ on:=2,ground:=Go.Ground.guard }],guard:=some (2,true) }) (v:=?_) rfl (by kernel_rfl) (by kernel_rfl) (by kernel_rfl) (fun _ _ _ h => h) (Or.inl ⟨by rfl,?_⟩) (by assumption) ?_
       rotate_left
       · (intro w hSw;(try dsimp only at hSw);go_simp;all_goals with_reducible rfl)
       try simp only [Act.put,List.setIfInBounds_toArray,List.set_cons_zero,List.set_cons_succ]
       refine wpAnyH_take (i:=11) (oi:={ dst:=some 60,op:=Go.Op.fieldAddr 76 (Go.Operand.tmp 5) 3,type:=0,pos := "load.go:60",after:=#[{ on:=2,ground:=Go.Ground.guard }],guard:=some (2,true) }) (v:=?_) rfl (by kernel_rfl) (by kernel_rfl) (by kernel_rfl) (fun _ _ _ h => h) (Or.inl ⟨by rfl,?_⟩) (by assumption) ?_
       rotate_left
       · (intro w hSw;(try dsimp only at hSw);go_simp;all_goals with_reducible rfl)
       try simp only [Act.put,List.setIfInBounds_toArray,List.set_cons_zero,List.set_cons_succ]
       refine wpAnyH_take (i:=12) (oi:={ dst:=some 61,op:=Go.Op.load 56 (Go.Operand.tmp 60),type:=56,pos := "load.go:60",after:=#[{ on:=11,ground:=Go.Ground.data },{ on:=2,ground:=Go.Ground.guard }],guard:=some (2,true) }) (v:=?_) rfl (by kernel_rfl) (by kernel_rfl) (by kernel_rfl) (fun _ _ _ h => h) (Or.inl ⟨by rfl,?_⟩) (by assumption) ?_
       rotate_left
       · (intro w hSw;(try dsimp only at hSw);go_simp;all_goals with_reducible rfl)
       try simp only [Act.put,List.setIfInBounds_toArray,List.set_cons_zero,List.set_cons_succ]
       refine wpAnyH_ready (rs:=[13]) (by kernel_rfl) (by simp) ?_
       refine AllReadyH.cons (o:={ dst:=some 62,op:=Go.Op.call { callee:=Go.Callee.value (Go.Operand.func 72),args:=#[Go.Operand.tmp 59,Go.Operand.tmp 61],argTypes:=#[135,56] },type:=4,pos := "load.go:60",after:=#[{ on:=10,ground:=Go.Ground.data },{ on:=12,ground:=Go.Ground.data },{ on:=2,ground:=Go.Ground.chain },{ on:=2,ground:=Go.Ground.guard }],guard:=some (2,true) }) rfl (fun K hK => ?_) AllReadyH.nil
       go_simp
       refine (HFi.out _ HB4.out.drew).mono ?_
       rintro e w5 ⟨rfl,HB5⟩
       refine hK.out _ _ ⟨HBx.out _ HB5.out,HLy.out _ HB5.out,HFc.out _ HB5.out⟩ (fun hHeld => ?_)
       clear hK K
       try simp only [Act.put,List.setIfInBounds_toArray,List.set_cons_zero,List.set_cons_succ]
       refine wpAnyH_take (i:=14) (oi:={ dst:=some 63,op:=Go.Op.pick (Go.Operand.tmp 51) (Go.Operand.tmp 62) (Go.Operand.const (Go.Value.bool false)),type:=4,pos := "load.go:60",after:=#[{ on:=2,ground:=Go.Ground.data },{ on:=13,ground:=Go.Ground.data }],guard:=none }) (v:=?_) rfl (by kernel_rfl) (by kernel_rfl) (by kernel_rfl) (fun _ _ _ h => h) (Or.inl ⟨by rfl,?_⟩) (by assumption) ?_
       rotate_left
       · (intro w hSw;(try dsimp only at hSw);go_simp;all_goals with_reducible rfl)
       try simp only [Act.put,List.setIfInBounds_toArray,List.set_cons_zero,List.set_cons_succ]
       refine wpAnyH_take (i:=15) (oi:={ dst:=some 64,op:=Go.Op.move (Go.Operand.tmp 63),type:=4,pos := "load.go:60",after:=#[{ on:=14,ground:=Go.Ground.data },{ on:=13,ground:=Go.Ground.chain }],guard:=none }) (v:=?_) rfl (by kernel_rfl) (by kernel_rfl) (by kernel_rfl) (fun _ _ _ h => h) (Or.inl ⟨by rfl,?_⟩) (by assumption) ?_
       rotate_left
       · (intro w hSw;(try dsimp only at hSw);go_simp;all_goals with_reducible rfl)
       try simp only [Act.put,List.setIfInBounds_toArray,List.set_cons_zero,List.set_cons_succ]
       refine wpAnyH_take (i:=16) (oi:={ dst:=some 65,op:=Go.Op.move (Go.Operand.tmp 0),type:=28,pos := "load.go:60",after:=#[{ on:=15,ground:=Go.Ground.guard }],guard:=some (15,true) }) (v:=undef) rfl (by kernel_rfl) (by kernel_rfl) (by kernel_rfl) (fun _ _ _ h => h) (Or.inr ⟨by rfl,rfl⟩) (by assumption) ?_
       try simp only [Act.put,List.setIfInBounds_toArray,List.set_cons_zero,List.set_cons_succ]
       refine wpAnyH_take (i:=17) (oi:={ dst:=some 66,op:=Go.Op.fieldAddr 76 (Go.Operand.tmp 5) 3,type:=0,pos := "load.go:60",after:=#[{ on:=15,ground:=Go.Ground.guard }],guard:=some (15,true) }) (v:=undef) rfl (by kernel_rfl) (by kernel_rfl) (by kernel_rfl) (fun _ _ _ h => h) (Or.inr ⟨by rfl,rfl⟩) (by assumption) ?_
       try simp only [Act.put,List.setIfInBounds_toArray,List.set_cons_zero,List.set_cons_succ]
       refine wpAnyH_take (i:=18) (oi:={ dst:=some 67,op:=Go.Op.load 56 (Go.Operand.tmp 66),type:=56,pos := "load.go:60",after:=#[{ on:=17,ground:=Go.Ground.data },{ on:=15,ground:=Go.Ground.guard }],guard:=some (15,true) }) (v:=undef) rfl (by kernel_rfl) (by kernel_rfl) (by kernel_rfl) (fun _ _ _ h => h) (Or.inr ⟨by rfl,rfl⟩) (by assumption) ?_
       try simp only [Act.put,List.setIfInBounds_toArray,List.set_cons_zero,List.set_cons_succ]
       refine wpAnyH_take (i:=19) (oi:={ dst:=some 68,op:=Go.Op.call { callee:=Go.Callee.value (Go.Operand.func 73),args:=#[Go.Operand.tmp 65,Go.Operand.tmp 67],argTypes:=#[28,56] },type:=4,pos := "load.go:60",after:=#[{ on:=16,ground:=Go.Ground.data },{ on:=18,ground:=Go.Ground.data },{ on:=15,ground:=Go.Ground.chain },{ on:=15,ground:=Go.Ground.guard }],guard:=some (15,true) }) (v:=undef) rfl (by kernel_rfl) (by kernel_rfl) (by kernel_rfl) (fun _ _ _ h => h) (Or.inr ⟨by rfl,rfl⟩) (by assumption) ?_
       try simp only [Act.put,List.setIfInBounds_toArray,List.set_cons_zero,List.set_cons_succ]
       refine wpAnyH_take (i:=20) (oi:={ dst:=some 69,op:=Go.Op.unOp Go.UnOp.not 4 (Go.Operand.tmp 68),type:=4,pos := "load.go:60",after:=#[{ on:=19,ground:=Go.Ground.data },{ on:=15,ground:=Go.Ground.guard }],guard:=some (15,true) }) (v:=undef) rfl (by kernel_rfl) (by kernel_rfl) (by kernel_rfl) (fun _ _ _ h => h) (Or.inr ⟨by rfl,rfl⟩) (by assumption) ?_
       try simp only [Act.put,List.setIfInBounds_toArray,List.set_cons_zero,List.set_cons_succ]
       refine wpAnyH_take (i:=21) (oi:={ dst:=some 70,op:=Go.Op.pick (Go.Operand.tmp 64) (Go.Operand.tmp 69) (Go.Operand.const (Go.Value.bool false)),type:=4,pos := "load.go:60",after:=#[{ on:=15,ground:=Go.Ground.data },{ on:=20,ground:=Go.Ground.data }],guard:=none }) (v:=?_) rfl (by kernel_rfl) (by kernel_rfl) (by kernel_rfl) (fun _ _ _ h => h) (Or.inl ⟨by rfl,?_⟩) (by assumption) ?_
       rotate_left
       · (intro w hSw;(try dsimp only at hSw);go_simp;all_goals with_reducible rfl)
       try simp only [Act.put,List.setIfInBounds_toArray,List.set_cons_zero,List.set_cons_succ]
       refine wpAnyH_take (i:=22) (oi:={ dst:=some 6,op:=Go.Op.assign (Go.Operand.tmp 70),type:=4,pos := "load.go:60",after:=#[{ on:=21,ground:=Go.Ground.data },{ on:=19,ground:=Go.Ground.chain },{ on:=0,ground:=Go.Ground.phase },{ on:=1,ground:=Go.Ground.phase },{ on:=2,ground:=Go.Ground.phase },{ on:=3,ground:=Go.Ground.phase },{ on:=4,ground:=Go.Ground.phase },{ on:=5,ground:=Go.Ground.phase },{ on:=6,ground:=Go.Ground.phase },{ on:=7,ground:=Go.Ground.phase },{ on:=8,ground:=Go.Ground.phase },{ on:=9,ground:=Go.Ground.phase },{ on:=10,ground:=Go.Ground.phase },{ on:=11,ground:=Go.Ground.phase },{ on:=12,ground:=Go.Ground.phase },{ on:=13,ground:=Go.Ground.phase },{ on:=14,ground:=Go.Ground.phase },{ on:=15,ground:=Go.Ground.phase },{ on:=16,ground:=Go.Ground.phase },{ on:=17,ground:=Go.Ground.phase },{ on:=18,ground:=Go.Ground.phase },{ on:=19,ground:=Go.Ground.phase },{ on:=20,ground:=Go.Ground.phase },{ on:=21,ground:=Go.Ground.phase }],guard:=none }) (v:=?_) rfl (by kernel_rfl) (by kernel_rfl) (by kernel_rfl) (fun _ _ _ h => h) (Or.inl ⟨by rfl,?_⟩) (by assumption) ?_
       rotate_left
       · (intro w hSw;(try dsimp only at hSw);go_simp;all_goals with_reducible rfl)
       try simp only [Act.put,List.setIfInBounds_toArray,List.set_cons_zero,List.set_cons_succ]
       refine wpAnyH_done (by kernel_rfl) ?_ _
       all_goals go_wp2_with fail
       all_goals go_ret
       all_goals rw [HP.out]
       all_goals exact ⟨rfl,HBw.out.trans (HB5.out.mono hVsz)⟩
     | true =>
       go_enter Tryz.func78,Tryz.ntmps78
       go_wp2_with fail
       rw [HVe.out]
       refine Calls.mono (orEmpty_some b V) ?_
       rintro e w1 ⟨rfl,rfl⟩
       obtain ⟨x0,x1,_⟩:=HBx.out _ (Below.refl _ _)
       have c0:=HC0.out
       go_wp2_with (first | (go_at_call 102;refine (HF.out _ rfl).mono ?_;rintro e w2 ⟨rfl,HB2⟩;obtain ⟨y0,y1,_⟩:=HBx.out _ HB2.out;have ys:=HSc.out _ HB2.out) | (go_at_call 66;refine (has_any cj k _ hc64 hk6).mono ?_;rw [hq];rintro e w3 ⟨rfl,rfl⟩))
       clear x0 x1 y0 y1 ys c0
       go_region_held3 (fun W => (W.cell? ⟨w.heap.size,0,none⟩ = some (.int .i64 (j:Int)) ∧ W.cell? ⟨w.heap.size,1,none⟩ = some (.string mc) ∧ W.cell? ⟨w.heap.size,2,none⟩ = some (.string mf) ∧ W.cell? ⟨w.heap.size,3,none⟩ = some (.int .i64 ok) ∧ W.cell? ⟨w.heap.size,4,none⟩ = some (.int .i64 on) ∧ W.cell? ⟨w.heap.size,5,none⟩ = some (.string ms) ∧ W.cell? ⟨w.heap.size,6,none⟩ = some (.int .i64 op) ∧ W.cell? ⟨w.heap.size,7,none⟩ = some (.int .i64 ol) ∧ W.cell? ⟨w.heap.size,8,none⟩ = some (.slice va nl vc)) ∧ (W.cell? ⟨g,k * 2,none⟩ = some (.string cn) ∧ W.cell? ⟨g,k * 2 + 1,none⟩ = some (.slice (some ⟨fg,0,none⟩) nf fc))) ((first | exact ⟨HBx.out _ HB4.out,HLy.out _ HB4.out⟩ | exact ⟨HBx.out _ HB2.out.drew,HLy.out _ HB2.out.drew⟩ | exact ⟨HBx.out _ HB2.out,HLy.out _ HB2.out⟩)) ((go_at_call 129;refine (HFd.out _ HB2.out.drew).mono ?_;rintro e w4 ⟨rfl,HB4⟩))
       go_wp2_with fail
       go_region_held3 (fun W => (W.cell? ⟨w.heap.size,0,none⟩ = some (.int .i64 (j:Int)) ∧ W.cell? ⟨w.heap.size,1,none⟩ = some (.string mc) ∧ W.cell? ⟨w.heap.size,2,none⟩ = some (.string mf) ∧ W.cell? ⟨w.heap.size,3,none⟩ = some (.int .i64 ok) ∧ W.cell? ⟨w.heap.size,4,none⟩ = some (.int .i64 on) ∧ W.cell? ⟨w.heap.size,5,none⟩ = some (.string ms) ∧ W.cell? ⟨w.heap.size,6,none⟩ = some (.int .i64 op) ∧ W.cell? ⟨w.heap.size,7,none⟩ = some (.int .i64 ol) ∧ W.cell? ⟨w.heap.size,8,none⟩ = some (.slice va nl vc)) ∧ (W.cell? ⟨g,k * 2,none⟩ = some (.string cn) ∧ W.cell? ⟨g,k * 2 + 1,none⟩ = some (.slice (some ⟨fg,0,none⟩) nf fc)) ∧ W.cell? ⟨fg,f * 2,none⟩ = some (.string fnm) ∧ W.cell? ⟨fg,f * 2 + 1,none⟩ = some (.int .i64 (kd:Int))) ((first | exact ⟨HBx.out _ HB6.out,HLy.out _ HB6.out,HFc.out _ HB6.out⟩ | exact ⟨HBx.out _ HB5.out,HLy.out _ HB5.out,HFc.out _ HB5.out⟩ | exact ⟨HBx.out _ HB4.out.drew,HLy.out _ HB4.out.drew,HFc.out _ HB4.out.drew⟩ | exact ⟨HBx.out _ HB4.out,HLy.out _ HB4.out,HFc.out _ HB4.out⟩)) (first | (go_at_call 72;refine (HFi.out _ HB4.out.drew).mono ?_;rintro e w5 ⟨rfl,HB5⟩) | (go_at_call 73;refine (HDa.out _ HB5.out).mono ?_;rintro e w6 ⟨rfl,HB6⟩))
       go_wp2_with fail
       go_ret
       rw [HP.out]
       exact ⟨by simp,HBw.out.trans (HB6.out.mono hVsz)⟩
end Go.Proofs.YthkbeaffkcfgiabGreatDoor
