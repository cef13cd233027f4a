import Derived.Test.YthkbeaffkcfgiabGreatDoorR01
set_option linter.unusedSimpArgs false
set_option linter.unusedVariables false
namespace Go.Proofs.YthkbeaffkcfgiabGreatDoor
open Go.RowKit
def cmpOf (x y:Int):Int:=if x < y then -1 else if y < x then 1 else 0
set_option maxHeartbeats 400000 in
theorem isNaN_any (x:Int) (w:World):Calls Tryz.prog 179 #[.int .i64 x] w fun e w' => e = .returned (.bool false) ∧ w' = w:=by
 go_enter Tryz.func179,Tryz.ntmps179
 go_wp2
 go_ret
 exact ⟨rfl,rfl⟩
set_option maxHeartbeats 400000 in
theorem compare_any (x y:Int) (w:World):Calls Tryz.prog 111 #[.int .i64 x,.int .i64 y] w fun e w' => e = .returned (.int .i64 (cmpOf x y)) ∧ w' = w:=by
 by_cases h1:x < y
 · have hc:cmpOf x y = -1:=by simp [cmpOf,h1]
   rw [hc]
   clear hc
   go_enter Tryz.func111,Tryz.ntmps111
   go_wp2_with (go_at_call 179;refine (isNaN_any _ _).mono ?_;rintro e w' ⟨rfl,rfl⟩)
   go_ret
   exact ⟨rfl,rfl⟩
 · by_cases h2:y < x
   · have hc:cmpOf x y = 1:=by simp [cmpOf,h1,h2]
     rw [hc]
     clear hc
     go_enter Tryz.func111,Tryz.ntmps111
     go_wp2_with (go_at_call 179;refine (isNaN_any _ _).mono ?_;rintro e w' ⟨rfl,rfl⟩)
     go_ret
     exact ⟨rfl,rfl⟩
   · have hc:cmpOf x y = 0:=by simp [cmpOf,h1,h2]
     rw [hc]
     clear hc
     go_enter Tryz.func111,Tryz.ntmps111
     go_wp2_with (go_at_call 179;refine (isNaN_any _ _).mono ?_;rintro e w' ⟨rfl,rfl⟩)
     go_ret
     exact ⟨rfl,rfl⟩
set_option maxHeartbeats 800000 in
theorem byPlace_any (x y:Int) (l m:Value) (w:World):Calls Tryz.prog 54 #[.agg #[.int .i64 x,l],.agg #[.int .i64 y,m]] w fun e w' => e = .returned (.int .i64 (cmpOf x y)) ∧ Below w.heap.size w w':=by
 go_enter Tryz.func54,Tryz.ntmps54
 go_wp2_with (go_at_call 111;refine (compare_any _ _ _).mono ?_;rintro e w' ⟨rfl,rfl⟩)
 go_ret
 exact ⟨rfl,((Below.refl _ _).alloc (Nat.le_refl _) _).alloc (by simp) _⟩
def EntsAt (w:World) (s:Value) (ents:List (Int × Int)):Prop :=
 (s = .slice none 0 0 ∧ ents = []) ∨ ∃ g cap,s = .slice (some ⟨g,0,none⟩) ents.length cap ∧ ents.length ≤ cap ∧ cap ≤ maxLen ∧ g < w.heap.size ∧
  ∀ j (h:j < ents.length),w.cell? ⟨g,j * 2,none⟩ = some (.int .i64 ents[j].1) ∧ w.cell? ⟨g,j * 2 + 1,none⟩ = some (.int .i64 ents[j].2)
def ahead (ents:List (Int × Int)) (p:Int):Nat:=(ents.takeWhile fun z => z.1 < p).length
theorem ahead_le (ents:List (Int × Int)) (p:Int):ahead ents p ≤ ents.length:=List.takeWhile_prefix _ |>.length_le
theorem ahead_eq (ents:List (Int × Int)) (p:Int) (i:Nat) (hi:i ≤ ents.length) (h1:∀ j (h:j < ents.length),j < i → ents[j].1 < p) (h2:∀ j (h:j < ents.length),i ≤ j → ¬ ents[j].1 < p):ahead ents p = i:=by
 unfold ahead
 induction ents generalizing i with
 | nil => simp at hi;simp [hi]
 | cons a r ih =>
  cases i with
  | zero =>
   have:=h2 0 (by simp) (by omega)
   simp at this
   rw [List.takeWhile_cons_of_neg (by simpa using this)];rfl
  | succ i =>
   have ha:=h1 0 (by simp) (by omega)
   simp at ha
   rw [List.takeWhile_cons_of_pos (by simpa using ha),List.length_cons,ih i (by simpa using hi) (fun j h hj => h1 (j + 1) (by simpa using h) (by omega)) (fun j h hj => h2 (j + 1) (by simpa using h) (by omega))]
set_option maxHeartbeats 1600000 in
theorem search_any (s:Value) (ents:List (Int × Int)) (p:Int) (l:Int) (w:World) (hs:EntsAt w s ents) (hl:ents.length ≤ 100) (hsort:ents.Pairwise fun a b => a.1 < b.1) :
 Calls Tryz.prog 199 #[s,.agg #[.int .i64 p,.int .i64 l],.func (.func 54) #[] #[]] w fun e w' => (∃ b,e = .returned (.tuple #[.int .i64 (ahead ents p),.bool b])) ∧ Below w.heap.size w w':=by
 rcases hs with ⟨rfl,rfl⟩ | ⟨g,cap,rfl,hcap,hmax,hg,hc⟩
 · go_enter Tryz.func199,Tryz.ntmps199
   go_wp2
   refine wp_loop_rounds 1 ?_
   rw [rounds_succ]
   go_wp2
   go_region
   go_wp2
   go_ret2
   exact ⟨⟨_,rfl⟩,((Below.refl _ _).alloc (Nat.le_refl _) _).drew⟩
 · have HC:Hid (∀ j (h:j < ents.length),w.cell? ⟨g,j * 2,none⟩ = some (.int .i64 ents[j].1) ∧ w.cell? ⟨g,j * 2 + 1,none⟩ = some (.int .i64 ents[j].2)):=hc
   have HS:Hid (ents.Pairwise fun a b => a.1 < b.1):=hsort
   clear hc hsort
   obtain ⟨n,hn⟩:∃ n,n = ents.length:=⟨_,rfl⟩
   have HN:Hid (n = ents.length):=hn
   rw [← hn] at hcap hl ⊢
   clear hn
   go_enter Tryz.func199,Tryz.ntmps199
   go_wp2
   go_loopw [9,10] (fun ti tj wr => ∃ i j:Nat,i ≤ j ∧ j ≤ n ∧ ti = .int .i64 i ∧ tj = .int .i64 j ∧ (∀ k (h:k < ents.length),k < i → ents[k].1 < p) ∧ (∀ k (h:k < ents.length),j ≤ k → p ≤ ents[k].1) ∧ Below (w.heap.size + 1) (w.alloc (.cells #[.int .i64 p,.int .i64 l] 46)) wr) (fun ti tj _ => (intOf tj).toNat - (intOf ti).toNat)
   case atStart =>
    refine ⟨0,n,by omega,by omega,rfl,rfl,by intros;omega,?_,by exact Below.refl _ _⟩
    intro k h hk
    rw [HN.out] at hk;omega
   case round =>
    obtain ⟨i,j,hij,hjn,rfl,rfl,h1,h2,hB⟩:=hrel
    have H1:Hid (∀ k (h:k < ents.length),k < i → ents[k].1 < p):=h1
    have H2:Hid (∀ k (h:k < ents.length),j ≤ k → p ≤ ents[k].1):=h2
    have HB:Hid (Below (w.heap.size + 1) (w.alloc (.cells #[.int .i64 p,.int .i64 l] 46)) wr):=hB
    clear h1 h2 hB
    by_cases hlt:i < j
    · obtain ⟨m,hm⟩:∃ m,m = (i + j) / 2:=⟨_,rfl⟩
      have hk:m < ents.length:=by rw [← HN.out];omega
      have hmn:m < n:=by omega
      have him:i ≤ m:=by omega
      have hmj:m < j:=by omega
      have hg1:g < w.heap.size + 1:=by omega
      have e0:∀ o,(w.alloc (.cells #[.int .i64 p,.int .i64 l] 46)).cell? ⟨g,o,none⟩ = w.cell? ⟨g,o,none⟩:=fun o => World.cell?_of_block (a:=⟨g,o,none⟩) (Below.heap_alloc w _ g hg)
      have c0:wr.cell? ⟨g,m * 2,none⟩ = some (.int .i64 (ents[m]).1):=(HB.out.cell (p:=⟨g,_,none⟩) hg1).trans ((e0 _).trans (HC.out _ hk).1)
      have c1:wr.cell? ⟨g,m * 2 + 1,none⟩ = some (.int .i64 (ents[m]).2):=(HB.out.cell (p:=⟨g,_,none⟩) hg1).trans ((e0 _).trans (HC.out _ hk).2)
      have d0:wr.cell? ⟨w.heap.size,0,none⟩ = some (.int .i64 p):=(HB.out.cell (p:=⟨w.heap.size,0,none⟩) (by simp)).trans (by simp)
      have d1:wr.cell? ⟨w.heap.size,1,none⟩ = some (.int .i64 l):=(HB.out.cell (p:=⟨w.heap.size,1,none⟩) (by simp)).trans (by simp)
      have em:Hid (((i:Int) + (j:Int)) / 2 = (m:Int)):=by show _ = _;omega
      have hq:Hid (∀ k (h:k < ents.length),k ≤ m → ents[k].1 ≤ ents[m].1):=fun k h hkm => by
       rcases Nat.lt_or_eq_of_le hkm with h' | h'
       · exact Int.le_of_lt (List.pairwise_iff_getElem.1 HS.out k m h hk h')
       · subst h';exact Int.le_refl _
      have hq2:Hid (∀ k (h:k < ents.length),m ≤ k → ents[m].1 ≤ ents[k].1):=fun k h hkm => by
       rcases Nat.lt_or_eq_of_le hkm with h' | h'
       · exact Int.le_of_lt (List.pairwise_iff_getElem.1 HS.out m k hk h h')
       · subst h';exact Int.le_refl _
      clear e0 hm
      generalize hz:ents[m] = z at c0 c1 hq hq2
      obtain ⟨zp,zl⟩:=z
      clear hz
      by_cases hz:zp < p
      · have hzc:Hid (cmpOf zp p = -1):=by show cmpOf zp p = -1;simp [cmpOf,hz]
        go_wp2_with fail
        rw [em.out]
        go_region_with (go_at_call 54;refine (byPlace_any _ _ _ _ _).mono ?_;rw [hzc.out];rintro e w1 ⟨rfl,hb1⟩;have HB1:Hid (Below wr.heap.size wr w1):=⟨hb1.os,hb1.tape,hb1.output,hb1.size,hb1.block⟩;clear hb1)
        all_goals go_wp2
        all_goals (refine ⟨⟨m + 1,j,by omega,by omega,by go_num,rfl,fun k h hkm => Int.lt_of_le_of_lt (hq.out k h (by omega)) hz,H2.out,HB.out.trans (HB1.out.mono (by have:=HB.out.size;simp at this;omega))⟩,by simp [intOf];omega⟩)
      · obtain ⟨q,hzq,hq0⟩:∃ q,cmpOf zp p = q ∧ 0 ≤ q:=⟨_,rfl,by unfold cmpOf;rw [if_neg hz];split <;> decide⟩
        have hzc:Hid (cmpOf zp p = q):=hzq
        clear hzq
        go_wp2_with fail
        rw [em.out]
        go_region_with (go_at_call 54;refine (byPlace_any _ _ _ _ _).mono ?_;rw [hzc.out];rintro e w1 ⟨rfl,hb1⟩;have HB1:Hid (Below wr.heap.size wr w1):=⟨hb1.os,hb1.tape,hb1.output,hb1.size,hb1.block⟩;clear hb1)
        all_goals go_wp2
        all_goals (refine ⟨⟨i,m,by omega,by omega,rfl,rfl,H1.out,fun k h hkm => Int.le_trans (by omega) (hq2.out k h hkm),HB.out.trans (HB1.out.mono (by have:=HB.out.size;simp at this;omega))⟩,by simp [intOf];omega⟩)
    · obtain rfl:i = j:=by omega
      have ha:Hid (ahead ents p = i):=ahead_eq ents p i (by rw [← HN.out];exact hjn) H1.out (fun k h hk => by have:=H2.out k h hk;omega)
      have hB2:Hid (Below w.heap.size w wr):=((Below.refl w.heap.size w).alloc (Nat.le_refl _) _).trans (HB.out.mono (by omega))
      by_cases hin:i < n
      · have hk:i < ents.length:=by rw [← HN.out];omega
        have hg1:g < w.heap.size + 1:=by omega
        have e0:∀ o,(w.alloc (.cells #[.int .i64 p,.int .i64 l] 46)).cell? ⟨g,o,none⟩ = w.cell? ⟨g,o,none⟩:=fun o => World.cell?_of_block (a:=⟨g,o,none⟩) (Below.heap_alloc w _ g hg)
        have c0:wr.cell? ⟨g,i * 2,none⟩ = some (.int .i64 (ents[i]).1):=(HB.out.cell (p:=⟨g,_,none⟩) hg1).trans ((e0 _).trans (HC.out _ hk).1)
        have c1:wr.cell? ⟨g,i * 2 + 1,none⟩ = some (.int .i64 (ents[i]).2):=(HB.out.cell (p:=⟨g,_,none⟩) hg1).trans ((e0 _).trans (HC.out _ hk).2)
        have d0:wr.cell? ⟨w.heap.size,0,none⟩ = some (.int .i64 p):=(HB.out.cell (p:=⟨w.heap.size,0,none⟩) (by simp)).trans (by simp)
        have d1:wr.cell? ⟨w.heap.size,1,none⟩ = some (.int .i64 l):=(HB.out.cell (p:=⟨w.heap.size,1,none⟩) (by simp)).trans (by simp)
        clear e0
        generalize ents[i] = z at c0 c1
        obtain ⟨zp,zl⟩:=z
        have hgs:g < wr.heap.size:=by have:=HB.out.size;simp at this;omega
        have hws:w.heap.size < wr.heap.size:=by have:=HB.out.size;simp at this;omega
        have KS:Hid (∀ w':World,Below wr.heap.size wr w' → w'.cell? ⟨g,i * 2,none⟩ = some (.int .i64 zp) ∧ w'.cell? ⟨g,i * 2 + 1,none⟩ = some (.int .i64 zl) ∧ w'.cell? ⟨w.heap.size,0,none⟩ = some (.int .i64 p) ∧ w'.cell? ⟨w.heap.size,1,none⟩ = some (.int .i64 l)):=fun w' hb =>
         ⟨(hb.cell (p:=⟨g,_,none⟩) hgs).trans c0,(hb.cell (p:=⟨g,_,none⟩) hgs).trans c1,(hb.cell (p:=⟨w.heap.size,_,none⟩) hws).trans d0,(hb.cell (p:=⟨w.heap.size,_,none⟩) hws).trans d1⟩
        go_wp2_with fail
        go_region_held3 (fun w' => w'.cell? ⟨g,i * 2,none⟩ = some (.int .i64 zp) ∧ w'.cell? ⟨g,i * 2 + 1,none⟩ = some (.int .i64 zl) ∧ w'.cell? ⟨w.heap.size,0,none⟩ = some (.int .i64 p) ∧ w'.cell? ⟨w.heap.size,1,none⟩ = some (.int .i64 l)) ((refine KS.out _ ?_;first | exact (Below.refl _ _).drew | exact HB1.out)) ((go_at_call 54;refine (byPlace_any _ _ _ _ _).mono ?_;rintro e w1 ⟨rfl,hb1⟩;have HB1:Hid (Below wr.heap.size wr w1):=⟨hb1.os,hb1.tape,hb1.output,hb1.size,hb1.block⟩;clear hb1))
        all_goals (try go_wp2_with fail)
        all_goals go_ret2
        all_goals (rw [ha.out];exact ⟨⟨_,rfl⟩,hB2.out.trans (HB1.out.mono hB2.out.size)⟩)
      · obtain rfl:i = n:=by omega
        go_wp2_with fail
        go_region
        go_wp2
        go_ret2
        rw [ha.out]
        exact ⟨⟨_,rfl⟩,hB2.out.drew⟩
end Go.Proofs.YthkbeaffkcfgiabGreatDoor
