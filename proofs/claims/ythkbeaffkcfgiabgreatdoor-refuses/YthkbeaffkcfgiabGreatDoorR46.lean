import Derived.Lib.LaidU8
import Derived.LaidLaws
import Derived.Test.YthkbeaffkcfgiabGreatDoorR45
set_option linter.unusedSimpArgs false
set_option linter.unusedVariables false
namespace Go.Proofs.YthkbeaffkcfgiabGreatDoor
open Go.RowKit
theorem iface_laid {w:World} {n T:String} {d:DataW Unit} {g:Nat} {t:TypeId} {ms:Array (String × TypeId)} (h:Lib.VarReads Tryz.prog w n (.iface T d)) (hg:Tryz.prog.globalNamed n = some g) (ht:(Tryz.prog.globals[g]?).map (·.type) = some t) (hu:Tryz.prog.underlying t = some (.interface ms)):∃ te pe,w.cell? ⟨g,0,none⟩ = some (.iface te pe):=by
 obtain ⟨g',t',cs,fuel,p,h1,h2,h3,h4⟩:=h
 rw [hg] at h1
 cases h1
 rw [ht] at h2
 cases h2
 have hq:=iface_of_trod hu h4
 have hc:∃ te pe,cs.toList = [.iface te pe]:=by
  obtain ⟨_,u,v,e,_⟩:=hq
  exact ⟨u,v,e⟩
 obtain ⟨te,pe,e⟩:=hc
 refine ⟨te,pe,?_⟩
 unfold World.var? at h3
 rw [hg] at h3
 simp only [Option.bind_some] at h3
 split at h3
 · rename_i hh
   cases h3
   rw [cell_row hh,← Array.getElem?_toList,e]
   rfl
 · cases h3
def isIface:TypeDesc → Bool | .interface _ => true | _ => false
theorem iface_laid' {w:World} {n T:String} {d:DataW Unit} (g:Nat) (h:Lib.VarReads Tryz.prog w n (.iface T d)) (hg:Tryz.prog.globalNamed n = some g) (hk:(((Tryz.prog.globals[g]?).map (·.type)).bind fun t => (Tryz.prog.underlying t).map isIface) = some true):∃ te pe,w.cell? ⟨g,0,none⟩ = some (.iface te pe):=by
 obtain ⟨t,ht,hu⟩:=Option.bind_eq_some_iff.1 hk
 obtain ⟨u,hu1,hu2⟩:=Option.map_eq_some_iff.1 hu
 cases u with
 | interface ms => exact iface_laid h hg ht hu1
 | _ => cases hu2
theorem glob_laid (W:World) (hsh:W.ShapedOpen Tryz.prog) (htab:Lib.TabIs Tryz.prog W "internal/strconv.uint64pow10" .u64 Lib.pow10Tab) {T7 T8:String} {d7 d8:DataW Unit} (h7:Lib.VarReads Tryz.prog W "strconv.ErrSyntax" (.iface T7 d7)) (h8:Lib.VarReads Tryz.prog W "strconv.ErrRange" (.iface T8 d8)):Glob W where
 most:=Tryz.laysM219.s1_3 W hsh
 syn:=iface_laid' 7 h7 (by kernel_rfl) (by kernel_rfl)
 rng:=iface_laid' 8 h8 (by kernel_rfl) (by kernel_rfl)
 tab:=htab
 size:=by
  obtain ⟨⟨zero,t⟩,h0⟩:=Option.isSome_iff_exists.1 (show (((begin Tryz.prog (fun _ _ => 0) default).world.heap[10]?).bind Obj.row?).isSome = true by kernel_rfl)
  obtain ⟨cs,hh,_⟩:=hsh.1 10 zero t (of_decide_eq_true (by kernel_rfl)) h0
  exact (Array.getElem?_eq_some_iff.1 hh).1
end Go.Proofs.YthkbeaffkcfgiabGreatDoor
