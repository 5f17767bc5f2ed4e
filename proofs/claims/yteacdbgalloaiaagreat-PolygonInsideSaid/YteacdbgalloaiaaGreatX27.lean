/- Contracts of the packages integer, rat, plane, polygon and their references. -/
import Derived.Test.YteacdbgalloaiaaGreatX5
set_option linter.unusedVariables false
set_option maxRecDepth 100000
set_option maxHeartbeats 6400000
namespace Go.Proofs.YteacdbgalloaiaaGreat
open Go Go.RowKit
theorem wf_i64' {n:Int}(h:(Lit.int .i64 n).wf=true): -9223372036854775808<=n/\n<=9223372036854775807:=by
 simp [Lit.wf,IntKind.min,IntKind.max,IntKind.signed,IntKind.bits] at h;omega
theorem add_plain' (b o i:Nat):(⟨b,o,none⟩:Addr).add i=⟨b,o+i,none⟩:=by unfold Addr.add;split<;>simp_all
theorem addr_plain' {w:World}{x:Addr}{u:Value}(h:w.cell? (x.add 0)=some u):x=⟨x.block,x.off,none⟩:=by
 have h0:x.add 0=x:=by simp [Addr.add]
 rw [h0] at h;cases x with
 |mk b o s=>
  cases s with
  |none=>rfl
  |some s=>
   unfold World.cell? at h;split at h
   ·simp at h
   ·cases h
theorem row_Rdi {w:World}{a:Option Addr}{len cap:Nat}{zs:List Int}
 (h:(a=none/\len=0/\cap=0/\zs= [])∨∃x,a=some x/\len<=cap/\cap<=maxLen/\zs.length=cap/\(∀i,i<zs.length->w.cell? (x.add i)=some (.int .i64 (zs.getD i 0)))/\∀n∈zs,(Lit.int .i64 n).wf=true):
 ∃l:List Int,Rdi w a l/\i64s l/\len=l.length/\len<=cap/\cap<=9223372036854775807:=by
 rcases h with⟨rfl,rfl,rfl,rfl⟩|⟨x,rfl,hl,hm,hz,hc,hw⟩
 ·exact⟨[],.inl rfl,fun i hi=>by simp at hi,rfl,Nat.le_refl _,by omega⟩
 ·refine⟨zs.take len,?_,?_,by simp;omega,hl,by unfold maxLen at hm;omega⟩
  ·rcases Nat.eq_zero_or_pos len with h0|h0
   ·subst h0;exact .inl (by simp)
   ·have hx:=addr_plain' (hc 0 (by omega));refine .inr ⟨x.block,x.off,by rw [<-hx],fun i hi=>?_⟩;have hi':i<len:=by simp at hi;omega
    have hi2:i<zs.length:=by omega
    have hadd:x.add i=⟨x.block,x.off+i,none⟩:=(congrArg (fun y:Addr=>y.add i) hx).trans (add_plain' _ _ _);rw [<-hadd,hc i hi2];simp [iat,List.getD_eq_getElem?_getD,hi']
  ·intro i hi;have hi':i<len:=by simp at hi;omega
   have hi2:i<zs.length:=by omega
   have hb:=wf_i64' (hw (zs[i]) (List.getElem_mem hi2));have e:iat (zs.take len) i=zs[i]:=by simp [iat,List.getD_eq_getElem?_getD,hi',hi2]
   rw [e];omega
end Go.Proofs.YteacdbgalloaiaaGreat
