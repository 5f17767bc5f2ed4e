/- Contracts of the packages integer, rat, plane, polygon and their references. -/
import Derived.Test.YteacdbgalloaiaaGreatO3
import Derived.Laws.ResultCell
import Derived.Test.YteacdbgalloaiaaGreatO2
import Derived.Test.YteacdbgalloaiaaGreatO1
set_option linter.unusedVariables false
set_option maxRecDepth 100000
set_option maxHeartbeats 6400000
namespace Go.Proofs.YteacdbgalloaiaaGreat
open Go.RowKit
theorem results_cell1 {P:Program}{fn:Func}{p q:Tmp}{ty:TypeId}(h:fn.results=#[.cell p ty,.tmp q])(tmps:Array Value)(w:World)(g:Nat)(t:TypeId)(cs:Array Value)(fr:Nat×Nat)(d:TypeDesc)(v:Value)
 (hp:tmps.getD p undef= .pointer (some ⟨g,0,none⟩)) (hv:tmps.getD q undef=v) (hg:w.heap[g]? =some (.cells cs t fr))
 (hu:P.underlying ty=some d) (D:(match d with| .struct _| .array _ _=>true|_=>false)=true) (hi:(P.info? ty).map (·.size)=some cs.size):
 (results fn tmps).run P w= .ok (.tuple #[.agg cs,v]) w:=by
 rw [results_cell_tmp h,hp,hv];simp [asAddr,run_loadVar_row w g t ty cs fr d hg hu D hi,Result.andThen]
theorem wpList_append_run {P:Program}{w:World}{ops:Array Oper}{rest:List Oper}{o:Oper}{a:Act}{Q:Exit->Act->World->Prop}(hgd:o.guard=none)(s x:Operand)(t u:TypeId)
 (ho:o.op= .call {callee:= .builtin .append,args:=#[s,x],argTypes:=#[t,u]}) (vs vx:Value) (hs:a.eval s=vs) (hx:a.eval x=vx) (v':Value) (w':World) (hrun:(Builtin.append_ #[t,u] o.type #[vs,vx]).run P w= .ok v' w') (h:wpList P ops Q rest (a.put o.dst v') w'):wpList P ops Q (o::rest) a w:=by
 refine wpList_plain hgd fun K hK=>?_
 unfold Oper.wp execOp;simp only [ho,resolve,invoke,builtin,Sem.run_bind,Sem.run_pure,Result.andThen_ok,List.map_toArray,List.map_cons,List.map_nil,hs,hx,hrun];exact hK _ _ h

theorem cmp_abs_neg {x y:Int}(hx:x<0)(hy:y<0):cmpI y.natAbs x.natAbs=cmpI x y:=by
 unfold cmpI;rw [show(y.natAbs:Int)= -y by omega,show(x.natAbs:Int)= -x by omega];repeat (first|split|omega)
theorem cmp_abs_pos {x y:Int}(hx:¬x<0)(hy:¬y<0):cmpI x.natAbs y.natAbs=cmpI x y:=by
 rw [show(x.natAbs:Int)=x by omega,show(y.natAbs:Int)=y by omega]
theorem Compare_any (nx ny:Bool)(px py:Option Addr)(lx cx ly cy:Nat)(x y:Int)(w:World)(hx0:IntAt w nx px lx cx x)(hy0:IntAt w ny py ly cy y)(hlx:lx<=549755813887)(hly:ly<=549755813887):
 Calls Tryz.prog 72 #[.agg #[.bool nx,.slice px lx cx],.agg #[.bool ny,.slice py ly cy]] w fun e w'=>e= .returned (.int .i64 (cmpI x y))/\Below w.heap.size w w':=by
 have hb:Below w.heap.size w ((w.alloc (.cells #[.bool nx,.slice px lx cx] 28)).alloc (.cells #[.bool ny,.slice py ly cy] 28)):=((Below.refl _ _).alloc (Nat.le_refl _) _).alloc (by simp) _;have hb':=hIq hb
 have h1:Hid (∀W,Below w.heap.size w W->Calls Tryz.prog 112 #[.slice px lx cx,.slice py ly cy] W fun e w'=>e= .returned (.int .i64 (cmpI x.natAbs y.natAbs))/\Below W.heap.size W w'):=
  hIq fun W h=>compare_any _ _ _ _ _ _ _ _ W (Rdi_below h hx0.2.2.1) (Rdi_below h hy0.2.2.1) hx0.2.1 hy0.2.1 (by omega) (by omega)
 have h2:Hid (∀W,Below w.heap.size w W->Calls Tryz.prog 112 #[.slice py ly cy,.slice px lx cx] W fun e w'=>e= .returned (.int .i64 (cmpI y.natAbs x.natAbs))/\Below W.heap.size W w'):=
  hIq fun W h=>compare_any _ _ _ _ _ _ _ _ W (Rdi_below h hy0.2.2.1) (Rdi_below h hx0.2.2.1) hy0.2.1 hx0.2.1 (by omega) (by omega)
 have hnx:=hx0.1;have hny:=hy0.1;obtain⟨r,hr⟩:∃r,cmpI x y=r:=⟨_,rfl⟩;rw [hr];clear hx0 hy0 hb;cases nx<;>cases ny
 ·have e1:¬x<0:=by simpa using hnx.symm
  have e2:¬y<0:=by simpa using hny.symm
  rw [cmp_abs_pos e1 e2,hr] at h1;clear hnx hny hr h2
  go_enter Tryz.func72,Tryz.ntmps72
  go_wp2_with (go_at_call 112;refine(h1.out _ hb'.out).mono ?_;rintro e w1 ⟨rfl,hb1⟩;have hB:=hIq (below_tr hb'.out hb1);clear hb1)
  go_ret
  exact⟨rfl,hB.out⟩
 ·have e1:¬x<0:=by simpa using hnx.symm
  have e2:y<0:=by simpa using hny.symm
  rw [cmp_gt (show y<x by omega)] at hr;subst hr;clear hnx hny h1 h2 e1 e2
  go_enter Tryz.func72,Tryz.ntmps72
  go_wp2_with fail
  go_ret
  exact⟨rfl,hb'.out⟩
 ·have e1:x<0:=by simpa using hnx.symm
  have e2:¬y<0:=by simpa using hny.symm
  rw [cmp_lt (show x<y by omega)] at hr;subst hr;clear hnx hny h1 h2 e1 e2
  go_enter Tryz.func72,Tryz.ntmps72
  go_wp2_with fail
  go_ret
  exact⟨rfl,hb'.out⟩
 ·have e1:x<0:=by simpa using hnx.symm
  have e2:y<0:=by simpa using hny.symm
  rw [cmp_abs_neg e1 e2,hr] at h2;clear hnx hny hr h1
  go_enter Tryz.func72,Tryz.ntmps72
  go_wp2_with (go_at_call 112;refine(h2.out _ hb'.out).mono ?_;rintro e w1 ⟨rfl,hb1⟩;have hB:=hIq (below_tr hb'.out hb1);clear hb1)
  go_ret
  exact⟨rfl,hB.out⟩
theorem Sign_any (nx:Bool)(px:Option Addr)(lx cx:Nat)(x:Int)(w:World)(hx0:IntAt w nx px lx cx x)(hlx:lx<=549755813887):
 Calls Tryz.prog 66 #[.agg #[.bool nx,.slice px lx cx]] w fun e w'=>e= .returned (.int .i64 (cmpI x 0))/\Below w.heap.size w w':=by
 have hc:Hid (∀W,Below w.heap.size w W->Calls Tryz.prog 72 #[.agg #[.bool nx,.slice px lx cx],.agg #[.bool false,.slice none 0 0]] W fun e w'=>e= .returned (.int .i64 (cmpI x 0))/\Below W.heap.size W w'):=
  hIq fun W h=>Compare_any _ _ _ _ _ _ _ _ x 0 W (hx0.later h) (IntAt_zero _ _ _ (by omega)) hlx (by omega)
 obtain⟨r,hr⟩:∃r,cmpI x 0=r:=⟨_,rfl⟩;rw [hr] at hc ⊢;clear hx0 hr
 go_enter Tryz.func66,Tryz.ntmps66
 go_wp2_with (go_at_call 72;refine(hc.out _ (below_new _ _)).mono ?_;rintro e w1 ⟨rfl,hb1⟩;have hB:=hIq (below_tr (below_new _ _) hb1);clear hb1)
 go_ret
 exact⟨rfl,hB.out⟩
theorem rt_len' {r:List Int}(D:Dg r):(digs (val r).natAbs).length<=r.length:=by
 have h:=tlen_len D;have h1:=D.lo;rw [show(val r).natAbs=(val r).toNat by omega,h];exact tlen_le r
def GrowI (w:World)(v:Value)(l:List Int)(wr:World):Prop:=wr.ownsRow w.heap.size 3 1 v l.length (zvs l)/\Below w.heap.size w wr
theorem GrowI.push {w wr w':World}{v v':Value}{l:List Int}{x:Int}{o:Obj}(h:GrowI w v l wr)(ho:w'.ownsRow w.heap.size 3 1 v' (l.length+1) (zvs l++ [.int .i64 x]))(hg:(wr.alloc o).grownBy w' v.ownBlock):GrowI w v' (l++ [x]) w':=by
 refine⟨?_,((h.2.alloc h.2.size _).grown hg (Nat.le_trans h.2.size (by simp)) fun k hk=>(h.1.lt k hk).1)⟩;rw [List.length_append];have:zvs (l++ [x])=zvs l++ [.int .i64 x]:=by simp [zvs]
 rw [this];exact ho
theorem GrowI.start (w:World):GrowI w (.slice none 0 0) [] w:=⟨World.ownsRow_nil _ _ _ _,Below.refl _ _⟩
theorem GrowI.drewN {w wr:World}{v:Value}{l:List Int}(h:GrowI w v l wr)(q:Nat):GrowI w v l (wr.drewN q):=⟨h.1,below_drewN h.2 q⟩
def NewS (w:World)(P:List Int->Prop)(e:Ending)(w':World):Prop:=
 ∃p n c z,e= .returned (.slice p n c)/\Rdi w' p z/\z.length=n/\n<=c/\c<=9223372036854775807/\(∀q,p=some q->w.heap.size<=q.block)/\Below w.heap.size w w'/\P z
theorem own_cellsI {w:World}{base:Nat}{v:Value}{n:Nat}{xs:List Value}(h:w.ownsRow base 3 1 v n xs):xs= []/\v= .slice none 0 0/\n=0∨∃g c,v= .slice (some ⟨g,0,none⟩) n c/\n<=c/\c<=maxLen/\base<=g/\∀i u,xs[i]? =some u->w.cell? ⟨g,i,none⟩=some u:=by
 rcases h.2 with⟨rfl,rfl⟩|⟨g,cap,cur,rfl,hg,hh,hc,hm,hs,ht⟩
 ·left;exact⟨List.eq_nil_of_length_eq_zero (by rw [h.1]),rfl,rfl⟩
 ·right;refine⟨g,cap,rfl,hc,hm,hg,fun i u hu=>?_⟩;have:=h.cells (g:=g) rfl i u hu;have ha:(⟨g,0,none⟩:Addr).add i=⟨g,i,none⟩:=by unfold Addr.add;split<;>simp_all
  rwa [ha] at this
theorem GrowI.done {w wr:World}{v:Value}{l:List Int}{P:List Int->Prop}(h:GrowI w v l wr)(hP:P l):NewS w P (.returned v) wr:=by
 rcases own_cellsI h.1 with⟨h1,rfl,h3⟩|⟨g,c,rfl,hc,hm,hg,hcell⟩
 ·have:l= []:=List.eq_nil_of_length_eq_zero h3;subst this;exact⟨none,0,0,[],rfl,.inl rfl,rfl,Nat.le_refl _,by omega,(fun q hq=>by cases hq),h.2,hP⟩
 ·refine⟨_,_,c,l,rfl,.inr ⟨g,0,rfl,fun i hi=>?_⟩,rfl,hc,by unfold maxLen at hm;omega,(fun q hq=>by cases hq;exact hg),h.2,hP⟩;rw [Nat.zero_add];apply hcell;simp [zvs,iat,hi]
theorem val_take' (l:List Int)(k:Nat):val (l.take (k+1))=val (l.take k)+pw k*iat l k:=by
 rcases Nat.lt_or_ge k l.length with h|h
 ·exact val_take l k h
 ·rw [List.take_of_length_le (by omega),List.take_of_length_le h,iat_ge h];simp
structure PlusI (l m:List Int)(k:Nat)(carry:Int)(z:List Int):Prop where
 len:z.length=k
 dg:Dg z
 sum:val z+pw k*carry=val (l.take k)+val (m.take k)
 lo:0<=carry
 hi:carry<=1
 top:k<=max l.length m.length+1
 end_:k=max l.length m.length+1->carry=0
theorem PlusI.start (l m:List Int):PlusI l m 0 0 []:=⟨rfl,Dg_nil,by simp [val],by omega,by omega,by omega,fun _=>rfl⟩
theorem PlusI.next {l m z:List Int}{k:Nat}{c:Int}(h:PlusI l m k c z)(hl:Dg l)(hm:Dg m)(hk:k<l.length∨k<m.length∨0<c):PlusI l m (k+1) ((iat l k+iat m k+c) / 1000000000) (z++ [(iat l k+iat m k+c) % 1000000000]):=by
 have h1:=hl.all k;have h2:=hm.all k;have h3:=h.lo;have h4:=h.hi;have hs:=h.sum;have hlen:=h.len;refine⟨by rw [List.length_append,hlen];rfl,Dg_append h.dg (Dg_cons (by omega) (by omega) Dg_nil),?_,by omega,by omega,?_,fun he=>?_⟩
 ·rw [val_append,hlen,val_take',val_take'];show val z+pw k*((iat l k+iat m k+c) % 1000000000+1000000000*0)+1000000000*pw k*((iat l k+iat m k+c) / 1000000000)=_;have e:=Int.mul_ediv_add_emod (iat l k+iat m k+c) 1000000000
  grind
 ·rcases hk with h5|h5|h5
  ·omega
  ·omega
  ·have:=h.top;rcases Nat.lt_or_ge k (max l.length m.length+1)with h6|h6
   ·omega
   ·have:=h.end_ (by omega);omega
 ·have e1:iat l k=0:=iat_ge (by omega);have e2:iat m k=0:=iat_ge (by omega);rw [e1,e2];omega
theorem PlusI.done {l m z:List Int}{k:Nat}(h:PlusI l m k 0 z)(h1:l.length<=k)(h2:m.length<=k):SumP l m z:=by
 have hs:=h.sum;rw [List.take_of_length_le h1,List.take_of_length_le h2] at hs;exact⟨h.dg,by simpa using hs,by rw [h.len];exact h.top⟩
def PlusL (w:World)(l m:List Int)(k:Nat)(c:Int)(v:Value)(wr:World):Prop:=∃z,PlusI l m k c z/\GrowI w v z wr
theorem plus_any (a1 a2:Option Addr)(n1 c1 n2 c2:Nat)(l m:List Int)(w:World)(hR1:Rdi w a1 l)(hR2:Rdi w a2 m)(hn1:n1=l.length)(hn2:n2=m.length)(hd1:Dg l)(hd2:Dg m)(hm1:n1<=1099511627775)(hm2:n2<=1099511627775):
 Calls Tryz.prog 139 #[.slice a1 n1 c1,.slice a2 n2 c2] w (NewS w (SumP l m)):=by
 obtain⟨i0,hi,hz0,hz1,hz2⟩:=info_parts info_i64;have H1:=hIq hR1;have H2:=hIq hR2;have N1:=hIq hn1;have N2:=hIq hn2;have D1:=hIq hd1;have D2:=hIq hd2;have hI:Hid (PlusL w l m 0 0 (.slice none 0 0) w):=hIq ⟨[],PlusI.start l m,GrowI.start w⟩;clear hR1 hR2 hn1 hn2 hd1 hd2
 go_enter Tryz.func139,Tryz.ntmps139
 go_wp2_with fail
 go_loopw [5,6,7] (fun v cv iv wr=>∃(k:Nat) (c:Int),k<=max n1 n2+1/\iv= .int .i64 (k:Int)/\cv= .int .i64 c/\PlusL w l m k c v wr) (fun _ _ iv _=>max n1 n2+2 - (intOf iv).toNat)
 case atStart=>exact⟨0,0,by omega,rfl,rfl,hI.out⟩
 case round=>
  obtain⟨k,c,hk,rfl,rfl,z,hP,hG⟩:=hrel;clear hI;have hB:=hG.2;have g1:Hid (Calls Tryz.prog 148 #[.slice a1 n1 c1,.int .i64 (k:Int)] wr fun e w'=>e= .returned (.int .i64 (iat l k))/\wr=w'):=hIq (digit_any _ _ _ _ _ wr (Rdi_below hB H1.out) N1.out);have g2:Hid (Calls Tryz.prog 148 #[.slice a2 n2 c2,.int .i64 (k:Int)] wr fun e w'=>e= .returned (.int .i64 (iat m k))/\wr=w'):=hIq (digit_any _ _ _ _ _ wr (Rdi_below hB H2.out) N2.out);have hx:=D1.out.all k;have hy:=D2.out.all k;have hc0:=hP.lo;have hc1:=hP.hi;have hzl:Hid (z.length=k):=hIq hP.len;have hnx:=hIq (fun h=>hP.next D1.out D2.out h);have hfin:Hid (n1<=k->n2<=k->c=0->SumP l m z):=hIq fun h1 h2 h3=>by subst h3;exact hP.done (by rw [<-N1.out];exact h1) (by rw [<-N2.out];exact h2)
  obtain⟨x,hxx⟩:∃x,iat l k=x:=⟨_,rfl⟩;obtain⟨y,hyy⟩:∃y,iat m k=y:=⟨_,rfl⟩;rw [hxx] at g1 hx hnx;rw [hyy] at g2 hy hnx;have hG':=hIq hG
  have hnext:Hid ((k<n1∨k<n2∨0<c)->k+1<=max n1 n2+1/\∀v w',GrowI w v (z++ [(x+y+c) % 1000000000]) w'->PlusL w l m (k+1) ((x+y+c) / 1000000000) v w'):=hIq fun h=>by
   have h':=hnx.out (by rw [<-N1.out,<-N2.out];exact h);exact⟨by have:=h'.top;rw [N1.out,N2.out];exact this,fun v w' h2=>⟨_,h',h2⟩⟩
  obtain⟨hx1,hx2⟩:=hx;obtain⟨hy1,hy2⟩:=hy;have hs0:0<=x+y:=by omega
  have hs1:0<=x+y+c:=by omega
  have hs2:x+y+c<2000000000:=by omega
  have hsz:=hB.size;have k0:0<=(k:Int):=by omega
  clear hP hG hB hnx hxx hyy;by_cases hgo:k<n1∨k<n2∨0<c
  ·obtain⟨hn1',hn2'⟩:=hnext.out hgo;have hn2'':=hIq hn2';have hn1'':=hIq hn1';clear hn1' hn2' hnext hfin;have hcond:k<n1∨(¬k<n1/\k<n2)∨(¬k<n1/\¬k<n2/\0<c):=by omega
   rcases hcond with h|⟨h,h'⟩|⟨h,h',h''⟩
   ·have t1:(k:Int)<(n1:Int):=by omega
    clear hgo h;go_wp2_with (first|(go_at_call 148;((with_reducible refine g1.out.mono ?_);rintro e w' ⟨rfl,rfl⟩))|(go_at_call 148;((with_reducible refine g2.out.mono ?_);rintro e w' ⟨rfl,rfl⟩))|(at_builtin;refine wpList_append_own _ rfl _ _ 22 rfl w.heap.size 3 i0 (.int .i64 0) 1 8 Tryz.underlying22 hi hz0 hz1 hz2 rfl (by decide) _ _ _ rfl (hG'.out.1.alloc _) ⟨wr.heap.size,0,none⟩ 1 1 [.int .i64 ((x+y+c) % 1000000000)] rfl rfl (cell_one_new _ _ _) (by intro u hu;simp at hu;subst hu;rfl) (by rw [hzl.out];unfold maxLen;omega) (by rw [hzl.out];omega) (by simp;omega) ?_;intro v2 w2 ho2 hg2 _;have hG2:=hIq (hG'.out.push ho2 hg2);clear ho2 hg2))
    exact⟨⟨k+1,_,hn1''.out,by simp,rfl,hn2''.out _ _ hG2.out⟩,by have:=hn1''.out;simp only [intOf];omega⟩
   ·have t1:¬(k:Int)<(n1:Int):=by omega
    have t2:(k:Int)<(n2:Int):=by omega
    clear hgo h h';go_wp2_with (first|(go_at_call 148;((with_reducible refine g1.out.mono ?_);rintro e w' ⟨rfl,rfl⟩))|(go_at_call 148;((with_reducible refine g2.out.mono ?_);rintro e w' ⟨rfl,rfl⟩))|(at_builtin;refine wpList_append_own _ rfl _ _ 22 rfl w.heap.size 3 i0 (.int .i64 0) 1 8 Tryz.underlying22 hi hz0 hz1 hz2 rfl (by decide) _ _ _ rfl (hG'.out.1.alloc _) ⟨wr.heap.size,0,none⟩ 1 1 [.int .i64 ((x+y+c) % 1000000000)] rfl rfl (cell_one_new _ _ _) (by intro u hu;simp at hu;subst hu;rfl) (by rw [hzl.out];unfold maxLen;omega) (by rw [hzl.out];omega) (by simp;omega) ?_;intro v2 w2 ho2 hg2 _;have hG2:=hIq (hG'.out.push ho2 hg2);clear ho2 hg2))
    exact⟨⟨k+1,_,hn1''.out,by simp,rfl,hn2''.out _ _ hG2.out⟩,by have:=hn1''.out;simp only [intOf];omega⟩
   ·have t1:¬(k:Int)<(n1:Int):=by omega
    have t2:¬(k:Int)<(n2:Int):=by omega
    clear hgo h h';go_wp2_with (first|(go_at_call 148;((with_reducible refine g1.out.mono ?_);rintro e w' ⟨rfl,rfl⟩))|(go_at_call 148;((with_reducible refine g2.out.mono ?_);rintro e w' ⟨rfl,rfl⟩))|(at_builtin;refine wpList_append_own _ rfl _ _ 22 rfl w.heap.size 3 i0 (.int .i64 0) 1 8 Tryz.underlying22 hi hz0 hz1 hz2 rfl (by decide) _ _ _ rfl (hG'.out.1.alloc _) ⟨wr.heap.size,0,none⟩ 1 1 [.int .i64 ((x+y+c) % 1000000000)] rfl rfl (cell_one_new _ _ _) (by intro u hu;simp at hu;subst hu;rfl) (by rw [hzl.out];unfold maxLen;omega) (by rw [hzl.out];omega) (by simp;omega) ?_;intro v2 w2 ho2 hg2 _;have hG2:=hIq (hG'.out.push ho2 hg2);clear ho2 hg2))
    exact⟨⟨k+1,_,hn1''.out,by simp,rfl,hn2''.out _ _ hG2.out⟩,by have:=hn1''.out;simp only [intOf];omega⟩
  ·have t1:¬(k:Int)<(n1:Int):=by omega
   have t2:¬(k:Int)<(n2:Int):=by omega
   obtain rfl:c=0:=by omega
   have hf:=hIq (hG'.out.done (hfin.out (by omega) (by omega) rfl));clear hnext hfin hgo;go_wp2_with fail
   go_ret
   exact hf.out
theorem tmod_abs (v:Int):(v.tmod 1000000000).natAbs=v.natAbs % 1000000000:=Int.natAbs_tmod v 1000000000
theorem tdiv_abs (v:Int):(v.tdiv 1000000000).natAbs=v.natAbs / 1000000000:=Int.natAbs_tdiv v 1000000000
theorem own_sl {w:World}{base:Nat}{v:Value}{l:List Int}(h:w.ownsRow base 3 1 v l.length (zvs l)):∃p n c,v= .slice p n c/\Rdi w p l/\l.length=n/\n<=c/\c<=9223372036854775807/\∀q,p=some q->base<=q.block:=by
 rcases own_cellsI h with⟨h1,rfl,h3⟩|⟨g,c,rfl,hc,hm,hg,hcell⟩
 ·have:l= []:=List.eq_nil_of_length_eq_zero h3;subst this;exact⟨none,0,0,rfl,.inl rfl,rfl,Nat.le_refl _,by omega,(fun q hq=>by cases hq)⟩
 ·refine⟨_,_,c,rfl,.inr ⟨g,0,rfl,fun i hi=>?_⟩,rfl,hc,by unfold maxLen at hm;omega,(fun q hq=>by cases hq;exact hg)⟩;rw [Nat.zero_add];apply hcell;simp [zvs,iat,hi]
def OfG (w:World)(m M:Nat)(v:Value)(wr:World):Prop:=∃z,z++digs M=digs m/\wr.ownsRow (w.heap.size+1) 3 1 v z.length (zvs z)/\Ar0 w wr
theorem OfG.push {w wr w':World}{m M:Nat}{v v':Value}{o:Obj}{z:List Int}(hM:M≠0)(hz:z++digs M=digs m)(ho0:wr.ownsRow (w.heap.size+1) 3 1 v z.length (zvs z))(hA:Ar0 w wr)
 (ho:w'.ownsRow (w.heap.size+1) 3 1 v' (z.length+1) (zvs z++ [.int .i64 ((M % 1000000000:Nat):Int)])) (hg:(wr.alloc o).grownBy w' v.ownBlock):OfG w m (M / 1000000000) v' w':=by
 refine⟨z++ [((M % 1000000000:Nat):Int)],by rw [List.append_assoc,<-hz,digs_pos hM];rfl,?_,?_⟩
 ·rw [List.length_append];have:zvs (z++ [((M % 1000000000:Nat):Int)])=zvs z++ [.int .i64 ((M % 1000000000:Nat):Int)]:=by simp [zvs]
  rw [this];exact ho
 ·obtain⟨⟨u,x,h3⟩,h6⟩:=hA;have h3':(wr.alloc o).heap[w.heap.size]? =some (.cells #[u,x] 28 (0,0)):=by rw [Below.heap_alloc _ _ _ (lt_blk h3)];exact h3
  have hlt:=lt_blk h3';have hbk:=hg.block w.heap.size (by omega) (fun e=>by have:=(ho0.lt _ e.symm).1;omega);exact⟨⟨u,x,hbk.trans h3'⟩,(h6.alloc h6.size _).grown hg (Nat.le_trans h6.size (by simp)) fun k hk=>by have:=(ho0.lt k hk).1;omega⟩
theorem rOf_any (n:Int)(h1: -9223372036854775808<=n)(h2:n<=9223372036854775807)(w:World):
 Calls Tryz.prog 82 #[.int .i64 n] w (RetI w n):=by
 obtain⟨i0,hi,hz0,hz1,hz2⟩:=info_parts info_i64;have hS0:Hid (OfG w n.natAbs n.natAbs (.slice none 0 0) (w.alloc (.cells #[.bool false,.slice none 0 0] 28))):=hIq ⟨[],rfl,World.ownsRow_nil _ _ _ _,Ar0.start w⟩
 have hlen:Hid ((digs n.natAbs).length<=3):=hIq (digs_len_le (by
  have:pw 3=1000000000000000000000000000:=by decide
  omega))
 have hsg:Hid (sg (decide (n<0)) (val (digs n.natAbs))=n):=hIq (by
  rw [val_digs];by_cases h:n<0
  ·rw [dT h];show -(n.natAbs:Int)=n;omega
  ·rw [dF h];show(n.natAbs:Int)=n;omega)
 obtain⟨nb0,hnb⟩:∃b,decide (n<0)=b:=⟨_,rfl⟩;rw [hnb] at hsg;generalize hm:n.natAbs=m at hS0 hlen hsg;have hm':=hIq hm;clear hm
 go_enter Tryz.func82,Tryz.ntmps82
 go_wp2_with fail
 generalize w.alloc (.cells #[.bool false,.slice none 0 0] 28)=w1 at hS0 ⊢
 go_loopw [0,3] (fun nv u3 wr=>∃(v:Int) (M:Nat),nv= .int .i64 v/\ -9223372036854775808<=v/\v<=9223372036854775807/\Hid (v.natAbs=M)/\OfG w m M u3 wr) (fun nv _ _=>(intOf nv).natAbs)
 case atStart=>exact⟨n,m,rfl,h1,h2,hm',hS0.out⟩
 case round=>
  obtain⟨v,M,rfl,x1,x2,hvM,z,hzd,hown0,hA⟩:=hrel;clear hS0;have hown:=hIq hown0;have hsz:Hid (w.heap.size<wr.heap.size):=hIq hA.top;have hzl:Hid (z.length<=3):=hIq (by have:=congrArg List.length hzd;rw [List.length_append] at this;have:=hlen.out;omega);clear hown0;by_cases h0:v=0
  ·subst h0;obtain rfl:M=0:=by have:=hvM.out;omega
   rw [digs_zero,List.append_nil] at hzd;subst hzd;obtain⟨p,k,c,rfl,hR,hk,hkc,hcm,hp⟩:=own_sl hown.out;have hno:Hid (Calls Tryz.prog 122 #[.bool nb0,.slice p k c] wr (RetF (fun q=>p=some q) wr (sg nb0 (val (digs m))))):=hIq (normal_any _ _ _ _ _ wr hR hk.symm hkc hcm (Dg_digs _));have hp':=hIq hp;clear hR hk hp hown hzl hlen hvM;go_wp2_with fail
   refine hno.out.mono ?_
   rintro e w2 ⟨nb,p2,n2,c2,rfl,hI0,hb2,hp0⟩
   have hS3:=hA.later hb2;have hf3:=hS3.facts
   have hfin:Hid (RetI w n (.returned (.agg #[.bool nb,.slice p2 n2 c2])) ((w2.setCell ⟨w.heap.size,0,none⟩ (.bool nb)).setCell ⟨w.heap.size,1,none⟩ (.slice p2 n2 c2))):=hIq (hS3.ret hI0 (fun q hq=>by
    have:=hp'.out q (hp0 q hq)
    exact⟨by omega,by omega⟩) hsg.out)
   clear hI0 hb2 hp0;go_wp2_with fail
   exact bodyPost_ret (v:= .agg #[.bool nb,.slice p2 n2 c2]) (results_cell_row rfl _ _ w.heap.size 28 _ (0,0) _ rfl (hS3.res _ _) Tryz.underlying28 rfl size_Int) rfl hfin.out
  ·have hvb:(v !=0)=true:=by simpa using h0
   have hM:M≠0:=by have:=hvM.out;omega
   have hT:=tmod_abs v;have hT2:=tdiv_abs v;rw [hvM.out] at hT hT2;have hQ:=hIq hT2;have hlt:=hIq (show M / 1000000000<M from Nat.div_lt_self (by omega) (by omega));have hm9:M % 1000000000<1000000000:=Nat.mod_lt _ (by omega);have hr1: -1000000000<v.tmod 1000000000:=by omega
   have hr2:v.tmod 1000000000<1000000000:=by omega
   have hq1: -9223372036854775808<=v.tdiv 1000000000:=by have:=hvM.out;have:=hlt.out;omega
   have hq2:v.tdiv 1000000000<=9223372036854775807:=by have:=hvM.out;have:=hlt.out;omega
   clear h0 hm9;by_cases hneg:v.tmod 1000000000<0
   ·have t1:v.tmod 1000000000<0:=by assumption
    have hpush:Hid (∀v' w',w'.ownsRow (w.heap.size+1) 3 1 v' (z.length+1) (zvs z++ [.int .i64 (-v.tmod 1000000000)])->(wr.alloc (.cells #[.int .i64 (-v.tmod 1000000000)] 3)).grownBy w' u3.ownBlock->OfG w m (M / 1000000000) v' w'):=hIq fun v' w' h3 h4=>OfG.push hM hzd hown.out hA (by rw [show((M % 1000000000:Nat):Int)= -v.tmod 1000000000 by omega];exact h3) h4
    clear hM hzd hA hT hT2;go_wp2_with (at_builtin;refine wpList_append_own _ rfl _ _ 22 rfl (w.heap.size+1) 3 i0 (.int .i64 0) 1 8 Tryz.underlying22 hi hz0 hz1 hz2 rfl (by decide) _ _ _ rfl (hown.out.alloc _) ⟨wr.heap.size,0,none⟩ 1 1 [.int .i64 (-v.tmod 1000000000)] rfl rfl (cell_one_new _ _ _) (by intro u hu;simp at hu;subst hu;rfl) (by have:=hzl.out;unfold maxLen;omega) (by have:=hzl.out;omega) (by have:=hsz.out;simp;omega) ?_;intro v2 w2 ho2 hg2 _;have hG2:=hIq (hpush.out _ _ ho2 hg2);clear ho2 hg2)
    exact⟨⟨v.tdiv 1000000000,M / 1000000000,rfl,hq1,hq2,hQ,hG2.out⟩,by have:=hQ.out;have:=hvM.out;have:=hlt.out;simp only [intOf];omega⟩
   ·have t1:¬v.tmod 1000000000<0:=by assumption
    have hpush:Hid (∀v' w',w'.ownsRow (w.heap.size+1) 3 1 v' (z.length+1) (zvs z++ [.int .i64 (v.tmod 1000000000)])->(wr.alloc (.cells #[.int .i64 (v.tmod 1000000000)] 3)).grownBy w' u3.ownBlock->OfG w m (M / 1000000000) v' w'):=hIq fun v' w' h3 h4=>OfG.push hM hzd hown.out hA (by rw [show((M % 1000000000:Nat):Int)=v.tmod 1000000000 by omega];exact h3) h4
    clear hM hzd hA hT hT2;go_wp2_with (at_builtin;refine wpList_append_own _ rfl _ _ 22 rfl (w.heap.size+1) 3 i0 (.int .i64 0) 1 8 Tryz.underlying22 hi hz0 hz1 hz2 rfl (by decide) _ _ _ rfl (hown.out.alloc _) ⟨wr.heap.size,0,none⟩ 1 1 [.int .i64 (v.tmod 1000000000)] rfl rfl (cell_one_new _ _ _) (by intro u hu;simp at hu;subst hu;rfl) (by have:=hzl.out;unfold maxLen;omega) (by have:=hzl.out;omega) (by have:=hsz.out;simp;omega) ?_;intro v2 w2 ho2 hg2 _;have hG2:=hIq (hpush.out _ _ ho2 hg2);clear ho2 hg2)
    exact⟨⟨v.tdiv 1000000000,M / 1000000000,rfl,hq1,hq2,hQ,hG2.out⟩,by have:=hQ.out;have:=hvM.out;have:=hlt.out;simp only [intOf];omega⟩
theorem results_cell2 {P:Program}{fn:Func}{p q:Tmp}{ty:TypeId}(h:fn.results=#[.cell p ty,.cell q ty])(tmps:Array Value)(w:World)(g k:Nat)(t:TypeId)(cs ds:Array Value)(fr fr':Nat×Nat)(d:TypeDesc)
 (hp:tmps.getD p undef= .pointer (some ⟨g,0,none⟩)) (hq:tmps.getD q undef= .pointer (some ⟨k,0,none⟩)) (hg:w.heap[g]? =some (.cells cs t fr)) (hk:w.heap[k]? =some (.cells ds t fr'))
 (hu:P.underlying ty=some d) (D:(match d with| .struct _| .array _ _=>true|_=>false)=true) (hi:(P.info? ty).map (·.size)=some cs.size) (hi':(P.info? ty).map (·.size)=some ds.size):
 (results fn tmps).run P w= .ok (.tuple #[.agg cs,.agg ds]) w:=by
 have hp':tmps[p]?.getD undef= .pointer (some ⟨g,0,none⟩):=by simpa using hp
 have hq':tmps[q]?.getD undef= .pointer (some ⟨k,0,none⟩):=by simpa using hq
 simp [results,h,hp',hq',asAddr,run_loadVar_row w g t ty cs fr d hg hu D hi,run_loadVar_row w k t ty ds fr' d hk hu D hi',Sem.run_bind,Result.andThen]
def dq (x y:Int):Int:=if y=0 then 0 else x / y
def dr (x y:Int):Int:=if y=0 then 0 else x % y
theorem div_math {x y:Int}{q r:Int}(hy:y≠0)(h:(x.natAbs:Int)=(y.natAbs:Int)*q+r)(h0:0<=r)(h1:r<(y.natAbs:Int)):
 (x<0->0<r->dq x y=sg (decide (x<0) !=decide (y<0)) (q+1)/\dr x y=(y.natAbs:Int) - r)/\(¬(x<0/\0<r)->dq x y=sg (decide (x<0) !=decide (y<0)) q/\dr x y=r):=by
 unfold dq dr;rw [if_neg hy,if_neg hy];rcases Int.lt_or_le y 0 with hy1|hy1
 ·have ey:(y.natAbs:Int)= -y:=by omega
  rw [ey] at h h1 ⊢;rw [dT hy1];refine⟨fun hx hr=>(Int.ediv_emod_unique' hy1).2 ?_,fun hn=>(Int.ediv_emod_unique' hy1).2 ?_⟩
  ·rw [dT hx];have ex:(x.natAbs:Int)= -x:=by omega
   rw [ex] at h;refine⟨?_,by omega,by omega⟩;show -y - r+y*(q+1)=x
   grind
  ·refine⟨?_,h0,h1⟩;rcases Int.lt_or_le x 0 with hx|hx
   ·rw [dT hx];have ex:(x.natAbs:Int)= -x:=by omega
    have hr0:r=0:=by omega
    rw [ex,hr0] at h;rw [hr0];show 0+y*q=x
    grind
   ·rw [dF (show ¬x<0 by omega)];have ex:(x.natAbs:Int)=x:=by omega
    rw [ex] at h;show r+y* -q=x
    grind
 ·have ey:(y.natAbs:Int)=y:=by omega
  rw [ey] at h h1 ⊢;rw [dF (show ¬y<0 by omega)];refine⟨fun hx hr=>(Int.ediv_emod_unique (by omega)).2 ?_,fun hn=>(Int.ediv_emod_unique (by omega)).2 ?_⟩
  ·rw [dT hx];have ex:(x.natAbs:Int)= -x:=by omega
   rw [ex] at h;refine⟨?_,by omega,by omega⟩;show y - r+y* -(q+1)=x
   grind
  ·refine⟨?_,h0,h1⟩;rcases Int.lt_or_le x 0 with hx|hx
   ·rw [dT hx];have ex:(x.natAbs:Int)= -x:=by omega
    have hr0:r=0:=by omega
    rw [ex,hr0] at h;rw [hr0];show 0+y* -q=x
    grind
   ·rw [dF (show ¬x<0 by omega)];have ex:(x.natAbs:Int)=x:=by omega
    rw [ex] at h;show r+y*q=x
    grind
def RetD (w:World)(z1 z2:Int)(e:Ending)(w':World):Prop:=
 ∃nb p n c nb2 p2 n2 c2,e= .returned (.tuple #[.agg #[.bool nb,.slice p n c],.agg #[.bool nb2,.slice p2 n2 c2]])/\IntAt w' nb p n c z1/\IntAt w' nb2 p2 n2 c2 z2/\Below w.heap.size w w'/\(∀q,p=some q->w.heap.size<=q.block)/\∀q,p2=some q->w.heap.size<=q.block
def Ar4 (w:World)(nx:Bool)(px:Option Addr)(lx cx:Nat)(ny:Bool)(py:Option Addr)(ly cy:Nat)(W:World):Prop:=
 W.heap[w.heap.size]? =some (.cells #[.bool nx,.slice px lx cx] 28 (0,0))/\W.heap[w.heap.size+1]? =some (.cells #[.bool ny,.slice py ly cy] 28 (0,0))/\
 (∃u v,W.heap[w.heap.size+1+1]? =some (.cells #[u,v] 28 (0,0)))/\(∃u v,W.heap[w.heap.size+1+1+1]? =some (.cells #[u,v] 28 (0,0)))/\Below w.heap.size w W
section
variable {w W w':World}{nx:Bool}{px:Option Addr}{lx cx:Nat}{ny:Bool}{py:Option Addr}{ly cy:Nat}
theorem Ar4.in_ (h:Ar4 w nx px lx cx ny py ly cy W):W.cell? ⟨w.heap.size,0,none⟩=some (.bool nx)/\W.cell? ⟨w.heap.size,1,none⟩=some (.slice px lx cx)/\W.cell? ⟨w.heap.size+1,0,none⟩=some (.bool ny)/\W.cell? ⟨w.heap.size+1,1,none⟩=some (.slice py ly cy):=by
 obtain⟨h1,h2,_⟩:=h;refine⟨by simp [World.cell?,h1],by simp [World.cell?,h1],by simp [World.cell?,h2],by simp [World.cell?,h2]⟩
theorem Ar4.out (h:Ar4 w nx px lx cx ny py ly cy W):
 W.cell? ⟨w.heap.size+1+1,0,none⟩=some (oldv W (w.heap.size+1+1) 0)/\W.cell? ⟨w.heap.size+1+1,1,none⟩=some (oldv W (w.heap.size+1+1) 1)/\W.frozen? ⟨w.heap.size+1+1,0,none⟩=false/\W.frozen? ⟨w.heap.size+1+1,1,none⟩=false/\
 W.cell? ⟨w.heap.size+1+1+1,0,none⟩=some (oldv W (w.heap.size+1+1+1) 0)/\W.cell? ⟨w.heap.size+1+1+1,1,none⟩=some (oldv W (w.heap.size+1+1+1) 1)/\W.frozen? ⟨w.heap.size+1+1+1,0,none⟩=false/\W.frozen? ⟨w.heap.size+1+1+1,1,none⟩=false:=by
 obtain⟨_,_,⟨u,v,h3⟩,⟨u',v',h4⟩,_⟩:=h;refine⟨by simp [oldv,World.cell?,h3],by simp [oldv,World.cell?,h3],by simp [World.frozen?,h3],by simp [World.frozen?,h3],by simp [oldv,World.cell?,h4],by simp [oldv,World.cell?,h4],by simp [World.frozen?,h4],by simp [World.frozen?,h4]⟩
theorem Ar4.later (h:Ar4 w nx px lx cx ny py ly cy W)(hb:Below W.heap.size W w'):Ar4 w nx px lx cx ny py ly cy w':=by
 obtain⟨h1,h2,⟨u,v,h3⟩,⟨u',v',h4⟩,h6⟩:=h;exact⟨(hb.block _ (lt_blk h1)).trans h1,(hb.block _ (lt_blk h2)).trans h2,⟨u,v,(hb.block _ (lt_blk h3)).trans h3⟩,⟨u',v',(hb.block _ (lt_blk h4)).trans h4⟩,below_tr h6 hb⟩
theorem Ar4.start (w:World):Ar4 w nx px lx cx ny py ly cy ((((w.alloc (.cells #[.bool nx,.slice px lx cx] 28)).alloc (.cells #[.bool ny,.slice py ly cy] 28)).alloc (.cells #[.bool false,.slice none 0 0] 28)).alloc (.cells #[.bool false,.slice none 0 0] 28)):=by
 obtain⟨h1,h2,⟨u,v,h3⟩,h4⟩:=@Ar2.start nx px lx cx ny py ly cy w;refine⟨?_,?_,⟨u,v,?_⟩,⟨.bool false,.slice none 0 0,?_⟩,below_tr h4 (below_new _ _)⟩
 ·rw [Below.heap_alloc _ _ _ (lt_blk h1)];exact h1
 ·rw [Below.heap_alloc _ _ _ (lt_blk h2)];exact h2
 ·rw [Below.heap_alloc _ _ _ (lt_blk h3)];exact h3
 ·have:=heap_alloc_new (((w.alloc (.cells #[.bool nx,.slice px lx cx] 28)).alloc (.cells #[.bool ny,.slice py ly cy] 28)).alloc (.cells #[.bool false,.slice none 0 0] 28)) (.cells #[.bool false,.slice none 0 0] 28)
  simpa using this
theorem Ar4.top (h:Ar4 w nx px lx cx ny py ly cy W):w.heap.size+1+1+1<W.heap.size:=by
 obtain⟨u,v,h3⟩:=h.2.2.2.1;exact lt_blk h3
theorem Ar4.res (h:Ar4 w nx px lx cx ny py ly cy W)(p q p2 q2:Value):
 ((((W.setCell ⟨w.heap.size+1+1,0,none⟩ p).setCell ⟨w.heap.size+1+1,1,none⟩ q).setCell ⟨w.heap.size+1+1+1,0,none⟩ p2).setCell ⟨w.heap.size+1+1+1,1,none⟩ q2).heap[w.heap.size+1+1]? =some (.cells #[p,q] 28 (0,0))/\
 ((((W.setCell ⟨w.heap.size+1+1,0,none⟩ p).setCell ⟨w.heap.size+1+1,1,none⟩ q).setCell ⟨w.heap.size+1+1+1,0,none⟩ p2).setCell ⟨w.heap.size+1+1+1,1,none⟩ q2).heap[w.heap.size+1+1+1]? =some (.cells #[p2,q2] 28 (0,0)):=by
 obtain⟨h1,h2,⟨u,v,h3⟩,⟨u',v',h4⟩,h6⟩:=h;constructor
 ·rw [heap_setCell_other _ _ _ _ (by simp),heap_setCell_other _ _ _ _ (by simp)];rw [heap_setCell_self _ _ _ _ _ _ (heap_setCell_self _ _ _ _ _ _ h3)];rfl
 ·have h5:((W.setCell ⟨w.heap.size+1+1,0,none⟩ p).setCell ⟨w.heap.size+1+1,1,none⟩ q).heap[w.heap.size+1+1+1]? =some (.cells #[u',v'] 28 (0,0)):=by
   rw [heap_setCell_other _ _ _ _ (by simp),heap_setCell_other _ _ _ _ (by simp)];exact h4
  rw [heap_setCell_self _ _ _ _ _ _ (heap_setCell_self _ _ _ _ _ _ h5)];rfl
theorem Ar4.ret {nb nb2:Bool}{p p2:Option Addr}{n c n2 c2:Nat}{z1 z2 z1' z2':Int}(h:Ar4 w nx px lx cx ny py ly cy W)(hI:IntAt W nb p n c z1)(hI2:IntAt W nb2 p2 n2 c2 z2)(hp:∀q,p=some q->w.heap.size+1+1+1<q.block)(hp2:∀q,p2=some q->w.heap.size+1+1+1<q.block)(hz:z1=z1')(hz2:z2=z2'):
 RetD w z1' z2' (.returned (.tuple #[.agg #[.bool nb,.slice p n c],.agg #[.bool nb2,.slice p2 n2 c2]]))
  ((((W.setCell ⟨w.heap.size+1+1,0,none⟩ (.bool nb)).setCell ⟨w.heap.size+1+1,1,none⟩ (.slice p n c)).setCell ⟨w.heap.size+1+1+1,0,none⟩ (.bool nb2)).setCell ⟨w.heap.size+1+1+1,1,none⟩ (.slice p2 n2 c2)):=by
 subst hz hz2;have a1:∀q,p=some q->q.block≠w.heap.size+1+1:=fun q hq=>by have:=hp q hq;omega
 have a2:∀q,p=some q->q.block≠w.heap.size+1+1+1:=fun q hq=>by have:=hp q hq;omega
 have b1:∀q,p2=some q->q.block≠w.heap.size+1+1:=fun q hq=>by have:=hp2 q hq;omega
 have b2:∀q,p2=some q->q.block≠w.heap.size+1+1+1:=fun q hq=>by have:=hp2 q hq;omega
 exact⟨_,_,_,_,_,_,_,_,rfl,(((hI.store a1).store a1).store a2).store a2,(((hI2.store b1).store b1).store b2).store b2,(((h.2.2.2.2.setCell (by simp;omega) _).setCell (by simp;omega) _).setCell (by simp;omega) _).setCell (by simp;omega) _,fun q hq=>by have:=hp q hq;omega,fun q hq=>by have:=hp2 q hq;omega⟩
end
theorem divq_nat {x y:Nat}{q r:List Int}(h:DivQ (digs x) (digs y) q r):(x:Int)=(y:Int)*val q+val r/\0<=val r/\val r<(y:Int)/\0<=val q:=by
 obtain⟨h1,h2,h3,h4⟩:=h;rw [val_digs,val_digs] at h3;rw [val_digs] at h4;exact⟨h3,h2.lo,h4,h1.lo⟩
def DvA (w:World)(nx:Bool)(px:Option Addr)(lx cx:Nat)(ny:Bool)(py:Option Addr)(ly cy:Nat)(p1:Option Addr)(n1 c1:Nat)(q:List Int)(p2:Option Addr)(n2 c2:Nat)(r:List Int)(W:World):Prop:=
 Ar4 w nx px lx cx ny py ly cy W/\Rdi W p1 q/\q.length=n1/\n1<=c1/\c1<=1099511627776/\Dg q/\(∀b,p1=some b->w.heap.size+1+1+1<b.block)/\Rdi W p2 r/\r.length=n2/\n2<=c2/\c2<=1099511627776/\Dg r/\(∀b,p2=some b->w.heap.size+1+1+1<b.block)
theorem DvA.later {w:World}{nx:Bool}{px:Option Addr}{lx cx:Nat}{ny:Bool}{py:Option Addr}{ly cy:Nat}{p1:Option Addr}{n1 c1:Nat}{q:List Int}{p2:Option Addr}{n2 c2:Nat}{r:List Int}{W W':World}(h:DvA w nx px lx cx ny py ly cy p1 n1 c1 q p2 n2 c2 r W)(hb:Below W.heap.size W W'):
 DvA w nx px lx cx ny py ly cy p1 n1 c1 q p2 n2 c2 r W':=by
 obtain⟨h1,h2,h3,h4,h5,h6,h7,h8,h9⟩:=h;exact⟨h1.later hb,Rdi_below hb h2,h3,h4,h5,h6,h7,Rdi_below hb h8,h9⟩
def DvC (w:World)(px:Option Addr)(lx cx:Nat)(ny:Bool)(py:Option Addr)(ly cy:Nat)(x y:Int)(s6 s7:Value)(W:World):Prop:=
 ∃p1 n1 q p2 n2 r,s6= .slice p1 n1 n1/\s7= .slice p2 n2 n2/\DvA w true px lx cx ny py ly cy p1 n1 n1 q p2 n2 n2 r W/\sg (true !=ny) (val q)=dq x y/\val r=dr x y
theorem dvc_mk {w:World}{px:Option Addr}{lx cx:Nat}{ny:Bool}{py:Option Addr}{ly cy:Nat}{x y:Int}{p1 p2:Option Addr}{n1 n2 c2:Nat}{q r Y:List Int}{w1 W:World}{gs ns gd nd:Nat}{zs zd:List Int}(hA:DvA w true px lx cx ny py ly cy p1 n1 n1 q p2 n2 c2 r w1)(hb:Below w1.heap.size w1 W)
 (hgs:w1.heap.size<=gs) (hzs:Blk W gs zs) (hns:zs.length=ns) (hPs:SumP q [1] zs) (hq:q.length<=549755813887) (hgd:w1.heap.size<=gd) (hzd:Blk W gd zd) (hnd:zd.length=nd) (hPd:DifP Y r zd) (hY:Y.length<=549755813887)
 (x1:sg (true !=ny) (val q+1)=dq x y) (x2:val Y - val r=dr x y):DvC w px lx cx ny py ly cy x y (.slice (some ⟨gs,0,none⟩) ns ns) (.slice (some ⟨gd,0,none⟩) nd nd) W:=by
 have ht:=hA.1.top;have h1:val zs=val q+1:=by rw [hPs.2.1];simp [val]
 have h2:=hPs.2.2;have h3:=hPd.2.2;simp only [List.length_cons,List.length_nil] at h2;refine⟨some ⟨gs,0,none⟩,ns,zs,some ⟨gd,0,none⟩,nd,zd,rfl,rfl,⟨hA.1.later hb,hzs.rdi,hns,Nat.le_refl _,by omega,hPs.1,fun b e=>?_,hzd.rdi,hnd,Nat.le_refl _,by omega,hPd.1,fun b e=>?_⟩,by rw [h1];exact x1,by rw [hPd.2.1];exact x2⟩
 ·cases e;show _<gs;omega
 ·cases e;show _<gd;omega
theorem Div_any (nx ny:Bool)(px py:Option Addr)(lx cx ly cy:Nat)(x y:Int)(w:World)(hx0:IntAt w nx px lx cx x)(hy0:IntAt w ny py ly cy y)(hlx:lx<=549755813887)(hly:ly<=549755813887):
 Calls Tryz.prog 145 #[.agg #[.bool nx,.slice px lx cx],.agg #[.bool ny,.slice py ly cy]] w (RetD w (dq x y) (dr x y)):=by
 have hS0:=hIq (@Ar4.start nx px lx cx ny py ly cy w);by_cases hy:y=0
 ·have hl0:ly=0:=by rw [hy0.2.1,hy];show(digs 0).length=0;rw [digs_zero];rfl
  have hz:Hid (dq x y=0/\dr x y=0):=hIq (by unfold dq dr;rw [if_pos hy,if_pos hy];exact⟨rfl,rfl⟩);subst hl0;clear hx0 hy0 hy
  go_enter Tryz.func145,Tryz.ntmps145
  go_upto_if 11 with fail
  generalize(((w.alloc (.cells #[.bool nx,.slice px lx cx] 28)).alloc (.cells #[.bool ny,.slice py 0 cy] 28)).alloc (.cells #[.bool false,.slice none 0 0] 28)).alloc (.cells #[.bool false,.slice none 0 0] 28)=W0 at hS0 ⊢;have hS1:=hS0.out;have hf:=hS1.out
  have hfin:Hid (RetD w (dq x y) (dr x y) (.returned (.tuple #[.agg #[.bool false,.slice none 0 0],.agg #[.bool false,.slice none 0 0]])) ((((W0.setCell ⟨w.heap.size+1+1,0,none⟩ (.bool false)).setCell ⟨w.heap.size+1+1,1,none⟩ (.slice none 0 0)).setCell ⟨w.heap.size+1+1+1,0,none⟩ (.bool false)).setCell ⟨w.heap.size+1+1+1,1,none⟩ (.slice none 0 0))):=
   hIq (hS1.ret (IntAt_zero _ _ _ (by omega)) (IntAt_zero _ _ _ (by omega)) (fun q hq=>by cases hq) (fun q hq=>by cases hq) hz.out.1.symm hz.out.2.symm)
  go_wp2_with fail
  exact bodyPost_ret (v:= .tuple #[.agg #[.bool false,.slice none 0 0],.agg #[.bool false,.slice none 0 0]]) (results_cell2 rfl _ _ (w.heap.size+1+1) (w.heap.size+1+1+1) 28 _ _ (0,0) (0,0) _ rfl rfl (hS1.res _ _ _ _).1 (hS1.res _ _ _ _).2 Tryz.underlying28 rfl size_Int size_Int) rfl hfin.out
 ·have hl0:ly≠0:=by
   rw [hy0.2.1];intro h;have:=digs_nil.1 (List.eq_nil_of_length_eq_zero h);omega
  have hyt:=digs_top (n:=y.natAbs) (by omega);rw [<-hy0.2.1] at hyt;have hytd:=((Dg_digs y.natAbs).all (ly - 1)).1
  have hdv:Hid (∀W,Below w.heap.size w W->Calls Tryz.prog 154 #[.slice px lx cx,.slice py ly cy] W (DivdP W (digs x.natAbs) (digs y.natAbs))):=
   hIq fun W hb=>divided_any _ _ _ _ _ _ _ _ W (Rdi_below hb hx0.2.2.1) (Rdi_below hb hy0.2.2.1) hx0.2.1 hy0.2.1 (Dg_digs _) (Dg_digs _) hlx hly (by omega) (by omega)
  have hx:=hIq hx0;have hyy:=hIq hy0;have hy':=hIq hy;have t1:((ly:Int)==0)=false:=by simp;omega
  clear hx0 hy0 hy hyt hytd;cases nx
  ·go_enter Tryz.func145,Tryz.ntmps145
   go_upto_if 11 with fail
   generalize(((w.alloc (.cells #[.bool false,.slice px lx cx] 28)).alloc (.cells #[.bool ny,.slice py ly cy] 28)).alloc (.cells #[.bool false,.slice none 0 0] 28)).alloc (.cells #[.bool false,.slice none 0 0] 28)=W0 at hS0 ⊢;have hS1:=hS0.out;have hf:=hS1.in_
   go_wp2_with (go_at_call 154;refine(hdv.out _ hS1.2.2.2.2).mono ?_;rintro e w1 ⟨p1,n1,q,h,m,r,rfl,hq1,hq2,hq3,hh,hr1,hr2,hb1,hn1,hm1,hm2,hdq⟩;have hA:Hid (DvA w false px lx cx ny py ly cy p1 n1 n1 q (some ⟨h,0,none⟩) (tlen r) m (r.take (tlen r)) w1):=(by
    refine hIq ⟨hS1.later hb1,hq1,hq2,Nat.le_refl _,?_,hdq.1,fun b hb=>?_,Rdi_blk_take hr1 _,?_,?_,?_,hdq.2.1.take _,fun b hb=>?_⟩
    ·have:=hx.out.2.1;omega
    ·have:=hq3 b hb;have:=hS1.top;omega
    ·rw [List.length_take];have:=tlen_le r;omega
    ·have:=tlen_le r;omega
    ·have:=hx.out.2.1;omega
    ·cases hb;have:=hS1.top;show _<h;omega);have htr:Hid (Calls Tryz.prog 137 #[.slice (some ⟨h,0,none⟩) m m] w1 fun e w'=>e= .returned (.slice (some ⟨h,0,none⟩) (tlen r) m)/\w1=w'):=hIq (trimmed_any _ _ _ r w1 hr1.rdi hr2.symm (Nat.le_refl _) (by have:=hx.out.2.1;omega));have hdq':=hIq hdq;have hr2':=hIq hr2;have hm1':=hIq hm1;have hn1':=hIq hn1;clear hq1 hq2 hq3 hr1 hr2 hdq hn1 hm1 hm2 hb1 hf)
   have hrv:Hid (val (r.take (tlen r))=val r/\(tlen r=0->val r=0)/\(tlen r≠0->0<val r)/\(r.take (tlen r)).length=tlen r):=hIq ⟨by rw [take_tlen hdq'.out.2.1,val_digs,Int.toNat_of_nonneg hdq'.out.2.1.lo],fun h0=>tlen_zero hdq'.out.2.1 h0,fun h0=>tlen_pos hdq'.out.2.1 h0,hA.out.2.2.2.2.2.2.2.2.1⟩;have hmath:=div_math (x:=x) (y:=y) (q:=val q) (r:=val r) hy'.out (divq_nat hdq'.out).1 (divq_nat hdq'.out).2.1 (divq_nat hdq'.out).2.2.1;have hmt:=hIq hmath;clear hmath
   have hval:Hid (sg (false !=ny) (val q)=dq x y/\val (r.take (tlen r))=dr x y):=hIq (by
    have hnx:¬x<0:=by have:=hx.out.1;simpa using this.symm
    have hm:=hmt.out.2 (fun h0=>hnx h0.1);rw [hm.1,hm.2,hrv.out.1,dF hnx,hyy.out.1]
    exact⟨rfl,rfl⟩)
   generalize hrr:r.take (tlen r)=rr at hA hval;have hrr':=hIq hrr;have htl:Hid (rr.length=tlen r):=hIq (by rw [<-hrr];exact hrv.out.2.2.2);clear hrr;generalize tlen r=k at hA htr htl;have hf7:=hA.out.1.in_;go_wp2_with (go_at_call 137;refine htr.out.mono ?_;rintro e w' ⟨rfl,rfl⟩)
   refine(made_any _ p1 n1 n1 q w1 hA.out.2.1 hA.out.2.2.1.symm hA.out.2.2.2.1 (by have:=hA.out.2.2.2.2.1;omega) hA.out.2.2.2.2.2.1).mono ?_
   rintro e w8 ⟨nb8,p8,n8,c8,rfl,hI8,hb8,hp8⟩
   have hA8:=hIq (hA.out.later hb8);have hI8':=hIq hI8;have hp8':Hid (∀b,p8=some b->w.heap.size+1+1+1<b.block):=hIq fun b hb=>hA.out.2.2.2.2.2.2.1 b (hp8 b hb)
   clear hI8 hb8 hp8 hf7;go_wp2_with fail
   refine(made_any _ (some ⟨h,0,none⟩) k m rr w8 hA8.out.2.2.2.2.2.2.2.1 hA8.out.2.2.2.2.2.2.2.2.1.symm hA8.out.2.2.2.2.2.2.2.2.2.1 (by have:=hA8.out.2.2.2.2.2.2.2.2.2.2.1;omega) hA8.out.2.2.2.2.2.2.2.2.2.2.2.1).mono ?_
   rintro e w9 ⟨nb9,p9,n9,c9,rfl,hI9,hb9,hp9⟩
   have hA9:=hA8.out.1.later hb9;have hf9:=hA9.out;have hfin:=hIq (hA9.ret (hI8'.out.later hb9) hI9 hp8'.out (fun b hb=>hA8.out.2.2.2.2.2.2.2.2.2.2.2.2 b (hp9 b hb)) (by rw [<-hval.out.1];cases ny<;>rfl:_=dq x y) (by rw [<-hval.out.2];rfl:_=dr x y));clear hI9 hb9 hp9;go_wp2_with fail
   exact bodyPost_ret (v:= .tuple #[.agg #[.bool nb8,.slice p8 n8 c8],.agg #[.bool nb9,.slice p9 n9 c9]]) (results_cell2 rfl _ _ (w.heap.size+1+1) (w.heap.size+1+1+1) 28 _ _ (0,0) (0,0) _ rfl rfl (hA9.res _ _ _ _).1 (hA9.res _ _ _ _).2 Tryz.underlying28 rfl size_Int size_Int) rfl hfin.out
  ·go_enter Tryz.func145,Tryz.ntmps145
   go_upto_if 11 with fail
   generalize(((w.alloc (.cells #[.bool true,.slice px lx cx] 28)).alloc (.cells #[.bool ny,.slice py ly cy] 28)).alloc (.cells #[.bool false,.slice none 0 0] 28)).alloc (.cells #[.bool false,.slice none 0 0] 28)=W0 at hS0 ⊢;have hS1:=hS0.out;have hf:=hS1.in_
   go_wp2_with (go_at_call 154;refine(hdv.out _ hS1.2.2.2.2).mono ?_;rintro e w1 ⟨p1,n1,q,h,m,r,rfl,hq1,hq2,hq3,hh,hr1,hr2,hb1,hn1,hm1,hm2,hdq⟩;have hA:Hid (DvA w true px lx cx ny py ly cy p1 n1 n1 q (some ⟨h,0,none⟩) (tlen r) m (r.take (tlen r)) w1):=(by
    refine hIq ⟨hS1.later hb1,hq1,hq2,Nat.le_refl _,?_,hdq.1,fun b hb=>?_,Rdi_blk_take hr1 _,?_,?_,?_,hdq.2.1.take _,fun b hb=>?_⟩
    ·have:=hx.out.2.1;omega
    ·have:=hq3 b hb;have:=hS1.top;omega
    ·rw [List.length_take];have:=tlen_le r;omega
    ·have:=tlen_le r;omega
    ·have:=hx.out.2.1;omega
    ·cases hb;have:=hS1.top;show _<h;omega);have htr:Hid (Calls Tryz.prog 137 #[.slice (some ⟨h,0,none⟩) m m] w1 fun e w'=>e= .returned (.slice (some ⟨h,0,none⟩) (tlen r) m)/\w1=w'):=hIq (trimmed_any _ _ _ r w1 hr1.rdi hr2.symm (Nat.le_refl _) (by have:=hx.out.2.1;omega));have hdq':=hIq hdq;have hr2':=hIq hr2;have hm1':=hIq hm1;have hn1':=hIq hn1;clear hq1 hq2 hq3 hr1 hr2 hdq hn1 hm1 hm2 hb1 hf)
   have hrv:Hid (val (r.take (tlen r))=val r/\(tlen r=0->val r=0)/\(tlen r≠0->0<val r)/\(r.take (tlen r)).length=tlen r):=hIq ⟨by rw [take_tlen hdq'.out.2.1,val_digs,Int.toNat_of_nonneg hdq'.out.2.1.lo],fun h0=>tlen_zero hdq'.out.2.1 h0,fun h0=>tlen_pos hdq'.out.2.1 h0,hA.out.2.2.2.2.2.2.2.2.1⟩;have hmath:=div_math (x:=x) (y:=y) (q:=val q) (r:=val r) hy'.out (divq_nat hdq'.out).1 (divq_nat hdq'.out).2.1 (divq_nat hdq'.out).2.2.1;have hmt:=hIq hmath;clear hmath;by_cases hk0:tlen r=0
   ·have hval:Hid (sg (true !=ny) (val q)=dq x y/\val (r.take (tlen r))=dr x y):=hIq (by
     have hnx:x<0:=by have:=hx.out.1;simpa using this.symm
     have hm:=hmt.out.2 (fun h0=>by have:=hrv.out.2.1 hk0;omega);rw [hm.1,hm.2,hrv.out.1,dT hnx,hyy.out.1]
     exact⟨rfl,rfl⟩)
    generalize hrr:r.take (tlen r)=rr at hA hval;have hrr':=hIq hrr;clear hrr;rw [hk0] at hA htr;clear hk0;have hf7:=hA.out.1.in_;go_wp2_with (go_at_call 137;refine htr.out.mono ?_;rintro e w' ⟨rfl,rfl⟩)
    refine(made_any _ p1 n1 n1 q w1 hA.out.2.1 hA.out.2.2.1.symm hA.out.2.2.2.1 (by have:=hA.out.2.2.2.2.1;omega) hA.out.2.2.2.2.2.1).mono ?_
    rintro e w8 ⟨nb8,p8,n8,c8,rfl,hI8,hb8,hp8⟩
    have hA8:=hIq (hA.out.later hb8);have hI8':=hIq hI8;have hp8':Hid (∀b,p8=some b->w.heap.size+1+1+1<b.block):=hIq fun b hb=>hA.out.2.2.2.2.2.2.1 b (hp8 b hb)
    clear hI8 hb8 hp8 hf7;go_wp2_with fail
    refine(made_any _ (some ⟨h,0,none⟩) 0 m rr w8 hA8.out.2.2.2.2.2.2.2.1 hA8.out.2.2.2.2.2.2.2.2.1.symm hA8.out.2.2.2.2.2.2.2.2.2.1 (by have:=hA8.out.2.2.2.2.2.2.2.2.2.2.1;omega) hA8.out.2.2.2.2.2.2.2.2.2.2.2.1).mono ?_
    rintro e w9 ⟨nb9,p9,n9,c9,rfl,hI9,hb9,hp9⟩
    have hA9:=hA8.out.1.later hb9;have hf9:=hA9.out;have hfin:=hIq (hA9.ret (hI8'.out.later hb9) hI9 hp8'.out (fun b hb=>hA8.out.2.2.2.2.2.2.2.2.2.2.2.2 b (hp9 b hb)) (by rw [<-hval.out.1];cases ny<;>rfl:_=dq x y) (by rw [<-hval.out.2];rfl:_=dr x y));clear hI9 hb9 hp9;go_wp2_with fail
    exact bodyPost_ret (v:= .tuple #[.agg #[.bool nb8,.slice p8 n8 c8],.agg #[.bool nb9,.slice p9 n9 c9]]) (results_cell2 rfl _ _ (w.heap.size+1+1) (w.heap.size+1+1+1) 28 _ _ (0,0) (0,0) _ rfl rfl (hA9.res _ _ _ _).1 (hA9.res _ _ _ _).2 Tryz.underlying28 rfl size_Int size_Int) rfl hfin.out
   ·have hrp:0<val r:=hrv.out.2.2.1 hk0
    have hval:Hid (sg (true !=ny) (val q+1)=dq x y/\val (digs y.natAbs) - val (r.take (tlen r))=dr x y):=hIq (by
     have hnx:x<0:=by have:=hx.out.1;simpa using this.symm
     have hm:=hmt.out.1 hnx hrp;rw [hm.1,hm.2,hrv.out.1,dT hnx,hyy.out.1,val_digs]
     exact⟨rfl,rfl⟩)
    have hrlt:Hid (val (r.take (tlen r))<(y.natAbs:Int)):=hIq (by rw [hrv.out.1];exact(divq_nat hdq'.out).2.2.1);generalize hrr:r.take (tlen r)=rr at hA hval hrlt;have hrr':=hIq hrr;clear hrr hrp;generalize tlen r=k at hA htr hk0;have hk1:0<(k:Int):=by omega
    have hf7:=hA.out.1.in_
    go_upto_region 1 with(go_at_call 137;refine htr.out.mono ?_;rintro e w' ⟨rfl,rfl⟩)
    go_cut [6,7] (fun s6 s7 wx=>DvC w px lx cx ny py ly cy x y s6 s7 wx)
    case first=>
     have hsum:Hid (∀W g,Below w1.heap.size w1 W->Blk W g [1]->Calls Tryz.prog 146 #[.slice p1 n1 n1,.slice (some ⟨g,0,none⟩) 1 1] W (NewI W (SumP q [1]))):=hIq fun W g hb hB=>
      sum_any _ _ _ _ 1 _ q [1] W (Rdi_below hb hA.out.2.1) hB.rdi hA.out.2.2.1.symm rfl hA.out.2.2.2.2.2.1 (Dg_cons (by omega) (by omega) Dg_nil) (by have:=hn1'.out;have:=hx.out.2.1;omega) (by omega)
     have hdif:Hid (∀W,Below w1.heap.size w1 W->Calls Tryz.prog 147 #[.slice py ly cy,.slice (some ⟨h,0,none⟩) k m] W (NewI W (DifP (digs y.natAbs) rr))):=hIq fun W hb=>
      difference_any _ _ _ _ _ _ _ _ W (Rdi_below (below_tr (hA.out.1.2.2.2.2) hb) hyy.out.2.2.1) (Rdi_below hb hA.out.2.2.2.2.2.2.2.1) hyy.out.2.1 hA.out.2.2.2.2.2.2.2.2.1.symm (Dg_digs _) hA.out.2.2.2.2.2.2.2.2.2.2.2.1 (by omega) (by
       rw [<-hA.out.2.2.2.2.2.2.2.2.1,hyy.out.2.1,<-hrr'.out];rw [take_tlen hdq'.out.2.1]
       exact digs_len_mono (by have:=hrlt.out;rw [<-hrr'.out,hrv.out.1] at this;omega)) (by rw [val_digs];exact Int.le_of_lt hrlt.out)
     have t1:Below w1.heap.size w1 w1.drew:=below_drewN (Below.refl _ _) 1;have t2:Below w1.heap.size w1 (w1.alloc (.cells #[.int .i64 1] 3)).drew:=below_drewN (below_new _ _) 1;have tB:Hid (Blk (w1.alloc (.cells #[.int .i64 1] 3)).drew w1.heap.size [1]):=hIq (Blk_new w1 [1]);clear t1;have t1:=hIq (show Below w1.heap.size w1 w1.drew from below_drewN (Below.refl _ _) 1);have t2':=hIq t2;have hz1:w.heap.size+1<w1.heap.size:=by have:=hA.out.1.top;omega
     clear t2;have hqb:Hid (q.length<=549755813887):=hIq (by have:=hA.out.2.2.1;have:=hn1'.out;have:=hx.out.2.1;omega);have hyb:Hid ((digs y.natAbs).length<=549755813887):=hIq (by have:=hyy.out.2.1;omega)
     go_region_with (first
      |(go_at_call 146;(first|(with_reducible refine(hsum.out _ _ t2'.out tB.out).mono ?_)|(with_reducible refine(hsum.out _ _ (below_tr t2'.out hbd.out) (tB.out.later hbd.out)).mono ?_)|(with_reducible refine(hsum.out _ _ (below_tr (below_tr t1.out hbd.out) (below_new _ _)) (Blk_new _ [1])).mono ?_));rintro e wS ⟨gs,ns,zs,rfl,hgs,hzs,hbs0,hns,hPs⟩;try (have cS:=(hA.out.1.later (below_tr t2'.out hbs0)).in_.2.2.2);have hbs:=hIq hbs0;have hzs':=hIq hzs;have hns':=hIq hns;have hPs':=hIq hPs;clear hbs0 hzs hns hPs)
      |(go_at_call 147;(first|(with_reducible refine(hdif.out _ t1.out).mono ?_)|(with_reducible refine(hdif.out _ t2'.out).mono ?_)|(with_reducible refine(hdif.out _ (below_tr t2'.out hbs.out)).mono ?_));rintro e wD ⟨gd,nd,zd,rfl,hgd,hzd,hbd0,hnd,hPd⟩;have hbd:=hIq hbd0;have hzd':=hIq hzd;have hnd':=hIq hnd;have hPd':=hIq hPd;clear hbd0 hzd hnd hPd))
     all_goals (go_wp2_with fail;go_meet;first
      |exact dvc_mk hA.out (below_tr (below_tr t2'.out hbs.out) hbd.out) (Nat.le_trans t2'.out.size hgs) (hzs'.out.later hbd.out) hns'.out hPs'.out hqb.out (Nat.le_trans (Nat.le_trans t2'.out.size hbs.out.size) hgd) hzd'.out hnd'.out hPd'.out hyb.out hval.out.1 hval.out.2
      |exact dvc_mk hA.out (below_tr (below_tr t2'.out hbd.out) hbs.out) (Nat.le_trans (Nat.le_trans t2'.out.size hbd.out.size) hgs) hzs'.out hns'.out hPs'.out hqb.out (Nat.le_trans t2'.out.size hgd) (hzd'.out.later hbs.out) hnd'.out hPd'.out hyb.out hval.out.1 hval.out.2
      |exact dvc_mk hA.out (below_tr (below_tr (below_tr t1.out hbd.out) (below_new _ _)) hbs.out) (Nat.le_trans (Nat.le_trans (Nat.le_trans t1.out.size hbd.out.size) (below_new _ _).size) hgs) hzs'.out hns'.out hPs'.out hqb.out (Nat.le_trans t1.out.size hgd) (hzd'.out.later (below_tr (below_new _ _) hbs.out)) hnd'.out hPd'.out hyb.out hval.out.1 hval.out.2)
    case rest=>
     obtain⟨p1,n1,q,p2,n2,rr,rfl,rfl,hA0,x1,x2⟩:=hcut;have hA:=hIq hA0;have hval:Hid (sg (true !=ny) (val q)=dq x y/\val rr=dr x y):=hIq ⟨x1,x2⟩;clear hA0 x1 x2;have hf7:=hA.out.1.in_;go_wp2_with fail
     refine(made_any _ p1 n1 n1 q wc hA.out.2.1 hA.out.2.2.1.symm hA.out.2.2.2.1 (by have:=hA.out.2.2.2.2.1;omega) hA.out.2.2.2.2.2.1).mono ?_
     rintro e w8 ⟨nb8,p8,n8,c8,rfl,hI8,hb8,hp8⟩
     have hA8:=hIq (hA.out.later hb8);have hI8':=hIq hI8;have hp8':Hid (∀b,p8=some b->w.heap.size+1+1+1<b.block):=hIq fun b hb=>hA.out.2.2.2.2.2.2.1 b (hp8 b hb)
     clear hI8 hb8 hp8 hf7;go_wp2_with fail
     refine(made_any _ p2 n2 n2 rr w8 hA8.out.2.2.2.2.2.2.2.1 hA8.out.2.2.2.2.2.2.2.2.1.symm hA8.out.2.2.2.2.2.2.2.2.2.1 (by have:=hA8.out.2.2.2.2.2.2.2.2.2.2.1;omega) hA8.out.2.2.2.2.2.2.2.2.2.2.2.1).mono ?_
     rintro e w9 ⟨nb9,p9,n9,c9,rfl,hI9,hb9,hp9⟩
     have hA9:=hA8.out.1.later hb9;have hf9:=hA9.out;have hfin:=hIq (hA9.ret (hI8'.out.later hb9) hI9 hp8'.out (fun b hb=>hA8.out.2.2.2.2.2.2.2.2.2.2.2.2 b (hp9 b hb)) (by rw [<-hval.out.1];cases ny<;>rfl:_=dq x y) (by rw [<-hval.out.2];rfl:_=dr x y));clear hI9 hb9 hp9;go_wp2_with fail
     exact bodyPost_ret (v:= .tuple #[.agg #[.bool nb8,.slice p8 n8 c8],.agg #[.bool nb9,.slice p9 n9 c9]]) (results_cell2 rfl _ _ (w.heap.size+1+1) (w.heap.size+1+1+1) 28 _ _ (0,0) (0,0) _ rfl rfl (hA9.res _ _ _ _).1 (hA9.res _ _ _ _).2 Tryz.underlying28 rfl size_Int size_Int) rfl hfin.out
theorem pw3:pw 3=1000000000000000000000000000:=by decide
abbrev VP:=Value->World->Prop
def Vz (N:Nat)(z:Int):VP:=fun v W=>∃nb p n c,v= .agg #[.bool nb,.slice p n c]/\IntAt W nb p n c z/\n<=N
def Vb (b:Bool):VP:=fun v _=>v= .bool b
def Vi (i:Int):VP:=fun v _=>v= .int .i64 i
def VT:VP:=fun _ _=>True
def RV (V:VP)(W:World)(e:Ending)(w':World):Prop:=∃v,e= .returned v/\V v w'/\Below W.heap.size W w'
theorem run_pick_t {P:Program}{ρ:Operand->Value}{o:Oper}{W:World}{c x y:Operand}(ho:o.op= .pick c x y)(hc:ρ c= .bool true):(execOp ρ o).run P W= .ok (.value (ρ x)) W:=by
 simp [execOp,ho,hc,asBool]
theorem run_pick_f {P:Program}{ρ:Operand->Value}{o:Oper}{W:World}{c x y:Operand}(ho:o.op= .pick c x y)(hc:ρ c= .bool false):(execOp ρ o).run P W= .ok (.value (ρ y)) W:=by
 simp [execOp,ho,hc,asBool]
theorem run_not {ρ:Operand->Value}{o:Oper}{W:World}{t:TypeId}{x:Operand}{b:Bool}(ho:o.op= .unOp .not t x)(hx:ρ x= .bool b):(execOp ρ o).run Tryz.prog W= .ok (.value (.bool (!b))) W:=by
 obtain⟨d,op,ty,ps,af,gd⟩:=o;subst ho;cases b<;>go_simp
theorem run_move {P:Program}{ρ:Operand->Value}{o:Oper}{W:World}{x:Operand}(ho:o.op= .move x):(execOp ρ o).run P W= .ok (.value (ρ x)) W:=by
 obtain⟨d,op,ty,ps,af,gd⟩:=o;subst ho;rfl
theorem run_assign {P:Program}{ρ:Operand->Value}{o:Oper}{W:World}{x:Operand}(ho:o.op= .assign x):(execOp ρ o).run P W= .ok (.value (ρ x)) W:=by
 obtain⟨d,op,ty,ps,af,gd⟩:=o;subst ho;rfl
theorem run_eqi {ρ:Operand->Value}{o:Oper}{W:World}{x y:Operand}{a b:Int}(ho:o.op= .binOp .eql 3 x y 3)(hx:ρ x= .int .i64 a)(hy:ρ y= .int .i64 b):(execOp ρ o).run Tryz.prog W= .ok (.value (.bool (a==b))) W:=by
 obtain⟨d,op,ty,ps,af,gd⟩:=o;subst ho
 go_simp
theorem dl_add (a b:Int)(Na Nb:Nat)(ha:(digs a.natAbs).length<=Na)(hb:(digs b.natAbs).length<=Nb):(digs (a+b).natAbs).length<=max Na Nb+1:=by
 apply digs_len_le;have h1:=lt_pw a.natAbs;have h2:=lt_pw b.natAbs;have h3:=pw_mono (show(digs a.natAbs).length<=max Na Nb by omega);have h4:=pw_mono (show(digs b.natAbs).length<=max Na Nb by omega);show _<1000000000*pw (max Na Nb);omega
theorem dl_mul (a b:Int)(Na Nb:Nat)(ha:(digs a.natAbs).length<=Na)(hb:(digs b.natAbs).length<=Nb):(digs (a*b).natAbs).length<=Na+Nb:=by
 apply digs_len_le;have h1:=lt_pw a.natAbs;have h2:=lt_pw b.natAbs;have h3:=pw_mono ha;have h4:=pw_mono hb;have h5:=pw_pos Na;rw [Int.natAbs_mul,pw_add];have h6:(a.natAbs:Int)*(b.natAbs:Int)<=(a.natAbs:Int)*pw Nb:=Int.mul_le_mul_of_nonneg_left (by omega) (by omega);have h7:(a.natAbs:Int)*pw Nb<pw Na*pw Nb:=Int.mul_lt_mul_of_pos_right (by omega) (by have:=pw_pos Nb;omega);simp only [Int.natCast_mul];omega
theorem retI_vz {w w':World}{z:Int}{N:Nat}{e:Ending}(h:RetI w z e w')(hN:(digs z.natAbs).length<=N):RV (Vz N z) w e w':=by
 obtain⟨nb,p,n,c,rfl,hI,hb,_⟩:=h;exact⟨_,rfl,⟨nb,p,n,c,rfl,hI,by rw [hI.2.1];exact hN⟩,hb⟩
section
variable {W:World}{Na Nb:Nat}{a b:Int}{v1 v2:Value}
theorem cAdd (h1:Vz Na a v1 W)(h2:Vz Nb b v2 W)(hN1:Na<=1000000:=by omega)(hN2:Nb<=1000000:=by omega):Calls Tryz.prog 135 #[v1,v2] W (RV (Vz (max Na Nb+1) (a+b)) W):=by
 obtain⟨nb,p,n,c,rfl,hI,hn⟩:=h1;obtain⟨nb2,p2,n2,c2,rfl,hI2,hn2⟩:=h2;exact(Add_any _ _ _ _ _ _ _ _ a b W hI.z hI2.z (by omega) (by omega)).mono fun e w' h=>retI_vz h (dl_add a b Na Nb (by rw [<-hI.2.1];exact hn) (by rw [<-hI2.2.1];exact hn2))
theorem cMul (h1:Vz Na a v1 W)(h2:Vz Nb b v2 W)(hN1:Na<=1000000:=by omega)(hN2:Nb<=1000000:=by omega):Calls Tryz.prog 73 #[v1,v2] W (RV (Vz (Na+Nb) (a*b)) W):=by
 obtain⟨nb,p,n,c,rfl,hI,hn⟩:=h1;obtain⟨nb2,p2,n2,c2,rfl,hI2,hn2⟩:=h2;exact(Mul_any _ _ _ _ _ _ _ _ a b W hI hI2 (by omega) (by omega)).mono fun e w' h=>retI_vz h (dl_mul a b Na Nb (by rw [<-hI.2.1];exact hn) (by rw [<-hI2.2.1];exact hn2))
theorem cNeg (h1:Vz Na a v1 W)(hN1:Na<=1000000:=by omega):Calls Tryz.prog 60 #[v1] W (RV (Vz Na (-a)) W):=by
 obtain⟨nb,p,n,c,rfl,hI,hn⟩:=h1;exact(Neg_any _ _ _ _ a W hI.z (by omega)).mono fun e w' h=>retI_vz h (by rw [Int.natAbs_neg,<-hI.2.1];exact hn)
theorem cCompare (h1:Vz Na a v1 W)(h2:Vz Nb b v2 W)(hN1:Na<=1000000:=by omega)(hN2:Nb<=1000000:=by omega):Calls Tryz.prog 72 #[v1,v2] W (RV (Vi (cmpI a b)) W):=by
 obtain⟨nb,p,n,c,rfl,hI,hn⟩:=h1;obtain⟨nb2,p2,n2,c2,rfl,hI2,hn2⟩:=h2;exact(Compare_any _ _ _ _ _ _ _ _ a b W hI hI2 (by omega) (by omega)).mono fun e w' h=>⟨_,h.1,rfl,h.2⟩
theorem cSign (h1:Vz Na a v1 W)(hN1:Na<=1000000:=by omega):Calls Tryz.prog 66 #[v1] W (RV (Vi (cmpI a 0)) W):=by
 obtain⟨nb,p,n,c,rfl,hI,hn⟩:=h1;exact(Sign_any _ _ _ _ a W hI (by omega)).mono fun e w' h=>⟨_,h.1,rfl,h.2⟩
theorem cOf (n:Int)(h1: -9223372036854775808<=n:=by omega)(h2:n<=9223372036854775807:=by omega):Calls Tryz.prog 104 #[.int .i64 n] W (RV (Vz 3 n) W):=
 (Of_any n h1 h2 W).mono fun e w' h=>retI_vz h (digs_len_le (by rw [pw3];omega))
theorem cROf (n:Int)(h1: -9223372036854775808<=n:=by omega)(h2:n<=9223372036854775807:=by omega):Calls Tryz.prog 82 #[.int .i64 n] W (RV (Vz 3 n) W):=
 (rOf_any n h1 h2 W).mono fun e w' h=>by
  refine retI_vz ?_ (digs_len_le (by rw [pw3];omega));exact h
end
end Go.Proofs.YteacdbgalloaiaaGreat
