/- Contracts of the packages integer, rat, plane, polygon and their references. -/
import Derived.Test.YteacdbgalloaiaaGreatH10
set_option linter.unusedVariables false
set_option maxRecDepth 100000
set_option maxHeartbeats 6400000
namespace Go.Proofs.YteacdbgalloaiaaGreat
open Go.RowKit
section
variable {BT:List (TypeId×Nat×Nat)}
theorem eval_const (a:Act)(v:Value):a.eval (.const v)=v:=rfl
def VTup (A B:VP):VP:=fun v w=>∃x y,v= .tuple #[x,y]/\A x w/\B y w
theorem Stab_VTup {A B:VP}(hA:Stab BT A)(hB:Stab BT B):Stab BT (VTup A B):=fun _ _ _ ⟨x,y,h1,h2,h3⟩ hr=>⟨x,y,h1,hA _ _ _ h2 hr,hB _ _ _ h3 hr⟩
theorem RV2.tup {A B:VP}{W:World}{e:Ending}{w':World}(h:RV2 A B W e w'):RV (VTup A B) W e w':=by
 obtain⟨x,y,h1,h2,h3,h4⟩:=h;exact⟨_,h1,⟨x,y,rfl,h2,h3⟩,h4⟩
theorem agg_box {m:Nat}{V:VP}(hV:AggV m V){ρ v:Value}{w:World}(h1:ρ=v)(h2:V v w):∃z,ρ= .agg z/\z.size=m/\NoInt z/\V (.agg z) w:=by
 obtain⟨cs,rfl,e1,e2,-⟩:=hV _ _ h2;exact⟨cs,h1,e1,e2,h2⟩
theorem agg_store {m:Nat}{V:VP}(hV:AggV m V){ρ v:Value}{w:World}(h1:ρ=v)(h2:V v w):∃z,ρ= .agg z/\z.size=m/\NoInt z/\z.all (·.oneCell')=true/\V (.agg z) w:=by
 obtain⟨cs,rfl,e1,e2,e3⟩:=hV _ _ h2;exact⟨cs,h1,e1,e2,e3,h2⟩
theorem listed_dep {md:Region.Mode}{listed:Array Bool}{after:Array Edge}(D:∀e∈after,Region.binds md e=true->listed.getD e.on false=true)(j:Nat)(hj:after.any (fun e=>e.on==j && Region.binds md e)=true):onb listed (some j)=true:=by
 obtain⟨e,he,hb⟩:∃e,e∈after/\(e.on==j && Region.binds md e)=true:=by
  rw [Array.any_eq_true] at hj;obtain⟨i,hi,h1⟩:=hj;exact⟨after[i],Array.getElem_mem hi,h1⟩
 simp only [Bool.and_eq_true,beq_iff_eq] at hb;obtain⟨rfl,hb⟩:=hb;exact D e he hb
theorem run_extract0 {P:Program}{ρ:Operand->Value}{o:Oper}{W:World}{x:Operand}{a b:Value}(ho:o.op= .extract x 0)(hx:ρ x= .tuple #[a,b]):(execOp ρ o).run P W= .ok (.value a) W:=by
 obtain⟨d,op,ty,ps,af,gd⟩:=o;subst ho
 go_simp
theorem run_extract1 {P:Program}{ρ:Operand->Value}{o:Oper}{W:World}{x:Operand}{a b:Value}(ho:o.op= .extract x 1)(hx:ρ x= .tuple #[a,b]):(execOp ρ o).run P W= .ok (.value b) W:=by
 obtain⟨d,op,ty,ps,af,gd⟩:=o;subst ho
 go_simp
theorem run_neqi {ρ:Operand->Value}{o:Oper}{W:World}{x y:Operand}{a b:Int}(ho:o.op= .binOp .neq 3 x y 3)(hx:ρ x= .int .i64 a)(hy:ρ y= .int .i64 b):(execOp ρ o).run Tryz.prog W= .ok (.value (.bool (a !=b))) W:=by
 obtain⟨d,op,ty,ps,af,gd⟩:=o;subst ho
 go_simp
theorem run_lssi {ρ:Operand->Value}{o:Oper}{W:World}{x y:Operand}{a b:Int}(ho:o.op= .binOp .lss 3 x y 3)(hx:ρ x= .int .i64 a)(hy:ρ y= .int .i64 b):(execOp ρ o).run Tryz.prog W= .ok (.value (.bool (decide (a<b)))) W:=by
 obtain⟨d,op,ty,ps,af,gd⟩:=o;subst ho
 go_simp
theorem run_gtri {ρ:Operand->Value}{o:Oper}{W:World}{x y:Operand}{a b:Int}(ho:o.op= .binOp .gtr 3 x y 3)(hx:ρ x= .int .i64 a)(hy:ρ y= .int .i64 b):(execOp ρ o).run Tryz.prog W= .ok (.value (.bool (decide (b<a)))) W:=by
 obtain⟨d,op,ty,ps,af,gd⟩:=o;subst ho
 go_simp
theorem run_geqi {ρ:Operand->Value}{o:Oper}{W:World}{x y:Operand}{a b:Int}(ho:o.op= .binOp .geq 3 x y 3)(hx:ρ x= .int .i64 a)(hy:ρ y= .int .i64 b):(execOp ρ o).run Tryz.prog W= .ok (.value (.bool (decide (b<=a)))) W:=by
 obtain⟨d,op,ty,ps,af,gd⟩:=o;subst ho
 go_simp
theorem run_leqi {ρ:Operand->Value}{o:Oper}{W:World}{x y:Operand}{a b:Int}(ho:o.op= .binOp .leq 3 x y 3)(hx:ρ x= .int .i64 a)(hy:ρ y= .int .i64 b):(execOp ρ o).run Tryz.prog W= .ok (.value (.bool (decide (a<=b)))) W:=by
 obtain⟨d,op,ty,ps,af,gd⟩:=o;subst ho
 go_simp
theorem run_addi {ρ:Operand->Value}{o:Oper}{W:World}{x y:Operand}{a b c:Int}(ho:o.op= .binOp .add 3 x y 3)(hx:ρ x= .int .i64 a)(hy:ρ y= .int .i64 b)(hc:IntKind.i64.wrap (a+b)=c):(execOp ρ o).run Tryz.prog W= .ok (.value (.int .i64 c)) W:=by
 obtain⟨d,op,ty,ps,af,gd⟩:=o;subst ho
 go_simp
theorem field_Rat0 (g off:Nat)(W:World):(Instr.fieldAt 30 (.pointer (some ⟨g,off,none⟩)) 0).run Tryz.prog W= .ok (.pointer (some ⟨g,off+0,none⟩)) W:=by go_simp
theorem field_Rat1 (g off:Nat)(W:World):(Instr.fieldAt 30 (.pointer (some ⟨g,off,none⟩)) 1).run Tryz.prog W= .ok (.pointer (some ⟨g,off+2,none⟩)) W:=by go_simp
theorem alloc_Int (W:World):(Instr.alloc 28 true (.tuple #[])).run Tryz.prog W= .ok (.pointer (some ⟨W.heap.size,0,none⟩)) (W.alloc (.cells #[.bool false,.slice none 0 0] 28)):=by go_simp
theorem alloc_Rat (W:World):(Instr.alloc 30 true (.tuple #[])).run Tryz.prog W= .ok (.pointer (some ⟨W.heap.size,0,none⟩)) (W.alloc (.cells #[.bool false,.slice none 0 0,.bool false,.slice none 0 0] 30)):=by go_simp
theorem noint_of {cs:Array Value}(h:cs.all (fun v=>match v with| .int .i64 _=>false|_=>true)=true):NoInt cs:=fun i x hx=>by
 rw [Array.all_eq_true] at h
 have hi:i<cs.size:=by
  rcases Nat.lt_or_ge i cs.size with h'|h'
  ·exact h'
  ·rw [Array.getElem?_eq_none h'] at hx;cases hx
 have h1:=h i hi;rw [Array.getElem?_eq_getElem hi] at hx;have h2:cs[i]=Value.int .i64 x:=by simpa using hx
 rw [h2] at h1;cases h1
theorem noint_Int:NoInt #[Value.bool false,.slice none 0 0]:=noint_of (by simp)
theorem noint_Rat:NoInt #[Value.bool false,.slice none 0 0,.bool false,.slice none 0 0]:=noint_of (by simp)
theorem arr2 {x:Array Value}(h:x.size=2):∃a b,x=#[a,b]:=by
 match x,h with
 |⟨[a,b]⟩,_=>exact⟨a,b,rfl⟩
theorem arr4 {x:Array Value}(h:x.size=4):∃a b c d,x=#[a,b,c,d]:=by
 match x,h with
 |⟨[a,b,c,d]⟩,_=>exact⟨a,b,c,d,rfl⟩
theorem build_Rat {ρ:Operand->Value}{o:Oper}{W:World}{x y:Operand}{va vb:Value}{A B:VP}(ho:o.op= .build 30 #[(0,x),(1,y)])(hx:ρ x=va)(hy:ρ y=vb)(hA:AggV 2 A)(hB:AggV 2 B)(h1:A va W)(h2:B vb W):∃v,(execOp ρ o).run Tryz.prog W= .ok (.value v) W/\VP2 2 2 A B v W:=by
 obtain⟨cx,rfl,e1,-⟩:=hA _ _ h1;obtain⟨cy,rfl,e2,-⟩:=hB _ _ h2;obtain⟨a,b,rfl⟩:=arr2 e1;obtain⟨c,d,rfl⟩:=arr2 e2;refine⟨.agg (#[a,b]++ #[c,d]),?_,⟨_,_,rfl,rfl,rfl,h1,h2⟩⟩;obtain⟨dd,op,ty,ps,af,gd⟩:=o;subst ho
 go_simp
theorem build_Rat1 {ρ:Operand->Value}{o:Oper}{W:World}{x:Operand}{va:Value}{A:VP}(N:Nat)(ho:o.op= .build 30 #[(0,x)])(hx:ρ x=va)(hA:AggV 2 A)(h1:A va W):∃v,(execOp ρ o).run Tryz.prog W= .ok (.value v) W/\VP2 2 2 A (Vz N 0) v W:=by
 obtain⟨cx,rfl,e1,-⟩:=hA _ _ h1;obtain⟨a,b,rfl⟩:=arr2 e1;refine⟨.agg (#[a,b]++ #[.bool false,.slice none 0 0]),?_,⟨_,_,rfl,rfl,rfl,h1,⟨_,_,_,_,rfl,IntAt_zero _ _ _ (by omega),by omega⟩⟩⟩;obtain⟨dd,op,ty,ps,af,gd⟩:=o;subst ho
 go_simp
theorem build_Rat0 {ρ:Operand->Value}{o:Oper}{W:World}(ho:o.op= .build 30 #[]):∃v,(execOp ρ o).run Tryz.prog W= .ok (.value v) W/\Vq 1 0 v W:=by
 refine⟨.agg (#[.bool false,.slice none 0 0]++ #[.bool false,.slice none 0 0]),?_,⟨_,_,rfl,rfl,rfl,⟨_,_,_,_,rfl,IntAt_zero _ _ _ (by omega),by omega⟩,⟨_,_,_,_,rfl,IntAt_zero _ _ _ (by omega),by omega⟩⟩⟩;obtain⟨dd,op,ty,ps,af,gd⟩:=o;subst ho
 go_simp
def VD (N:Nat)(e:Int):VP:=fun v w=>∃p n c,v= .slice p n c/\n=(digs e.natAbs).length/\Rdi w p (digs e.natAbs)/\n<=c/\c<=9223372036854775807/\n<=N
theorem Stab_VD (N:Nat)(e:Int):Stab BT (VD N e):=fun _ _ _ ⟨p,n,c,h1,h2,h3,h4⟩ hr=>⟨p,n,c,h1,h2,Rdi_RI hr h3,h4⟩
def VO (N:Nat)(e:Int):VP:=fun v w=>∃p n c l,v= .slice p n c/\n=l.length/\Rdi w p l/\n<=c/\c<=9223372036854775807/\Dg l/\val l=e/\n<=N
theorem Stab_VO (N:Nat)(e:Int):Stab BT (VO N e):=fun _ _ _ ⟨p,n,c,l,h1,h2,h3,h4⟩ hr=>⟨p,n,c,l,h1,h2,Rdi_RI hr h3,h4⟩
theorem field_Int0 (g off:Nat)(W:World):(Instr.fieldAt 28 (.pointer (some ⟨g,off,none⟩)) 0).run Tryz.prog W= .ok (.pointer (some ⟨g,off+0,none⟩)) W:=by go_simp
theorem vz_N {N:Nat}{z:Int}{cs:Array Value}{w:World}(h:Vz N z (.agg cs) w):∃v,cs[0]? =some v/\Vb (decide (z<0)) v w:=by
 obtain⟨nb,p,n,c,h1,h2,-⟩:=h;cases h1;exact⟨_,rfl,congrArg Value.bool h2.1⟩
theorem vz_NT {N:Nat}{z:Int}{cs:Array Value}{w:World}(h:Vz N z (.agg cs) w)(hz:z<0):∃v,cs[0]? =some v/\Vb true v w:=by
 obtain⟨v,h1,h2⟩:=vz_N h;rw [dT hz] at h2;exact⟨v,h1,h2⟩
theorem vz_NF {N:Nat}{z:Int}{cs:Array Value}{w:World}(h:Vz N z (.agg cs) w)(hz:¬z<0):∃v,cs[0]? =some v/\Vb false v w:=by
 obtain⟨v,h1,h2⟩:=vz_N h;rw [dF hz] at h2;exact⟨v,h1,h2⟩
theorem run_neqb {ρ:Operand->Value}{o:Oper}{W:World}{x y:Operand}{a b:Bool}(ho:o.op= .binOp .neq 4 x y 4)(hx:ρ x= .bool a)(hy:ρ y= .bool b):(execOp ρ o).run Tryz.prog W= .ok (.value (.bool (a !=b))) W:=by
 obtain⟨d,op,ty,ps,af,gd⟩:=o;subst ho;cases a<;>cases b<;>go_simp
theorem build_Int0 {ρ:Operand->Value}{o:Oper}{W:World}(ho:o.op= .build 28 #[]):∃v,(execOp ρ o).run Tryz.prog W= .ok (.value v) W/\Vz 1 0 v W:=by
 refine⟨.agg #[.bool false,.slice none 0 0],?_,⟨_,_,_,_,rfl,IntAt_zero _ _ _ (by omega),by omega⟩⟩;obtain⟨dd,op,ty,ps,af,gd⟩:=o;subst ho
 go_simp
theorem bslice_one {ρ:Operand->Value}{o:Oper}{W:World}{d:Int}(ho:o.op= .buildSlice 22 1 #[(0,.const (.int .i64 d))])(hρ:ρ (.const (.int .i64 d))= .int .i64 d)(h0:0<=d)(h1:d<1000000000):∃v w',(execOp ρ o).run Tryz.prog W= .ok (.value v) w'/\Below W.heap.size W w'/\VO 1 d v w':=by
 refine⟨.slice (some ⟨W.heap.size,0,none⟩) 1 1,W.alloc (.cells #[.int .i64 d] 3),?_,below_new _ _,⟨_,_,_,[d],rfl,rfl,(Blk_new W [d]).rdi,Nat.le_refl _,by omega,Dg_cons h0 h1 Dg_nil,by simp [val],Nat.le_refl _⟩⟩;obtain⟨dd,op,ty,ps,af,gd⟩:=o;subst ho
 go_simp
theorem field_Int1 (g off:Nat)(W:World):(Instr.fieldAt 28 (.pointer (some ⟨g,off,none⟩)) 1).run Tryz.prog W= .ok (.pointer (some ⟨g,off+1,none⟩)) W:=by go_simp
theorem vz_D {N:Nat}{z:Int}{cs:Array Value}{w:World}(h:Vz N z (.agg cs) w):∃v,cs[1]? =some v/\VD N z v w:=by
 obtain⟨nb,p,n,c,h1,h2,h3⟩:=h;cases h1;exact⟨_,rfl,p,n,c,rfl,h2.2.1,h2.2.2.1,h2.2.2.2.1,h2.2.2.2.2,h3⟩
theorem vq_D3 {N:Nat}{q:Rat}{cs:Array Value}{w:World}(h:Vq N q (.agg cs) w):∃v,cs[3]? =some v/\VD N (qd q) v w:=by
 obtain⟨x,y,h1,h2,h3,h4,h5⟩:=h;obtain⟨nb,p,n,c,e1,e2,-⟩:=h4;obtain⟨nb2,p2,n2,c2,f1,f2,f3⟩:=h5;cases h3;cases e1;cases f1;exact⟨_,rfl,p2,n2,c2,rfl,f2.2.1,f2.2.2.1,f2.2.2.2.1,f2.2.2.2.2,f3⟩
theorem run_len {ρ:Operand->Value}{o:Oper}{W:World}{x:Operand}{p:Option Addr}{n c:Nat}(ho:o.op= .call {callee:= .builtin .len,args:=#[x],argTypes:=#[22]})(hty:o.type=3)(hx:ρ x= .slice p n c):(execOp ρ o).run Tryz.prog W= .ok (.value (.int .i64 (n:Int))) W:=by
 obtain⟨dd,op,ty,ps,af,gd⟩:=o;subst ho;simp only at hty;subst hty
 go_simp
theorem len_eq0 (z:Int):(((digs z.natAbs).length:Int)==0)=decide (z=0):=by
 by_cases h:z=0
 ·subst h;rw [dT rfl];rw [show(0:Int).natAbs=0 by rfl,digs_zero];rfl
 ·rw [dF h];have:(digs z.natAbs).length≠0:=fun e=>h (by have:=digs_nil.1 (List.eq_nil_of_length_eq_zero e);omega)
  simp;exact fun e=>this (by rw [e];rfl)
theorem cmp0 (a b:Int):(cmpI a b==0)=decide (a=b):=by
 rcases Int.lt_trichotomy a b with h|h|h
 ·rw [cmp_lt h,dF (by omega)];rfl
 ·rw [h,cmp_eq,dT rfl];rfl
 ·rw [cmp_gt h,dF (by omega)];rfl
theorem qd0 (q:Rat):qd q=0↔q.den=1:=by
 unfold qd;have:=q.den_pos;split
 ·simp_all
 ·constructor
  ·intro h;omega
  ·intro h;exact absurd h (by assumption)
theorem qd_inj {a b:Rat}(h1:a.num=b.num):qd a=qd b↔a=b:=by
 constructor
 ·intro h;have ha:=a.den_pos;have hb:=b.den_pos;unfold qd at h;refine Rat.ext h1 ?_;split at h<;>split at h<;>omega
 ·rintro rfl;rfl
theorem cCmp {W:World}{a b:Int}{v1 v2:Value}(h1:Vi a v1 W)(h2:Vi b v2 W):Calls Tryz.prog 71 #[v1,v2] W (RV (Vi (cmpI a b)) W):=by
 obtain rfl:=h1;obtain rfl:=h2;exact(cmp_any a b W).mono fun e w' ⟨he,hw⟩=>⟨_,he,rfl,hw ▸ Below.refl _ _⟩
theorem cOfV {W:World}{n:Int}{v:Value}(h:Vi n v W)(h1: -9223372036854775808<=n:=by omega)(h2:n<=9223372036854775807:=by omega):Calls Tryz.prog 104 #[v] W (RV (Vz 3 n) W):=by
 obtain rfl:=h;exact cOf n h1 h2
def cmpQ (a b:Rat):Int:=cmpI (a.num*(b.den:Int)) (b.num*(a.den:Int))
theorem cmpQ_lt {a b:Rat}:cmpQ a b= -1↔a<b:=by
 rw [Rat.lt_iff];unfold cmpQ;rcases Int.lt_trichotomy (a.num*(b.den:Int)) (b.num*(a.den:Int))with h|h|h
 ·rw [cmp_lt h];simp [h]
 ·rw [h,cmp_eq];simp
 ·rw [cmp_gt h];simp;omega
theorem cmpQ_gt {a b:Rat}:cmpQ a b=1↔b<a:=by
 rw [Rat.lt_iff];unfold cmpQ;rcases Int.lt_trichotomy (a.num*(b.den:Int)) (b.num*(a.den:Int))with h|h|h
 ·rw [cmp_lt h];simp;omega
 ·rw [h,cmp_eq];simp
 ·rw [cmp_gt h];simp [h]
theorem cmpQ_eq {a b:Rat}:cmpQ a b=0↔a=b:=by
 rw [Rat.eq_iff_mul_eq_mul];unfold cmpQ;rcases Int.lt_trichotomy (a.num*(b.den:Int)) (b.num*(a.den:Int))with h|h|h
 ·rw [cmp_lt h];simp;omega
 ·rw [h,cmp_eq];simp
 ·rw [cmp_gt h];simp;omega
theorem cmpQ_sign {a b:Rat}(h:¬cmpI a.num 0=cmpI b.num 0):cmpI (cmpI a.num 0) (cmpI b.num 0)=cmpQ a b:=by
 have ha:=a.den_pos;have hb:=b.den_pos;unfold cmpQ;have p1:0<a.num->0<a.num*(b.den:Int):=fun h=>Int.mul_pos h (by omega)
 have p2:a.num<0->a.num*(b.den:Int)<0:=fun h=>Int.mul_neg_of_neg_of_pos h (by omega)
 have p3:0<b.num->0<b.num*(a.den:Int):=fun h=>Int.mul_pos h (by omega)
 have p4:b.num<0->b.num*(a.den:Int)<0:=fun h=>Int.mul_neg_of_neg_of_pos h (by omega)
 have z1:a.num=0->a.num*(b.den:Int)=0:=fun h=>by rw [h,Int.zero_mul]
 have z2:b.num=0->b.num*(a.den:Int)=0:=fun h=>by rw [h,Int.zero_mul]
 generalize a.num*(b.den:Int)=X at*
 generalize b.num*(a.den:Int)=Y at*
 generalize a.num=x at*
 generalize b.num=y at*
 rcases Int.lt_trichotomy x 0 with h1|h1|h1<;>rcases Int.lt_trichotomy y 0 with h2|h2|h2
 ·exact absurd (by rw [cmp_lt h1,cmp_lt h2]) h
 ·rw [cmp_lt h1,h2,cmp_eq,cmp_lt (by omega),cmp_lt (by have:=p2 h1;have:=z2 h2;omega)]
 ·rw [cmp_lt h1,cmp_gt h2,cmp_lt (by omega),cmp_lt (by have:=p2 h1;have:=p3 h2;omega)]
 ·rw [h1,cmp_eq,cmp_lt h2,cmp_gt (by omega),cmp_gt (by have:=z1 h1;have:=p4 h2;omega)]
 ·exact absurd (by rw [h1,h2]) h
 ·rw [h1,cmp_eq,cmp_gt h2,cmp_lt (by omega),cmp_lt (by have:=z1 h1;have:=p3 h2;omega)]
 ·rw [cmp_gt h1,cmp_lt h2,cmp_gt (by omega),cmp_gt (by have:=p1 h1;have:=p4 h2;omega)]
 ·rw [cmp_gt h1,h2,cmp_eq,cmp_gt (by omega),cmp_gt (by have:=p1 h1;have:=z2 h2;omega)]
 ·exact absurd (by rw [cmp_gt h1,cmp_gt h2]) h
theorem qd_of {q:Rat}(h:¬q.den=1):qd q=(q.den:Int):=if_neg h
theorem vld_int {nb:Bool}{z:Int}(h:nb=decide (z<0)):vld nb (digs z.natAbs)=true:=by
 unfold vld;rw [Bool.and_eq_true];refine⟨?_,?_⟩
 ·rw [List.all_eq_true];intro d D;obtain⟨k,hk,rfl⟩:=List.getElem_of_mem D;have:=Dg_digs z.natAbs k hk;rw [iat_mem hk] at this;simp [this]
 ·by_cases hz:z.natAbs=0
  ·rw [hz,digs_zero,if_pos rfl,h,dF (by omega)];rfl
  ·rw [if_neg (fun e=>hz (digs_nil.1 e))]
   simpa using digs_top hz
theorem cZValid {W:World}{N:Nat}{z:Int}{v:Value}(h:Vz N z v W)(hN:N<=1000000:=by omega):Calls Tryz.prog 129 #[v] W (RV (Vb true) W):=by
 obtain⟨nb,p,n,c,rfl,hI,hn⟩:=h;have:=Valid_any nb p n c (digs z.natAbs) W hI.2.2.1 hI.2.1 (by omega);rw [vld_int hI.1] at this;exact this.mono fun e w' h=>⟨_,h.1,rfl,h.2⟩
end
end Go.Proofs.YteacdbgalloaiaaGreat
