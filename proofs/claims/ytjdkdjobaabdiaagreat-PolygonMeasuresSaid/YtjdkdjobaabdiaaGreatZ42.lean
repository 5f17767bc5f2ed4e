/- Contracts of the packages integer, rat, plane, polygon and their references. -/
import Derived.Test.YtjdkdjobaabdiaaGreatZ41
set_option linter.unusedVariables false
set_option maxRecDepth 100000
set_option maxHeartbeats 6400000
namespace Go.Proofs.YtjdkdjobaabdiaaGreat
open Go Go.RowKit
def Qd (K B:Int)(x:Rat):Prop:=∃a:Int,x*(K:Rat)=(a:Rat)/\ -B<=a/\a<=B
def Q2 (K B:Int)(p:P2):Prop:=Qd K B p.1/\Qd K B p.2
theorem Qd.parts {K B:Int}{x:Rat}(h:Qd K B x)(hK:0<K):x.num.natAbs<=B.toNat/\(x.den:Int)<=K:=by
 obtain⟨a,h1,h2,h3⟩:=h
 have hx:x=Rat.divInt a K:=by
  rw [Rat.divInt_eq_div]
  have:(K:Rat)≠0:=by
   intro e;have:=Rat.intCast_inj.1 (e.trans Rat.intCast_zero.symm);omega
  rw [<-h1];exact(Rat.mul_div_cancel this).symm
 obtain⟨q1,q2⟩:=make_low (p:=a) hK;rw [<-hx] at q1 q2
 have hg:0<(Int.gcd a K:Int):=by
  have:0<Int.gcd a K:=Int.gcd_pos_of_ne_zero_right _ (by omega);omega
 constructor
 ·rw [q1]
  have:(a / (Int.gcd a K:Int)).natAbs<=a.natAbs:=by
   obtain⟨c,hc⟩:=Int.gcd_dvd_left a K
   have e:a / (Int.gcd a K:Int)=c:=by
    conv=>lhs;lhs;rw [hc]
    exact Int.mul_ediv_cancel_left _ (by omega)
   rw [e]
   conv=>rhs;rw [hc,Int.natAbs_mul]
   exact Nat.le_mul_of_pos_left _ (by omega)
  omega
 ·rw [q2];exact Int.ediv_le_self _ (by omega)
theorem digs_one {n:Nat}(h:n<1000000000):(digs n).length<=1:=by
 by_cases h0:n=0
 ·rw [h0,digs_zero];simp
 ·rw [digs_pos h0,show n / 1000000000=0 by omega,digs_zero];simp
theorem Vz_one {N:Nat}{z:Int}{v:Value}{w:World}(h:Vz N z v w)(hz:z.natAbs<1000000000):Vz 1 z v w:=by
 obtain⟨nb,p,n,c,h1,h2,h3⟩:=h;exact⟨nb,p,n,c,h1,h2,by rw [h2.2.1];exact digs_one hz⟩
theorem Vq_one {N:Nat}{K B:Int}{x:Rat}{v:Value}{w:World}(h:Vq N x v w)(hq:Qd K B x)(hK:0<K)(hK2:K<=100000000)(hB:B<=100000000):Vq 1 x v w:=by
 obtain⟨h1,h2⟩:=hq.parts hK;obtain⟨p,q,r1,r2,r3,r4,r5⟩:=h;refine⟨p,q,r1,r2,r3,Vz_one r4 (by omega),Vz_one r5 ?_⟩;unfold qd;split<;>omega
theorem Vv_one {N:Nat}{K B:Int}{p:P2}{v:Value}{w:World}(h:Vv N p.1 p.2 v w)(hq:Q2 K B p)(hK:0<K)(hK2:K<=100000000)(hB:B<=100000000):Vv 1 p.1 p.2 v w:=by
 obtain⟨x,y,r1,r2,r3,r4,r5⟩:=h;exact⟨x,y,r1,r2,r3,Vq_one r4 hq.1 hK hK2 hB,Vq_one r5 hq.2 hK hK2 hB⟩
theorem VSv_three {N:Nat}{K B:Int}{vs:List P2}{v:Value}{w:World}(h:VSv N vs v w)(hq:∀p∈vs,Q2 K B p)(hK:0<K)(hK2:K<=100000000)(hB:B<=100000000):VSv 3 vs v w:=h.imp id fun ⟨hh,o,c,cs,e1,e2,e3,e4,e5,e6⟩=>⟨hh,o,c,cs,e1,e2,e3,e4,e5,fun i x hx=>Vv_le (Vv_one (e6 i x hx) (hq x (List.mem_of_getElem? hx)) hK hK2 hB) (by omega)⟩
theorem Qd_int {a B:Int}(K:Int)(h1: -B<=a*K)(h2:a*K<=B):Qd K B (Rat.divInt a 1):=by
 refine⟨a*K,?_,h1,h2⟩;rw [Rat.divInt_eq_div,Rat.intCast_mul,show((1:Int):Rat)=1 from rfl]
 grind
theorem Qd_half {a B:Int}(h1: -B<=a)(h2:a<=B):Qd 2 B (Rat.divInt a 2):=by
 refine⟨a,?_,h1,h2⟩;rw [Rat.divInt_eq_div];exact Rat.div_mul_cancel (by decide)
theorem Qd_add {K B C:Int}{x y:Rat}(h:Qd K B x)(k:Qd K C y):Qd K (B+C) (x+y):=by
 obtain⟨a,h1,h2,h3⟩:=h;obtain⟨c,k1,k2,k3⟩:=k;exact⟨a+c,by rw [Rat.add_mul,h1,k1,Rat.intCast_add],by omega,by omega⟩
theorem Qd_twice {K B:Int}{x:Rat}(h:Qd K B x):Qd (2*K) (2*B) x:=by
 obtain⟨a,h1,h2,h3⟩:=h;refine⟨2*a,?_,by omega,by omega⟩;rw [Rat.intCast_mul,Rat.intCast_mul,<-h1]
 grind
theorem half_two':(Rat.divInt 1 2:Rat)=1 / 2:=by decide+kernel
theorem Qd_mid {K B:Int}{x y:Rat}(h:Qd K B x)(k:Qd K B y):Qd (2*K) (2*B) (midQ x y):=by
 obtain⟨a,h1,h2,h3⟩:=h;obtain⟨c,k1,k2,k3⟩:=k;refine⟨a+c,?_,by omega,by omega⟩;unfold midQ;rw [half_two',Rat.intCast_mul,Rat.intCast_add,<-h1,<-k1];have:((2:Int):Rat)=2:=rfl
 grind
theorem Q2_mid {K B:Int}{p q:P2}(h:Q2 K B p)(k:Q2 K B q):Q2 (2*K) (2*B) (mid2 p q):=⟨Qd_mid h.1 k.1,Qd_mid h.2 k.2⟩
theorem Q2_twice {K B:Int}{p:P2}(h:Q2 K B p):Q2 (2*K) (2*B) p:=⟨Qd_twice h.1,Qd_twice h.2⟩
theorem byQ_Q (l:List Int):Q2 2 8 (byQ l):=by
 have h1:=atv_lo l 16 9 (by omega);have h2:=atv_hi l 16 9 (by omega);have h3:=atv_lo l 17 9 (by omega);have h4:=atv_hi l 17 9 (by omega);exact⟨Qd_int 2 (by omega) (by omega),Qd_int 2 (by omega) (by omega)⟩
theorem pgE_Q (l:List Int){i:Nat}(hi:i<16):Q2 2 32 (pgE l i):=by
 have hw:=wys_bd i hi;have h0:=atv_lo l (i:Int) 6 (by omega);have h5:=atv_hi l (i:Int) 6 (by omega);have m1:=mul_bd4 hw.1 hw.2.1 h0 h5;have m2:=mul_bd4 hw.2.2.1 hw.2.2.2 h0 h5;exact⟨Qd_add (byQ_Q l).1 (Qd_half m1.1 m1.2),Qd_add (byQ_Q l).2 (Qd_half m2.1 m2.2)⟩
theorem pgL_Q (l:List Int):∀i,i<=16->∀p∈pgL l i,Q2 2 32 p
 |0,_,p,h=>by cases h
 |i+1,hi,p,h=>by
  rw [pgL] at h;split at h
  ·rcases List.mem_append.1 h with h|h
   ·exact pgL_Q l i (by omega) p h
   ·rw [List.mem_singleton.1 h];exact pgE_Q l (by omega)
  ·exact pgL_Q l i (by omega) p h
theorem Qd_le {K B C:Int}{x:Rat}(h:Qd K B x)(hB:B<=C):Qd K C x:=by
 obtain⟨a,h1,h2,h3⟩:=h;exact⟨a,h1,by omega,by omega⟩
theorem Q2_le {K B C:Int}{p:P2}(h:Q2 K B p)(hB:B<=C):Q2 K C p:=⟨Qd_le h.1 hB,Qd_le h.2 hB⟩
theorem by_Q (l:List Int){a c:Int}(h1: -4<=a)(h2:a<=4)(h3: -4<=c)(h4:c<=4):Q2 2 32 ((byQ l).1+Rat.divInt a 1,(byQ l).2+Rat.divInt c 1):=
 ⟨Qd_le (Qd_add (byQ_Q l).1 (Qd_int (B:=8) 2 (by omega) (by omega))) (by omega),Qd_le (Qd_add (byQ_Q l).2 (Qd_int (B:=8) 2 (by omega) (by omega))) (by omega)⟩
theorem polyR_Q (l:List Int):∀p∈polyR l,Q2 2 32 p:=by
 intro p hp;unfold polyR at hp;split at hp
 ·exact pgL_Q l 16 (Nat.le_refl _) p hp
 ·have h0:=atv_lo l 0 2 (by omega);have h1:=atv_hi l 0 2 (by omega);simp only [pgF,List.mem_cons,List.not_mem_nil,or_false] at hp;rcases hp with rfl|rfl|rfl|rfl
  ·exact Q2_le (byQ_Q l) (by omega)
  ·exact by_Q l (by omega) (by omega) (by omega) (by omega)
  ·exact by_Q l (by omega) (by omega) (by omega) (by omega)
  ·exact by_Q l (by omega) (by omega) (by omega) (by omega)
theorem cv_Q {K B:Int}{vs:List P2}(h:∀p∈vs,Q2 K B p)(h0:0<vs.length)(k:Nat):Q2 K B (cv vs k):=h _ (List.mem_of_getElem? (cv_get k h0))
theorem spoil_Q {B:Int}{vs:List P2}(hB:16<=B)(h:∀p∈vs,Q2 2 B p)(h0:0<vs.length)(how z:Int):∀p∈spoil vs how z,Q2 4 (2*B) p:=by
 have ht:∀p∈vs,Q2 4 (2*B) p:=fun p hp=>Q2_twice (h p hp)
 have hm:∀j k,Q2 4 (2*B) (mid2 (cv vs j) (cv vs k)):=fun j k=>Q2_mid (cv_Q h h0 j) (cv_Q h h0 k)
 intro p hp;unfold spoil at hp;simp only at hp;split at hp
 ·rcases List.mem_append.1 hp with hp|hp
  ·exact ht p (List.mem_of_mem_take hp)
  ·exact ht p (List.mem_of_mem_drop hp)
 split at hp
 ·rcases List.mem_or_eq_of_mem_set hp with hp|rfl
  ·exact ht p hp
  ·have a0:=arn_lo z 17 (by omega);have a1:=arn_hi z 17 (by omega);have a2:=arn_lo (Int.tdiv z 17) 17 (by omega);have a3:=arn_hi (Int.tdiv z 17) 17 (by omega);exact⟨Qd_int 4 (by omega) (by omega),Qd_int 4 (by omega) (by omega)⟩
 split at hp
 ·rcases List.mem_or_eq_of_mem_set hp with hp|rfl
  ·exact ht p hp
  ·exact Q2_twice (cv_Q h h0 _)
 split at hp
 ·rcases List.mem_or_eq_of_mem_set hp with hp|rfl
  ·exact ht p hp
  ·exact hm _ _
 split at hp
 ·exact ht p (List.mem_reverse.1 hp)
 ·rcases List.mem_append.1 hp with hp|hp
  ·rcases List.mem_append.1 hp with hp|hp
   ·exact ht p (List.mem_of_mem_take hp)
   ·rw [List.mem_singleton.1 hp];exact hm _ _
  ·exact ht p (List.mem_of_mem_drop hp)
theorem spoil_len {vs:List P2}{how z:Int}(h2:2<=vs.length):1<=(spoil vs how z).length/\(spoil vs how z).length<=vs.length+1:=by
 have hk:spK vs z<vs.length:=by
  have h1:=arn_lo z (vs.length:Int) (by omega);have h2:=arn_hi z (vs.length:Int) (by omega);unfold spK;omega
 unfold spoil;simp only;split
 ·rw [List.length_append,List.length_take,List.length_drop];omega
 split
 ·rw [List.length_set];omega
 split
 ·rw [List.length_set];omega
 split
 ·rw [List.length_set];omega
 split
 ·rw [List.length_reverse];omega
 ·rw [List.length_append,List.length_append,List.length_take,List.length_drop,List.length_singleton];omega
def VqB (N:Nat)(a:Rat)(bad:Bool):VP:=VP2 2 2 (Vz N a.num) (Vz N (if bad then 1 else qd a))
def EVb (N:Nat)(x:P2×Bool):VP:=VP2 4 4 (VqB N x.1.1 x.2) (Vq N x.1.2)
theorem Stab_EVb {BT:List (TypeId×Nat×Nat)}(N:Nat)(x:P2×Bool):Stab BT (EVb N x):=Stab_VP2 (Stab_VP2 (Stab_Vz _ _) (Stab_Vz _ _)) (Stab_Vq _ _)
instance {BT:List (TypeId×Nat×Nat)}(N:Nat)(a:Rat)(b:Bool):Sb BT (VqB N a b):=⟨Stab_VP2 (Stab_Vz _ _) (Stab_Vz _ _)⟩
theorem cR4ValidB {W:World}{N:Nat}{a:Rat}{b:Bool}{v:Value}(h:VqB N a b v W)(h3:3<=N:=by omega)(hN:N<=100000:=by omega):Calls Tryz.prog 61 #[v] W (RV (Vb (!b)) W):=by
 have:=cR4ValidZ h h3 hN;cases b with
 |true=>rw [dF (by simp)] at this;exact this
 |false=>
  rw [show(if false=true then(1:Int)else qd a)=qd a from rfl,dT q_low] at this;exact this
def VSb (N:Nat)(bl:List (P2×Bool)):VP:=VSl 35 8 (EVb N) bl
def badL (vs:List P2)(k:Nat):List (P2×Bool):=(vs.map fun a=>(a,false)).set k (cv vs k,true)
section
variable {ρ:Operand->Value}{o:Oper}{w W:World}{x y:Operand}{va vb:Value}{g n c j N:Nat}{vs us:List P2}{bl:List (P2×Bool)}{A B:VP}
theorem index_Sb {e:P2×Bool}(ho:o.op= .indexAddr 23 x y)(hx:ρ x=va)(h:VAt w (VSb N bl) va W)(hy:ρ y=vb)(hb:Vi (j:Int) vb W)(hz:bl[j]? =some e):∃v,(execOp ρ o).run Tryz.prog W= .ok (.value v) W/\VAt w (VEp 35 8 (EVb N e)) v W:=by
 obtain⟨b,off,c,rfl,h2⟩:=VSl_el h hz;obtain rfl:vb=_:=hb;refine⟨.pointer (some ⟨b,off+8*j,none⟩),?_,h2⟩
 have hj:j<bl.length:=by
  rcases Nat.lt_or_ge j bl.length with h'|h'
  ·exact h'
  ·rw [List.getElem?_eq_none h'] at hz;cases hz
 have hj2:(j:Int)<(bl.length:Int):=by omega
 have hm:j*8=8*j:=Nat.mul_comm _ _;clear h h2 hz;generalize bl.length=n at*
 obtain⟨dd,op,ty,ps,af,gd⟩:=o;subst ho
 go_simp
theorem len_Sb (ho:o.op= .call {callee:= .builtin .len,args:=#[x],argTypes:=#[23]})(hty:o.type=3)(hx:ρ x=va)(h:VAt w (VSb N bl) va W):∃v,(execOp ρ o).run Tryz.prog W= .ok (.value v) W/\Vi (bl.length:Int) v W:=by
 obtain⟨hh,oo,c,cs,rfl,-⟩:=h;refine⟨.int .i64 (bl.length:Int),?_,rfl⟩;generalize bl.length=n at*
 obtain⟨dd,op,ty,ps,af,gd⟩:=o;subst ho;simp only at hty;subst hty
 go_simp
theorem field_EpG0 (ho:o.op= .fieldAddr 35 x 0)(hx:ρ x=va)(h:VAt w (VEp 35 8 (VP2 4 4 A B)) va W):∃v,(execOp ρ o).run Tryz.prog W= .ok (.value v) W/\VAt w (VEp 35 4 A) v W:=by
 obtain⟨g,off,cs,rfl,e2,e3,e4⟩:=h;refine⟨_,?_,g,off+0,cs,rfl,e2,by omega,?_⟩
 ·unfold execOp;simp only [ho,hx,Sem.run_bind,field_Vec0,Sem.run_pure,Result.andThen_ok]
 ·have:=VP2_fst e4;rw [show(4:Nat)=0+4 from rfl,ext_ext (by omega)] at this;exact this
theorem field_EpG1 (ho:o.op= .fieldAddr 35 x 1)(hx:ρ x=va)(h:VAt w (VEp 35 8 (VP2 4 4 A B)) va W):∃v,(execOp ρ o).run Tryz.prog W= .ok (.value v) W/\VAt w (VEp 35 4 B) v W:=by
 obtain⟨g,off,cs,rfl,e2,e3,e4⟩:=h;refine⟨_,?_,g,off+4,cs,rfl,e2,by omega,?_⟩
 ·unfold execOp;simp only [ho,hx,Sem.run_bind,field_Vec1,Sem.run_pure,Result.andThen_ok]
 ·have:=VP2_snd e4;rw [ext_ext (by omega)] at this;exact this
theorem load_EpG (hA:Stab [] A)(ho:o.op= .load 33 x)(hx:ρ x=va)(h:VAt w (VEp 35 4 A) va W)(hb:Below w.heap.size w W):∃v,(execOp ρ o).run Tryz.prog W= .ok (.value v) W/\A v W:=by
 obtain⟨g,off,cs,rfl,e2,e3,e4⟩:=h;refine⟨_,?_,VAt_cur hA (show VAt w A _ W from e4) hb⟩;have e5:=(hb.block _ (lt_blk e2)).trans e2;unfold execOp;simp only [ho,hx,Instr.loadAt,Instr.sureAddr,Sem.run_bind,Sem.run_pure,Result.andThen_ok,run_loadVar_part W g off 4 35 33 cs (0,0) _ e5 e3 Tryz.underlying33 rfl size_Rat]
theorem field_EqS {T:TypeId}{f d off:Nat}[hf:FdT T f d](ho:o.op= .fieldAddr T x f)(hx:ρ x=va)(h:VEq (.pointer (some ⟨g,off,none⟩)) va W):∃v,(execOp ρ o).run Tryz.prog W= .ok (.value v) W/\VEq (.pointer (some ⟨g,off+d,none⟩)) v W:=by
 obtain rfl:va=_:=h;refine⟨_,?_,rfl⟩;unfold execOp;simp only [ho,hx,Sem.run_bind,hf.run,Sem.run_pure,Result.andThen_ok]
theorem ldz_step {k:Nat}{a:P2}{u:Value}(ho:o.op= .load 31 x)(hx:ρ x=va)(h1:VEq (.pointer (some ⟨g,8*k+0+0,none⟩)) va W)(hR:VRg 35 8 (EV N) none g c us u W)(hk:us[k]? =some a):∃v,(execOp ρ o).run Tryz.prog W= .ok (.value v) W/\Vz N a.1.num v W:=by
 obtain rfl:va=_:=h1
 have hkl:k<us.length:=by
  rcases Nat.lt_or_ge k us.length with h'|h'
  ·exact h'
  ·rw [List.getElem?_eq_none h'] at hk;cases hk
 obtain⟨hu,hc,hl,-,cs,q1,q2,q3,_,q4,q5⟩:=VRg_row (by intro e;rw [e] at hkl;simp at hkl) hR;cases q4;have e4:=VP2_fst (VP2_fst (q5 k a hk));refine⟨.agg (cs.extract (8*k) (8*k+2)),?_,?_⟩
 ·unfold execOp;simp only [ho,hx,Instr.loadAt,Instr.sureAddr,Sem.run_bind,Sem.run_pure,Result.andThen_ok,Nat.add_zero,run_loadVar_part W g (8*k) 2 35 31 cs (0,0) _ q1 (by omega) Tryz.underlying31 rfl size_Int]
 ·rw [show(cs.extract (8*k) (8*k+8)).extract 0 4=cs.extract (8*k) (8*k+4) by rw [show(4:Nat)=0+4 from rfl,ext_ext (by omega)];rfl,show(2:Nat)=0+2 from rfl,ext_ext (by omega)] at e4;exact e4
theorem build_IntD1 (ho:o.op= .build 31 #[(1,x)])(hx:ρ x=va)(h:VO 1 1 va W):∃v,(execOp ρ o).run Tryz.prog W= .ok (.value v) W/\Vz 1 1 v W:=by
 obtain⟨p,n,c,l,rfl,h1,h2,h3,h4,h5,h6,h7⟩:=h
 have hl:l=digs (1:Int).natAbs:=by
  have e1:digs (1:Int).natAbs= [1]:=by rw [show(1:Int).natAbs=1 from rfl,digs_pos (by omega),show(1:Nat) / 1000000000=0 by omega,digs_zero];rfl
  rw [e1]
  match l,h1,h6 with
  | [],_,h6=>simp [val] at h6
  | [x],_,h6=>simp [val] at h6;rw [h6]
  |x::y::t,h1,_=>simp at h1;omega
 subst hl;refine⟨.agg #[.bool false,.slice p n c],?_,_,_,_,_,rfl,⟨rfl,h1,h2,h3,h4⟩,h7⟩;clear h1 h2 h3 h4 h5 h6 h7;obtain⟨dd,op,ty,ps,af,gd⟩:=o;subst ho
 go_simp
theorem setb_step {n0 k:Nat}{u:Value}(ho:o.op= .store 33 x y)(hx:ρ x=va)(h1:VEq (.pointer (some ⟨g,8*k+0,none⟩)) va W)(hy:ρ y=vb)(h2:VP2 2 2 (Vz N (cv us k).1.num) (Vz 1 1) vb W)(hN:1<=N)(hR:VRg 35 8 (EV N) none g c us u W)(hk:k<us.length)(hn:n0<=g):∃w',(execOp ρ o).run Tryz.prog W= .ok .skip w'/\Below n0 W w'/\RT 35 W w'/\VRg 35 8 (EVb N) none g c (badL us k) u w':=by
 obtain⟨hu,hc,hl,hcm,cs,q1,q2,q3,_,q4,q5⟩:=VRg_row (by intro e;rw [e] at hk;simp at hk) hR;cases q4;obtain⟨z,rfl,hzs,hzn,hz1⟩:=(AggV_VP2 (AggV_Vz N (cv us k).1.num) (AggV_Vz 1 1)) _ _ h2;obtain rfl:va=_:=h1;have hzs:z.size=4:=hzs;have hle:8*k+z.size<=cs.size:=by omega
 have hri:RI [(35,8*c,0)] W (W.setRow g (updR cs (8*k) z.toList)):=RI_setRow q1 q3 ⟨⟨_,List.mem_cons_self,rfl,q2.symm,.inl rfl⟩,fun e he q1 q2=>by
  have:=List.mem_singleton.1 he;subst this;simp only at q2
  omega⟩
 have hbl:(badL us k).length=us.length:=by unfold badL;rw [List.length_set,List.length_map]
 refine⟨_,run_storeV (off:=8*k) ho hx hy q1 hle (by rw [hzs];exact size_Rat) hz1,below_setRow (Below.refl _ _) hn,⟨8*c,by omega,hri⟩,⟨by rw [hbl];exact hl,hcm,.inr ⟨hc,by rw [hbl];exact hu,_,setRow_heap _ _ _ _ _ _ q1,by rw [updR_size];exact q2,noInt_updR hle q3 hzn,_,rfl,fun i e he=>?_⟩⟩⟩;by_cases hik:i=k
 ·subst hik;have hb:(badL us i)[i]? =some (cv us i,true):=by unfold badL;rw [List.getElem?_set_self (by rw [List.length_map];exact hk)]
  rw [hb] at he;cases he;have e1:=updR_here hle;rw [hzs] at e1;have e2:(updR cs (8*i) z.toList).extract (8*i+4) (8*i+4+4)=cs.extract (8*i+4) (8*i+4+4):=updR_there (by simpa using hle) (by simp;omega);have e3:=VP2_snd (q5 i _ (cv_gets hk));rw [ext_ext (by omega)] at e3;have hs:(updR cs (8*i) z.toList).size=cs.size:=updR_size _ _ _;generalize updR cs (8*i) z.toList=U at e1 e2 hs hri ⊢;refine⟨z,cs.extract (8*i+4) (8*i+8),hzs,by rw [Array.size_extract];omega,?_,Stab_VP2 (Stab_Vz _ _) (Stab_Vz _ _) _ _ _ ?_ hri,Stab_Vq _ _ _ _ _ e3 hri⟩
  ·rw [<-e1,show 8*i+8=8*i+4+4 from rfl,<-e2,Array.extract_append_extract,show min (8*i) (8*i+4)=8*i by omega,show max (8*i+4) (8*i+4+4)=8*i+8 by omega]
  ·obtain⟨p,q,r1,r2,r3,r4,r5⟩:=h2;exact⟨p,q,r1,r2,r3,r4,Vz_le r5 hN⟩
 ·have hb:(badL us k)[i]? =us[i]?.map fun a=>(a,false):=by unfold badL;rw [List.getElem?_set_ne (fun e=>hik e.symm),List.getElem?_map]
  rw [hb] at he;cases hu2:us[i]? with
  |none=>rw [hu2] at he;cases he
  |some a=>
   rw [hu2] at he;cases he;rw [updR_there (by simpa using hle) (by simp;omega)];exact Stab_EVb _ _ _ _ _ (show EVb N (a,false) _ _ from q5 i a hu2) hri
end
theorem cR6NumbersB {w:World}{N:Nat}{bl:List (P2×Bool)}{v0:Value}(h0:VAt w (VSb N bl) v0 w)(hbad:∃(i:Nat) (x:P2×Bool),bl[i]? =some x/\x.2=true)(hN3:3<=N:=by omega)(hN:N<=900:=by omega):Calls Tryz.prog 20 #[v0] w (RV (Vb false) w):=by
 go_enter Tryz.func20,Tryz.ntmps20
 generalize hA:(⟨_,_⟩:Act)=a0;have st0:St w.heap.size w 26 [] [(0,VAt w (VSb N bl))] a0 w:=by subst hA;exact St.begin rfl rfl (Lq.2 ⟨⟨_,rfl,h0⟩,(fun _ h=>absurd h (by simp))⟩)
 clear hA;have hmax:bl.length<=9223372036854775807:=by obtain⟨hh,o,c,cs,-,h1,h2,-⟩:=id h0;omega
 repeat first|apply Wq|apply Wb|apply Wk|apply Wx
 refine rH [] [Vb (false)] [] [(0,VAt w (VSb N bl)),(2,Vb (false))] st0 ⟨ks,trivial⟩ ?_;intro a1 w1 st1;clear st0;repeat first|apply Wq|apply Wb|apply Wk|apply Wx
 refine rH [] [Vi (0)] [] [(0,VAt w (VSb N bl)),(2,Vb (false)),(3,Vi (0))] st1 ⟨ks,trivial⟩ ?_;intro a2 w2 st2;clear st1;replace st2:St w.heap.size w 26 [] [(0,VAt w (VSb N bl)),(3,Vi (((0:Nat):Int)))] a2 w2:=st2.cut;repeat first|apply Wq|apply Wb|apply Wk|apply Wx
 refine wp_loop_ghost (fun m aX wX=>∃j:Nat,j+m=bl.length/\(∀(i:Nat) (x:P2×Bool),i<j->bl[i]? =some x->x.2=false)/\St w.heap.size w 26 [] [(0,VAt w (VSb N bl)),(3,Vi (((j:Nat):Int)))] aX wX) bl.length ⟨0,by omega,fun i x hi=>absurd hi (by omega),st2⟩ ?_;clear st2;intro m aL wL ⟨j,hj,hgood,st2⟩;by_cases hlt:j<bl.length
 ·
  repeat first|apply Wq|apply Wb|apply Wk|apply Wx
  refine rH [] [Vi (((j:Nat):Int)),VAt w (VSb N bl),Vi ((bl.length:Int)),Vb (true)] [] [(0,VAt w (VSb N bl)),(3,Vi (((j:Nat):Int))),(7,Vb (true))] st2 ⟨ks,ks,(kr1 5 fun _ _ _ _ _ x0 X0=>len_Sb rfl rfl x0 X0),(kr2 4 6 fun _ _ _ _ _ x0 X0 _ x1 X1=>⟨_,run_lssi rfl (x0.trans X0) (x1.trans X1),congrArg Value.bool (dT (by omega))⟩),trivial⟩ ?_;intro a3 w3 st3;clear st2;repeat first|apply Wq|apply Wb|apply Wk|apply Wx
  refine cT st3 ?_;obtain⟨⟨a,b⟩,hx⟩:∃x,bl[j]? =some x:=⟨_,List.getElem?_eq_getElem hlt⟩;cases b with
  |true=>
   repeat first|apply Wq|apply Wb|apply Wk|apply Wx
   refine rH [] [VAt w (VSb N bl),Vi (((j:Nat):Int)),VAt w (VEp 35 8 (EVb N ((a,true)))),VAt w (VEp 35 4 (VqB N a.1 true)),VqB N a.1 true,Vb (false),Vb (true),Vb (true),VT,VT,VT,VT,VT,VT,VT,Vb (true)] [] [(0,VAt w (VSb N bl)),(3,Vi (((j:Nat):Int))),(7,Vb (true)),(25,Vb (true))] st3 ⟨ks,ks,(kr2 10 11 fun _ _ _ _ _ x0 X0 _ x1 X1=>index_Sb rfl x0 X0 x1 X1 hx),(kr1 12 fun _ _ _ _ _ x0 X0=>field_EpG0 rfl x0 X0),(kr1 13 fun _ _ _ h _ x0 X0=>load_EpG (A:=VqB N a.1 true) Sb.out rfl x0 X0 h.k.below),(kd1 fun _ _ _ _ _ X0=>cR4ValidB (b:=true) (a:=a.1) X0),ks,ks,ks,ks,ks,ks,ks,ks,ks,ks,trivial⟩ ?_;intro a4 w4 st4;clear st3;repeat first|apply Wq|apply Wb|apply Wk|apply Wx
   refine cT st4 ?_;repeat first|apply Wq|apply Wb|apply Wk|apply Wx
   refine rH [] [Vb (false)] [] [(0,VAt w (VSb N bl)),(3,Vi (((j:Nat):Int))),(7,Vb (true)),(25,Vb (true)),(2,Vb (false))] st4 ⟨ks,trivial⟩ ?_;intro a5 w5 st5;clear st4;repeat first|apply Wq|apply Wb|apply Wk|apply Wx
   exact wp_ret (rS 2 (Vb (false)) st5 fun vr r4=>r4)
  |false=>
   repeat first|apply Wq|apply Wb|apply Wk|apply Wx
   refine rH [] [VAt w (VSb N bl),Vi (((j:Nat):Int)),VAt w (VEp 35 8 (EVb N ((a,false)))),VAt w (VEp 35 4 (VqB N a.1 false)),VqB N a.1 false,Vb (true),Vb (false),Vb (false),VAt w (VSb N bl),Vi (((j:Nat):Int)),VAt w (VEp 35 8 (EVb N ((a,false)))),VAt w (VEp 35 4 (Vq N a.2)),Vq N (a.2),Vb (true),Vb (false),Vb (false)] [] [(0,VAt w (VSb N bl)),(3,Vi (((j:Nat):Int))),(7,Vb (true)),(25,Vb (false))] st3 ⟨ks,ks,(kr2 10 11 fun _ _ _ _ _ x0 X0 _ x1 X1=>index_Sb rfl x0 X0 x1 X1 hx),(kr1 12 fun _ _ _ _ _ x0 X0=>field_EpG0 rfl x0 X0),(kr1 13 fun _ _ _ h _ x0 X0=>load_EpG (A:=VqB N a.1 false) Sb.out rfl x0 X0 h.k.below),(kd1 fun _ _ _ _ _ X0=>cR4ValidB (b:=false) (a:=a.1) X0),ks,ks,ks,ks,(kr2 18 19 fun _ _ _ _ _ x0 X0 _ x1 X1=>index_Sb rfl x0 X0 x1 X1 hx),(kr1 20 fun _ _ _ _ _ x0 X0=>field_EpG1 rfl x0 X0),(kr1 21 fun _ _ _ h _ x0 X0=>load_EpG (Stab_Vq _ _) rfl x0 X0 h.k.below),(kd1 fun _ _ _ _ _ X0=>cR4Valid X0),ks,ks,trivial⟩ ?_;intro a4 w4 st4;clear st3;repeat first|apply Wq|apply Wb|apply Wk|apply Wx
   refine cF st4 ?_;repeat first|apply Wq|apply Wb|apply Wk|apply Wx
   refine rH [] [Vi (((j:Nat):Int)),Vi (((j+1:Nat):Int)),Vi (((j+1:Nat):Int))] [] [(0,VAt w (VSb N bl)),(7,Vb (true)),(25,Vb (false)),(3,Vi (((j+1:Nat):Int)))] st4 ⟨?s0,(kr1 8 fun _ _ _ _ v0 x0 X0=>⟨_,run_addi rfl (x0.trans (show v0= .int .i64 ((j:Nat):Int)from X0)) rfl (wrap_id (by omega) (by omega)),congrArg (Value.int .i64) (by omega)⟩),ks,trivial⟩ ?_
   case s0=>
    refine k_run0 SbB.out (by kernel_rfl) fun listed ac Y h D hnl=>⟨trivial,?_⟩
    obtain⟨v0,x0,X0⟩:=h.out0 hnl (3,Vi (((j:Nat):Int))) (.tail _ (.head _)) 2 (by kernel_rfl) (.inr (by kernel_rfl));exact⟨_,run_move rfl,by rw [x0];exact X0⟩
   intro a5 w5 st5;clear st4;replace st5:St w.heap.size w 26 [] [(0,VAt w (VSb N bl)),(7,Vb (true)),(25,Vb (false)),(3,Vi (((j+1:Nat):Int)))] a5 w5:=st5
   have hgood2:∀(i:Nat) (x:P2×Bool),i<j+1->bl[i]? =some x->x.2=false:=fun i x hi hix=>by
    rcases Nat.lt_or_ge i j with h|h
    ·exact hgood i x h hix
    ·obtain rfl:i=j:=by omega
     rw [hx] at hix;cases hix;rfl
   exact⟨m - 1,by omega,j+1,by omega,hgood2,st5.cut⟩
 ·
  exfalso;obtain⟨i,x,hi,hx⟩:=hbad
  have hil:i<bl.length:=by
   rcases Nat.lt_or_ge i bl.length with h|h
   ·exact h
   ·rw [List.getElem?_eq_none h] at hi;cases hi
  have:=hgood i x (by omega) hi;rw [hx] at this;cases this
theorem cR6Spoilt5 {w:World}{N:Nat}{vs:List P2}{how z:Int}{v0 v1 v2:Value}(h0:VAt w (VSv N (vs)) v0 w)(h1:Vi (how) v1 w)(h2:Vi (z) v2 w)(hlen:2<=vs.length)(hlen2:vs.length<=1000)(hN3:3<=N)(hN:N<=900)(hw0: -9223372036854775808<=how)(hw1:how<=9223372036854775807)(hz0: -9223372036854775808<=z)(hz1:z<=9223372036854775807)(h5:arn how 7=5):Calls Tryz.prog 12 #[v0,v1,v2] w (RV (VSb (4*N+2) (badL vs (spK vs z))) w):=by
 go_enter Tryz.func12,Tryz.ntmps12
 generalize hA:(⟨_,_⟩:Act)=a0;have st0:St w.heap.size w 131 [] [(0,VAt w (VSv N (vs))),(1,Vi (how)),(2,Vi (z))] a0 w:=by subst hA;exact St.begin rfl rfl (Lq.2 ⟨⟨_,rfl,h0⟩,(Lq.2 ⟨⟨_,rfl,h1⟩,(Lq.2 ⟨⟨_,rfl,h2⟩,(fun _ h=>absurd h (by simp))⟩)⟩)⟩)
 clear hA;repeat first|apply Wq|apply Wb|apply Wk|apply Wx
 refine rH [(35,8,0),(33,4,0)] [VEq (.slice none 0 0)] [] [(0,VAt w (VSv N (vs))),(1,Vi (how)),(2,Vi (z)),(6,VEq (.slice none 0 0))] st0 ⟨ks,trivial⟩ ?_;intro a1 w1 st1;clear st0;replace st1:St w.heap.size w 131 [] [(0,VAt w (VSv N (vs))),(1,Vi (how)),(2,Vi (z))] a1 w1:=st1.cut;have hne:vs≠ []:=by intro e;rw [e] at hlen;simp at hlen
 have hPx:∀e∈([⟨12,some 2,none,VRy 35 8 (EV (4*N+2)) w.heap.size (vs)⟩,⟨7,some 3,none,VRy 35 8 (EV (4*N+2)) w.heap.size (vs)⟩]:List En),Stab [] e.P:=(Lq.2 ⟨(Stab_VRy (fun x=>Stab_Vv _ _ _) (by decide)),(Lq.2 ⟨(Stab_VRy (fun x=>Stab_Vv _ _ _) (by decide)),(fun _ h=>absurd h (by simp))⟩)⟩);repeat first|apply Wq|apply Wb|apply Wk|apply Wx
 refine rgX (Vl:=[VE0,VAt w (VSv N vs),VT,VT]) (SL':=[(0,VAt w (VSv N (vs))),(1,Vi (how)),(2,Vi (z))]) 35 [⟨12,some 2,none,VRy 35 8 (EV (4*N+2)) w.heap.size (vs)⟩,⟨7,some 3,none,VRy 35 8 (EV (4*N+2)) w.heap.size (vs)⟩] st1 ⟨(KStep.x (km fun _ A Y h D=>bslice_0 rfl) hPx (by kernel_rfl)),(KStep.x ks hPx (by kernel_rfl)),(kx_app (k:=8) (E:=EV (4*N+2)) (xs:=[]) (zs:=vs) (X:=VAt w (VSv N vs)) rfl (.inr ⟨rfl,.inl ⟨by kernel_rfl,rfl,rfl⟩⟩) (.inr (.inl ⟨by kernel_rfl,rfl,rfl⟩)) (VSv_lesc (by omega)) (Lq.2 ⟨(fun h=>⟨rfl,rfl⟩),(Lq.2 ⟨(fun h=>absurd h (by simp)),(fun _ h=>absurd h (by simp))⟩)⟩) (by kernel_rfl) rfl (fun x BT=>Stab_Vv _ _ _) (by simp;omega) trivial),(kx_asg rfl ⟨_,.head _,rfl,rfl,by kernel_rfl⟩ (Lq.2 ⟨(fun h=>absurd h (by simp)),(Lq.2 ⟨(fun h=>⟨rfl,rfl⟩),(fun _ h=>absurd h (by simp))⟩)⟩) (by kernel_rfl) rfl trivial),trivial⟩ ?_ hPx (Lq.2 ⟨(fun h=>absurd h (by simp)),(Lq.2 ⟨(fun h=>absurd h (by simp)),(fun _ h=>absurd h (by simp))⟩)⟩) (by kernel_rfl);clear hPx;intro a2 w2 st2 hx2;clear st1;obtain⟨v7,e7,h7⟩:=hx2 _ (.tail _ (.head _)) rfl;clear hx2;obtain⟨g,c,hg,rfl,hrow⟩:=VRy_row hne h7;have hc0:0<c:=by have:=hrow.1;omega
 have hlc:vs.length<=c:=hrow.1;replace st2:=st2.reT 7 (VRg 35 8 (EV (4*N+2)) none g c (vs)) e7 (hrow.rg hc0 rfl);clear e7 h7 hrow;replace st2:St w.heap.size w 131 [] [(0,VAt w (VSv N (vs))),(1,Vi (how)),(2,Vi (z)),(7,VRg 35 8 (EV (4*N+2)) none g c (vs))] a2 w2:=st2.cut;repeat first|apply Wq|apply Wb|apply Wk|apply Wx
 refine rH [] [VRg 35 8 (EV (4*N+2)) none g c (vs),Vi ((vs.length:Int)),Vb (false)] [] [(0,VAt w (VSv N (vs))),(1,Vi (how)),(2,Vi (z)),(7,VRg 35 8 (EV (4*N+2)) none g c (vs)),(15,Vb (false))] st2 ⟨ks,(kr1 13 fun _ _ _ _ _ x0 X0=>len_Rg rfl rfl x0 X0),(kr1 14 fun _ _ _ _ _ x0 X0=>⟨_,run_eqi rfl (x0.trans X0) rfl,congrArg Value.bool (beq_eq_false_iff_ne.2 (by omega))⟩),trivial⟩ ?_;intro a3 w3 st3;clear st2;repeat first|apply Wq|apply Wb|apply Wk|apply Wx
 refine cF st3 ?_;repeat first|apply Wq|apply Wb|apply Wk|apply Wx
 refine rH [] [Vi (z),VRg 35 8 (EV (4*N+2)) none g c (vs),Vi ((vs.length:Int)),Vi (arn z (vs.length:Int)),Vi (arn z (vs.length:Int))] [] [(0,VAt w (VSv N (vs))),(1,Vi (how)),(2,Vi (z)),(7,VRg 35 8 (EV (4*N+2)) none g c (vs)),(15,Vb (false)),(8,Vi (arn z (vs.length:Int)))] st3 ⟨ks,ks,(kr1 23 fun _ _ _ _ _ x0 X0=>len_Rg rfl rfl x0 X0),(by refine kc fun _ A Y h D=>?_;obtain⟨v0,x0,X0⟩:=h.dp D 22;obtain⟨v1,x1,X1⟩:=h.dp D 24;obtain rfl:v1=Value.int .i64 (vs.length:Int):=X1;exact⟨#[v0,.int .i64 (vs.length:Int)],by simp [x0,x1],cAround X0⟩),ks,trivial⟩ ?_;intro a4 w4 st4;clear st3;have hk0:((spK vs z:Nat):Int)=arn z (vs.length:Int):=Int.toNat_of_nonneg (arn_lo _ _ (by omega));have hk1:=arn_hi z (vs.length:Int) (by omega);obtain⟨k,hkd⟩:∃k,k=spK vs z:=⟨_,rfl⟩;rw [<-hkd] at hk0;have hkl:k<vs.length:=by omega
 replace st4:St w.heap.size w 131 [] [(0,VAt w (VSv N (vs))),(1,Vi (how)),(2,Vi (z)),(7,VRg 35 8 (EV (4*N+2)) none g c (vs)),(15,Vb (false)),(8,Vi (arn z (vs.length:Int)))] a4 w4:=st4;replace st4:St w.heap.size w 131 [] [(0,VAt w (VSv N (vs))),(1,Vi (how)),(2,Vi (z)),(7,VRg 35 8 (EV (4*N+2)) none g c (vs)),(15,Vb (false)),(8,Vi (((k:Nat):Int)))] a4 w4:=by rw [hk0];exact st4
 clear hk0 hk1;repeat first|apply Wq|apply Wb|apply Wk|apply Wx
 refine rH [] [Vi (how),Vi (arn (how) 7)] [] [(0,VAt w (VSv N (vs))),(1,Vi (how)),(2,Vi (z)),(7,VRg 35 8 (EV (4*N+2)) none g c (vs)),(15,Vb (false)),(8,Vi (((k:Nat):Int))),(27,Vi (arn (how) 7))] st4 ⟨ks,(by refine kc fun _ A Y h D=>?_;obtain⟨v0,x0,X0⟩:=h.dp D 26;exact⟨#[v0,.int .i64 (7)],by simp [x0,eval_const],cAround X0⟩),trivial⟩ ?_;intro a5 w5 st5;clear st4;have ha0:=arn_lo how 7 (by omega);have ha1:=arn_hi how 7 (by omega);repeat first|apply Wq|apply Wb|apply Wk|apply Wx
 refine rH [] [Vb (false),Vb (false)] [] [(0,VAt w (VSv N (vs))),(1,Vi (how)),(2,Vi (z)),(7,VRg 35 8 (EV (4*N+2)) none g c (vs)),(15,Vb (false)),(8,Vi (((k:Nat):Int))),(27,Vi (arn (how) 7)),(47,Vb (false))] st5 ⟨(by refine kr fun _ A Y h D=>?_;obtain⟨v0,x0,X0⟩:=h.ot 27;have hV0':v0= .int .i64 (arn (how) 7):=X0;exact⟨_,run_eqi rfl (x0.trans hV0') rfl,congrArg Value.bool (beq_eq_false_iff_ne.2 (by omega))⟩),ks,trivial⟩ ?_;intro a6 w6 st6;clear st5;repeat first|apply Wq|apply Wb|apply Wk|apply Wx
 refine cF st6 ?_;repeat first|apply Wq|apply Wb|apply Wk|apply Wx
 refine rH [] [Vb (false),Vb (false)] [] [(0,VAt w (VSv N (vs))),(1,Vi (how)),(2,Vi (z)),(7,VRg 35 8 (EV (4*N+2)) none g c (vs)),(15,Vb (false)),(8,Vi (((k:Nat):Int))),(27,Vi (arn (how) 7)),(47,Vb (false)),(57,Vb (false))] st6 ⟨(by refine kr fun _ A Y h D=>?_;obtain⟨v0,x0,X0⟩:=h.ot 27;have hV0':v0= .int .i64 (arn (how) 7):=X0;exact⟨_,run_eqi rfl (x0.trans hV0') rfl,congrArg Value.bool (beq_eq_false_iff_ne.2 (by omega))⟩),ks,trivial⟩ ?_;intro a7 w7 st7;clear st6;repeat first|apply Wq|apply Wb|apply Wk|apply Wx
 refine cF st7 ?_;repeat first|apply Wq|apply Wb|apply Wk|apply Wx
 refine rH [] [Vb (false),Vb (false)] [] [(0,VAt w (VSv N (vs))),(1,Vi (how)),(2,Vi (z)),(7,VRg 35 8 (EV (4*N+2)) none g c (vs)),(15,Vb (false)),(8,Vi (((k:Nat):Int))),(27,Vi (arn (how) 7)),(47,Vb (false)),(57,Vb (false)),(70,Vb (false))] st7 ⟨(by refine kr fun _ A Y h D=>?_;obtain⟨v0,x0,X0⟩:=h.ot 27;have hV0':v0= .int .i64 (arn (how) 7):=X0;exact⟨_,run_eqi rfl (x0.trans hV0') rfl,congrArg Value.bool (beq_eq_false_iff_ne.2 (by omega))⟩),ks,trivial⟩ ?_;intro a8 w8 st8;clear st7;repeat first|apply Wq|apply Wb|apply Wk|apply Wx
 refine cF st8 ?_;repeat first|apply Wq|apply Wb|apply Wk|apply Wx
 refine rH [] [Vb (false),Vb (false)] [] [(0,VAt w (VSv N (vs))),(1,Vi (how)),(2,Vi (z)),(7,VRg 35 8 (EV (4*N+2)) none g c (vs)),(15,Vb (false)),(8,Vi (((k:Nat):Int))),(27,Vi (arn (how) 7)),(47,Vb (false)),(57,Vb (false)),(70,Vb (false)),(83,Vb (false))] st8 ⟨(by refine kr fun _ A Y h D=>?_;obtain⟨v0,x0,X0⟩:=h.ot 27;have hV0':v0= .int .i64 (arn (how) 7):=X0;exact⟨_,run_eqi rfl (x0.trans hV0') rfl,congrArg Value.bool (beq_eq_false_iff_ne.2 (by omega))⟩),ks,trivial⟩ ?_;intro a9 w9 st9;clear st8;repeat first|apply Wq|apply Wb|apply Wk|apply Wx
 refine cF st9 ?_;repeat first|apply Wq|apply Wb|apply Wk|apply Wx
 refine rH [] [Vb (false),Vb (false)] [] [(0,VAt w (VSv N (vs))),(1,Vi (how)),(2,Vi (z)),(7,VRg 35 8 (EV (4*N+2)) none g c (vs)),(15,Vb (false)),(8,Vi (((k:Nat):Int))),(27,Vi (arn (how) 7)),(47,Vb (false)),(57,Vb (false)),(70,Vb (false)),(83,Vb (false)),(96,Vb (false))] st9 ⟨(by refine kr fun _ A Y h D=>?_;obtain⟨v0,x0,X0⟩:=h.ot 27;have hV0':v0= .int .i64 (arn (how) 7):=X0;exact⟨_,run_eqi rfl (x0.trans hV0') rfl,congrArg Value.bool (beq_eq_false_iff_ne.2 (by omega))⟩),ks,trivial⟩ ?_;intro a10 w10 st10;clear st9;repeat first|apply Wq|apply Wb|apply Wk|apply Wx
 refine cF st10 ?_;repeat first|apply Wq|apply Wb|apply Wk|apply Wx
 refine rH [] [Vb (true),Vb (true)] [] [(0,VAt w (VSv N (vs))),(1,Vi (how)),(2,Vi (z)),(7,VRg 35 8 (EV (4*N+2)) none g c (vs)),(15,Vb (false)),(8,Vi (((k:Nat):Int))),(27,Vi (arn (how) 7)),(47,Vb (false)),(57,Vb (false)),(70,Vb (false)),(83,Vb (false)),(96,Vb (false)),(115,Vb (true))] st10 ⟨(by refine kr fun _ A Y h D=>?_;obtain⟨v0,x0,X0⟩:=h.ot 27;have hV0':v0= .int .i64 (arn (how) 7):=X0;exact⟨_,run_eqi rfl (x0.trans hV0') rfl,congrArg Value.bool (beq_iff_eq.2 h5)⟩),ks,trivial⟩ ?_;intro a11 w11 st11;clear st10;repeat first|apply Wq|apply Wb|apply Wk|apply Wx
 refine cT st11 ?_;replace st11:St w.heap.size w 131 [] [(0,VAt w (VSv N (vs))),(1,Vi (how)),(2,Vi (z)),(7,VRg 35 8 (EV (4*N+2)) none g c (vs)),(15,Vb (false)),(8,Vi (((k:Nat):Int))),(27,Vi (arn (how) 7)),(47,Vb (false)),(57,Vb (false)),(70,Vb (false)),(83,Vb (false)),(96,Vb (false)),(115,Vb (true))] a11 w11:=st11;obtain⟨vR,heR,hvR⟩:=st11.sl (7,VRg 35 8 (EV (4*N+2)) none g c (vs)) (lS_mem rfl);obtain⟨rfl,-,hrow⟩:=VRg_row hne hvR;replace st11:=st11.reT 7 (VEq (.slice (some ⟨g,0,none⟩) (vs).length c)) heR rfl;replace st11:St w.heap.size w 131 [] [(0,VAt w (VSv N (vs))),(1,Vi (how)),(2,Vi (z)),(7,VEq (.slice (some ⟨g,0,none⟩) (vs).length c)),(15,Vb (false)),(8,Vi (((k:Nat):Int))),(27,Vi (arn (how) 7)),(47,Vb (false)),(57,Vb (false)),(70,Vb (false)),(83,Vb (false)),(96,Vb (false)),(115,Vb (true))] a11 w11:=st11.cut;have hPx:∀e∈([⟨7,none,some 13,VRg 35 8 (EV (4*N+2)) none g c (vs)⟩,⟨7,some 13,none,VRg 35 8 (EVb (4*N+2)) none g c (badL vs k)⟩]:List En),Stab [] e.P:=(Lq.2 ⟨(Stab_VRg (fun x=>Stab_Vv _ _ _) (by decide) (.inl (by simp))),(Lq.2 ⟨(Stab_VRg (fun x=>Stab_EVb _ _) (by decide) (.inl (by simp))),(fun _ h=>absurd h (by simp))⟩)⟩);repeat first|apply Wq|apply Wb|apply Wk|apply Wx
 refine rgX (Vl:=[VEq (.slice (some ⟨g,0,none⟩) (vs).length c),Vi ((k:Nat):Int),VEq (.slice (some ⟨g,0,none⟩) (vs).length c),Vi ((k:Nat):Int),VEq (.pointer (some ⟨g,8*k,none⟩)),VEq (.pointer (some ⟨g,8*k+0,none⟩)),VEq (.pointer (some ⟨g,8*k+0+0,none⟩)),Vz (4*N+2) (cv vs k).1.num,VO 1 1,Vz 1 1,VP2 2 2 (Vz (4*N+2) (cv vs k).1.num) (Vz 1 1),VEq (.pointer (some ⟨g,8*k,none⟩)),VEq (.pointer (some ⟨g,8*k+0,none⟩)),VT]) (SL':=[(0,VAt w (VSv N (vs)))]) 35 [⟨7,none,some 13,VRg 35 8 (EV (4*N+2)) none g c (vs)⟩,⟨7,some 13,none,VRg 35 8 (EVb (4*N+2)) none g c (badL vs k)⟩] st11 ⟨(KStep.x ks hPx (by kernel_rfl)),(KStep.x ks hPx (by kernel_rfl)),(KStep.x ks hPx (by kernel_rfl)),(KStep.x ks hPx (by kernel_rfl)),(KStep.x (kr2 119 120 fun _ _ _ _ _ x0 X0 _ x1 X1=>index_EqS rfl x0 X0 x1 X1 (by omega)) hPx (by kernel_rfl)),(KStep.x (kr1 121 fun _ _ _ _ _ x0 X0=>field_EqS rfl x0 X0) hPx (by kernel_rfl)),(KStep.x (kr1 122 fun _ _ _ _ _ x0 X0=>field_EqS rfl x0 X0) hPx (by kernel_rfl)),(kx_ld ⟨_,.head _,rfl,by kernel_rfl⟩ (fun _ A Y u h D hu=>by obtain⟨v0,x0,X0⟩:=h.dp D 123;exact ldz_step rfl x0 X0 hu (cv_gets hkl)) hPx (by kernel_rfl) trivial),(KStep.x (km fun _ A Y h D=>bslice_one rfl rfl (by omega) (by omega)) hPx (by kernel_rfl)),(KStep.x (kr1 125 fun _ _ _ _ _ x0 X0=>build_IntD1 rfl x0 X0) hPx (by kernel_rfl)),(KStep.x (kr2 124 126 fun _ _ _ _ _ x0 X0 _ x1 X1=>build_Rat rfl x0 x1 (AggV_Vz _ _) (AggV_Vz _ _) X0 X1) hPx (by kernel_rfl)),(KStep.x (kr2 117 118 fun _ _ _ _ _ x0 X0 _ x1 X1=>index_EqS rfl x0 X0 x1 X1 (by omega)) hPx (by kernel_rfl)),(KStep.x (kr1 128 fun _ _ _ _ _ x0 X0=>field_EqS rfl x0 X0) hPx (by kernel_rfl)),(kx_set rfl ⟨_,.head _,rfl,rfl,by kernel_rfl⟩ (fun _ A Y u h D hu=>by obtain⟨v0,x0,X0⟩:=h.dp D 129;obtain⟨v1,x1,X1⟩:=h.dp D 127;exact setb_step (k:=k) rfl x0 X0 x1 X1 (by omega) hu hkl hg) (Lq.2 ⟨(fun h=>absurd h (by simp)),(Lq.2 ⟨(fun h=>⟨rfl,rfl⟩),(fun _ h=>absurd h (by simp))⟩)⟩) (by kernel_rfl) rfl trivial),trivial⟩ ?_ hPx (Lq.2 ⟨(fun _=>⟨_,heR,hvR⟩),(Lq.2 ⟨(fun h=>absurd h (by simp)),(fun _ h=>absurd h (by simp))⟩)⟩) (by kernel_rfl);clear hPx;intro a12 w12 st12 hx12;clear st11;obtain⟨v7,e7,h7⟩:=hx12 _ (.tail _ (.head _)) rfl;clear hx12 heR hvR hrow;replace st12:=st12.reT 7 (VRg 35 8 (EVb (4*N+2)) none g c (badL vs k)) e7 h7;clear e7 h7;replace st12:St w.heap.size w 131 [] [(7,VRg 35 8 (EVb (4*N+2)) none g c (badL vs k)),(0,VAt w (VSv N (vs)))] a12 w12:=st12.cut;repeat first|apply Wq|apply Wb|apply Wk|apply Wx
 have:Sb [] (VRg 35 8 (EVb (4*N+2)) none g c (badL vs k)):=⟨Stab_VRg (fun x=>Stab_EVb _ _) (by decide) (by first|(refine Or.inl ?_;simp;done)|(refine Or.inr ?_;simp;done))⟩;refine rH [] [VRg 35 8 (EVb (4*N+2)) none g c (badL vs k),VRg 35 8 (EVb (4*N+2)) none g c (badL vs k)] [] [(7,VRg 35 8 (EVb (4*N+2)) none g c (badL vs k)),(0,VAt w (VSv N (vs))),(6,VRg 35 8 (EVb (4*N+2)) none g c (badL vs k))] st12 ⟨ks,ks,trivial⟩ ?_;intro a13 w13 st13;clear st12;repeat first|apply Wq|apply Wb|apply Wk|apply Wx
 exact wp_ret (rS 6 (VRg 35 8 (EVb (4*N+2)) none g c (badL vs k)) st13 fun vr r4=>(by rw [<-hkd];exact VRg_sl (by unfold badL;simp [List.set_eq_nil_iff,hne]) r4))
end Go.Proofs.YtjdkdjobaabdiaaGreat
