/- Contracts of the packages integer, rat, plane, polygon and their references. -/
import Derived.Test.YteacdbgalloaiaaGreatX20
set_option linter.unusedVariables false
set_option maxRecDepth 100000
set_option maxHeartbeats 6400000
namespace Go.Proofs.YteacdbgalloaiaaGreat
open Go.RowKit
open Go
def VPc (x:Int):VP:=fun v w=>∃p,v= .pointer (some p)/\w.cell? p=some (.int .i64 x)
theorem Stab_VPc {BT:List (TypeId×Nat×Nat)}(x:Int):Stab BT (VPc x):=fun _ _ _ ⟨p,e1,e2⟩ hr=>⟨p,e1,hr.int _ _ e2⟩
instance {BT:List (TypeId×Nat×Nat)}(x:Int):Sb BT (VPc x):=⟨Stab_VPc x⟩
def ofE (l:List Int)(j:Nat):P2:=(Rat.divInt (iat l (2*j)) 1,Rat.divInt (iat l (2*j+1)) 1)
def ofL (l:List Int)(n:Nat):List P2:=(List.range n).map (ofE l)
section
variable {ρ:Operand->Value}{o:Oper}{W:World}{x y:Operand}{va vb:Value}
theorem index_VI {l:List Int}{j:Nat}(ho:o.op= .indexAddr 22 x y)(hx:ρ x=va)(h:VI l va W)(hy:ρ y=vb)(hb:Vi (j:Int) vb W)(hj:j<l.length):∃v,(execOp ρ o).run Tryz.prog W= .ok (.value v) W/\VPc (iat l j) v W:=by
 obtain⟨a,m,c,rfl,hR,rfl,-⟩:=h;obtain⟨b,off,rfl,hc⟩:=Rdi_at hR j hj;obtain rfl:vb=_:=hb;refine⟨.pointer (some ⟨b,off+j,none⟩),?_,_,rfl,hc⟩;have hj2:(j:Int)<(l.length:Int):=by omega
 clear hR hc;generalize l.length=n at*
 obtain⟨dd,op,ty,ps,af,gd⟩:=o;subst ho
 go_simp
theorem len_VI {l:List Int}(ho:o.op= .call {callee:= .builtin .len,args:=#[x],argTypes:=#[22]})(hty:o.type=3)(hx:ρ x=va)(h:VI l va W):∃v,(execOp ρ o).run Tryz.prog W= .ok (.value v) W/\Vi (l.length:Int) v W:=by
 obtain⟨a,m,c,rfl,hR,rfl,-⟩:=h;refine⟨.int .i64 (l.length:Int),?_,rfl⟩;clear hR;generalize l.length=n at*
 obtain⟨dd,op,ty,ps,af,gd⟩:=o;subst ho;simp only at hty;subst hty
 go_simp
theorem load_Pc {u:Int}(ho:o.op= .load 3 x)(hx:ρ x=va)(h:VPc u va W):∃v,(execOp ρ o).run Tryz.prog W= .ok (.value v) W/\Vi u v W:=by
 obtain⟨p,rfl,hcell⟩:=h
 have hagg:(isAgg 3).run Tryz.prog W= .ok false W:=by
  unfold isAgg;rw [Sem.run_bind,run_underlying Tryz.underlying3 W];rfl
 refine⟨_,?_,rfl⟩;unfold execOp;simp only [ho,hx,Instr.loadAt,Instr.sureAddr,Sem.run_bind,Sem.run_pure,Result.andThen_ok,loadVar,hagg];simp only [Bool.false_eq_true,if_false,run_load,hcell,Result.andThen_ok]
theorem bslice_V1 {M:Nat}{d:P2}(ho:o.op= .buildSlice 23 1 #[(0,x)])(hx:ρ x=va)(h:Vv M d.1 d.2 va W):∃v w',(execOp ρ o).run Tryz.prog W= .ok (.value v) w'/\Below W.heap.size W w'/\VOs 32 8 (EV M) [d] v w':=by
 obtain⟨c0,rfl,s0,-⟩:=AggV_Vv _ _ _ _ _ h;obtain⟨p0,p1,p2,p3,p4,p5,p6,p7,rfl⟩:=arr8 s0;have hb:=below_new W (.cells #[p0,p1,p2,p3,p4,p5,p6,p7] 32);refine⟨.slice (some ⟨W.heap.size,0,none⟩) 1 1,_,?_,hb,_,_,rfl,heap_alloc_new _ _,rfl,_,rfl,fun i z hz=>?_⟩
 ·clear h hb;obtain⟨dd,op,ty,ps,af,gd⟩:=o;subst ho
  go_simp
 ·match i,hz with
  |0,hz=>cases hz;exact Stab_Vv (BT:=[]) _ _ _ _ _ _ h (RI.of_below hb)
  |i+1,hz=>simp at hz
end
theorem cOf6 {w:World}{l:List Int}{n:Nat}{v0:Value}(h0:VI l v0 w)(hl:l.length=2*n)(hn0:0<n)(hn:n<=1000)(hl64:i64s l):Calls Tryz.prog 49 #[v0] w (RV (VSv 3 (ofL l n)) w):=by
 go_enter Tryz.func49,Tryz.ntmps49
 refine Sg 26 [(0,VI l)] (Lq.2 ⟨⟨_,rfl,h0⟩,L0⟩) fun a0 st0=>Wn ?_
 refine rH [] [VEq (.slice none 0 0)] [] [(0,VI l),(2,VEq (.slice none 0 0))] st0 ⟨ks,trivial⟩ fun a1 w1 st1=>Wn ?_
 refine rH [] [VEq (.slice none 0 0)] [] [(0,VI l),(2,VEq (.slice none 0 0)),(3,VEq (.slice none 0 0))] st1 ⟨ks,trivial⟩ fun a2 w2 st2=>Wn ?_
 refine rH [] [Vi 0] [] [(0,VI l),(2,VEq (.slice none 0 0)),(3,VEq (.slice none 0 0)),(4,Vi 0)] st2 ⟨ks,trivial⟩ ?_;intro a3 w3 st3;replace st3:St w.heap.size w 26 [] [(0,VI l),(2,VEq (.slice none 0 0)),(3,VEq (.slice none 0 0)),(4,Vi 0)] a3 w3:=st3;obtain⟨vR,heR,hvR⟩:=st3.sl (3,VEq (.slice none 0 0)) (lS_mem rfl);replace st3:=st3.reT 3 (VRg 32 8 (EV 3) none 0 0 ([])) heR ⟨by simp,by omega,.inl ⟨rfl,hvR⟩⟩;replace st3:St w.heap.size w 26 [] [(0,VI l),(3,VRg 32 8 (EV 3) none 0 0 ([])),(4,Vi ((2*0:Nat):Int))] a3 w3:=st3.cut;clear heR hvR;refine Wn ?_
 refine wp_loop_ghost (fun m aX wX=>∃(j g c:Nat) (us:List P2),j+m=n/\us=ofL l j/\us.length=j/\(c=0∨w.heap.size<=g/\0<us.length)/\St w.heap.size w 26 [] [(0,VI l),(3,VRg 32 8 (EV 3) none g c us),(4,Vi ((2*j:Nat):Int))] aX wX) n ⟨0,0,0,[],by omega,rfl,rfl,.inl rfl,st3⟩ ?_;intro m aL wL ⟨j,g,c,us,hj,hus,hul,hxc,st3⟩;by_cases hlt:j<n
 ·
  refine Wn ?_
  refine rH [] [Vi ((2*j:Nat):Int),Vi ((2*j+1:Nat):Int),VI l,Vi (l.length:Int),Vb true] [] [(0,VI l),(3,VRg 32 8 (EV 3) none g c us),(4,Vi ((2*j:Nat):Int)),(9,Vb true)] st3 ⟨ks,(kr1 5 fun _ _ _ _ v0 x0 X0=>⟨_,run_addi rfl (x0.trans (show v0= .int .i64 ((2*j:Nat):Int)from X0)) rfl wO,congrArg (Value.int .i64) (by omega)⟩),ks,(kr1 7 fun _ _ _ _ _ x0 X0=>len_VI rfl rfl x0 X0),(kr2 6 8 fun _ _ _ _ _ x0 X0 _ x1 X1=>⟨_,run_lssi rfl (x0.trans X0) (x1.trans X1),congrArg Value.bool (dT (by omega))⟩),trivial⟩ fun a4 w4 st4=>Wn ?_
  refine cT st4 ?_;have hb0:=hl64 (2*j) (by omega);have hb1:=hl64 (2*j+1) (by omega);by_cases hrm:(us).length+([ofE l j]).length<=c
  ·
   replace st4:St w.heap.size w 26 [] [(0,VI l),(3,VRg 32 8 (EV 3) none g c us),(4,Vi ((2*j:Nat):Int)),(9,Vb true)] a4 w4:=st4;obtain⟨vR,heR,hlR,hcmR,(⟨h0,-⟩|⟨h0,hvR,hrow⟩)⟩:=st4.sl (3,VRg 32 8 (EV 3) none g c us) (lS_mem rfl)
   ·simp only [List.length_cons,List.length_nil] at hrm;omega
   have h2c:2<=c:=by simp only [List.length_cons,List.length_nil] at hrm;omega
   have hgn:w.heap.size<=g:=by omega
   replace st4:=st4.reT 3 (VEq (.slice (some ⟨g,0,none⟩) us.length c)) heR hvR;replace st4:St w.heap.size w 26 [] [(0,VI l),(3,VEq (.slice (some ⟨g,0,none⟩) us.length c)),(4,Vi ((2*j:Nat):Int)),(9,Vb true)] a4 w4:=st4.cut;clear heR hvR hlR;refine Wn ?_
   have:Sb ((32,8*c,0):: []) (VOs 32 8 (EV 3) ([ofE l j])):=⟨Stab_VOs (fun x=>Stab_Vv _ _ _) (by first|(simp;done)|(simp;omega))⟩;refine rgR (BT:=[]) (Vl:=[VEq (.slice (some ⟨g,0,none⟩) us.length c),VI l,Vi ((2*j:Nat):Int),VPc (iat l (2*j)),Vi (iat l (2*j)),VI l,Vi ((2*j:Nat):Int),Vi ((2*j+1:Nat):Int),VPc (iat l (2*j+1)),Vi (iat l (2*j+1)),Vv 3 (Rat.divInt (iat l (2*j)) 1) (Rat.divInt (iat l (2*j+1)) 1),VOs 32 8 (EV 3) ([ofE l j]),VEq (.slice (some ⟨g,0,none⟩) (us.length+([ofE l j]).length) c),VEq (.slice (some ⟨g,0,none⟩) (us.length+([ofE l j]).length) c)]) (B:=[]) (SL':=[(0,VI l),(4,Vi ((2*j:Nat):Int)),(9,Vb true),(3,VEq (.slice (some ⟨g,0,none⟩) (us.length+([ofE l j]).length) c))]) ⟨g,12,32,8*c,VEl 8 (EV 3) (us++ [ofE l j]),VEl 8 (EV 3) us⟩ st4 hrow ⟨fun _=>?s0,fun _=>ks,fun _=>ks,fun _=>(kr2 13 14 fun _ _ _ _ _ x0 X0 _ x1 X1=>index_VI rfl x0 X0 x1 X1 (by omega)),fun _=>(kr1 15 fun _ _ _ _ _ x0 X0=>load_Pc rfl x0 X0),fun _=>ks,fun _=>ks,fun _=>(kr1 18 fun _ _ _ _ v0 x0 X0=>⟨_,run_addi rfl (x0.trans (show v0= .int .i64 ((2*j:Nat):Int)from X0)) rfl wO,congrArg (Value.int .i64) (by omega)⟩),fun _=>(kr2 17 19 fun _ _ _ _ _ x0 X0 _ x1 X1=>index_VI rfl x0 X0 x1 X1 (by omega)),fun _=>(kr1 20 fun _ _ _ _ _ x0 X0=>load_Pc rfl x0 X0),fun _=>(kd2 fun _ _ _ _ _ X0 _ X1=>cR5Of X0 X1),fun _=>(by refine km fun _ A Y h D=>?_;obtain⟨v0,x0,X0⟩:=h.dp D 22;exact bslice_V1 rfl x0 X0),fun hne=>absurd rfl hne,fun _=>ks,trivial⟩ ?r12 ?_ (by kernel_rfl) (Nat.le_of_ble_eq_true rfl) (hm0:=(by show 8*c≠0;omega))
   case s0=>
    refine k_run0 SbB.out (by kernel_rfl) fun listed A Y h D hnl=>⟨trivial,?_⟩
    obtain⟨v0,x0,X0⟩:=h.out0 hnl (3,VEq (.slice (some ⟨g,0,none⟩) us.length c)) (.tail _ (.head _)) 13 (by kernel_rfl) (.inr (by kernel_rfl));exact⟨_,run_move rfl,by rw [x0];exact X0⟩
   case r12=>intro o ho;obtain rfl:=Option.some.inj ho.symm;exact k_appM (k:=8) (E:=EV 3) (us:=us) (zs:=[ofE l j]) rfl ⟨[],by simp⟩ rfl (.inl ⟨by kernel_rfl,rfl,rfl⟩) (.inl ⟨by kernel_rfl,rfl,rfl⟩) (fun _ _ _ _ h=>VOs_sc h) rfl hrm h2c hgn (by kernel_rfl) (by kernel_rfl) (fun x BT=>Stab_Vv _ _ _) (by simp) trivial
   clear hrow;intro a5 w5 st5 hrow;replace st5:St w.heap.size w 26 [] [(0,VI l),(4,Vi ((2*j:Nat):Int)),(9,Vb true),(3,VEq (.slice (some ⟨g,0,none⟩) (us.length+([ofE l j]).length) c))] a5 w5:=st5;obtain⟨vR,heR,hvR⟩:=st5.sl (3,VEq (.slice (some ⟨g,0,none⟩) (us.length+([ofE l j]).length) c)) (lS_mem rfl);replace st5:=st5.reT 3 (VRg 32 8 (EV 3) none g c (us++ [ofE l j])) heR (by obtain rfl:vR=_:=hvR;exact VRg_in (by rw [List.length_append];exact hrm) h0 hcmR hrow);replace st5:St w.heap.size w 26 [] [(0,VI l),(4,Vi ((2*j:Nat):Int)),(9,Vb true),(3,VRg 32 8 (EV 3) none g c (us++ [ofE l j]))] a5 w5:=st5.cut;clear heR hvR hrow hcmR h0;refine Wn ?_
   refine rH [] [Vi ((2*j:Nat):Int),Vi ((2*(j+1):Nat):Int),Vi ((2*(j+1):Nat):Int)] [] [(0,VI l),(9,Vb true),(3,VRg 32 8 (EV 3) none g c (us++ [ofE l j])),(4,Vi ((2*(j+1):Nat):Int))] st5 ⟨?s0,(kr1 10 fun _ _ _ _ v0 x0 X0=>⟨_,run_addi rfl (x0.trans (show v0= .int .i64 ((2*j:Nat):Int)from X0)) rfl wO,congrArg (Value.int .i64) (by omega)⟩),ks,trivial⟩ ?_
   case s0=>
    refine k_run0 SbB.out (by kernel_rfl) fun listed A Y h D hnl=>⟨trivial,?_⟩
    obtain⟨v0,x0,X0⟩:=h.out0 hnl (4,Vi ((2*j:Nat):Int)) (.tail _ (.head _)) 2 (by kernel_rfl) (.inr (by kernel_rfl));exact⟨_,run_move rfl,by rw [x0];exact X0⟩
   intro a6 w6 st6;replace st6:St w.heap.size w 26 [] [(0,VI l),(9,Vb true),(3,VRg 32 8 (EV 3) none g c (us++ [ofE l j])),(4,Vi ((2*(j+1):Nat):Int))] a6 w6:=st6;exact⟨m - 1,by omega,j+1,g,c,us++ [ofE l j],by omega,by rw [hus];unfold ofL;rw [List.range_succ,List.map_append];rfl,by rw [List.length_append,hul];rfl,.inr ⟨by omega,by rw [List.length_append,List.length_singleton];omega⟩,st6.cut⟩
  ·
   refine Wn ?_
   refine rH [] [VRg 32 8 (EV 3) none g c us,VI l,Vi ((2*j:Nat):Int),VPc (iat l (2*j)),Vi (iat l (2*j)),VI l,Vi ((2*j:Nat):Int),Vi ((2*j+1:Nat):Int),VPc (iat l (2*j+1)),Vi (iat l (2*j+1)),Vv 3 (Rat.divInt (iat l (2*j)) 1) (Rat.divInt (iat l (2*j+1)) 1),VOs 32 8 (EV 3) ([ofE l j]),VRx 32 8 (EV 3) w.heap.size (us++ [ofE l j]),VRx 32 8 (EV 3) w.heap.size (us++ [ofE l j])] [] [(0,VI l),(4,Vi ((2*j:Nat):Int)),(9,Vb true),(3,VRx 32 8 (EV 3) w.heap.size (us++ [ofE l j]))] st4 ⟨?s0,ks,ks,(kr2 13 14 fun _ _ _ _ _ x0 X0 _ x1 X1=>index_VI rfl x0 X0 x1 X1 (by omega)),(kr1 15 fun _ _ _ _ _ x0 X0=>load_Pc rfl x0 X0),ks,ks,(kr1 18 fun _ _ _ _ v0 x0 X0=>⟨_,run_addi rfl (x0.trans (show v0= .int .i64 ((2*j:Nat):Int)from X0)) rfl wO,congrArg (Value.int .i64) (by omega)⟩),(kr2 17 19 fun _ _ _ _ _ x0 X0 _ x1 X1=>index_VI rfl x0 X0 x1 X1 (by omega)),(kr1 20 fun _ _ _ _ _ x0 X0=>load_Pc rfl x0 X0),(kd2 fun _ _ _ _ _ X0 _ X1=>cR5Of X0 X1),(by refine km fun _ A Y h D=>?_;obtain⟨v0,x0,X0⟩:=h.dp D 22;exact bslice_V1 rfl x0 X0),(by refine km fun _ A Y h D=>?_;obtain⟨v0,x0,X0⟩:=h.dp D 12;obtain⟨v1,x1,X1⟩:=h.dp D 23;exact app_growM rfl x0 X0 x1 (VOs_sc X1) (fun x=>Stab_Vv _ _ _) (by omega) h.n (by simp only [List.length_cons,List.length_nil];omega)),ks,trivial⟩ ?_
   case s0=>
    refine k_run0 SbB.out (by kernel_rfl) fun listed A Y h D hnl=>⟨trivial,?_⟩
    obtain⟨v0,x0,X0⟩:=h.out0 hnl (3,VRg 32 8 (EV 3) none g c (us)) (.tail _ (.head _)) 13 (by kernel_rfl) (.inr (by kernel_rfl));exact⟨_,run_move rfl,by rw [x0];exact X0⟩
   intro a5 w5 st5;replace st5:St w.heap.size w 26 [] [(0,VI l),(4,Vi ((2*j:Nat):Int)),(9,Vb true),(3,VRx 32 8 (EV 3) w.heap.size (us++ [ofE l j]))] a5 w5:=st5;obtain⟨g2,c2,hg2,hc2,st5⟩:=st5.nameR 3 rfl;replace st5:St w.heap.size w 26 [] [(0,VI l),(4,Vi ((2*j:Nat):Int)),(9,Vb true),(3,VRg 32 8 (EV 3) none g2 c2 (us++ [ofE l j]))] a5 w5:=st5.cut;refine Wn ?_
   refine rH [] [Vi ((2*j:Nat):Int),Vi ((2*(j+1):Nat):Int),Vi ((2*(j+1):Nat):Int)] [] [(0,VI l),(9,Vb true),(3,VRg 32 8 (EV 3) none g2 c2 (us++ [ofE l j])),(4,Vi ((2*(j+1):Nat):Int))] st5 ⟨?s0,(kr1 10 fun _ _ _ _ v0 x0 X0=>⟨_,run_addi rfl (x0.trans (show v0= .int .i64 ((2*j:Nat):Int)from X0)) rfl wO,congrArg (Value.int .i64) (by omega)⟩),ks,trivial⟩ ?_
   case s0=>
    refine k_run0 SbB.out (by kernel_rfl) fun listed A Y h D hnl=>⟨trivial,?_⟩
    obtain⟨v0,x0,X0⟩:=h.out0 hnl (4,Vi ((2*j:Nat):Int)) (.tail _ (.head _)) 2 (by kernel_rfl) (.inr (by kernel_rfl));exact⟨_,run_move rfl,by rw [x0];exact X0⟩
   intro a6 w6 st6;replace st6:St w.heap.size w 26 [] [(0,VI l),(9,Vb true),(3,VRg 32 8 (EV 3) none g2 c2 (us++ [ofE l j])),(4,Vi ((2*(j+1):Nat):Int))] a6 w6:=st6;exact⟨m - 1,by omega,j+1,g2,c2,us++ [ofE l j],by omega,by rw [hus];unfold ofL;rw [List.range_succ,List.map_append];rfl,by rw [List.length_append,hul];rfl,.inr ⟨by omega,by rw [List.length_append,List.length_singleton];omega⟩,st6.cut⟩
 ·
  refine Wn ?_
  refine rH [] [Vi ((2*j:Nat):Int),Vi ((2*j+1:Nat):Int),VI l,Vi (l.length:Int),Vb false] [] [(0,VI l),(3,VRg 32 8 (EV 3) none g c us),(4,Vi ((2*j:Nat):Int)),(9,Vb false)] st3 ⟨ks,(kr1 5 fun _ _ _ _ v0 x0 X0=>⟨_,run_addi rfl (x0.trans (show v0= .int .i64 ((2*j:Nat):Int)from X0)) rfl wO,congrArg (Value.int .i64) (by omega)⟩),ks,(kr1 7 fun _ _ _ _ _ x0 X0=>len_VI rfl rfl x0 X0),(kr2 6 8 fun _ _ _ _ _ x0 X0 _ x1 X1=>⟨_,run_lssi rfl (x0.trans X0) (x1.trans X1),congrArg Value.bool (dF (by omega))⟩),trivial⟩ fun a4 w4 st4=>Wn ?_
  refine cF st4 ?_;obtain rfl:j=n:=by omega
  refine Wn ?_
  refine rH [] [VRg 32 8 (EV 3) none g c us,VRg 32 8 (EV 3) none g c us] [] [(0,VI l),(3,VRg 32 8 (EV 3) none g c us),(4,Vi ((2*j:Nat):Int)),(9,Vb false),(2,VRg 32 8 (EV 3) none g c us)] st4 ⟨ks,ks,trivial⟩ fun a5 w5 st5=>Wn ?_
  exact wp_ret (rS 2 (VRg 32 8 (EV 3) none g c (us)) st5 fun vr r4=>(by rw [<-hus];exact VRg_sv r4 (by intro e;rw [e] at hul;simp at hul;omega)))
def E2 (x:Int×Int):VP:=VEq (.agg #[.int .i64 x.1,.int .i64 x.2])
instance {BT:List (TypeId×Nat×Nat)}(x:Int×Int):Sb BT (E2 x):=⟨fun _ _ _ h _=>h⟩
def wys:List (Int×Int):=[(4,0),(4,2),(3,3),(2,4),(0,4),(-2,4),(-3,3),(-4,2),(-4,0),(-4,-2),(-3,-3),(-2,-4),(0,-4),(2,-4),(3,-3),(4,-2)]
def wyc (i:Nat):Int×Int:=wys.getD i (0,0)
theorem wys_bd:∀j<16,-4<=(wyc j).1/\(wyc j).1<=4/\ -4<=(wyc j).2/\(wyc j).2<=4:=by decide
def byQ (l:List Int):P2:=(Rat.divInt (atv l 16 9 - 4) 1,Rat.divInt (atv l 17 9 - 4) 1)
def pgE (l:List Int)(i:Nat):P2:=((byQ l).1+Rat.divInt ((wyc i).1*atv l (i:Int) 6) 2,(byQ l).2+Rat.divInt ((wyc i).2*atv l (i:Int) 6) 2)
def pgL (l:List Int):Nat->List P2
 |0=>[]
 |i+1=>if (pgL l i).length<12/\0<atv l (i:Int) 6/\atv l (i:Int) 6<4 then pgL l i++ [pgE l i] else pgL l i
theorem pgL_stay {l:List Int}{i:Nat}(h:12<=(pgL l i).length):∀k,pgL l (i+k)=pgL l i
 |0=>rfl
 |k+1=>by
  have:=pgL_stay h k;show pgL l (i+k+1)=_;rw [pgL,if_neg (by rw [this];omega),this]
def pgF (l:List Int):List P2:=[byQ l,((byQ l).1+Rat.divInt 4 1,(byQ l).2+Rat.divInt 0 1),((byQ l).1+Rat.divInt (1+atv l 0 2) 1,(byQ l).2+Rat.divInt 3 1),((byQ l).1+Rat.divInt 1 1,(byQ l).2+Rat.divInt 1 1)]
def polyR (l:List Int):List P2:=if validR (pgL l 16)=true then pgL l 16 else pgF l
theorem Stab_VSl2 {BT:List (TypeId×Nat×Nat)}{xs:List (Int×Int)}(hn:∀e∈BT,e.1≠63):Stab BT (VSl 63 2 E2 xs):=fun _ _ _ ⟨hh,o,c,cs,e1,e2,e3,e4,e5,e6⟩ hr=>⟨hh,o,c,cs,e1,e2,e3,(hr.row _ _ _ e4 (.inl fun e he q=>absurd q (hn e he))).trans e4,e5,e6⟩
theorem Stab_VEp2 {BT:List (TypeId×Nat×Nat)}{x:Int×Int}(hn:∀e∈BT,e.1≠63):Stab BT (VEp 63 2 (E2 x)):=fun _ _ _ ⟨g,off,cs,e1,e2,e3,e4⟩ hr=>⟨g,off,cs,e1,(hr.row _ _ _ e2 (.inl fun e he q=>absurd q (hn e he))).trans e2,e3,e4⟩
instance {xs:List (Int×Int)}:Sb [] (VSl 63 2 E2 xs):=⟨Stab_VSl2 (by simp)⟩
instance {x:Int×Int}:Sb [] (VEp 63 2 (E2 x)):=⟨Stab_VEp2 (by simp)⟩
section
variable {ρ:Operand->Value}{o:Oper}{W:World}{x y:Operand}{va vb:Value}
theorem run_build2 {a b:Int}(ho:o.op= .build 63 #[(0,.const (.int .i64 a)),(1,.const (.int .i64 b))])(hc:∀v,ρ (.const v)=v):∃v,(execOp ρ o).run Tryz.prog W= .ok (.value v) W/\E2 (a,b) v W:=by
 refine⟨_,?_,rfl⟩;obtain⟨dd,op,ty,ps,af,gd⟩:=o;subst ho
 go_simp
theorem bslice_A16 {x0 x1 x2 x3 x4 x5 x6 x7 x8 x9 x10 x11 x12 x13 x14 x15:Operand}{v0 v1 v2 v3 v4 v5 v6 v7 v8 v9 v10 v11 v12 v13 v14 v15:Value}(ho:o.op= .buildSlice 64 16 #[(0,x0),(1,x1),(2,x2),(3,x3),(4,x4),(5,x5),(6,x6),(7,x7),(8,x8),(9,x9),(10,x10),(11,x11),(12,x12),(13,x13),(14,x14),(15,x15)])(e0:ρ x0=v0)(e1:ρ x1=v1)(e2:ρ x2=v2)(e3:ρ x3=v3)(e4:ρ x4=v4)(e5:ρ x5=v5)(e6:ρ x6=v6)(e7:ρ x7=v7)(e8:ρ x8=v8)(e9:ρ x9=v9)(e10:ρ x10=v10)(e11:ρ x11=v11)(e12:ρ x12=v12)(e13:ρ x13=v13)(e14:ρ x14=v14)(e15:ρ x15=v15)(h0:E2 (4,0) v0 W)(h1:E2 (4,2) v1 W)(h2:E2 (3,3) v2 W)(h3:E2 (2,4) v3 W)(h4:E2 (0,4) v4 W)(h5:E2 (-2,4) v5 W)(h6:E2 (-3,3) v6 W)(h7:E2 (-4,2) v7 W)(h8:E2 (-4,0) v8 W)(h9:E2 (-4,-2) v9 W)(h10:E2 (-3,-3) v10 W)(h11:E2 (-2,-4) v11 W)(h12:E2 (0,-4) v12 W)(h13:E2 (2,-4) v13 W)(h14:E2 (3,-3) v14 W)(h15:E2 (4,-2) v15 W):∃v w',(execOp ρ o).run Tryz.prog W= .ok (.value v) w'/\Below W.heap.size W w'/\VSl 63 2 E2 wys v w':=by
 obtain rfl:v0=_:=h0;obtain rfl:v1=_:=h1;obtain rfl:v2=_:=h2;obtain rfl:v3=_:=h3;obtain rfl:v4=_:=h4;obtain rfl:v5=_:=h5;obtain rfl:v6=_:=h6;obtain rfl:v7=_:=h7;obtain rfl:v8=_:=h8;obtain rfl:v9=_:=h9;obtain rfl:v10=_:=h10;obtain rfl:v11=_:=h11;obtain rfl:v12=_:=h12;obtain rfl:v13=_:=h13;obtain rfl:v14=_:=h14;obtain rfl:v15=_:=h15;have hb:=below_new W (.cells #[.int .i64 4,.int .i64 0,.int .i64 4,.int .i64 2,.int .i64 3,.int .i64 3,.int .i64 2,.int .i64 4,.int .i64 0,.int .i64 4,.int .i64 (-2),.int .i64 4,.int .i64 (-3),.int .i64 3,.int .i64 (-4),.int .i64 2,.int .i64 (-4),.int .i64 0,.int .i64 (-4),.int .i64 (-2),.int .i64 (-3),.int .i64 (-3),.int .i64 (-2),.int .i64 (-4),.int .i64 0,.int .i64 (-4),.int .i64 2,.int .i64 (-4),.int .i64 3,.int .i64 (-3),.int .i64 4,.int .i64 (-2)] 63);refine⟨.slice (some ⟨W.heap.size,0,none⟩) 16 16,_,?_,hb,⟨_,0,16,_,rfl,Nat.le_refl _,by omega,heap_alloc_new _ _,Nat.le_refl _,fun i z hz=>?_⟩⟩
 ·clear hb;obtain⟨dd,op,ty,ps,af,gd⟩:=o;subst ho
  go_simp
 ·match i,hz with
  |0,hz=>cases hz;rfl
  |1,hz=>cases hz;rfl
  |2,hz=>cases hz;rfl
  |3,hz=>cases hz;rfl
  |4,hz=>cases hz;rfl
  |5,hz=>cases hz;rfl
  |6,hz=>cases hz;rfl
  |7,hz=>cases hz;rfl
  |8,hz=>cases hz;rfl
  |9,hz=>cases hz;rfl
  |10,hz=>cases hz;rfl
  |11,hz=>cases hz;rfl
  |12,hz=>cases hz;rfl
  |13,hz=>cases hz;rfl
  |14,hz=>cases hz;rfl
  |15,hz=>cases hz;rfl
  |i+16,hz=>simp [wys] at hz
theorem len_A16 (ho:o.op= .call {callee:= .builtin .len,args:=#[x],argTypes:=#[64]})(hty:o.type=3)(hx:ρ x=va)(h:VSl 63 2 E2 wys va W):∃v,(execOp ρ o).run Tryz.prog W= .ok (.value v) W/\Vi 16 v W:=by
 obtain⟨hh,oo,c,cs,rfl,-⟩:=h;refine⟨.int .i64 16,?_,rfl⟩;have:wys.length=16:=rfl;obtain⟨dd,op,ty,ps,af,gd⟩:=o;subst ho;simp only at hty;subst hty;rw [this] at hx
 go_simp
theorem index_A16 {j:Nat}(ho:o.op= .indexAddr 64 x y)(hx:ρ x=va)(h:VSl 63 2 E2 wys va W)(hy:ρ y=vb)(hb:Vi (j:Int) vb W)(hj:j<16):∃v,(execOp ρ o).run Tryz.prog W= .ok (.value v) W/\VEp 63 2 (E2 (wyc j)) v W:=by
 have hl:wys.length=16:=rfl;have hz:wys[j]? =some (wyc j):=by unfold wyc;rw [List.getD_eq_getElem?_getD,List.getElem?_eq_getElem (by omega)];rfl
 obtain⟨b,off,c,rfl,h2⟩:=VSl_el h hz;obtain rfl:vb=_:=hb;refine⟨.pointer (some ⟨b,off+2*j,none⟩),?_,h2⟩;have hj2:(j:Int)<16:=by omega
 have hm:j*2=2*j:=Nat.mul_comm _ _;clear h h2 hz;obtain⟨dd,op,ty,ps,af,gd⟩:=o;subst ho;rw [hl] at hx
 go_simp
theorem index_E2 {z:Int×Int}{k:Nat}(ho:o.op= .indexAddr 63 x (.const (.int .i64 (k:Int))))(hc:∀v,ρ (.const v)=v)(hx:ρ x=va)(h:VEp 63 2 (E2 z) va W)(hk:k<2):∃v,(execOp ρ o).run Tryz.prog W= .ok (.value v) W/\VPc (if k=0 then z.1 else z.2) v W:=by
 obtain⟨g,off,cs,rfl,e2,e3,e4⟩:=h;have e4:Value.agg (cs.extract off (off+2))=_:=e4
 have hcell:W.cell? ⟨g,off+k,none⟩=some (.int .i64 (if k=0 then z.1 else z.2)):=by
  simp only [World.cell?,e2]
  have e5:(cs.extract off (off+2))[k]? =some (.int .i64 (if k=0 then z.1 else z.2)):=by
   rw [Value.agg.inj e4]
   match k,hk with
   |0,_=>rfl
   |1,_=>rfl
  rw [Array.getElem?_extract,if_pos (by omega)] at e5
  simpa using e5
 refine⟨.pointer (some ⟨g,off+k,none⟩),?_,_,rfl,hcell⟩;clear hcell e4;obtain⟨dd,op,ty,ps,af,gd⟩:=o;subst ho
 match k,hk with
 |0,_=>go_simp
 |1,_=>go_simp
theorem len_Rg {N g c:Nat}{us:List P2}(ho:o.op= .call {callee:= .builtin .len,args:=#[x],argTypes:=#[23]})(hty:o.type=3)(hx:ρ x=va)(h:VRg 32 8 (EV N) none g c us va W):∃v,(execOp ρ o).run Tryz.prog W= .ok (.value v) W/\Vi (us.length:Int) v W:=by
 have:∃p,va= .slice p us.length c:=by
  obtain⟨h1,-,(⟨h2,rfl⟩|⟨-,rfl,-⟩)⟩:=h
  ·subst h2;exact⟨none,by rw [Nat.le_zero.1 h1]⟩
  ·exact⟨_,rfl⟩
 obtain⟨p,rfl⟩:=this;refine⟨.int .i64 (us.length:Int),?_,rfl⟩;clear h;generalize us.length=n at*
 obtain⟨dd,op,ty,ps,af,gd⟩:=o;subst ho;simp only at hty;subst hty
 go_simp
theorem bslice_V4 {M:Nat}{x0 x1 x2 x3:Operand}{v0 v1 v2 v3:Value}{d0 d1 d2 d3:P2}(ho:o.op= .buildSlice 23 4 #[(0,x0),(1,x1),(2,x2),(3,x3)])(e0:ρ x0=v0)(e1:ρ x1=v1)(e2:ρ x2=v2)(e3:ρ x3=v3)(h0:Vv M d0.1 d0.2 v0 W)(h1:Vv M d1.1 d1.2 v1 W)(h2:Vv M d2.1 d2.2 v2 W)(h3:Vv M d3.1 d3.2 v3 W):
 ∃v w',(execOp ρ o).run Tryz.prog W= .ok (.value v) w'/\Below W.heap.size W w'/\VSv M [d0,d1,d2,d3] v w':=by
 obtain⟨c0,rfl,s0,-⟩:=AggV_Vv _ _ _ _ _ h0;obtain⟨c1,rfl,s1,-⟩:=AggV_Vv _ _ _ _ _ h1;obtain⟨c2,rfl,s2,-⟩:=AggV_Vv _ _ _ _ _ h2;obtain⟨c3,rfl,s3,-⟩:=AggV_Vv _ _ _ _ _ h3;obtain⟨p0_0,p0_1,p0_2,p0_3,p0_4,p0_5,p0_6,p0_7,rfl⟩:=arr8 s0;obtain⟨p1_0,p1_1,p1_2,p1_3,p1_4,p1_5,p1_6,p1_7,rfl⟩:=arr8 s1;obtain⟨p2_0,p2_1,p2_2,p2_3,p2_4,p2_5,p2_6,p2_7,rfl⟩:=arr8 s2;obtain⟨p3_0,p3_1,p3_2,p3_3,p3_4,p3_5,p3_6,p3_7,rfl⟩:=arr8 s3;have hb:=below_new W (.cells #[p0_0,p0_1,p0_2,p0_3,p0_4,p0_5,p0_6,p0_7,p1_0,p1_1,p1_2,p1_3,p1_4,p1_5,p1_6,p1_7,p2_0,p2_1,p2_2,p2_3,p2_4,p2_5,p2_6,p2_7,p3_0,p3_1,p3_2,p3_3,p3_4,p3_5,p3_6,p3_7] 32);refine⟨.slice (some ⟨W.heap.size,0,none⟩) 4 4,_,?_,hb,.inr ⟨_,0,4,_,rfl,Nat.le_refl _,by omega,heap_alloc_new _ _,Nat.le_refl _,fun i z hz=>?_⟩⟩
 ·clear h0 h1 h2 h3 hb;obtain⟨dd,op,ty,ps,af,gd⟩:=o;subst ho
  go_simp
 ·match i,hz with
  |0,hz=>cases hz;exact Stab_Vv (BT:=[]) _ _ _ _ _ _ h0 (RI.of_below hb)
  |1,hz=>cases hz;exact Stab_Vv (BT:=[]) _ _ _ _ _ _ h1 (RI.of_below hb)
  |2,hz=>cases hz;exact Stab_Vv (BT:=[]) _ _ _ _ _ _ h2 (RI.of_below hb)
  |3,hz=>cases hz;exact Stab_Vv (BT:=[]) _ _ _ _ _ _ h3 (RI.of_below hb)
  |i+4,hz=>simp at hz
end
theorem mul_bd4 {a k:Int}(h1: -4<=a)(h2:a<=4)(h3:0<=k)(h4:k<6): -24<=a*k/\a*k<=24:=by
 have h5:k=0∨k=1∨k=2∨k=3∨k=4∨k=5:=by omega
 rcases h5 with h|h|h|h|h|h<;>subst h<;>omega
theorem Stab_VSvN {N:Nat}{vs:List P2}:Stab [] (VSv N vs):=fun _ _ _ h hr=>h.imp id fun ⟨hh,o,c,cs,e1,e2,e3,e4,e5,e6⟩=>⟨hh,o,c,cs,e1,e2,e3,(hr.row _ _ _ e4 (.inl (by simp))).trans e4,e5,fun i x hx=>Stab_Vv _ _ _ _ _ _ (e6 i x hx) hr⟩
theorem cR6Polygon {w:World}{l:List Int}{v0:Value}(h0:VI l v0 w):Calls Tryz.prog 8 #[v0] w (RV (VSv 7 (polyR l)) w):=by
 go_enter Tryz.func8,Tryz.ntmps8
 refine Sg 91 [(0,VI l)] (Lq.2 ⟨⟨_,rfl,h0⟩,L0⟩) fun a0 st0=>Wn ?_
 refine rH [(32,8,0)] [VEq (.slice none 0 0)] [] [(0,VI l),(2,VEq (.slice none 0 0))] st0 ⟨ks,trivial⟩ fun a1 w1 st1=>Wn ?_
 have:Sb [(32,8,0)] (VSl 63 2 E2 wys):=⟨Stab_VSl2 (by simp)⟩;refine rH [(32,8,0)] [E2 (4,0),E2 (4,2),E2 (3,3),E2 (2,4),E2 (0,4),E2 (-2,4),E2 (-3,3),E2 (-4,2),E2 (-4,0),E2 (-4,-2),E2 (-3,-3),E2 (-2,-4),E2 (0,-4),E2 (2,-4),E2 (3,-3),E2 (4,-2),VSl 63 2 E2 wys,VSl 63 2 E2 wys] [] [(0,VI l),(2,VEq (.slice none 0 0)),(3,VSl 63 2 E2 wys)] st1 ⟨(kr fun _ A Y h D=>run_build2 (a:=4) (b:=0) rfl (fun _=>rfl)),(kr fun _ A Y h D=>run_build2 (a:=4) (b:=2) rfl (fun _=>rfl)),(kr fun _ A Y h D=>run_build2 (a:=3) (b:=3) rfl (fun _=>rfl)),(kr fun _ A Y h D=>run_build2 (a:=2) (b:=4) rfl (fun _=>rfl)),(kr fun _ A Y h D=>run_build2 (a:=0) (b:=4) rfl (fun _=>rfl)),(kr fun _ A Y h D=>run_build2 (a:= -2) (b:=4) rfl (fun _=>rfl)),(kr fun _ A Y h D=>run_build2 (a:= -3) (b:=3) rfl (fun _=>rfl)),(kr fun _ A Y h D=>run_build2 (a:= -4) (b:=2) rfl (fun _=>rfl)),(kr fun _ A Y h D=>run_build2 (a:= -4) (b:=0) rfl (fun _=>rfl)),(kr fun _ A Y h D=>run_build2 (a:= -4) (b:= -2) rfl (fun _=>rfl)),(kr fun _ A Y h D=>run_build2 (a:= -3) (b:= -3) rfl (fun _=>rfl)),(kr fun _ A Y h D=>run_build2 (a:= -2) (b:= -4) rfl (fun _=>rfl)),(kr fun _ A Y h D=>run_build2 (a:=0) (b:= -4) rfl (fun _=>rfl)),(kr fun _ A Y h D=>run_build2 (a:=2) (b:= -4) rfl (fun _=>rfl)),(kr fun _ A Y h D=>run_build2 (a:=3) (b:= -3) rfl (fun _=>rfl)),(kr fun _ A Y h D=>run_build2 (a:=4) (b:= -2) rfl (fun _=>rfl)),(by refine km fun _ A Y h D=>?_;obtain⟨v0,x0,X0⟩:=h.dp D 8;obtain⟨v1,x1,X1⟩:=h.dp D 9;obtain⟨v2,x2,X2⟩:=h.dp D 10;obtain⟨v3,x3,X3⟩:=h.dp D 11;obtain⟨v4,x4,X4⟩:=h.dp D 12;obtain⟨v5,x5,X5⟩:=h.dp D 13;obtain⟨v6,x6,X6⟩:=h.dp D 14;obtain⟨v7,x7,X7⟩:=h.dp D 15;obtain⟨v8,x8,X8⟩:=h.dp D 16;obtain⟨v9,x9,X9⟩:=h.dp D 17;obtain⟨v10,hv10,hV10⟩:=h.dp D 18;obtain⟨v11,hv11,hV11⟩:=h.dp D 19;obtain⟨v12,hv12,hV12⟩:=h.dp D 20;obtain⟨v13,hv13,hV13⟩:=h.dp D 21;obtain⟨v14,hv14,hV14⟩:=h.dp D 22;obtain⟨v15,hv15,hV15⟩:=h.dp D 23;exact bslice_A16 rfl x0 x1 x2 x3 x4 x5 x6 x7 x8 x9 hv10 hv11 hv12 hv13 hv14 hv15 X0 X1 X2 X3 X4 X5 X6 X7 X8 X9 hV10 hV11 hV12 hV13 hV14 hV15),ks,trivial⟩ ?_;intro a2 w2 st2;have ha0:=atv_lo l 16 9 (by omega);have ha1:=atv_hi l 16 9 (by omega);have ha2:=atv_lo l 17 9 (by omega);have ha3:=atv_hi l 17 9 (by omega);refine Wn ?_
 have:Sb [(32,8,0)] (VSl 63 2 E2 wys):=⟨Stab_VSl2 (by simp)⟩;refine rH [(32,8,0)] [VI l,Vi (atv l 16 9),Vi ((atv l 16 9) - 4),VI l,Vi (atv l 17 9),Vi ((atv l 17 9) - 4),Vv 3 (Rat.divInt ((atv l 16 9) - 4) 1) (Rat.divInt ((atv l 17 9) - 4) 1),VT,VT] [⟨4,some 7,some 8,32,8,Vv 3 (Rat.divInt ((atv l 16 9) - 4) 1) (Rat.divInt ((atv l 17 9) - 4) 1),VT⟩] [(0,VI l),(2,VEq (.slice none 0 0)),(3,VSl 63 2 E2 wys)] st2 ⟨ks,(by refine kc fun _ A Y h D=>?_;obtain⟨v0,x0,X0⟩:=h.dp D 25;exact⟨#[v0,.int .i64 16,.int .i64 9],by simp [x0,eval_const],cAt X0 (show Vi 16 (.int .i64 16) Y from rfl)⟩),(kr1 26 fun _ _ _ _ _ x0 X0=>⟨_,run_subi rfl (x0.trans X0) rfl wO,rfl⟩),ks,(by refine kc fun _ A Y h D=>?_;obtain⟨v0,x0,X0⟩:=h.dp D 28;exact⟨#[v0,.int .i64 17,.int .i64 9],by simp [x0,eval_const],cAt X0 (show Vi 17 (.int .i64 17) Y from rfl)⟩),(kr1 29 fun _ _ _ _ _ x0 X0=>⟨_,run_subi rfl (x0.trans X0) rfl wO,rfl⟩),(kd2 fun _ _ _ _ _ X0 _ X1=>cR5Of X0 X1),ks,ks,trivial⟩ ?_;intro a3 w3 st3;replace st3:St w.heap.size w 91 [.k 4 32 8 (Vv 3 (Rat.divInt ((atv l 16 9) - 4) 1) (Rat.divInt ((atv l 17 9) - 4) 1))] [(0,VI l),(2,VEq (.slice none 0 0)),(3,VSl 63 2 E2 wys)] a3 w3:=st3;replace st3:St w.heap.size w 91 [.k 4 32 8 (Vv 3 ((byQ l).1) ((byQ l).2))] [(0,VI l),(2,VEq (.slice none 0 0)),(3,VSl 63 2 E2 wys)] a3 w3:=st3;clear ha0 ha1 ha2 ha3;refine Wn ?_
 have:Sb [(32,8,0)] (VSl 63 2 E2 wys):=⟨Stab_VSl2 (by simp)⟩;refine rH [(32,8,0)] [VEq (.slice none 0 0)] [.k 4 32 8 (Vv 3 ((byQ l).1) ((byQ l).2))] [(0,VI l),(2,VEq (.slice none 0 0)),(3,VSl 63 2 E2 wys),(5,VEq (.slice none 0 0))] st3 ⟨ks,trivial⟩ fun a4 w4 st4=>Wn ?_
 have:Sb [(32,8,0)] (VSl 63 2 E2 wys):=⟨Stab_VSl2 (by simp)⟩;refine rH [(32,8,0)] [Vi 0] [.k 4 32 8 (Vv 3 ((byQ l).1) ((byQ l).2))] [(0,VI l),(2,VEq (.slice none 0 0)),(3,VSl 63 2 E2 wys),(5,VEq (.slice none 0 0)),(6,Vi 0)] st4 ⟨ks,trivial⟩ ?_;intro a5 w5 st5;replace st5:St w.heap.size w 91 [.k 4 32 8 (Vv 3 ((byQ l).1) ((byQ l).2))] [(0,VI l),(2,VEq (.slice none 0 0)),(3,VSl 63 2 E2 wys),(5,VEq (.slice none 0 0)),(6,Vi 0)] a5 w5:=st5;obtain⟨vR,heR,hvR⟩:=st5.sl (5,VEq (.slice none 0 0)) (lS_mem rfl);replace st5:=st5.reT 5 (VRg 32 8 (EV 7) none 0 0 ([])) heR ⟨by simp,by omega,.inl ⟨rfl,hvR⟩⟩;replace st5:St w.heap.size w 91 [.k 4 32 8 (Vv 3 ((byQ l).1) ((byQ l).2))] [(0,VI l),(3,VSl 63 2 E2 wys),(5,VRg 32 8 (EV 7) none 0 0 ([])),(6,Vi ((0:Nat):Int))] a5 w5:=st5.cut;clear heR hvR;refine Wn ?_
 refine wp_loop_ghost (fun m aX wX=>∃(j g c:Nat) (us:List P2),j+m=16/\us=pgL l j/\us.length<=12/\(c=0∨w.heap.size<=g/\0<us.length)/\St w.heap.size w 91 [.k 4 32 8 (Vv 3 ((byQ l).1) ((byQ l).2))] [(0,VI l),(3,VSl 63 2 E2 wys),(5,VRg 32 8 (EV 7) none g c us),(6,Vi j)] aX wX) 16 ⟨0,0,0,[],by omega,rfl,by simp,.inl rfl,st5⟩ ?_;intro m aL wL ⟨j,g,c,us,hj,hus,hul,hxc,st5⟩;by_cases hlt:j<16
 ·
  by_cases h12:us.length<12
  ·
   refine Wn ?_
   refine rH [] [Vi j,VSl 63 2 E2 wys,Vi 16,Vb true,Vb true,VRg 32 8 (EV 7) none g c us,Vi (us.length:Int),Vb true,Vb true] [.k 4 32 8 (Vv 3 ((byQ l).1) ((byQ l).2))] [(0,VI l),(3,VSl 63 2 E2 wys),(5,VRg 32 8 (EV 7) none g c us),(6,Vi j),(40,Vb true)] st5 ⟨ks,ks,(kr1 33 fun _ _ _ _ _ x0 X0=>len_A16 rfl rfl x0 X0),(kr2 32 34 fun _ _ _ _ _ x0 X0 _ x1 X1=>⟨_,run_lssi rfl (x0.trans X0) (x1.trans X1),congrArg Value.bool (dT (by omega))⟩),ks,ks,(kr1 37 fun _ _ _ _ _ x0 X0=>len_Rg rfl rfl x0 X0),(kr1 38 fun _ _ _ _ _ x0 X0=>⟨_,run_lssi rfl (x0.trans X0) rfl,congrArg Value.bool (dT (by omega))⟩),ks,trivial⟩ fun a6 w6 st6=>Wn ?_
   refine cT st6 ?_;have hk0:=atv_lo l (j:Int) 6 (by omega);have hk5:=atv_hi l (j:Int) 6 (by omega);refine Wn ?_
   refine rH [] [VI l,Vi j,Vi (atv l ((j:Nat):Int) 6),Vi (atv l ((j:Nat):Int) 6)] [.k 4 32 8 (Vv 3 ((byQ l).1) ((byQ l).2))] [(0,VI l),(3,VSl 63 2 E2 wys),(5,VRg 32 8 (EV 7) none g c us),(6,Vi j),(40,Vb true),(7,Vi (atv l ((j:Nat):Int) 6))] st6 ⟨ks,ks,(by refine kc fun _ A Y h D=>?_;obtain⟨v0,x0,X0⟩:=h.dp D 43;obtain⟨v1,x1,X1⟩:=h.dp D 44;exact⟨#[v0,v1,.int .i64 6],by simp [x0,x1,eval_const],cAt X0 X1⟩),ks,trivial⟩ ?_;intro a7 w7 st7;by_cases hp0:0<atv l (j:Int) 6
   ·
    by_cases hp4:atv l (j:Int) 6<4
    ·
     refine Wn ?_
     refine rH [] [Vi (atv l ((j:Nat):Int) 6),Vb true,Vb true,Vi (atv l ((j:Nat):Int) 6),Vb true,Vb true] [.k 4 32 8 (Vv 3 ((byQ l).1) ((byQ l).2))] [(0,VI l),(3,VSl 63 2 E2 wys),(5,VRg 32 8 (EV 7) none g c us),(6,Vi j),(40,Vb true),(7,Vi (atv l ((j:Nat):Int) 6)),(51,Vb true)] st7 ⟨ks,(kr1 46 fun _ _ _ _ _ x0 X0=>⟨_,run_gtri rfl (x0.trans X0) rfl,congrArg Value.bool (dT hp0)⟩),ks,ks,(kr1 49 fun _ _ _ _ _ x0 X0=>⟨_,run_lssi rfl (x0.trans X0) rfl,congrArg Value.bool (dT hp4)⟩),ks,trivial⟩ fun a8 w8 st8=>Wn ?_
     refine cT st8 ?_;have hw:=wys_bd j hlt;have hm1: -24<=(wyc j).1*atv l (j:Int) 6/\(wyc j).1*atv l (j:Int) 6<=24:=mul_bd4 hw.1 hw.2.1 hk0 hk5;have hm2: -24<=(wyc j).2*atv l (j:Int) 6/\(wyc j).2*atv l (j:Int) 6<=24:=mul_bd4 hw.2.2.1 hw.2.2.2 hk0 hk5;by_cases hrm:(us).length+([pgE l j]).length<=c
     ·
      replace st8:St w.heap.size w 91 [.k 4 32 8 (Vv 3 ((byQ l).1) ((byQ l).2))] [(0,VI l),(3,VSl 63 2 E2 wys),(5,VRg 32 8 (EV 7) none g c us),(6,Vi j),(40,Vb true),(7,Vi (atv l ((j:Nat):Int) 6)),(51,Vb true)] a8 w8:=st8;obtain⟨vR,heR,hlR,hcmR,(⟨h0,-⟩|⟨h0,hvR,hrow⟩)⟩:=st8.sl (5,VRg 32 8 (EV 7) none g c us) (lS_mem rfl)
      ·simp only [List.length_cons,List.length_nil] at hrm;omega
      have h2c:2<=c:=by simp only [List.length_cons,List.length_nil] at hrm;omega
      have hgn:w.heap.size<=g:=by omega
      replace st8:=st8.reT 5 (VEq (.slice (some ⟨g,0,none⟩) us.length c)) heR hvR;replace st8:St w.heap.size w 91 [.k 4 32 8 (Vv 3 ((byQ l).1) ((byQ l).2))] [(0,VI l),(3,VSl 63 2 E2 wys),(5,VEq (.slice (some ⟨g,0,none⟩) us.length c)),(6,Vi j),(40,Vb true),(7,Vi (atv l ((j:Nat):Int) 6)),(51,Vb true)] a8 w8:=st8.cut;clear heR hvR hlR;refine Wn ?_
      have:Sb ((32,8*c,0):: []) (VSl 63 2 E2 wys):=⟨Stab_VSl2 (by simp)⟩;have:Sb ((32,8*c,0):: []) (VEp 63 2 (E2 (wyc j))):=⟨Stab_VEp2 (by simp)⟩;have:Sb ((32,8*c,0):: []) (VOs 32 8 (EV 7) ([pgE l j])):=⟨Stab_VOs (fun x=>Stab_Vv _ _ _) (by first|(simp;done)|(simp;omega))⟩;refine rgR (BT:=[]) (Vl:=[VEq (.slice (some ⟨g,0,none⟩) us.length c),Vv 3 ((byQ l).1) ((byQ l).2),VSl 63 2 E2 wys,Vi j,VEp 63 2 (E2 (wyc j)),VPc ((wyc j).1),Vi ((wyc j).1),Vi (atv l ((j:Nat):Int) 6),Vi (((wyc j).1)*(atv l ((j:Nat):Int) 6)),Vq 3 (Rat.divInt (((wyc j).1)*(atv l ((j:Nat):Int) 6)) 2),VSl 63 2 E2 wys,Vi j,VEp 63 2 (E2 (wyc j)),VPc ((wyc j).2),Vi ((wyc j).2),Vi (atv l ((j:Nat):Int) 6),Vi (((wyc j).2)*(atv l ((j:Nat):Int) 6)),Vq 3 (Rat.divInt (((wyc j).2)*(atv l ((j:Nat):Int) 6)) 2),Vv 3 (Rat.divInt (((wyc j).1)*(atv l ((j:Nat):Int) 6)) 2) (Rat.divInt (((wyc j).2)*(atv l ((j:Nat):Int) 6)) 2),Vv 7 (((byQ l).1)+(Rat.divInt (((wyc j).1)*(atv l ((j:Nat):Int) 6)) 2)) (((byQ l).2)+(Rat.divInt (((wyc j).2)*(atv l ((j:Nat):Int) 6)) 2)),VOs 32 8 (EV 7) ([pgE l j]),VEq (.slice (some ⟨g,0,none⟩) (us.length+([pgE l j]).length) c),VEq (.slice (some ⟨g,0,none⟩) (us.length+([pgE l j]).length) c)]) (B:=[.k 4 32 8 (Vv 3 ((byQ l).1) ((byQ l).2))]) (SL':=[(0,VI l),(3,VSl 63 2 E2 wys),(6,Vi j),(40,Vb true),(7,Vi (atv l ((j:Nat):Int) 6)),(51,Vb true),(5,VEq (.slice (some ⟨g,0,none⟩) (us.length+([pgE l j]).length) c))]) ⟨g,21,32,8*c,VEl 8 (EV 7) (us++ [pgE l j]),VEl 8 (EV 7) us⟩ st8 hrow ⟨fun _=>?s0,fun _=>ks,fun _=>ks,fun _=>ks,fun _=>(kr2 54 55 fun _ _ _ _ _ x0 X0 _ x1 X1=>index_A16 rfl x0 X0 x1 X1 hlt),fun _=>(kr1 56 fun _ _ _ _ _ x0 X0=>index_E2 (k:=0) rfl (fun _=>rfl) x0 X0 (by omega)),fun _=>(kr1 57 fun _ _ _ _ _ x0 X0=>load_Pc rfl x0 X0),fun _=>ks,fun _=>(kr2 58 59 fun _ _ _ _ _ x0 X0 _ x1 X1=>⟨_,run_muli rfl (x0.trans X0) (x1.trans X1) wO,rfl⟩),fun _=>(by refine kc fun _ A Y h D=>?_;obtain⟨v0,x0,X0⟩:=h.dp D 60;exact⟨#[v0,.int .i64 2],by simp [x0,eval_const],cR4Of X0 (show Vi 2 (.int .i64 2) Y from rfl)⟩),fun _=>ks,fun _=>ks,fun _=>(kr2 62 63 fun _ _ _ _ _ x0 X0 _ x1 X1=>index_A16 rfl x0 X0 x1 X1 hlt),fun _=>(kr1 64 fun _ _ _ _ _ x0 X0=>index_E2 (k:=1) rfl (fun _=>rfl) x0 X0 (by omega)),fun _=>(kr1 65 fun _ _ _ _ _ x0 X0=>load_Pc rfl x0 X0),fun _=>ks,fun _=>(kr2 66 67 fun _ _ _ _ _ x0 X0 _ x1 X1=>⟨_,run_muli rfl (x0.trans X0) (x1.trans X1) wO,rfl⟩),fun _=>(by refine kc fun _ A Y h D=>?_;obtain⟨v0,x0,X0⟩:=h.dp D 68;exact⟨#[v0,.int .i64 2],by simp [x0,eval_const],cR4Of X0 (show Vi 2 (.int .i64 2) Y from rfl)⟩),fun _=>(kr2 61 69 fun _ _ _ _ _ x0 X0 _ x1 X1=>build_Vec rfl x0 x1 (AggV_Vq _ _) (AggV_Vq _ _) X0 X1),fun _=>(kd2 fun _ _ _ _ _ X0 _ X1=>cR5Add (N:=3) X0 X1),fun _=>(by refine km fun _ A Y h D=>?_;obtain⟨v0,x0,X0⟩:=h.dp D 71;exact bslice_V1 rfl x0 X0),fun hne=>absurd rfl hne,fun _=>ks,trivial⟩ ?r21 ?_ (by kernel_rfl) (Nat.le_of_ble_eq_true rfl) (hm0:=(by show 8*c≠0;omega))
      case s0=>
       refine k_run0 SbB.out (by kernel_rfl) fun listed A Y h D hnl=>⟨trivial,?_⟩
       obtain⟨v0,x0,X0⟩:=h.out0 hnl (5,VEq (.slice (some ⟨g,0,none⟩) us.length c)) (.tail _ (.tail _ (.head _))) 22 (by kernel_rfl) (.inr (by kernel_rfl));exact⟨_,run_move rfl,by rw [x0];exact X0⟩
      case r21=>intro o ho;obtain rfl:=Option.some.inj ho.symm;exact k_appM (k:=8) (E:=EV 7) (us:=us) (zs:=[pgE l j]) rfl ⟨[],by simp⟩ rfl (.inl ⟨by kernel_rfl,rfl,rfl⟩) (.inl ⟨by kernel_rfl,rfl,rfl⟩) (fun _ _ _ _ h=>VOs_sc h) rfl hrm h2c hgn (by kernel_rfl) (by kernel_rfl) (fun x BT=>Stab_Vv _ _ _) (by simp) trivial
      clear hrow;intro a9 w9 st9 hrow;replace st9:St w.heap.size w 91 [.k 4 32 8 (Vv 3 ((byQ l).1) ((byQ l).2))] [(0,VI l),(3,VSl 63 2 E2 wys),(6,Vi j),(40,Vb true),(7,Vi (atv l ((j:Nat):Int) 6)),(51,Vb true),(5,VEq (.slice (some ⟨g,0,none⟩) (us.length+([pgE l j]).length) c))] a9 w9:=st9;obtain⟨vR,heR,hvR⟩:=st9.sl (5,VEq (.slice (some ⟨g,0,none⟩) (us.length+([pgE l j]).length) c)) (lS_mem rfl);replace st9:=st9.reT 5 (VRg 32 8 (EV 7) none g c (us++ [pgE l j])) heR (by obtain rfl:vR=_:=hvR;exact VRg_in (by rw [List.length_append];exact hrm) h0 hcmR hrow);replace st9:St w.heap.size w 91 [.k 4 32 8 (Vv 3 ((byQ l).1) ((byQ l).2))] [(0,VI l),(3,VSl 63 2 E2 wys),(6,Vi j),(40,Vb true),(7,Vi (atv l ((j:Nat):Int) 6)),(51,Vb true),(5,VRg 32 8 (EV 7) none g c (us++ [pgE l j]))] a9 w9:=st9.cut;clear heR hvR hrow hcmR h0;refine Wn ?_
      refine rH [] [Vi j,Vi ((j+1:Nat):Int),Vi ((j+1:Nat):Int)] [.k 4 32 8 (Vv 3 ((byQ l).1) ((byQ l).2))] [(0,VI l),(3,VSl 63 2 E2 wys),(40,Vb true),(7,Vi (atv l ((j:Nat):Int) 6)),(51,Vb true),(5,VRg 32 8 (EV 7) none g c (us++ [pgE l j])),(6,Vi ((j+1:Nat):Int))] st9 ⟨?s0,(kr1 41 fun _ _ _ _ v0 x0 X0=>⟨_,run_addi rfl (x0.trans (show v0= .int .i64 j from X0)) rfl wO,congrArg (Value.int .i64) (by omega)⟩),ks,trivial⟩ ?_
      case s0=>
       refine k_run0 SbB.out (by kernel_rfl) fun listed A Y h D hnl=>⟨trivial,?_⟩
       obtain⟨v0,x0,X0⟩:=h.out0 hnl (6,Vi j) (.tail _ (.tail _ (.head _))) 2 (by kernel_rfl) (.inr (by kernel_rfl));exact⟨_,run_move rfl,by rw [x0];exact X0⟩
      intro a10 w10 st10;replace st10:St w.heap.size w 91 [.k 4 32 8 (Vv 3 ((byQ l).1) ((byQ l).2))] [(0,VI l),(3,VSl 63 2 E2 wys),(40,Vb true),(7,Vi (atv l ((j:Nat):Int) 6)),(51,Vb true),(5,VRg 32 8 (EV 7) none g c (us++ [pgE l j])),(6,Vi ((j+1:Nat):Int))] a10 w10:=st10;exact⟨m - 1,by omega,j+1,g,c,us++ [pgE l j],by omega,by rw [pgL,if_pos (by rw [<-hus];omega),<-hus],by rw [List.length_append,List.length_singleton];omega,.inr ⟨by omega,by rw [List.length_append,List.length_singleton];omega⟩,st10.cut⟩
     ·
      refine Wn ?_
      refine rH [] [VRg 32 8 (EV 7) none g c us,Vv 3 ((byQ l).1) ((byQ l).2),VSl 63 2 E2 wys,Vi j,VEp 63 2 (E2 (wyc j)),VPc ((wyc j).1),Vi ((wyc j).1),Vi (atv l ((j:Nat):Int) 6),Vi (((wyc j).1)*(atv l ((j:Nat):Int) 6)),Vq 3 (Rat.divInt (((wyc j).1)*(atv l ((j:Nat):Int) 6)) 2),VSl 63 2 E2 wys,Vi j,VEp 63 2 (E2 (wyc j)),VPc ((wyc j).2),Vi ((wyc j).2),Vi (atv l ((j:Nat):Int) 6),Vi (((wyc j).2)*(atv l ((j:Nat):Int) 6)),Vq 3 (Rat.divInt (((wyc j).2)*(atv l ((j:Nat):Int) 6)) 2),Vv 3 (Rat.divInt (((wyc j).1)*(atv l ((j:Nat):Int) 6)) 2) (Rat.divInt (((wyc j).2)*(atv l ((j:Nat):Int) 6)) 2),Vv 7 (((byQ l).1)+(Rat.divInt (((wyc j).1)*(atv l ((j:Nat):Int) 6)) 2)) (((byQ l).2)+(Rat.divInt (((wyc j).2)*(atv l ((j:Nat):Int) 6)) 2)),VOs 32 8 (EV 7) ([pgE l j]),VRx 32 8 (EV 7) w.heap.size (us++ [pgE l j]),VRx 32 8 (EV 7) w.heap.size (us++ [pgE l j])] [.k 4 32 8 (Vv 3 ((byQ l).1) ((byQ l).2))] [(0,VI l),(3,VSl 63 2 E2 wys),(6,Vi j),(40,Vb true),(7,Vi (atv l ((j:Nat):Int) 6)),(51,Vb true),(5,VRx 32 8 (EV 7) w.heap.size (us++ [pgE l j]))] st8 ⟨?s0,ks,ks,ks,(kr2 54 55 fun _ _ _ _ _ x0 X0 _ x1 X1=>index_A16 rfl x0 X0 x1 X1 hlt),(kr1 56 fun _ _ _ _ _ x0 X0=>index_E2 (k:=0) rfl (fun _=>rfl) x0 X0 (by omega)),(kr1 57 fun _ _ _ _ _ x0 X0=>load_Pc rfl x0 X0),ks,(kr2 58 59 fun _ _ _ _ _ x0 X0 _ x1 X1=>⟨_,run_muli rfl (x0.trans X0) (x1.trans X1) wO,rfl⟩),(by refine kc fun _ A Y h D=>?_;obtain⟨v0,x0,X0⟩:=h.dp D 60;exact⟨#[v0,.int .i64 2],by simp [x0,eval_const],cR4Of X0 (show Vi 2 (.int .i64 2) Y from rfl)⟩),ks,ks,(kr2 62 63 fun _ _ _ _ _ x0 X0 _ x1 X1=>index_A16 rfl x0 X0 x1 X1 hlt),(kr1 64 fun _ _ _ _ _ x0 X0=>index_E2 (k:=1) rfl (fun _=>rfl) x0 X0 (by omega)),(kr1 65 fun _ _ _ _ _ x0 X0=>load_Pc rfl x0 X0),ks,(kr2 66 67 fun _ _ _ _ _ x0 X0 _ x1 X1=>⟨_,run_muli rfl (x0.trans X0) (x1.trans X1) wO,rfl⟩),(by refine kc fun _ A Y h D=>?_;obtain⟨v0,x0,X0⟩:=h.dp D 68;exact⟨#[v0,.int .i64 2],by simp [x0,eval_const],cR4Of X0 (show Vi 2 (.int .i64 2) Y from rfl)⟩),(kr2 61 69 fun _ _ _ _ _ x0 X0 _ x1 X1=>build_Vec rfl x0 x1 (AggV_Vq _ _) (AggV_Vq _ _) X0 X1),(kd2 fun _ _ _ _ _ X0 _ X1=>cR5Add (N:=3) X0 X1),(by refine km fun _ A Y h D=>?_;obtain⟨v0,x0,X0⟩:=h.dp D 71;exact bslice_V1 rfl x0 X0),(by refine km fun _ A Y h D=>?_;obtain⟨v0,x0,X0⟩:=h.dp D 52;obtain⟨v1,x1,X1⟩:=h.dp D 72;exact app_growM rfl x0 X0 x1 (VOs_sc X1) (fun x=>Stab_Vv _ _ _) (by omega) h.n (by simp only [List.length_cons,List.length_nil];omega)),ks,trivial⟩ ?_
      case s0=>
       refine k_run0 SbB.out (by kernel_rfl) fun listed A Y h D hnl=>⟨trivial,?_⟩
       obtain⟨v0,x0,X0⟩:=h.out0 hnl (5,VRg 32 8 (EV 7) none g c (us)) (.tail _ (.tail _ (.head _))) 22 (by kernel_rfl) (.inr (by kernel_rfl));exact⟨_,run_move rfl,by rw [x0];exact X0⟩
      intro a9 w9 st9;replace st9:St w.heap.size w 91 [.k 4 32 8 (Vv 3 ((byQ l).1) ((byQ l).2))] [(0,VI l),(3,VSl 63 2 E2 wys),(6,Vi j),(40,Vb true),(7,Vi (atv l ((j:Nat):Int) 6)),(51,Vb true),(5,VRx 32 8 (EV 7) w.heap.size (us++ [pgE l j]))] a9 w9:=st9;obtain⟨g2,c2,hg2,hc2,st9⟩:=st9.nameR 5 rfl;replace st9:St w.heap.size w 91 [.k 4 32 8 (Vv 3 ((byQ l).1) ((byQ l).2))] [(0,VI l),(3,VSl 63 2 E2 wys),(6,Vi j),(40,Vb true),(7,Vi (atv l ((j:Nat):Int) 6)),(51,Vb true),(5,VRg 32 8 (EV 7) none g2 c2 (us++ [pgE l j]))] a9 w9:=st9.cut;refine Wn ?_
      refine rH [] [Vi j,Vi ((j+1:Nat):Int),Vi ((j+1:Nat):Int)] [.k 4 32 8 (Vv 3 ((byQ l).1) ((byQ l).2))] [(0,VI l),(3,VSl 63 2 E2 wys),(40,Vb true),(7,Vi (atv l ((j:Nat):Int) 6)),(51,Vb true),(5,VRg 32 8 (EV 7) none g2 c2 (us++ [pgE l j])),(6,Vi ((j+1:Nat):Int))] st9 ⟨?s0,(kr1 41 fun _ _ _ _ v0 x0 X0=>⟨_,run_addi rfl (x0.trans (show v0= .int .i64 j from X0)) rfl wO,congrArg (Value.int .i64) (by omega)⟩),ks,trivial⟩ ?_
      case s0=>
       refine k_run0 SbB.out (by kernel_rfl) fun listed A Y h D hnl=>⟨trivial,?_⟩
       obtain⟨v0,x0,X0⟩:=h.out0 hnl (6,Vi j) (.tail _ (.tail _ (.head _))) 2 (by kernel_rfl) (.inr (by kernel_rfl));exact⟨_,run_move rfl,by rw [x0];exact X0⟩
      intro a10 w10 st10;replace st10:St w.heap.size w 91 [.k 4 32 8 (Vv 3 ((byQ l).1) ((byQ l).2))] [(0,VI l),(3,VSl 63 2 E2 wys),(40,Vb true),(7,Vi (atv l ((j:Nat):Int) 6)),(51,Vb true),(5,VRg 32 8 (EV 7) none g2 c2 (us++ [pgE l j])),(6,Vi ((j+1:Nat):Int))] a10 w10:=st10;exact⟨m - 1,by omega,j+1,g2,c2,us++ [pgE l j],by omega,by rw [pgL,if_pos (by rw [<-hus];omega),<-hus],by rw [List.length_append,List.length_singleton];omega,.inr ⟨by omega,by rw [List.length_append,List.length_singleton];omega⟩,st10.cut⟩
    ·
     refine Wn ?_
     refine rH [] [Vi (atv l ((j:Nat):Int) 6),Vb true,Vb true,Vi (atv l ((j:Nat):Int) 6),Vb false,Vb false] [.k 4 32 8 (Vv 3 ((byQ l).1) ((byQ l).2))] [(0,VI l),(3,VSl 63 2 E2 wys),(5,VRg 32 8 (EV 7) none g c us),(6,Vi j),(40,Vb true),(7,Vi (atv l ((j:Nat):Int) 6)),(51,Vb false)] st7 ⟨ks,(kr1 46 fun _ _ _ _ _ x0 X0=>⟨_,run_gtri rfl (x0.trans X0) rfl,congrArg Value.bool (dT hp0)⟩),ks,ks,(kr1 49 fun _ _ _ _ _ x0 X0=>⟨_,run_lssi rfl (x0.trans X0) rfl,congrArg Value.bool (dF hp4)⟩),ks,trivial⟩ fun a8 w8 st8=>Wn ?_
     refine cF st8 ?_;refine Wn ?_
     refine rH [] [Vi j,Vi ((j+1:Nat):Int),Vi ((j+1:Nat):Int)] [.k 4 32 8 (Vv 3 ((byQ l).1) ((byQ l).2))] [(0,VI l),(3,VSl 63 2 E2 wys),(5,VRg 32 8 (EV 7) none g c us),(40,Vb true),(7,Vi (atv l ((j:Nat):Int) 6)),(51,Vb false),(6,Vi ((j+1:Nat):Int))] st8 ⟨?s0,(kr1 41 fun _ _ _ _ v0 x0 X0=>⟨_,run_addi rfl (x0.trans (show v0= .int .i64 j from X0)) rfl wO,congrArg (Value.int .i64) (by omega)⟩),ks,trivial⟩ ?_
     case s0=>
      refine k_run0 SbB.out (by kernel_rfl) fun listed A Y h D hnl=>⟨trivial,?_⟩
      obtain⟨v0,x0,X0⟩:=h.out0 hnl (6,Vi j) (.tail _ (.tail _ (.tail _ (.head _)))) 2 (by kernel_rfl) (.inr (by kernel_rfl));exact⟨_,run_move rfl,by rw [x0];exact X0⟩
     intro a9 w9 st9;replace st9:St w.heap.size w 91 [.k 4 32 8 (Vv 3 ((byQ l).1) ((byQ l).2))] [(0,VI l),(3,VSl 63 2 E2 wys),(5,VRg 32 8 (EV 7) none g c us),(40,Vb true),(7,Vi (atv l ((j:Nat):Int) 6)),(51,Vb false),(6,Vi ((j+1:Nat):Int))] a9 w9:=st9;exact⟨m - 1,by omega,j+1,g,c,us,by omega,by rw [pgL,if_neg (by rw [<-hus];omega)];exact hus,hul,hxc,st9.cut⟩
   ·
    refine Wn ?_
    refine rH [] [Vi (atv l ((j:Nat):Int) 6),Vb false,Vb false,VT,VT,Vb false] [.k 4 32 8 (Vv 3 ((byQ l).1) ((byQ l).2))] [(0,VI l),(3,VSl 63 2 E2 wys),(5,VRg 32 8 (EV 7) none g c us),(6,Vi j),(40,Vb true),(7,Vi (atv l ((j:Nat):Int) 6)),(51,Vb false)] st7 ⟨ks,(kr1 46 fun _ _ _ _ _ x0 X0=>⟨_,run_gtri rfl (x0.trans X0) rfl,congrArg Value.bool (dF hp0)⟩),ks,ks,ks,ks,trivial⟩ fun a8 w8 st8=>Wn ?_
    refine cF st8 ?_;refine Wn ?_
    refine rH [] [Vi j,Vi ((j+1:Nat):Int),Vi ((j+1:Nat):Int)] [.k 4 32 8 (Vv 3 ((byQ l).1) ((byQ l).2))] [(0,VI l),(3,VSl 63 2 E2 wys),(5,VRg 32 8 (EV 7) none g c us),(40,Vb true),(7,Vi (atv l ((j:Nat):Int) 6)),(51,Vb false),(6,Vi ((j+1:Nat):Int))] st8 ⟨?s0,(kr1 41 fun _ _ _ _ v0 x0 X0=>⟨_,run_addi rfl (x0.trans (show v0= .int .i64 j from X0)) rfl wO,congrArg (Value.int .i64) (by omega)⟩),ks,trivial⟩ ?_
    case s0=>
     refine k_run0 SbB.out (by kernel_rfl) fun listed A Y h D hnl=>⟨trivial,?_⟩
     obtain⟨v0,x0,X0⟩:=h.out0 hnl (6,Vi j) (.tail _ (.tail _ (.tail _ (.head _)))) 2 (by kernel_rfl) (.inr (by kernel_rfl));exact⟨_,run_move rfl,by rw [x0];exact X0⟩
    intro a9 w9 st9;replace st9:St w.heap.size w 91 [.k 4 32 8 (Vv 3 ((byQ l).1) ((byQ l).2))] [(0,VI l),(3,VSl 63 2 E2 wys),(5,VRg 32 8 (EV 7) none g c us),(40,Vb true),(7,Vi (atv l ((j:Nat):Int) 6)),(51,Vb false),(6,Vi ((j+1:Nat):Int))] a9 w9:=st9;exact⟨m - 1,by omega,j+1,g,c,us,by omega,by rw [pgL,if_neg (by rw [<-hus];omega)];exact hus,hul,hxc,st9.cut⟩
  ·
   refine Wn ?_
   refine rH [] [Vi j,VSl 63 2 E2 wys,Vi 16,Vb true,Vb true,VRg 32 8 (EV 7) none g c us,Vi (us.length:Int),Vb false,Vb false] [.k 4 32 8 (Vv 3 ((byQ l).1) ((byQ l).2))] [(0,VI l),(3,VSl 63 2 E2 wys),(5,VRg 32 8 (EV 7) none g c us),(6,Vi j),(40,Vb false)] st5 ⟨ks,ks,(kr1 33 fun _ _ _ _ _ x0 X0=>len_A16 rfl rfl x0 X0),(kr2 32 34 fun _ _ _ _ _ x0 X0 _ x1 X1=>⟨_,run_lssi rfl (x0.trans X0) (x1.trans X1),congrArg Value.bool (dT (by omega))⟩),ks,ks,(kr1 37 fun _ _ _ _ _ x0 X0=>len_Rg rfl rfl x0 X0),(kr1 38 fun _ _ _ _ _ x0 X0=>⟨_,run_lssi rfl (x0.trans X0) rfl,congrArg Value.bool (dF (by omega))⟩),ks,trivial⟩ fun a6 w6 st6=>Wn ?_
   refine cF st6 ?_;have hus16:us=pgL l 16:=by rw [hus,show 16=j+(16 - j) by omega,pgL_stay (by rw [<-hus];omega)]
   have hus0:us= []->c=0:=fun e=>by rcases hxc with h|⟨-,h⟩;exact h;rw [e] at h;simp at h
   by_cases hcc:validR us=true
   ·
    refine Wn ?_
    refine rH [] [VRg 32 8 (EV 7) none g c us,Vb true] [.k 4 32 8 (Vv 3 ((byQ l).1) ((byQ l).2))] [(0,VI l),(3,VSl 63 2 E2 wys),(5,VRg 32 8 (EV 7) none g c us),(6,Vi j),(40,Vb false),(75,Vb true)] st6 ⟨ks,(kd1 fun _ _ _ _ _ X0=>cR6ValidV (N:=7) (show VEq _ _ _ from rfl) (VRg_sv X0 hus0) (by omega) (by omega) hcc),trivial⟩ fun a7 w7 st7=>Wn ?_
    refine cT st7 ?_;refine Wn ?_
    refine rH [] [VRg 32 8 (EV 7) none g c us,VRg 32 8 (EV 7) none g c us] [.k 4 32 8 (Vv 3 ((byQ l).1) ((byQ l).2))] [(0,VI l),(3,VSl 63 2 E2 wys),(5,VRg 32 8 (EV 7) none g c us),(6,Vi j),(40,Vb false),(75,Vb true),(2,VRg 32 8 (EV 7) none g c us)] st7 ⟨ks,ks,trivial⟩ fun a8 w8 st8=>Wn ?_
    exact wp_ret (rS 2 (VRg 32 8 (EV 7) none g c (us)) st8 fun vr r4=>(by rw [show polyR l=pgL l 16 from if_pos (by rw [<-hus16];exact hcc),<-hus16];exact VRg_sv r4 hus0))
   ·
    refine Wn ?_
    refine rH [] [VRg 32 8 (EV 7) none g c us,Vb false] [.k 4 32 8 (Vv 3 ((byQ l).1) ((byQ l).2))] [(0,VI l),(3,VSl 63 2 E2 wys),(5,VRg 32 8 (EV 7) none g c us),(6,Vi j),(40,Vb false),(75,Vb false)] st6 ⟨ks,(kd1 fun _ _ _ _ _ X0=>cR6ValidV (N:=7) (show VEq _ _ _ from rfl) (VRg_sv X0 hus0) (by omega) (by omega) (Bool.eq_false_iff.2 hcc)),trivial⟩ fun a7 w7 st7=>Wn ?_
    refine cF st7 ?_;have ha0:=atv_lo l 0 2 (by omega);have ha1:=atv_hi l 0 2 (by omega);refine Wn ?_
    refine rH [] [Vv 3 ((byQ l).1) ((byQ l).2),Vv 3 ((byQ l).1) ((byQ l).2),Vv 3 (Rat.divInt 4 1) (Rat.divInt 0 1),Vv 7 (((byQ l).1)+(Rat.divInt 4 1)) (((byQ l).2)+(Rat.divInt 0 1)),Vv 3 ((byQ l).1) ((byQ l).2),VI l,Vi (atv l 0 2),Vi ((1)+(atv l 0 2)),Vv 3 (Rat.divInt ((1)+(atv l 0 2)) 1) (Rat.divInt 3 1),Vv 7 (((byQ l).1)+(Rat.divInt ((1)+(atv l 0 2)) 1)) (((byQ l).2)+(Rat.divInt 3 1)),Vv 3 ((byQ l).1) ((byQ l).2),Vv 3 (Rat.divInt 1 1) (Rat.divInt 1 1),Vv 7 (((byQ l).1)+(Rat.divInt 1 1)) (((byQ l).2)+(Rat.divInt 1 1)),VSv 7 (pgF l),VSv 7 (pgF l)] [.k 4 32 8 (Vv 3 ((byQ l).1) ((byQ l).2))] [(0,VI l),(3,VSl 63 2 E2 wys),(5,VRg 32 8 (EV 7) none g c us),(6,Vi j),(40,Vb false),(75,Vb false),(2,VSv 7 (pgF l))] st7 ⟨ks,ks,(by refine kc fun _ A Y h D=>?_;exact⟨#[.int .i64 4,.int .i64 0],by simp [eval_const],cR5Of (show Vi 4 (.int .i64 4) Y from rfl) (show Vi 0 (.int .i64 0) Y from rfl)⟩),(kd2 fun _ _ _ _ _ X0 _ X1=>cR5Add (N:=3) X0 X1),ks,ks,(by refine kc fun _ A Y h D=>?_;obtain⟨v0,x0,X0⟩:=h.dp D 82;exact⟨#[v0,.int .i64 0,.int .i64 2],by simp [x0,eval_const],cAt X0 (show Vi 0 (.int .i64 0) Y from rfl)⟩),(by refine kr fun _ A Y h D=>?_;obtain⟨v1,x1,X1⟩:=h.dp D 83;have hV1':v1= .int .i64 (atv l 0 2):=X1;exact⟨_,run_addi rfl rfl (x1.trans hV1') wO,rfl⟩),(by refine kc fun _ A Y h D=>?_;obtain⟨v0,x0,X0⟩:=h.dp D 84;exact⟨#[v0,.int .i64 3],by simp [x0,eval_const],cR5Of X0 (show Vi 3 (.int .i64 3) Y from rfl)⟩),(kd2 fun _ _ _ _ _ X0 _ X1=>cR5Add (N:=3) X0 X1),ks,(by refine kc fun _ A Y h D=>?_;exact⟨#[.int .i64 1,.int .i64 1],by simp [eval_const],cR5Of (show Vi 1 (.int .i64 1) Y from rfl) (show Vi 1 (.int .i64 1) Y from rfl)⟩),(kd2 fun _ _ _ _ _ X0 _ X1=>cR5Add (N:=3) X0 X1),(by refine km fun _ A Y h D=>?_;obtain⟨v0,x0,X0⟩:=h.dp D 77;obtain⟨v1,x1,X1⟩:=h.dp D 80;obtain⟨v2,x2,X2⟩:=h.dp D 86;obtain⟨v3,x3,X3⟩:=h.dp D 89;exact bslice_V4 (M:=7) (d0:=byQ l) (d1:=((byQ l).1+Rat.divInt 4 1,(byQ l).2+Rat.divInt 0 1)) (d2:=((byQ l).1+Rat.divInt (1+atv l 0 2) 1,(byQ l).2+Rat.divInt 3 1)) (d3:=((byQ l).1+Rat.divInt 1 1,(byQ l).2+Rat.divInt 1 1)) rfl x0 x1 x2 x3 (Vv_le X0 (by omega)) X1 X2 X3),ks,trivial⟩ ?_;intro a8 w8 st8;refine Wn ?_
    exact wp_ret (rS 2 (VSv 7 (pgF l)) st8 fun vr r4=>(by rw [show polyR l=pgF l from if_neg (by rw [<-hus16];exact hcc)];exact r4))
 ·
  refine Wn ?_
  refine rH [] [Vi j,VSl 63 2 E2 wys,Vi 16,Vb false,Vb false,VT,VT,VT,Vb false] [.k 4 32 8 (Vv 3 ((byQ l).1) ((byQ l).2))] [(0,VI l),(3,VSl 63 2 E2 wys),(5,VRg 32 8 (EV 7) none g c us),(6,Vi j),(40,Vb false)] st5 ⟨ks,ks,(kr1 33 fun _ _ _ _ _ x0 X0=>len_A16 rfl rfl x0 X0),(kr2 32 34 fun _ _ _ _ _ x0 X0 _ x1 X1=>⟨_,run_lssi rfl (x0.trans X0) (x1.trans X1),congrArg Value.bool (dF (by omega))⟩),ks,ks,?s6,ks,ks,trivial⟩ ?_
  case s6=>
   refine k_skip SbB.out (by kernel_rfl) fun listed A Y h D=>⟨?_,trivial⟩
   obtain⟨u,hu,hy,hU⟩:=h.dep D 4 36 (by kernel_rfl) (by kernel_rfl);obtain rfl:u= .bool false:=hU;exact⟨4,true,false,rfl,hy,by decide⟩
  intro a6 w6 st6;refine Wn ?_
  refine cF st6 ?_;have hus16:us=pgL l 16:=by rw [hus,show j=16 by omega]
  have hus0:us= []->c=0:=fun e=>by rcases hxc with h|⟨-,h⟩;exact h;rw [e] at h;simp at h
  by_cases hcc:validR us=true
  ·
   refine Wn ?_
   refine rH [] [VRg 32 8 (EV 7) none g c us,Vb true] [.k 4 32 8 (Vv 3 ((byQ l).1) ((byQ l).2))] [(0,VI l),(3,VSl 63 2 E2 wys),(5,VRg 32 8 (EV 7) none g c us),(6,Vi j),(40,Vb false),(75,Vb true)] st6 ⟨ks,(kd1 fun _ _ _ _ _ X0=>cR6ValidV (N:=7) (show VEq _ _ _ from rfl) (VRg_sv X0 hus0) (by omega) (by omega) hcc),trivial⟩ fun a7 w7 st7=>Wn ?_
   refine cT st7 ?_;refine Wn ?_
   refine rH [] [VRg 32 8 (EV 7) none g c us,VRg 32 8 (EV 7) none g c us] [.k 4 32 8 (Vv 3 ((byQ l).1) ((byQ l).2))] [(0,VI l),(3,VSl 63 2 E2 wys),(5,VRg 32 8 (EV 7) none g c us),(6,Vi j),(40,Vb false),(75,Vb true),(2,VRg 32 8 (EV 7) none g c us)] st7 ⟨ks,ks,trivial⟩ fun a8 w8 st8=>Wn ?_
   exact wp_ret (rS 2 (VRg 32 8 (EV 7) none g c (us)) st8 fun vr r4=>(by rw [show polyR l=pgL l 16 from if_pos (by rw [<-hus16];exact hcc),<-hus16];exact VRg_sv r4 hus0))
  ·
   refine Wn ?_
   refine rH [] [VRg 32 8 (EV 7) none g c us,Vb false] [.k 4 32 8 (Vv 3 ((byQ l).1) ((byQ l).2))] [(0,VI l),(3,VSl 63 2 E2 wys),(5,VRg 32 8 (EV 7) none g c us),(6,Vi j),(40,Vb false),(75,Vb false)] st6 ⟨ks,(kd1 fun _ _ _ _ _ X0=>cR6ValidV (N:=7) (show VEq _ _ _ from rfl) (VRg_sv X0 hus0) (by omega) (by omega) (Bool.eq_false_iff.2 hcc)),trivial⟩ fun a7 w7 st7=>Wn ?_
   refine cF st7 ?_;have ha0:=atv_lo l 0 2 (by omega);have ha1:=atv_hi l 0 2 (by omega);refine Wn ?_
   refine rH [] [Vv 3 ((byQ l).1) ((byQ l).2),Vv 3 ((byQ l).1) ((byQ l).2),Vv 3 (Rat.divInt 4 1) (Rat.divInt 0 1),Vv 7 (((byQ l).1)+(Rat.divInt 4 1)) (((byQ l).2)+(Rat.divInt 0 1)),Vv 3 ((byQ l).1) ((byQ l).2),VI l,Vi (atv l 0 2),Vi ((1)+(atv l 0 2)),Vv 3 (Rat.divInt ((1)+(atv l 0 2)) 1) (Rat.divInt 3 1),Vv 7 (((byQ l).1)+(Rat.divInt ((1)+(atv l 0 2)) 1)) (((byQ l).2)+(Rat.divInt 3 1)),Vv 3 ((byQ l).1) ((byQ l).2),Vv 3 (Rat.divInt 1 1) (Rat.divInt 1 1),Vv 7 (((byQ l).1)+(Rat.divInt 1 1)) (((byQ l).2)+(Rat.divInt 1 1)),VSv 7 (pgF l),VSv 7 (pgF l)] [.k 4 32 8 (Vv 3 ((byQ l).1) ((byQ l).2))] [(0,VI l),(3,VSl 63 2 E2 wys),(5,VRg 32 8 (EV 7) none g c us),(6,Vi j),(40,Vb false),(75,Vb false),(2,VSv 7 (pgF l))] st7 ⟨ks,ks,(by refine kc fun _ A Y h D=>?_;exact⟨#[.int .i64 4,.int .i64 0],by simp [eval_const],cR5Of (show Vi 4 (.int .i64 4) Y from rfl) (show Vi 0 (.int .i64 0) Y from rfl)⟩),(kd2 fun _ _ _ _ _ X0 _ X1=>cR5Add (N:=3) X0 X1),ks,ks,(by refine kc fun _ A Y h D=>?_;obtain⟨v0,x0,X0⟩:=h.dp D 82;exact⟨#[v0,.int .i64 0,.int .i64 2],by simp [x0,eval_const],cAt X0 (show Vi 0 (.int .i64 0) Y from rfl)⟩),(by refine kr fun _ A Y h D=>?_;obtain⟨v1,x1,X1⟩:=h.dp D 83;have hV1':v1= .int .i64 (atv l 0 2):=X1;exact⟨_,run_addi rfl rfl (x1.trans hV1') wO,rfl⟩),(by refine kc fun _ A Y h D=>?_;obtain⟨v0,x0,X0⟩:=h.dp D 84;exact⟨#[v0,.int .i64 3],by simp [x0,eval_const],cR5Of X0 (show Vi 3 (.int .i64 3) Y from rfl)⟩),(kd2 fun _ _ _ _ _ X0 _ X1=>cR5Add (N:=3) X0 X1),ks,(by refine kc fun _ A Y h D=>?_;exact⟨#[.int .i64 1,.int .i64 1],by simp [eval_const],cR5Of (show Vi 1 (.int .i64 1) Y from rfl) (show Vi 1 (.int .i64 1) Y from rfl)⟩),(kd2 fun _ _ _ _ _ X0 _ X1=>cR5Add (N:=3) X0 X1),(by refine km fun _ A Y h D=>?_;obtain⟨v0,x0,X0⟩:=h.dp D 77;obtain⟨v1,x1,X1⟩:=h.dp D 80;obtain⟨v2,x2,X2⟩:=h.dp D 86;obtain⟨v3,x3,X3⟩:=h.dp D 89;exact bslice_V4 (M:=7) (d0:=byQ l) (d1:=((byQ l).1+Rat.divInt 4 1,(byQ l).2+Rat.divInt 0 1)) (d2:=((byQ l).1+Rat.divInt (1+atv l 0 2) 1,(byQ l).2+Rat.divInt 3 1)) (d3:=((byQ l).1+Rat.divInt 1 1,(byQ l).2+Rat.divInt 1 1)) rfl x0 x1 x2 x3 (Vv_le X0 (by omega)) X1 X2 X3),ks,trivial⟩ ?_;intro a8 w8 st8;refine Wn ?_
   exact wp_ret (rS 2 (VSv 7 (pgF l)) st8 fun vr r4=>(by rw [show polyR l=pgF l from if_neg (by rw [<-hus16];exact hcc)];exact r4))
end Go.Proofs.YteacdbgalloaiaaGreat
