/- Contracts of the packages integer, rat, plane, polygon and their references. -/
import Derived.Test.YteacdbgalloaiaaGreatH33
set_option linter.unusedVariables false
set_option maxRecDepth 100000
set_option maxHeartbeats 6400000
namespace Go.Proofs.YteacdbgalloaiaaGreat
open Go.RowKit
open Go
def loX (a b:P2):P2:=if 0<cmpQ a.1 b.1 then b else a
def hiX (a b:P2):P2:=if 0<cmpQ a.1 b.1 then a else b
def inR (vs:List P2)(p:P2)(k:Nat):Bool:=decide (cmpQ (loX (cv vs k) (cv vs (k+1))).1 p.1<=0) && (decide (cmpQ p.1 (hiX (cv vs k) (cv vs (k+1))).1<0) && decide (sdR (loX (cv vs k) (cv vs (k+1))) (hiX (cv vs k) (cv vs (k+1))) p<0))
def whR (vs:List P2)(p:P2)(j:Nat):Bool:=(List.range j).foldl (fun s k=>if inR vs p k=true then !s else s) false
theorem whR_succ (vs:List P2)(p:P2)(j:Nat):whR vs p (j+1)=if inR vs p j=true then !whR vs p j else whR vs p j:=by simp [whR,List.range_succ,List.foldl_append]
def onR (vs:List P2)(p:P2)(k:Nat):Bool:=meetsR p p (cv vs k) (cv vs (k+1))
def hasR (vs:List P2)(p:P2):Int:=if ∃k∈List.range vs.length,onR vs p k=true then 0 else if whR vs p vs.length=true then 1 else -1
theorem cR6Has {w:World}{N:Nat}{vs:List P2}{p:P2}{lv:Value}{v0 v1:Value}(h0:VEq (lv) v0 w)(h1:Vv N (p.1) (p.2) v1 w)(hS:VSv N vs lv w)(hN3:3<=N:=by omega)(hN:N<=400:=by omega):Calls Tryz.prog 11 #[v0,v1] w (RV (Vi (hasR vs p)) w):=by
 go_enter Tryz.func11,Tryz.ntmps11
 generalize hA:(⟨_,_⟩:Act)=a0;have st0:St w.heap.size w 62 [] [(0,VEq (lv)),(1,Vv N (p.1) (p.2))] a0 w:=by subst hA;exact St.begin rfl rfl (Lq.2 ⟨⟨_,rfl,h0⟩,(Lq.2 ⟨⟨_,rfl,h1⟩,L0⟩)⟩)
 clear hA;have hmax:=VSv_max hS;refine Wn ?_
 refine rH [(32,8,0)] [VT,Vi (0)] [⟨3,some 0,some 0,32,8,Vv N (p.1) (p.2),VT⟩] [(0,VEq (lv)),(4,Vi (0))] st0 ⟨ks,ks,trivial⟩ fun a1 w1 st1=>Wn ?_;clear st0
 refine rH [(32,8,0)] [Vb (false)] [⟨3,none,none,32,8,Vv N (p.1) (p.2),VT⟩] [(0,VEq (lv)),(4,Vi (0)),(5,Vb (false))] st1 ⟨ks,trivial⟩ fun a2 w2 st2=>Wn ?_;clear st1
 refine rH [(32,8,0)] [Vi (0)] [⟨3,none,none,32,8,Vv N (p.1) (p.2),VT⟩] [(0,VEq (lv)),(4,Vi (0)),(5,Vb (false)),(6,Vi (0))] st2 ⟨ks,trivial⟩ ?_;intro a3 w3 st3;clear st2;replace st3:St w.heap.size w 62 [⟨3,none,none,32,8,Vv N (p.1) (p.2),VT⟩] [(0,VEq (lv)),(5,Vb (whR vs p 0)),(6,Vi (((0:Nat):Int)))] a3 w3:=st3.cut;refine Wn ?_
 refine wp_loop_ghost (fun m aX wX=>∃j:Nat,j+m=vs.length/\(∀k<j,¬onR vs p k=true)/\St w.heap.size w 62 [⟨3,none,none,32,8,Vv N (p.1) (p.2),VT⟩] [(0,VEq (lv)),(5,Vb (whR vs p j)),(6,Vi (((j:Nat):Int)))] aX wX) vs.length ⟨0,by omega,fun i hi=>absurd hi (by omega),st3⟩ ?_;clear st3;intro m aL wL ⟨j,hj,hpre,st3⟩;have hws:=whR_succ vs p j;by_cases hlt:j<vs.length
 ·
  refine Wn ?_
  refine rH [(32,8,0)] [Vi (((j:Nat):Int)),VEq (lv),Vi ((vs.length:Int)),Vb (true)] [⟨3,none,none,32,8,Vv N (p.1) (p.2),VT⟩] [(0,VEq (lv)),(5,Vb (whR vs p j)),(6,Vi (((j:Nat):Int))),(12,Vb (true))] st3 ⟨ks,ks,(kr1 10 fun _ _ _ _ _ x0 X0=>len_Sv rfl rfl x0 X0 hS),(kr2 9 11 fun _ _ _ _ _ x0 X0 _ x1 X1=>⟨_,run_lssi rfl (x0.trans X0) (x1.trans X1),congrArg Value.bool (dT (by omega))⟩),trivial⟩ fun a4 w4 st4=>Wn ?_;clear st3
  refine cT st4 ?_;have hgj:vs[j]? =some (cv vs j):=by have:=cv_get (vs:=vs) j (by omega);rwa [Nat.mod_eq_of_lt (by omega)] at this
  refine Wn ?_
  refine rH [(32,8,0)] [VEq (lv),Vi (((j:Nat):Int)),VAt w (VEp 32 8 (Vv N (cv vs j).1 (cv vs j).2)),Vv N ((cv vs j).1) ((cv vs j).2),VT,VT] [⟨3,none,none,32,8,Vv N (p.1) (p.2),VT⟩,⟨7,some 4,some 5,32,8,Vv N ((cv vs j).1) ((cv vs j).2),VT⟩] [(0,VEq (lv)),(5,Vb (whR vs p j)),(6,Vi (((j:Nat):Int))),(12,Vb (true))] st4 ⟨ks,ks,(kr2 15 16 fun _ _ _ _ _ x0 X0 _ x1 X1=>index_Sv rfl x0 X0 hS x1 X1 hgj),(kr1 17 fun _ _ _ h _ x0 X0=>load_EpC (w:=w) (k:=8) (A:=Vv N (cv vs j).1 (cv vs j).2) (Stab_Vv _ _ _) rfl x0 X0 h.k.below Tryz.underlying32 rfl size_Vec),ks,ks,trivial⟩ fun a5 w5 st5=>Wn ?_;clear st4
  refine rH [(32,8,0)] [VEq (lv),Vi (((j:Nat):Int)),Vv N ((cv vs (j+1)).1) ((cv vs (j+1)).2),VT,VT] [⟨3,none,none,32,8,Vv N (p.1) (p.2),VT⟩,⟨7,none,none,32,8,Vv N ((cv vs j).1) ((cv vs j).2),VT⟩,⟨8,some 3,some 4,32,8,Vv N ((cv vs (j+1)).1) ((cv vs (j+1)).2),VT⟩] [(0,VEq (lv)),(5,Vb (whR vs p j)),(6,Vi (((j:Nat):Int))),(12,Vb (true))] st5 ⟨ks,ks,(kd2 fun _ _ _ h _ X0 _ X1=>cR6Next X0 X1 (VSv_later hS h.k.below)),ks,ks,trivial⟩ ?_;intro a6 w6 st6;clear st5;by_cases hmt:meetsR p p (cv vs j) (cv vs (j+1))=true
  ·
   refine Wn ?_
   refine rH [(32,8,0)] [Vv N (p.1) (p.2),Vv N (p.1) (p.2),Vv N ((cv vs j).1) ((cv vs j).2),Vv N ((cv vs (j+1)).1) ((cv vs (j+1)).2),Vb (true)] [⟨3,none,none,32,8,Vv N (p.1) (p.2),VT⟩,⟨7,none,none,32,8,Vv N ((cv vs j).1) ((cv vs j).2),VT⟩,⟨8,none,none,32,8,Vv N ((cv vs (j+1)).1) ((cv vs (j+1)).2),VT⟩] [(0,VEq (lv)),(5,Vb (whR vs p j)),(6,Vi (((j:Nat):Int))),(12,Vb (true)),(26,Vb (true))] st6 ⟨ks,ks,ks,ks,(by refine kc fun _ ac Y h D=>?_;obtain⟨v0,x0,X0⟩:=h.dp D 22;obtain⟨v1,x1,X1⟩:=h.dp D 23;obtain⟨v2,x2,X2⟩:=h.dp D 24;obtain⟨v3,x3,X3⟩:=h.dp D 25;exact⟨#[v0,v1,v2,v3],by simp [x0,x1,x2,x3],cR6MeetsV X0 X1 X2 X3 (by omega) (by omega) hmt⟩),trivial⟩ ?_;intro a7 w7 st7;clear st6;refine Wn ?_
   refine cT st7 ?_;refine Wn ?_
   refine rH [(32,8,0)] [Vi (0)] [⟨3,none,none,32,8,Vv N (p.1) (p.2),VT⟩,⟨7,none,none,32,8,Vv N ((cv vs j).1) ((cv vs j).2),VT⟩,⟨8,none,none,32,8,Vv N ((cv vs (j+1)).1) ((cv vs (j+1)).2),VT⟩] [(0,VEq (lv)),(5,Vb (whR vs p j)),(6,Vi (((j:Nat):Int))),(12,Vb (true)),(26,Vb (true)),(4,Vi (0))] st7 ⟨ks,trivial⟩ fun a8 w8 st8=>Wn ?_;clear st7
   exact wp_ret (rS 4 (Vi (0)) st8 fun vr r4=>(by rw [show hasR vs p=0 from if_pos ⟨j,List.mem_range.2 hlt,hmt⟩];exact r4))
  ·
   have hmf:=hmt;rw [Bool.not_eq_true] at hmt;refine Wn ?_
   refine rH [(32,8,0)] [Vv N (p.1) (p.2),Vv N (p.1) (p.2),Vv N ((cv vs j).1) ((cv vs j).2),Vv N ((cv vs (j+1)).1) ((cv vs (j+1)).2),Vb (false)] [⟨3,none,none,32,8,Vv N (p.1) (p.2),VT⟩,⟨7,none,none,32,8,Vv N ((cv vs j).1) ((cv vs j).2),VT⟩,⟨8,none,none,32,8,Vv N ((cv vs (j+1)).1) ((cv vs (j+1)).2),VT⟩] [(0,VEq (lv)),(5,Vb (whR vs p j)),(6,Vi (((j:Nat):Int))),(12,Vb (true)),(26,Vb (false))] st6 ⟨ks,ks,ks,ks,(by refine kc fun _ ac Y h D=>?_;obtain⟨v0,x0,X0⟩:=h.dp D 22;obtain⟨v1,x1,X1⟩:=h.dp D 23;obtain⟨v2,x2,X2⟩:=h.dp D 24;obtain⟨v3,x3,X3⟩:=h.dp D 25;exact⟨#[v0,v1,v2,v3],by simp [x0,x1,x2,x3],cR6MeetsV X0 X1 X2 X3 (by omega) (by omega) hmt⟩),trivial⟩ ?_;intro a7 w7 st7;clear st6;refine Wn ?_
   refine cF st7 ?_;by_cases hsw:0<cmpQ (cv vs j).1 (cv vs (j+1)).1
   ·
    refine Wn ?_
    refine rH [(32,8,0)] [Vpt a7 7 0,Vq N ((cv vs j).1),Vpt a7 8 0,Vq N ((cv vs (j+1)).1),Vi (cmpQ ((cv vs j).1) ((cv vs (j+1)).1)),Vb (true)] [⟨3,none,none,32,8,Vv N (p.1) (p.2),VT⟩,⟨7,none,none,32,8,Vv N ((cv vs j).1) ((cv vs j).2),VT⟩,⟨8,none,none,32,8,Vv N ((cv vs (j+1)).1) ((cv vs (j+1)).2),VT⟩] [(0,VEq (lv)),(5,Vb (whR vs p j)),(6,Vi (((j:Nat):Int))),(12,Vb (true)),(26,Vb (false)),(32,Vb (true))] st7 ⟨ks,ks,ks,ks,(kd2 fun _ _ _ _ _ X0 _ X1=>cR4Compare X0 X1),(kr1 31 fun _ _ _ _ _ x0 X0=>⟨_,run_gtri rfl (x0.trans X0) rfl,congrArg Value.bool (dT hsw)⟩),trivial⟩ fun a8 w8 st8=>Wn ?_;clear st7
    refine cT st8 ?_;refine Wn ?_
    refine rH [(32,8,0)] [Vv N ((cv vs (j+1)).1) ((cv vs (j+1)).2),VT] [⟨3,none,none,32,8,Vv N (p.1) (p.2),VT⟩,⟨7,none,some 1,32,8,Vv N ((cv vs (j+1)).1) ((cv vs (j+1)).2),Vv N ((cv vs j).1) ((cv vs j).2)⟩,⟨8,none,none,32,8,Vv N ((cv vs (j+1)).1) ((cv vs (j+1)).2),VT⟩] [(0,VEq (lv)),(5,Vb (whR vs p j)),(6,Vi (((j:Nat):Int))),(12,Vb (true)),(26,Vb (false)),(32,Vb (true))] st8 ⟨ks,ks,trivial⟩ fun a9 w9 st9=>Wn ?_;clear st8
    refine rH [(32,8,0)] [VEq (lv),Vi (((j:Nat):Int)),VAt w (VEp 32 8 (Vv N (cv vs j).1 (cv vs j).2)),Vv N ((cv vs j).1) ((cv vs j).2),VT] [⟨3,none,none,32,8,Vv N (p.1) (p.2),VT⟩,⟨7,none,none,32,8,Vv N ((cv vs (j+1)).1) ((cv vs (j+1)).2),VT⟩,⟨8,none,some 4,32,8,Vv N ((cv vs j).1) ((cv vs j).2),Vv N ((cv vs (j+1)).1) ((cv vs (j+1)).2)⟩] [(0,VEq (lv)),(5,Vb (whR vs p j)),(6,Vi (((j:Nat):Int))),(12,Vb (true)),(26,Vb (false)),(32,Vb (true))] st9 ⟨ks,ks,(kr2 34 35 fun _ _ _ _ _ x0 X0 _ x1 X1=>index_Sv rfl x0 X0 hS x1 X1 hgj),(kr1 36 fun _ _ _ h _ x0 X0=>load_EpC (w:=w) (k:=8) (A:=Vv N (cv vs j).1 (cv vs j).2) (Stab_Vv _ _ _) rfl x0 X0 h.k.below Tryz.underlying32 rfl size_Vec),ks,trivial⟩ ?_;intro a10 w10 st10;clear st9;have hlo:loX (cv vs j) (cv vs (j+1))=cv vs (j+1):=if_pos hsw;have hhi:hiX (cv vs j) (cv vs (j+1))=cv vs j:=if_pos hsw;by_cases hc1x:cmpQ (cv vs (j+1)).1 p.1<=0
    ·
     by_cases hc2x:cmpQ p.1 (cv vs j).1<0
     ·
      by_cases hc3x:sdR (cv vs (j+1)) (cv vs j) p<0
      ·
       refine Wn ?_
       refine rH [(32,8,0)] [Vpt a10 7 0,Vq N ((cv vs (j+1)).1),Vpt a10 3 0,Vq N (p.1),Vi (cmpQ ((cv vs (j+1)).1) (p.1)),Vb (true),Vb (true),Vpt a10 3 0,Vq N (p.1),Vpt a10 8 0,Vq N ((cv vs j).1),Vi (cmpQ (p.1) ((cv vs j).1)),Vb (true),Vb (true),Vb (true),Vv N ((cv vs (j+1)).1) ((cv vs (j+1)).2),Vv N ((cv vs j).1) ((cv vs j).2),Vv N (p.1) (p.2),Vi (sdR ((cv vs (j+1))) ((cv vs j)) (p)),Vb (true),Vb (true)] [⟨3,none,none,32,8,Vv N (p.1) (p.2),VT⟩,⟨7,none,none,32,8,Vv N ((cv vs (j+1)).1) ((cv vs (j+1)).2),VT⟩,⟨8,none,none,32,8,Vv N ((cv vs j).1) ((cv vs j).2),VT⟩] [(0,VEq (lv)),(5,Vb (whR vs p j)),(6,Vi (((j:Nat):Int))),(12,Vb (true)),(26,Vb (false)),(32,Vb (true)),(58,Vb (true))] st10 ⟨ks,ks,ks,ks,(kd2 fun _ _ _ _ _ X0 _ X1=>cR4Compare X0 X1),(kr1 42 fun _ _ _ _ _ x0 X0=>⟨_,run_leqi rfl (x0.trans X0) rfl,congrArg Value.bool (dT hc1x)⟩),ks,ks,ks,ks,ks,(kd2 fun _ _ _ _ _ X0 _ X1=>cR4Compare X0 X1),(kr1 49 fun _ _ _ _ _ x0 X0=>⟨_,run_lssi rfl (x0.trans X0) rfl,congrArg Value.bool (dT hc2x)⟩),ks,ks,ks,ks,ks,(by refine kc fun _ ac Y h D=>?_;obtain⟨v0,x0,X0⟩:=h.dp D 53;obtain⟨v1,x1,X1⟩:=h.dp D 54;obtain⟨v2,x2,X2⟩:=h.dp D 55;exact⟨#[v0,v1,v2],by simp [x0,x1,x2],cR5Side X0 X1 X2⟩),(kr1 56 fun _ _ _ _ _ x0 X0=>⟨_,run_lssi rfl (x0.trans X0) rfl,congrArg Value.bool (dT hc3x)⟩),ks,trivial⟩ ?_;intro a11 w11 st11;clear st10;have hin:inR vs p j=true:=by unfold inR;rw [hlo,hhi,dT hc1x,dT hc2x,dT hc3x];rfl
       rw [hin] at hws;refine Wn ?_
       refine cT st11 ?_;rw [if_pos rfl] at hws;by_cases hwj:whR vs p j=true
       ·
        rw [hwj] at hws st11;refine Wn ?_
        refine rH [(32,8,0)] [Vb (true),Vb (false),Vb (false)] [⟨3,none,none,32,8,Vv N (p.1) (p.2),VT⟩,⟨7,none,none,32,8,Vv N ((cv vs (j+1)).1) ((cv vs (j+1)).2),VT⟩,⟨8,none,none,32,8,Vv N ((cv vs j).1) ((cv vs j).2),VT⟩] [(0,VEq (lv)),(6,Vi (((j:Nat):Int))),(12,Vb (true)),(26,Vb (false)),(32,Vb (true)),(58,Vb (true)),(5,Vb (false))] st11 ⟨?s0,ks,ks,trivial⟩ ?_
        case s0=>
         refine k_run0 SbB.out (by kernel_rfl) fun listed ac Y h D hnl=>⟨trivial,?_⟩
         obtain⟨v0,x0,X0⟩:=h.out0 hnl (5,Vb (true)) (.tail _ (.head _)) 2 (by kernel_rfl) (.inr (by kernel_rfl));exact⟨_,run_move rfl,by rw [x0];exact X0⟩
        intro a12 w12 st12;clear st11;refine Wn ?_
        refine rH [(32,8,0)] [Vi (((j:Nat):Int)),Vi (((j+1:Nat):Int)),Vi (((j+1:Nat):Int))] [⟨3,none,none,32,8,Vv N (p.1) (p.2),VT⟩,⟨7,none,none,32,8,Vv N ((cv vs (j+1)).1) ((cv vs (j+1)).2),VT⟩,⟨8,none,none,32,8,Vv N ((cv vs j).1) ((cv vs j).2),VT⟩] [(0,VEq (lv)),(12,Vb (true)),(26,Vb (false)),(32,Vb (true)),(58,Vb (true)),(5,Vb (!true)),(6,Vi (((j+1:Nat):Int)))] st12 ⟨?s0,(kr1 13 fun _ _ _ _ v0 x0 X0=>⟨_,run_addi rfl (x0.trans (show v0= .int .i64 ((j:Nat):Int)from X0)) rfl (wrap_id (by omega) (by omega)),congrArg (Value.int .i64) (by omega)⟩),ks,trivial⟩ ?_
        case s0=>
         refine k_run0 SbB.out (by kernel_rfl) fun listed ac Y h D hnl=>⟨trivial,?_⟩
         obtain⟨v0,x0,X0⟩:=h.out0 hnl (6,Vi (((j:Nat):Int))) (.tail _ (.head _)) 2 (by kernel_rfl) (.inr (by kernel_rfl));exact⟨_,run_move rfl,by rw [x0];exact X0⟩
        intro a13 w13 st13;clear st12;replace st13:St w.heap.size w 62 [⟨3,none,none,32,8,Vv N (p.1) (p.2),VT⟩] [(0,VEq (lv)),(5,Vb (!true)),(6,Vi (((j+1:Nat):Int)))] a13 w13:=st13.cut;have fin:St w.heap.size w 62 [⟨3,none,none,32,8,Vv N (p.1) (p.2),VT⟩] [(0,VEq (lv)),(5,Vb (whR vs p (j+1))),(6,Vi (((j+1:Nat):Int)))] a13 w13:=by rw [hws];exact st13
        exact⟨m - 1,by omega,j+1,by omega,fun k hk=>(by rcases Nat.lt_or_ge k j with h|h;exact hpre k h;rw [show k=j by omega];exact hmf),fin⟩
       ·
        rw [Bool.not_eq_true] at hwj;rw [hwj] at hws st11;refine Wn ?_
        refine rH [(32,8,0)] [Vb (false),Vb (true),Vb (true)] [⟨3,none,none,32,8,Vv N (p.1) (p.2),VT⟩,⟨7,none,none,32,8,Vv N ((cv vs (j+1)).1) ((cv vs (j+1)).2),VT⟩,⟨8,none,none,32,8,Vv N ((cv vs j).1) ((cv vs j).2),VT⟩] [(0,VEq (lv)),(6,Vi (((j:Nat):Int))),(12,Vb (true)),(26,Vb (false)),(32,Vb (true)),(58,Vb (true)),(5,Vb (true))] st11 ⟨?s0,ks,ks,trivial⟩ ?_
        case s0=>
         refine k_run0 SbB.out (by kernel_rfl) fun listed ac Y h D hnl=>⟨trivial,?_⟩
         obtain⟨v0,x0,X0⟩:=h.out0 hnl (5,Vb (false)) (.tail _ (.head _)) 2 (by kernel_rfl) (.inr (by kernel_rfl));exact⟨_,run_move rfl,by rw [x0];exact X0⟩
        intro a12 w12 st12;clear st11;refine Wn ?_
        refine rH [(32,8,0)] [Vi (((j:Nat):Int)),Vi (((j+1:Nat):Int)),Vi (((j+1:Nat):Int))] [⟨3,none,none,32,8,Vv N (p.1) (p.2),VT⟩,⟨7,none,none,32,8,Vv N ((cv vs (j+1)).1) ((cv vs (j+1)).2),VT⟩,⟨8,none,none,32,8,Vv N ((cv vs j).1) ((cv vs j).2),VT⟩] [(0,VEq (lv)),(12,Vb (true)),(26,Vb (false)),(32,Vb (true)),(58,Vb (true)),(5,Vb (!false)),(6,Vi (((j+1:Nat):Int)))] st12 ⟨?s0,(kr1 13 fun _ _ _ _ v0 x0 X0=>⟨_,run_addi rfl (x0.trans (show v0= .int .i64 ((j:Nat):Int)from X0)) rfl (wrap_id (by omega) (by omega)),congrArg (Value.int .i64) (by omega)⟩),ks,trivial⟩ ?_
        case s0=>
         refine k_run0 SbB.out (by kernel_rfl) fun listed ac Y h D hnl=>⟨trivial,?_⟩
         obtain⟨v0,x0,X0⟩:=h.out0 hnl (6,Vi (((j:Nat):Int))) (.tail _ (.head _)) 2 (by kernel_rfl) (.inr (by kernel_rfl));exact⟨_,run_move rfl,by rw [x0];exact X0⟩
        intro a13 w13 st13;clear st12;replace st13:St w.heap.size w 62 [⟨3,none,none,32,8,Vv N (p.1) (p.2),VT⟩] [(0,VEq (lv)),(5,Vb (!false)),(6,Vi (((j+1:Nat):Int)))] a13 w13:=st13.cut;have fin:St w.heap.size w 62 [⟨3,none,none,32,8,Vv N (p.1) (p.2),VT⟩] [(0,VEq (lv)),(5,Vb (whR vs p (j+1))),(6,Vi (((j+1:Nat):Int)))] a13 w13:=by rw [hws];exact st13
        exact⟨m - 1,by omega,j+1,by omega,fun k hk=>(by rcases Nat.lt_or_ge k j with h|h;exact hpre k h;rw [show k=j by omega];exact hmf),fin⟩
      ·
       refine Wn ?_
       refine rH [(32,8,0)] [Vpt a10 7 0,Vq N ((cv vs (j+1)).1),Vpt a10 3 0,Vq N (p.1),Vi (cmpQ ((cv vs (j+1)).1) (p.1)),Vb (true),Vb (true),Vpt a10 3 0,Vq N (p.1),Vpt a10 8 0,Vq N ((cv vs j).1),Vi (cmpQ (p.1) ((cv vs j).1)),Vb (true),Vb (true),Vb (true),Vv N ((cv vs (j+1)).1) ((cv vs (j+1)).2),Vv N ((cv vs j).1) ((cv vs j).2),Vv N (p.1) (p.2),Vi (sdR ((cv vs (j+1))) ((cv vs j)) (p)),Vb (false),Vb (false)] [⟨3,none,none,32,8,Vv N (p.1) (p.2),VT⟩,⟨7,none,none,32,8,Vv N ((cv vs (j+1)).1) ((cv vs (j+1)).2),VT⟩,⟨8,none,none,32,8,Vv N ((cv vs j).1) ((cv vs j).2),VT⟩] [(0,VEq (lv)),(5,Vb (whR vs p j)),(6,Vi (((j:Nat):Int))),(12,Vb (true)),(26,Vb (false)),(32,Vb (true)),(58,Vb (false))] st10 ⟨ks,ks,ks,ks,(kd2 fun _ _ _ _ _ X0 _ X1=>cR4Compare X0 X1),(kr1 42 fun _ _ _ _ _ x0 X0=>⟨_,run_leqi rfl (x0.trans X0) rfl,congrArg Value.bool (dT hc1x)⟩),ks,ks,ks,ks,ks,(kd2 fun _ _ _ _ _ X0 _ X1=>cR4Compare X0 X1),(kr1 49 fun _ _ _ _ _ x0 X0=>⟨_,run_lssi rfl (x0.trans X0) rfl,congrArg Value.bool (dT hc2x)⟩),ks,ks,ks,ks,ks,(by refine kc fun _ ac Y h D=>?_;obtain⟨v0,x0,X0⟩:=h.dp D 53;obtain⟨v1,x1,X1⟩:=h.dp D 54;obtain⟨v2,x2,X2⟩:=h.dp D 55;exact⟨#[v0,v1,v2],by simp [x0,x1,x2],cR5Side X0 X1 X2⟩),(kr1 56 fun _ _ _ _ _ x0 X0=>⟨_,run_lssi rfl (x0.trans X0) rfl,congrArg Value.bool (dF hc3x)⟩),ks,trivial⟩ ?_;intro a11 w11 st11;clear st10;have hin:inR vs p j=false:=by unfold inR;rw [hlo,hhi,dF hc3x];simp
       rw [hin] at hws;refine Wn ?_
       refine cF st11 ?_;rw [if_neg (by decide)] at hws;refine Wn ?_
       refine rH [(32,8,0)] [Vi (((j:Nat):Int)),Vi (((j+1:Nat):Int)),Vi (((j+1:Nat):Int))] [⟨3,none,none,32,8,Vv N (p.1) (p.2),VT⟩,⟨7,none,none,32,8,Vv N ((cv vs (j+1)).1) ((cv vs (j+1)).2),VT⟩,⟨8,none,none,32,8,Vv N ((cv vs j).1) ((cv vs j).2),VT⟩] [(0,VEq (lv)),(5,Vb (whR vs p j)),(12,Vb (true)),(26,Vb (false)),(32,Vb (true)),(58,Vb (false)),(6,Vi (((j+1:Nat):Int)))] st11 ⟨?s0,(kr1 13 fun _ _ _ _ v0 x0 X0=>⟨_,run_addi rfl (x0.trans (show v0= .int .i64 ((j:Nat):Int)from X0)) rfl (wrap_id (by omega) (by omega)),congrArg (Value.int .i64) (by omega)⟩),ks,trivial⟩ ?_
       case s0=>
        refine k_run0 SbB.out (by kernel_rfl) fun listed ac Y h D hnl=>⟨trivial,?_⟩
        obtain⟨v0,x0,X0⟩:=h.out0 hnl (6,Vi (((j:Nat):Int))) (.tail _ (.tail _ (.head _))) 2 (by kernel_rfl) (.inr (by kernel_rfl));exact⟨_,run_move rfl,by rw [x0];exact X0⟩
       intro a12 w12 st12;clear st11;replace st12:St w.heap.size w 62 [⟨3,none,none,32,8,Vv N (p.1) (p.2),VT⟩] [(0,VEq (lv)),(5,Vb (whR vs p j)),(6,Vi (((j+1:Nat):Int)))] a12 w12:=st12.cut;have fin:St w.heap.size w 62 [⟨3,none,none,32,8,Vv N (p.1) (p.2),VT⟩] [(0,VEq (lv)),(5,Vb (whR vs p (j+1))),(6,Vi (((j+1:Nat):Int)))] a12 w12:=by rw [hws];exact st12
       exact⟨m - 1,by omega,j+1,by omega,fun k hk=>(by rcases Nat.lt_or_ge k j with h|h;exact hpre k h;rw [show k=j by omega];exact hmf),fin⟩
     ·
      refine Wn ?_
      refine rH [(32,8,0)] [Vpt a10 7 0,Vq N ((cv vs (j+1)).1),Vpt a10 3 0,Vq N (p.1),Vi (cmpQ ((cv vs (j+1)).1) (p.1)),Vb (true),Vb (true),Vpt a10 3 0,Vq N (p.1),Vpt a10 8 0,Vq N ((cv vs j).1),Vi (cmpQ (p.1) ((cv vs j).1)),Vb (false),Vb (false),Vb (false),VT,VT,VT,VT,VT,Vb (false)] [⟨3,none,none,32,8,Vv N (p.1) (p.2),VT⟩,⟨7,none,none,32,8,Vv N ((cv vs (j+1)).1) ((cv vs (j+1)).2),VT⟩,⟨8,none,none,32,8,Vv N ((cv vs j).1) ((cv vs j).2),VT⟩] [(0,VEq (lv)),(5,Vb (whR vs p j)),(6,Vi (((j:Nat):Int))),(12,Vb (true)),(26,Vb (false)),(32,Vb (true)),(58,Vb (false))] st10 ⟨ks,ks,ks,ks,(kd2 fun _ _ _ _ _ X0 _ X1=>cR4Compare X0 X1),(kr1 42 fun _ _ _ _ _ x0 X0=>⟨_,run_leqi rfl (x0.trans X0) rfl,congrArg Value.bool (dT hc1x)⟩),ks,ks,ks,ks,ks,(kd2 fun _ _ _ _ _ X0 _ X1=>cR4Compare X0 X1),(kr1 49 fun _ _ _ _ _ x0 X0=>⟨_,run_lssi rfl (x0.trans X0) rfl,congrArg Value.bool (dF hc2x)⟩),ks,ks,ks,ks,ks,ks,ks,ks,trivial⟩ ?_;intro a11 w11 st11;clear st10;have hin:inR vs p j=false:=by unfold inR;rw [hlo,hhi,dF hc2x];simp
      rw [hin] at hws;refine Wn ?_
      refine cF st11 ?_;rw [if_neg (by decide)] at hws;refine Wn ?_
      refine rH [(32,8,0)] [Vi (((j:Nat):Int)),Vi (((j+1:Nat):Int)),Vi (((j+1:Nat):Int))] [⟨3,none,none,32,8,Vv N (p.1) (p.2),VT⟩,⟨7,none,none,32,8,Vv N ((cv vs (j+1)).1) ((cv vs (j+1)).2),VT⟩,⟨8,none,none,32,8,Vv N ((cv vs j).1) ((cv vs j).2),VT⟩] [(0,VEq (lv)),(5,Vb (whR vs p j)),(12,Vb (true)),(26,Vb (false)),(32,Vb (true)),(58,Vb (false)),(6,Vi (((j+1:Nat):Int)))] st11 ⟨?s0,(kr1 13 fun _ _ _ _ v0 x0 X0=>⟨_,run_addi rfl (x0.trans (show v0= .int .i64 ((j:Nat):Int)from X0)) rfl (wrap_id (by omega) (by omega)),congrArg (Value.int .i64) (by omega)⟩),ks,trivial⟩ ?_
      case s0=>
       refine k_run0 SbB.out (by kernel_rfl) fun listed ac Y h D hnl=>⟨trivial,?_⟩
       obtain⟨v0,x0,X0⟩:=h.out0 hnl (6,Vi (((j:Nat):Int))) (.tail _ (.tail _ (.head _))) 2 (by kernel_rfl) (.inr (by kernel_rfl));exact⟨_,run_move rfl,by rw [x0];exact X0⟩
      intro a12 w12 st12;clear st11;replace st12:St w.heap.size w 62 [⟨3,none,none,32,8,Vv N (p.1) (p.2),VT⟩] [(0,VEq (lv)),(5,Vb (whR vs p j)),(6,Vi (((j+1:Nat):Int)))] a12 w12:=st12.cut;have fin:St w.heap.size w 62 [⟨3,none,none,32,8,Vv N (p.1) (p.2),VT⟩] [(0,VEq (lv)),(5,Vb (whR vs p (j+1))),(6,Vi (((j+1:Nat):Int)))] a12 w12:=by rw [hws];exact st12
      exact⟨m - 1,by omega,j+1,by omega,fun k hk=>(by rcases Nat.lt_or_ge k j with h|h;exact hpre k h;rw [show k=j by omega];exact hmf),fin⟩
    ·
     refine Wn ?_
     refine rH [(32,8,0)] [Vpt a10 7 0,Vq N ((cv vs (j+1)).1),Vpt a10 3 0,Vq N (p.1),Vi (cmpQ ((cv vs (j+1)).1) (p.1)),Vb (false),Vb (false),VT,VT,VT,VT,VT,VT,Vb (false),Vb (false),VT,VT,VT,VT,VT,Vb (false)] [⟨3,none,none,32,8,Vv N (p.1) (p.2),VT⟩,⟨7,none,none,32,8,Vv N ((cv vs (j+1)).1) ((cv vs (j+1)).2),VT⟩,⟨8,none,none,32,8,Vv N ((cv vs j).1) ((cv vs j).2),VT⟩] [(0,VEq (lv)),(5,Vb (whR vs p j)),(6,Vi (((j:Nat):Int))),(12,Vb (true)),(26,Vb (false)),(32,Vb (true)),(58,Vb (false))] st10 ⟨ks,ks,ks,ks,(kd2 fun _ _ _ _ _ X0 _ X1=>cR4Compare X0 X1),(kr1 42 fun _ _ _ _ _ x0 X0=>⟨_,run_leqi rfl (x0.trans X0) rfl,congrArg Value.bool (dF hc1x)⟩),ks,ks,ks,ks,ks,ks,ks,ks,ks,ks,ks,ks,ks,ks,ks,trivial⟩ ?_;intro a11 w11 st11;clear st10;have hin:inR vs p j=false:=by unfold inR;rw [hlo,hhi,dF hc1x];simp
     rw [hin] at hws;refine Wn ?_
     refine cF st11 ?_;rw [if_neg (by decide)] at hws;refine Wn ?_
     refine rH [(32,8,0)] [Vi (((j:Nat):Int)),Vi (((j+1:Nat):Int)),Vi (((j+1:Nat):Int))] [⟨3,none,none,32,8,Vv N (p.1) (p.2),VT⟩,⟨7,none,none,32,8,Vv N ((cv vs (j+1)).1) ((cv vs (j+1)).2),VT⟩,⟨8,none,none,32,8,Vv N ((cv vs j).1) ((cv vs j).2),VT⟩] [(0,VEq (lv)),(5,Vb (whR vs p j)),(12,Vb (true)),(26,Vb (false)),(32,Vb (true)),(58,Vb (false)),(6,Vi (((j+1:Nat):Int)))] st11 ⟨?s0,(kr1 13 fun _ _ _ _ v0 x0 X0=>⟨_,run_addi rfl (x0.trans (show v0= .int .i64 ((j:Nat):Int)from X0)) rfl (wrap_id (by omega) (by omega)),congrArg (Value.int .i64) (by omega)⟩),ks,trivial⟩ ?_
     case s0=>
      refine k_run0 SbB.out (by kernel_rfl) fun listed ac Y h D hnl=>⟨trivial,?_⟩
      obtain⟨v0,x0,X0⟩:=h.out0 hnl (6,Vi (((j:Nat):Int))) (.tail _ (.tail _ (.head _))) 2 (by kernel_rfl) (.inr (by kernel_rfl));exact⟨_,run_move rfl,by rw [x0];exact X0⟩
     intro a12 w12 st12;clear st11;replace st12:St w.heap.size w 62 [⟨3,none,none,32,8,Vv N (p.1) (p.2),VT⟩] [(0,VEq (lv)),(5,Vb (whR vs p j)),(6,Vi (((j+1:Nat):Int)))] a12 w12:=st12.cut;have fin:St w.heap.size w 62 [⟨3,none,none,32,8,Vv N (p.1) (p.2),VT⟩] [(0,VEq (lv)),(5,Vb (whR vs p (j+1))),(6,Vi (((j+1:Nat):Int)))] a12 w12:=by rw [hws];exact st12
     exact⟨m - 1,by omega,j+1,by omega,fun k hk=>(by rcases Nat.lt_or_ge k j with h|h;exact hpre k h;rw [show k=j by omega];exact hmf),fin⟩
   ·
    refine Wn ?_
    refine rH [(32,8,0)] [Vpt a7 7 0,Vq N ((cv vs j).1),Vpt a7 8 0,Vq N ((cv vs (j+1)).1),Vi (cmpQ ((cv vs j).1) ((cv vs (j+1)).1)),Vb (false)] [⟨3,none,none,32,8,Vv N (p.1) (p.2),VT⟩,⟨7,none,none,32,8,Vv N ((cv vs j).1) ((cv vs j).2),VT⟩,⟨8,none,none,32,8,Vv N ((cv vs (j+1)).1) ((cv vs (j+1)).2),VT⟩] [(0,VEq (lv)),(5,Vb (whR vs p j)),(6,Vi (((j:Nat):Int))),(12,Vb (true)),(26,Vb (false)),(32,Vb (false))] st7 ⟨ks,ks,ks,ks,(kd2 fun _ _ _ _ _ X0 _ X1=>cR4Compare X0 X1),(kr1 31 fun _ _ _ _ _ x0 X0=>⟨_,run_gtri rfl (x0.trans X0) rfl,congrArg Value.bool (dF hsw)⟩),trivial⟩ fun a8 w8 st8=>Wn ?_;clear st7
    refine cF st8 ?_;have hlo:loX (cv vs j) (cv vs (j+1))=cv vs j:=if_neg hsw;have hhi:hiX (cv vs j) (cv vs (j+1))=cv vs (j+1):=if_neg hsw;by_cases hc1x:cmpQ (cv vs j).1 p.1<=0
    ·
     by_cases hc2x:cmpQ p.1 (cv vs (j+1)).1<0
     ·
      by_cases hc3x:sdR (cv vs j) (cv vs (j+1)) p<0
      ·
       refine Wn ?_
       refine rH [(32,8,0)] [Vpt a8 7 0,Vq N ((cv vs j).1),Vpt a8 3 0,Vq N (p.1),Vi (cmpQ ((cv vs j).1) (p.1)),Vb (true),Vb (true),Vpt a8 3 0,Vq N (p.1),Vpt a8 8 0,Vq N ((cv vs (j+1)).1),Vi (cmpQ (p.1) ((cv vs (j+1)).1)),Vb (true),Vb (true),Vb (true),Vv N ((cv vs j).1) ((cv vs j).2),Vv N ((cv vs (j+1)).1) ((cv vs (j+1)).2),Vv N (p.1) (p.2),Vi (sdR ((cv vs j)) ((cv vs (j+1))) (p)),Vb (true),Vb (true)] [⟨3,none,none,32,8,Vv N (p.1) (p.2),VT⟩,⟨7,none,none,32,8,Vv N ((cv vs j).1) ((cv vs j).2),VT⟩,⟨8,none,none,32,8,Vv N ((cv vs (j+1)).1) ((cv vs (j+1)).2),VT⟩] [(0,VEq (lv)),(5,Vb (whR vs p j)),(6,Vi (((j:Nat):Int))),(12,Vb (true)),(26,Vb (false)),(32,Vb (false)),(58,Vb (true))] st8 ⟨ks,ks,ks,ks,(kd2 fun _ _ _ _ _ X0 _ X1=>cR4Compare X0 X1),(kr1 42 fun _ _ _ _ _ x0 X0=>⟨_,run_leqi rfl (x0.trans X0) rfl,congrArg Value.bool (dT hc1x)⟩),ks,ks,ks,ks,ks,(kd2 fun _ _ _ _ _ X0 _ X1=>cR4Compare X0 X1),(kr1 49 fun _ _ _ _ _ x0 X0=>⟨_,run_lssi rfl (x0.trans X0) rfl,congrArg Value.bool (dT hc2x)⟩),ks,ks,ks,ks,ks,(by refine kc fun _ ac Y h D=>?_;obtain⟨v0,x0,X0⟩:=h.dp D 53;obtain⟨v1,x1,X1⟩:=h.dp D 54;obtain⟨v2,x2,X2⟩:=h.dp D 55;exact⟨#[v0,v1,v2],by simp [x0,x1,x2],cR5Side X0 X1 X2⟩),(kr1 56 fun _ _ _ _ _ x0 X0=>⟨_,run_lssi rfl (x0.trans X0) rfl,congrArg Value.bool (dT hc3x)⟩),ks,trivial⟩ ?_;intro a9 w9 st9;clear st8;have hin:inR vs p j=true:=by unfold inR;rw [hlo,hhi,dT hc1x,dT hc2x,dT hc3x];rfl
       rw [hin] at hws;refine Wn ?_
       refine cT st9 ?_;rw [if_pos rfl] at hws;by_cases hwj:whR vs p j=true
       ·
        rw [hwj] at hws st9;refine Wn ?_
        refine rH [(32,8,0)] [Vb (true),Vb (false),Vb (false)] [⟨3,none,none,32,8,Vv N (p.1) (p.2),VT⟩,⟨7,none,none,32,8,Vv N ((cv vs j).1) ((cv vs j).2),VT⟩,⟨8,none,none,32,8,Vv N ((cv vs (j+1)).1) ((cv vs (j+1)).2),VT⟩] [(0,VEq (lv)),(6,Vi (((j:Nat):Int))),(12,Vb (true)),(26,Vb (false)),(32,Vb (false)),(58,Vb (true)),(5,Vb (false))] st9 ⟨?s0,ks,ks,trivial⟩ ?_
        case s0=>
         refine k_run0 SbB.out (by kernel_rfl) fun listed ac Y h D hnl=>⟨trivial,?_⟩
         obtain⟨v0,x0,X0⟩:=h.out0 hnl (5,Vb (true)) (.tail _ (.head _)) 2 (by kernel_rfl) (.inr (by kernel_rfl));exact⟨_,run_move rfl,by rw [x0];exact X0⟩
        intro a10 w10 st10;clear st9;refine Wn ?_
        refine rH [(32,8,0)] [Vi (((j:Nat):Int)),Vi (((j+1:Nat):Int)),Vi (((j+1:Nat):Int))] [⟨3,none,none,32,8,Vv N (p.1) (p.2),VT⟩,⟨7,none,none,32,8,Vv N ((cv vs j).1) ((cv vs j).2),VT⟩,⟨8,none,none,32,8,Vv N ((cv vs (j+1)).1) ((cv vs (j+1)).2),VT⟩] [(0,VEq (lv)),(12,Vb (true)),(26,Vb (false)),(32,Vb (false)),(58,Vb (true)),(5,Vb (!true)),(6,Vi (((j+1:Nat):Int)))] st10 ⟨?s0,(kr1 13 fun _ _ _ _ v0 x0 X0=>⟨_,run_addi rfl (x0.trans (show v0= .int .i64 ((j:Nat):Int)from X0)) rfl (wrap_id (by omega) (by omega)),congrArg (Value.int .i64) (by omega)⟩),ks,trivial⟩ ?_
        case s0=>
         refine k_run0 SbB.out (by kernel_rfl) fun listed ac Y h D hnl=>⟨trivial,?_⟩
         obtain⟨v0,x0,X0⟩:=h.out0 hnl (6,Vi (((j:Nat):Int))) (.tail _ (.head _)) 2 (by kernel_rfl) (.inr (by kernel_rfl));exact⟨_,run_move rfl,by rw [x0];exact X0⟩
        intro a11 w11 st11;clear st10;replace st11:St w.heap.size w 62 [⟨3,none,none,32,8,Vv N (p.1) (p.2),VT⟩] [(0,VEq (lv)),(5,Vb (!true)),(6,Vi (((j+1:Nat):Int)))] a11 w11:=st11.cut;have fin:St w.heap.size w 62 [⟨3,none,none,32,8,Vv N (p.1) (p.2),VT⟩] [(0,VEq (lv)),(5,Vb (whR vs p (j+1))),(6,Vi (((j+1:Nat):Int)))] a11 w11:=by rw [hws];exact st11
        exact⟨m - 1,by omega,j+1,by omega,fun k hk=>(by rcases Nat.lt_or_ge k j with h|h;exact hpre k h;rw [show k=j by omega];exact hmf),fin⟩
       ·
        rw [Bool.not_eq_true] at hwj;rw [hwj] at hws st9;refine Wn ?_
        refine rH [(32,8,0)] [Vb (false),Vb (true),Vb (true)] [⟨3,none,none,32,8,Vv N (p.1) (p.2),VT⟩,⟨7,none,none,32,8,Vv N ((cv vs j).1) ((cv vs j).2),VT⟩,⟨8,none,none,32,8,Vv N ((cv vs (j+1)).1) ((cv vs (j+1)).2),VT⟩] [(0,VEq (lv)),(6,Vi (((j:Nat):Int))),(12,Vb (true)),(26,Vb (false)),(32,Vb (false)),(58,Vb (true)),(5,Vb (true))] st9 ⟨?s0,ks,ks,trivial⟩ ?_
        case s0=>
         refine k_run0 SbB.out (by kernel_rfl) fun listed ac Y h D hnl=>⟨trivial,?_⟩
         obtain⟨v0,x0,X0⟩:=h.out0 hnl (5,Vb (false)) (.tail _ (.head _)) 2 (by kernel_rfl) (.inr (by kernel_rfl));exact⟨_,run_move rfl,by rw [x0];exact X0⟩
        intro a10 w10 st10;clear st9;refine Wn ?_
        refine rH [(32,8,0)] [Vi (((j:Nat):Int)),Vi (((j+1:Nat):Int)),Vi (((j+1:Nat):Int))] [⟨3,none,none,32,8,Vv N (p.1) (p.2),VT⟩,⟨7,none,none,32,8,Vv N ((cv vs j).1) ((cv vs j).2),VT⟩,⟨8,none,none,32,8,Vv N ((cv vs (j+1)).1) ((cv vs (j+1)).2),VT⟩] [(0,VEq (lv)),(12,Vb (true)),(26,Vb (false)),(32,Vb (false)),(58,Vb (true)),(5,Vb (!false)),(6,Vi (((j+1:Nat):Int)))] st10 ⟨?s0,(kr1 13 fun _ _ _ _ v0 x0 X0=>⟨_,run_addi rfl (x0.trans (show v0= .int .i64 ((j:Nat):Int)from X0)) rfl (wrap_id (by omega) (by omega)),congrArg (Value.int .i64) (by omega)⟩),ks,trivial⟩ ?_
        case s0=>
         refine k_run0 SbB.out (by kernel_rfl) fun listed ac Y h D hnl=>⟨trivial,?_⟩
         obtain⟨v0,x0,X0⟩:=h.out0 hnl (6,Vi (((j:Nat):Int))) (.tail _ (.head _)) 2 (by kernel_rfl) (.inr (by kernel_rfl));exact⟨_,run_move rfl,by rw [x0];exact X0⟩
        intro a11 w11 st11;clear st10;replace st11:St w.heap.size w 62 [⟨3,none,none,32,8,Vv N (p.1) (p.2),VT⟩] [(0,VEq (lv)),(5,Vb (!false)),(6,Vi (((j+1:Nat):Int)))] a11 w11:=st11.cut;have fin:St w.heap.size w 62 [⟨3,none,none,32,8,Vv N (p.1) (p.2),VT⟩] [(0,VEq (lv)),(5,Vb (whR vs p (j+1))),(6,Vi (((j+1:Nat):Int)))] a11 w11:=by rw [hws];exact st11
        exact⟨m - 1,by omega,j+1,by omega,fun k hk=>(by rcases Nat.lt_or_ge k j with h|h;exact hpre k h;rw [show k=j by omega];exact hmf),fin⟩
      ·
       refine Wn ?_
       refine rH [(32,8,0)] [Vpt a8 7 0,Vq N ((cv vs j).1),Vpt a8 3 0,Vq N (p.1),Vi (cmpQ ((cv vs j).1) (p.1)),Vb (true),Vb (true),Vpt a8 3 0,Vq N (p.1),Vpt a8 8 0,Vq N ((cv vs (j+1)).1),Vi (cmpQ (p.1) ((cv vs (j+1)).1)),Vb (true),Vb (true),Vb (true),Vv N ((cv vs j).1) ((cv vs j).2),Vv N ((cv vs (j+1)).1) ((cv vs (j+1)).2),Vv N (p.1) (p.2),Vi (sdR ((cv vs j)) ((cv vs (j+1))) (p)),Vb (false),Vb (false)] [⟨3,none,none,32,8,Vv N (p.1) (p.2),VT⟩,⟨7,none,none,32,8,Vv N ((cv vs j).1) ((cv vs j).2),VT⟩,⟨8,none,none,32,8,Vv N ((cv vs (j+1)).1) ((cv vs (j+1)).2),VT⟩] [(0,VEq (lv)),(5,Vb (whR vs p j)),(6,Vi (((j:Nat):Int))),(12,Vb (true)),(26,Vb (false)),(32,Vb (false)),(58,Vb (false))] st8 ⟨ks,ks,ks,ks,(kd2 fun _ _ _ _ _ X0 _ X1=>cR4Compare X0 X1),(kr1 42 fun _ _ _ _ _ x0 X0=>⟨_,run_leqi rfl (x0.trans X0) rfl,congrArg Value.bool (dT hc1x)⟩),ks,ks,ks,ks,ks,(kd2 fun _ _ _ _ _ X0 _ X1=>cR4Compare X0 X1),(kr1 49 fun _ _ _ _ _ x0 X0=>⟨_,run_lssi rfl (x0.trans X0) rfl,congrArg Value.bool (dT hc2x)⟩),ks,ks,ks,ks,ks,(by refine kc fun _ ac Y h D=>?_;obtain⟨v0,x0,X0⟩:=h.dp D 53;obtain⟨v1,x1,X1⟩:=h.dp D 54;obtain⟨v2,x2,X2⟩:=h.dp D 55;exact⟨#[v0,v1,v2],by simp [x0,x1,x2],cR5Side X0 X1 X2⟩),(kr1 56 fun _ _ _ _ _ x0 X0=>⟨_,run_lssi rfl (x0.trans X0) rfl,congrArg Value.bool (dF hc3x)⟩),ks,trivial⟩ ?_;intro a9 w9 st9;clear st8;have hin:inR vs p j=false:=by unfold inR;rw [hlo,hhi,dF hc3x];simp
       rw [hin] at hws;refine Wn ?_
       refine cF st9 ?_;rw [if_neg (by decide)] at hws;refine Wn ?_
       refine rH [(32,8,0)] [Vi (((j:Nat):Int)),Vi (((j+1:Nat):Int)),Vi (((j+1:Nat):Int))] [⟨3,none,none,32,8,Vv N (p.1) (p.2),VT⟩,⟨7,none,none,32,8,Vv N ((cv vs j).1) ((cv vs j).2),VT⟩,⟨8,none,none,32,8,Vv N ((cv vs (j+1)).1) ((cv vs (j+1)).2),VT⟩] [(0,VEq (lv)),(5,Vb (whR vs p j)),(12,Vb (true)),(26,Vb (false)),(32,Vb (false)),(58,Vb (false)),(6,Vi (((j+1:Nat):Int)))] st9 ⟨?s0,(kr1 13 fun _ _ _ _ v0 x0 X0=>⟨_,run_addi rfl (x0.trans (show v0= .int .i64 ((j:Nat):Int)from X0)) rfl (wrap_id (by omega) (by omega)),congrArg (Value.int .i64) (by omega)⟩),ks,trivial⟩ ?_
       case s0=>
        refine k_run0 SbB.out (by kernel_rfl) fun listed ac Y h D hnl=>⟨trivial,?_⟩
        obtain⟨v0,x0,X0⟩:=h.out0 hnl (6,Vi (((j:Nat):Int))) (.tail _ (.tail _ (.head _))) 2 (by kernel_rfl) (.inr (by kernel_rfl));exact⟨_,run_move rfl,by rw [x0];exact X0⟩
       intro a10 w10 st10;clear st9;replace st10:St w.heap.size w 62 [⟨3,none,none,32,8,Vv N (p.1) (p.2),VT⟩] [(0,VEq (lv)),(5,Vb (whR vs p j)),(6,Vi (((j+1:Nat):Int)))] a10 w10:=st10.cut;have fin:St w.heap.size w 62 [⟨3,none,none,32,8,Vv N (p.1) (p.2),VT⟩] [(0,VEq (lv)),(5,Vb (whR vs p (j+1))),(6,Vi (((j+1:Nat):Int)))] a10 w10:=by rw [hws];exact st10
       exact⟨m - 1,by omega,j+1,by omega,fun k hk=>(by rcases Nat.lt_or_ge k j with h|h;exact hpre k h;rw [show k=j by omega];exact hmf),fin⟩
     ·
      refine Wn ?_
      refine rH [(32,8,0)] [Vpt a8 7 0,Vq N ((cv vs j).1),Vpt a8 3 0,Vq N (p.1),Vi (cmpQ ((cv vs j).1) (p.1)),Vb (true),Vb (true),Vpt a8 3 0,Vq N (p.1),Vpt a8 8 0,Vq N ((cv vs (j+1)).1),Vi (cmpQ (p.1) ((cv vs (j+1)).1)),Vb (false),Vb (false),Vb (false),VT,VT,VT,VT,VT,Vb (false)] [⟨3,none,none,32,8,Vv N (p.1) (p.2),VT⟩,⟨7,none,none,32,8,Vv N ((cv vs j).1) ((cv vs j).2),VT⟩,⟨8,none,none,32,8,Vv N ((cv vs (j+1)).1) ((cv vs (j+1)).2),VT⟩] [(0,VEq (lv)),(5,Vb (whR vs p j)),(6,Vi (((j:Nat):Int))),(12,Vb (true)),(26,Vb (false)),(32,Vb (false)),(58,Vb (false))] st8 ⟨ks,ks,ks,ks,(kd2 fun _ _ _ _ _ X0 _ X1=>cR4Compare X0 X1),(kr1 42 fun _ _ _ _ _ x0 X0=>⟨_,run_leqi rfl (x0.trans X0) rfl,congrArg Value.bool (dT hc1x)⟩),ks,ks,ks,ks,ks,(kd2 fun _ _ _ _ _ X0 _ X1=>cR4Compare X0 X1),(kr1 49 fun _ _ _ _ _ x0 X0=>⟨_,run_lssi rfl (x0.trans X0) rfl,congrArg Value.bool (dF hc2x)⟩),ks,ks,ks,ks,ks,ks,ks,ks,trivial⟩ ?_;intro a9 w9 st9;clear st8;have hin:inR vs p j=false:=by unfold inR;rw [hlo,hhi,dF hc2x];simp
      rw [hin] at hws;refine Wn ?_
      refine cF st9 ?_;rw [if_neg (by decide)] at hws;refine Wn ?_
      refine rH [(32,8,0)] [Vi (((j:Nat):Int)),Vi (((j+1:Nat):Int)),Vi (((j+1:Nat):Int))] [⟨3,none,none,32,8,Vv N (p.1) (p.2),VT⟩,⟨7,none,none,32,8,Vv N ((cv vs j).1) ((cv vs j).2),VT⟩,⟨8,none,none,32,8,Vv N ((cv vs (j+1)).1) ((cv vs (j+1)).2),VT⟩] [(0,VEq (lv)),(5,Vb (whR vs p j)),(12,Vb (true)),(26,Vb (false)),(32,Vb (false)),(58,Vb (false)),(6,Vi (((j+1:Nat):Int)))] st9 ⟨?s0,(kr1 13 fun _ _ _ _ v0 x0 X0=>⟨_,run_addi rfl (x0.trans (show v0= .int .i64 ((j:Nat):Int)from X0)) rfl (wrap_id (by omega) (by omega)),congrArg (Value.int .i64) (by omega)⟩),ks,trivial⟩ ?_
      case s0=>
       refine k_run0 SbB.out (by kernel_rfl) fun listed ac Y h D hnl=>⟨trivial,?_⟩
       obtain⟨v0,x0,X0⟩:=h.out0 hnl (6,Vi (((j:Nat):Int))) (.tail _ (.tail _ (.head _))) 2 (by kernel_rfl) (.inr (by kernel_rfl));exact⟨_,run_move rfl,by rw [x0];exact X0⟩
      intro a10 w10 st10;clear st9;replace st10:St w.heap.size w 62 [⟨3,none,none,32,8,Vv N (p.1) (p.2),VT⟩] [(0,VEq (lv)),(5,Vb (whR vs p j)),(6,Vi (((j+1:Nat):Int)))] a10 w10:=st10.cut;have fin:St w.heap.size w 62 [⟨3,none,none,32,8,Vv N (p.1) (p.2),VT⟩] [(0,VEq (lv)),(5,Vb (whR vs p (j+1))),(6,Vi (((j+1:Nat):Int)))] a10 w10:=by rw [hws];exact st10
      exact⟨m - 1,by omega,j+1,by omega,fun k hk=>(by rcases Nat.lt_or_ge k j with h|h;exact hpre k h;rw [show k=j by omega];exact hmf),fin⟩
    ·
     refine Wn ?_
     refine rH [(32,8,0)] [Vpt a8 7 0,Vq N ((cv vs j).1),Vpt a8 3 0,Vq N (p.1),Vi (cmpQ ((cv vs j).1) (p.1)),Vb (false),Vb (false),VT,VT,VT,VT,VT,VT,Vb (false),Vb (false),VT,VT,VT,VT,VT,Vb (false)] [⟨3,none,none,32,8,Vv N (p.1) (p.2),VT⟩,⟨7,none,none,32,8,Vv N ((cv vs j).1) ((cv vs j).2),VT⟩,⟨8,none,none,32,8,Vv N ((cv vs (j+1)).1) ((cv vs (j+1)).2),VT⟩] [(0,VEq (lv)),(5,Vb (whR vs p j)),(6,Vi (((j:Nat):Int))),(12,Vb (true)),(26,Vb (false)),(32,Vb (false)),(58,Vb (false))] st8 ⟨ks,ks,ks,ks,(kd2 fun _ _ _ _ _ X0 _ X1=>cR4Compare X0 X1),(kr1 42 fun _ _ _ _ _ x0 X0=>⟨_,run_leqi rfl (x0.trans X0) rfl,congrArg Value.bool (dF hc1x)⟩),ks,ks,ks,ks,ks,ks,ks,ks,ks,ks,ks,ks,ks,ks,ks,trivial⟩ ?_;intro a9 w9 st9;clear st8;have hin:inR vs p j=false:=by unfold inR;rw [hlo,hhi,dF hc1x];simp
     rw [hin] at hws;refine Wn ?_
     refine cF st9 ?_;rw [if_neg (by decide)] at hws;refine Wn ?_
     refine rH [(32,8,0)] [Vi (((j:Nat):Int)),Vi (((j+1:Nat):Int)),Vi (((j+1:Nat):Int))] [⟨3,none,none,32,8,Vv N (p.1) (p.2),VT⟩,⟨7,none,none,32,8,Vv N ((cv vs j).1) ((cv vs j).2),VT⟩,⟨8,none,none,32,8,Vv N ((cv vs (j+1)).1) ((cv vs (j+1)).2),VT⟩] [(0,VEq (lv)),(5,Vb (whR vs p j)),(12,Vb (true)),(26,Vb (false)),(32,Vb (false)),(58,Vb (false)),(6,Vi (((j+1:Nat):Int)))] st9 ⟨?s0,(kr1 13 fun _ _ _ _ v0 x0 X0=>⟨_,run_addi rfl (x0.trans (show v0= .int .i64 ((j:Nat):Int)from X0)) rfl (wrap_id (by omega) (by omega)),congrArg (Value.int .i64) (by omega)⟩),ks,trivial⟩ ?_
     case s0=>
      refine k_run0 SbB.out (by kernel_rfl) fun listed ac Y h D hnl=>⟨trivial,?_⟩
      obtain⟨v0,x0,X0⟩:=h.out0 hnl (6,Vi (((j:Nat):Int))) (.tail _ (.tail _ (.head _))) 2 (by kernel_rfl) (.inr (by kernel_rfl));exact⟨_,run_move rfl,by rw [x0];exact X0⟩
     intro a10 w10 st10;clear st9;replace st10:St w.heap.size w 62 [⟨3,none,none,32,8,Vv N (p.1) (p.2),VT⟩] [(0,VEq (lv)),(5,Vb (whR vs p j)),(6,Vi (((j+1:Nat):Int)))] a10 w10:=st10.cut;have fin:St w.heap.size w 62 [⟨3,none,none,32,8,Vv N (p.1) (p.2),VT⟩] [(0,VEq (lv)),(5,Vb (whR vs p (j+1))),(6,Vi (((j+1:Nat):Int)))] a10 w10:=by rw [hws];exact st10
     exact⟨m - 1,by omega,j+1,by omega,fun k hk=>(by rcases Nat.lt_or_ge k j with h|h;exact hpre k h;rw [show k=j by omega];exact hmf),fin⟩
 ·
  refine Wn ?_
  refine rH [(32,8,0)] [Vi (((j:Nat):Int)),VEq (lv),Vi ((vs.length:Int)),Vb (false)] [⟨3,none,none,32,8,Vv N (p.1) (p.2),VT⟩] [(0,VEq (lv)),(5,Vb (whR vs p j)),(6,Vi (((j:Nat):Int))),(12,Vb (false))] st3 ⟨ks,ks,(kr1 10 fun _ _ _ _ _ x0 X0=>len_Sv rfl rfl x0 X0 hS),(kr2 9 11 fun _ _ _ _ _ x0 X0 _ x1 X1=>⟨_,run_lssi rfl (x0.trans X0) (x1.trans X1),congrArg Value.bool (dF (by omega))⟩),trivial⟩ fun a4 w4 st4=>Wn ?_;clear st3
  refine cF st4 ?_;have ej:j=vs.length:=by omega
  subst ej;have hno:¬∃k∈List.range vs.length,onR vs p k=true:=by rintro⟨k,hk,hk2⟩;exact hpre k (List.mem_range.1 hk) hk2
  by_cases hwj:whR vs p vs.length=true
  ·
   rw [hwj] at st4;refine Wn ?_
   refine rH [(32,8,0)] [Vb (true)] [⟨3,none,none,32,8,Vv N (p.1) (p.2),VT⟩] [(0,VEq (lv)),(5,Vb (true)),(6,Vi (((vs.length:Nat):Int))),(12,Vb (false)),(61,Vb (true))] st4 ⟨ks,trivial⟩ fun a5 w5 st5=>Wn ?_;clear st4
   refine cT st5 ?_;refine Wn ?_
   refine rH [(32,8,0)] [Vi (1)] [⟨3,none,none,32,8,Vv N (p.1) (p.2),VT⟩] [(0,VEq (lv)),(5,Vb (true)),(6,Vi (((vs.length:Nat):Int))),(12,Vb (false)),(61,Vb (true)),(4,Vi (1))] st5 ⟨ks,trivial⟩ fun a6 w6 st6=>Wn ?_;clear st5
   exact wp_ret (rS 4 (Vi (1)) st6 fun vr r4=>(by rw [show hasR vs p=1 from(if_neg hno).trans (if_pos hwj)];exact r4))
  ·
   have hwf:=hwj;rw [Bool.not_eq_true] at hwj;rw [hwj] at st4;refine Wn ?_
   refine rH [(32,8,0)] [Vb (false)] [⟨3,none,none,32,8,Vv N (p.1) (p.2),VT⟩] [(0,VEq (lv)),(5,Vb (false)),(6,Vi (((vs.length:Nat):Int))),(12,Vb (false)),(61,Vb (false))] st4 ⟨ks,trivial⟩ fun a5 w5 st5=>Wn ?_;clear st4
   refine cF st5 ?_;refine Wn ?_
   refine rH [(32,8,0)] [Vi (-1)] [⟨3,none,none,32,8,Vv N (p.1) (p.2),VT⟩] [(0,VEq (lv)),(5,Vb (false)),(6,Vi (((vs.length:Nat):Int))),(12,Vb (false)),(61,Vb (false)),(4,Vi (-1))] st5 ⟨ks,trivial⟩ fun a6 w6 st6=>Wn ?_;clear st5
   exact wp_ret (rS 4 (Vi (-1)) st6 fun vr r4=>(by rw [show hasR vs p= -1 from(if_neg hno).trans (if_neg hwf)];exact r4))
end Go.Proofs.YteacdbgalloaiaaGreat
