/- Contracts of the packages integer, rat, plane, polygon and their references. -/
import Derived.Test.YteacdbgalloaiaaGreatH32
set_option linter.unusedVariables false
set_option maxRecDepth 100000
set_option maxHeartbeats 6400000
namespace Go.Proofs.YteacdbgalloaiaaGreat
open Go.RowKit
open Go
def sdR (a b c:P2):Int:=cmpI ((b.1 - a.1)*(c.2 - a.2) - (b.2 - a.2)*(c.1 - a.1)).num 0
def tnR (vs:List P2)(k:Nat):Int:=sdR (cv vs k) (cv vs (k+1)) (cv vs (k+2))
def gp (vs:List P2)(i k:Nat):Nat:=(k+vs.length - i) % vs.length
def badR (vs:List P2)(i k:Nat):Bool:=decide (1<gp vs i k) && (decide (gp vs i k+1<vs.length) && meetsR (cv vs i) (cv vs (i+1)) (cv vs k) (cv vs (k+1)))
def okR (vs:List P2)(i:Nat):Prop:=¬tnR vs i=0/\∀k∈List.range vs.length,badR vs i k=false
instance (vs:List P2)(i:Nat):Decidable (okR vs i):=by unfold okR;infer_instance
def validR (vs:List P2):Bool:=decide (3<=vs.length) && (decide (vs.length<=12) && (decide (∀i∈List.range vs.length,okR vs i) && decide (0<(areaR vs).num)))
theorem validR_f {vs:List P2}{i:Nat}(hi:i<vs.length)(h:¬okR vs i):validR vs=false:=by
 unfold validR;rw [dF (p:=∀i∈List.range vs.length,okR vs i) (fun h2=>h (h2 i (List.mem_range.2 hi)))];simp
theorem cR6MeetsV {w:World}{N:Nat}{a b c d:P2}{v0 v1 v2 v3:Value}{x:Bool}(h0:Vv N a.1 a.2 v0 w)(h1:Vv N b.1 b.2 v1 w)(h2:Vv N c.1 c.2 v2 w)(h3:Vv N d.1 d.2 v3 w)(hN3:3<=N)(hN:N<=400)(hx:meetsR a b c d=x):Calls Tryz.prog 46 #[v0,v1,v2,v3] w (RV (Vb x) w):=by
 subst hx;exact cR6Meets h0 h1 h2 h3 hN3 hN
theorem cR6Valid {w:World}{N:Nat}{vs:List P2}{lv:Value}{v0:Value}(h0:VEq (lv) v0 w)(hS:VSv N vs lv w)(hN3:3<=N:=by omega)(hN:N<=17:=by omega):Calls Tryz.prog 35 #[v0] w (RV (Vb (validR vs)) w):=by
 go_enter Tryz.func35,Tryz.ntmps35
 generalize hA:(⟨_,_⟩:Act)=a0;have st0:St w.heap.size w 86 [] [(0,VEq (lv))] a0 w:=by subst hA;exact St.begin rfl rfl (Lq.2 ⟨⟨_,rfl,h0⟩,L0⟩)
 clear hA;have hmax:=VSv_max hS;refine Wn ?_
 refine rH [] [Vb (false)] [] [(0,VEq (lv)),(2,Vb (false))] st0 ⟨ks,trivial⟩ ?_;intro a1 w1 st1;clear st0;by_cases hlt3:vs.length<3
 ·
  refine Wn ?_
  refine rH [] [VEq (lv),Vi ((vs.length:Int)),Vb (true),Vb (true),VT,VT,VT,Vb (true),Vb (true),VT,VT,VT,Vb (true)] [] [(0,VEq (lv)),(2,Vb (false)),(18,Vb (true))] st1 ⟨ks,(kr1 6 fun _ _ _ _ _ x0 X0=>len_Sv rfl rfl x0 X0 hS),(kr1 7 fun _ _ _ _ _ x0 X0=>⟨_,run_lssi rfl (x0.trans X0) rfl,congrArg Value.bool (dT (by omega))⟩),ks,ks,?s5,ks,ks,ks,ks,ks,ks,ks,trivial⟩ ?_
  case s5=>
   refine k_skip SbB.out (by kernel_rfl) fun listed ac Y h D=>⟨?_,trivial⟩
   obtain⟨u,hu,hy,hU⟩:=h.dep D 3 9 (by kernel_rfl) (by kernel_rfl);obtain rfl:u= .bool true:=hU;exact⟨3,false,true,rfl,hy,by decide⟩
  intro a2 w2 st2;clear st1;refine Wn ?_
  refine cT st2 ?_;refine Wn ?_
  refine rH [] [Vb (false)] [] [(0,VEq (lv)),(18,Vb (true)),(2,Vb (false))] st2 ⟨ks,trivial⟩ fun a3 w3 st3=>Wn ?_;clear st2
  exact wp_ret (rS 2 (Vb (false)) st3 fun vr r4=>(by rw [show validR vs=false by unfold validR;rw [dF (show ¬3<=vs.length by omega)];simp];exact r4))
 ·
  by_cases hgt:12<vs.length
  ·
   refine Wn ?_
   refine rH [] [VEq (lv),Vi ((vs.length:Int)),Vb (false),Vb (false),VEq (lv),Vi ((vs.length:Int)),Vb (true),Vb (true),Vb (true),VT,VT,VT,Vb (true)] [] [(0,VEq (lv)),(2,Vb (false)),(18,Vb (true))] st1 ⟨ks,(kr1 6 fun _ _ _ _ _ x0 X0=>len_Sv rfl rfl x0 X0 hS),(kr1 7 fun _ _ _ _ _ x0 X0=>⟨_,run_lssi rfl (x0.trans X0) rfl,congrArg Value.bool (dF (by omega))⟩),ks,ks,(kr1 10 fun _ _ _ _ _ x0 X0=>len_Sv rfl rfl x0 X0 hS),(kr1 11 fun _ _ _ _ _ x0 X0=>⟨_,run_gtri rfl (x0.trans X0) rfl,congrArg Value.bool (dT (by omega))⟩),ks,ks,ks,ks,ks,ks,trivial⟩ fun a2 w2 st2=>Wn ?_;clear st1
   refine cT st2 ?_;refine Wn ?_
   refine rH [] [Vb (false)] [] [(0,VEq (lv)),(18,Vb (true)),(2,Vb (false))] st2 ⟨ks,trivial⟩ fun a3 w3 st3=>Wn ?_;clear st2
   exact wp_ret (rS 2 (Vb (false)) st3 fun vr r4=>(by rw [show validR vs=false by unfold validR;rw [dF (show ¬vs.length<=12 by omega)];simp];exact r4))
  ·
   refine Wn ?_
   refine rH [] [VEq (lv),Vi ((vs.length:Int)),Vb (false),Vb (false),VEq (lv),Vi ((vs.length:Int)),Vb (false),Vb (false),Vb (false),VEq (lv),Vb (true),Vb (false),Vb (false)] [] [(0,VEq (lv)),(2,Vb (false)),(18,Vb (false))] st1 ⟨ks,(kr1 6 fun _ _ _ _ _ x0 X0=>len_Sv rfl rfl x0 X0 hS),(kr1 7 fun _ _ _ _ _ x0 X0=>⟨_,run_lssi rfl (x0.trans X0) rfl,congrArg Value.bool (dF (by omega))⟩),ks,ks,(kr1 10 fun _ _ _ _ _ x0 X0=>len_Sv rfl rfl x0 X0 hS),(kr1 11 fun _ _ _ _ _ x0 X0=>⟨_,run_gtri rfl (x0.trans X0) rfl,congrArg Value.bool (dF (by omega))⟩),ks,ks,ks,(kd1 fun _ _ _ h _ X0=>cR6Numbers X0 (VSv_later hS h.k.below)),ks,ks,trivial⟩ ?_;intro a2 w2 st2;clear st1
   have hbd6:6+vs.length*(4*N+3)<=900:=by
    have:=Nat.mul_le_mul (show vs.length<=12 by omega) (show 4*N+3<=71 by omega);omega
   have h3:decide (3<=vs.length)=true:=dT (by omega);have h12:decide (vs.length<=12)=true:=dT (by omega);refine Wn ?_
   refine cF st2 ?_;refine Wn ?_
   refine rH [] [Vi (0)] [] [(0,VEq (lv)),(2,Vb (false)),(18,Vb (false)),(3,Vi (0))] st2 ⟨ks,trivial⟩ ?_;intro a3 w3 st3;clear st2;replace st3:St w.heap.size w 86 [] [(0,VEq (lv)),(3,Vi (((0:Nat):Int)))] a3 w3:=st3.cut;refine Wn ?_
   refine wp_loop_ghost (fun m aX wX=>∃i:Nat,i+m=vs.length/\(∀i2<i,okR vs i2)/\St w.heap.size w 86 [] [(0,VEq (lv)),(3,Vi (((i:Nat):Int)))] aX wX) vs.length ⟨0,by omega,fun i hi=>absurd hi (by omega),st3⟩ ?_;clear st3;intro m aL wL ⟨i,hi,hpre,st3⟩;by_cases hlt:i<vs.length
   ·
    refine Wn ?_
    refine rH [] [Vi (((i:Nat):Int)),VEq (lv),Vi ((vs.length:Int)),Vb (true)] [] [(0,VEq (lv)),(3,Vi (((i:Nat):Int))),(22,Vb (true))] st3 ⟨ks,ks,(kr1 20 fun _ _ _ _ _ x0 X0=>len_Sv rfl rfl x0 X0 hS),(kr2 19 21 fun _ _ _ _ _ x0 X0 _ x1 X1=>⟨_,run_lssi rfl (x0.trans X0) (x1.trans X1),congrArg Value.bool (dT (by omega))⟩),trivial⟩ fun a4 w4 st4=>Wn ?_;clear st3
    refine cT st4 ?_;have hgi:vs[i]? =some (cv vs i):=by have:=cv_get (vs:=vs) i (by omega);rwa [Nat.mod_eq_of_lt (by omega)] at this
    by_cases htn:tnR vs i=0
    ·
     refine Wn ?_
     refine rH [] [VEq (lv),Vi (((i:Nat):Int)),VAt w (VEp 32 8 (Vv N (cv vs i).1 (cv vs i).2)),Vv N ((cv vs i).1) ((cv vs i).2),VEq (lv),Vi (((i:Nat):Int)),Vi (((i+1:Nat):Int)),Vv N ((cv vs (i+1)).1) ((cv vs (i+1)).2),VEq (lv),Vi (((i:Nat):Int)),Vi (((i+2:Nat):Int)),Vv N ((cv vs (i+2)).1) ((cv vs (i+2)).2),Vi (sdR ((cv vs i)) ((cv vs (i+1))) ((cv vs (i+2)))),Vb (true)] [] [(0,VEq (lv)),(3,Vi (((i:Nat):Int))),(22,Vb (true)),(38,Vb (true))] st4 ⟨ks,ks,(kr2 25 26 fun _ _ _ _ _ x0 X0 _ x1 X1=>index_Sv rfl x0 X0 hS x1 X1 hgi),(kr1 27 fun _ _ _ h _ x0 X0=>load_EpC (w:=w) (k:=8) (A:=Vv N (cv vs i).1 (cv vs i).2) (Stab_Vv _ _ _) rfl x0 X0 h.k.below Tryz.underlying32 rfl size_Vec),ks,ks,(kr1 30 fun _ _ _ _ v0 x0 X0=>⟨_,run_addi rfl (x0.trans (show v0= .int .i64 ((i:Nat):Int)from X0)) rfl (wrap_id (by omega) (by omega)),congrArg (Value.int .i64) (by omega)⟩),(kd2 fun _ _ _ h _ X0 _ X1=>cR6Corner (k:=i+1) X0 X1 (VSv_later hS h.k.below)),ks,ks,(kr1 34 fun _ _ _ _ v0 x0 X0=>⟨_,run_addi rfl (x0.trans (show v0= .int .i64 ((i:Nat):Int)from X0)) rfl (wrap_id (by omega) (by omega)),congrArg (Value.int .i64) (by omega)⟩),(kd2 fun _ _ _ h _ X0 _ X1=>cR6Corner (k:=i+2) X0 X1 (VSv_later hS h.k.below)),(by refine kc fun _ ac Y h D=>?_;obtain⟨v0,x0,X0⟩:=h.dp D 28;obtain⟨v1,x1,X1⟩:=h.dp D 32;obtain⟨v2,x2,X2⟩:=h.dp D 36;exact⟨#[v0,v1,v2],by simp [x0,x1,x2],cR5Side X0 X1 X2⟩),(kr1 37 fun _ _ _ _ _ x0 X0=>⟨_,run_eqi rfl (x0.trans X0) rfl,congrArg Value.bool (dT htn)⟩),trivial⟩ ?_;intro a5 w5 st5;clear st4;refine Wn ?_
     refine cT st5 ?_;refine Wn ?_
     refine rH [] [Vb (false)] [] [(0,VEq (lv)),(3,Vi (((i:Nat):Int))),(22,Vb (true)),(38,Vb (true)),(2,Vb (false))] st5 ⟨ks,trivial⟩ fun a6 w6 st6=>Wn ?_;clear st5
     exact wp_ret (rS 2 (Vb (false)) st6 fun vr r4=>(by rw [validR_f hlt (fun h=>h.1 htn)];exact r4))
    ·
     refine Wn ?_
     refine rH [] [VEq (lv),Vi (((i:Nat):Int)),VAt w (VEp 32 8 (Vv N (cv vs i).1 (cv vs i).2)),Vv N ((cv vs i).1) ((cv vs i).2),VEq (lv),Vi (((i:Nat):Int)),Vi (((i+1:Nat):Int)),Vv N ((cv vs (i+1)).1) ((cv vs (i+1)).2),VEq (lv),Vi (((i:Nat):Int)),Vi (((i+2:Nat):Int)),Vv N ((cv vs (i+2)).1) ((cv vs (i+2)).2),Vi (sdR ((cv vs i)) ((cv vs (i+1))) ((cv vs (i+2)))),Vb (false)] [] [(0,VEq (lv)),(3,Vi (((i:Nat):Int))),(22,Vb (true)),(38,Vb (false))] st4 ⟨ks,ks,(kr2 25 26 fun _ _ _ _ _ x0 X0 _ x1 X1=>index_Sv rfl x0 X0 hS x1 X1 hgi),(kr1 27 fun _ _ _ h _ x0 X0=>load_EpC (w:=w) (k:=8) (A:=Vv N (cv vs i).1 (cv vs i).2) (Stab_Vv _ _ _) rfl x0 X0 h.k.below Tryz.underlying32 rfl size_Vec),ks,ks,(kr1 30 fun _ _ _ _ v0 x0 X0=>⟨_,run_addi rfl (x0.trans (show v0= .int .i64 ((i:Nat):Int)from X0)) rfl (wrap_id (by omega) (by omega)),congrArg (Value.int .i64) (by omega)⟩),(kd2 fun _ _ _ h _ X0 _ X1=>cR6Corner (k:=i+1) X0 X1 (VSv_later hS h.k.below)),ks,ks,(kr1 34 fun _ _ _ _ v0 x0 X0=>⟨_,run_addi rfl (x0.trans (show v0= .int .i64 ((i:Nat):Int)from X0)) rfl (wrap_id (by omega) (by omega)),congrArg (Value.int .i64) (by omega)⟩),(kd2 fun _ _ _ h _ X0 _ X1=>cR6Corner (k:=i+2) X0 X1 (VSv_later hS h.k.below)),(by refine kc fun _ ac Y h D=>?_;obtain⟨v0,x0,X0⟩:=h.dp D 28;obtain⟨v1,x1,X1⟩:=h.dp D 32;obtain⟨v2,x2,X2⟩:=h.dp D 36;exact⟨#[v0,v1,v2],by simp [x0,x1,x2],cR5Side X0 X1 X2⟩),(kr1 37 fun _ _ _ _ _ x0 X0=>⟨_,run_eqi rfl (x0.trans X0) rfl,congrArg Value.bool (dF htn)⟩),trivial⟩ ?_;intro a5 w5 st5;clear st4;refine Wn ?_
     refine cF st5 ?_;refine Wn ?_
     refine rH [] [Vi (0)] [] [(0,VEq (lv)),(3,Vi (((i:Nat):Int))),(22,Vb (true)),(38,Vb (false)),(4,Vi (0))] st5 ⟨ks,trivial⟩ ?_;intro a6 w6 st6;clear st5;replace st6:St w.heap.size w 86 [] [(0,VEq (lv)),(3,Vi (((i:Nat):Int))),(4,Vi (((0:Nat):Int)))] a6 w6:=st6.cut;refine Wn ?_
     refine wp_loop_ghost (fun m2 aX wX=>∃k:Nat,k+m2=vs.length/\(∀k2<k,badR vs i k2=false)/\St w.heap.size w 86 [] [(0,VEq (lv)),(3,Vi (((i:Nat):Int))),(4,Vi (((k:Nat):Int)))] aX wX) vs.length ⟨0,by omega,fun i hi=>absurd hi (by omega),st6⟩ ?_;clear st6;intro m2 aK wK ⟨k,hk,hpre2,st6⟩;by_cases hlk:k<vs.length
     ·
      refine Wn ?_
      refine rH [] [Vi (((k:Nat):Int)),VEq (lv),Vi ((vs.length:Int)),Vb (true)] [] [(0,VEq (lv)),(3,Vi (((i:Nat):Int))),(4,Vi (((k:Nat):Int))),(42,Vb (true))] st6 ⟨ks,ks,(kr1 40 fun _ _ _ _ _ x0 X0=>len_Sv rfl rfl x0 X0 hS),(kr2 39 41 fun _ _ _ _ _ x0 X0 _ x1 X1=>⟨_,run_lssi rfl (x0.trans X0) (x1.trans X1),congrArg Value.bool (dT (by omega))⟩),trivial⟩ fun a7 w7 st7=>Wn ?_;clear st6
      refine cT st7 ?_;have hgk:vs[k]? =some (cv vs k):=by have:=cv_get (vs:=vs) k (by omega);rwa [Nat.mod_eq_of_lt (by omega)] at this
      refine Wn ?_
      refine rH [] [Vi (((k:Nat):Int)),Vi (((i:Nat):Int)),Vi (((k:Int) - (i:Int))),VEq (lv),Vi ((vs.length:Int)),Vi (((k+vs.length - i:Nat):Int)),VEq (lv),Vi ((vs.length:Int)),Vi (((gp vs i k:Nat):Int)),Vi (((gp vs i k:Nat):Int))] [] [(0,VEq (lv)),(3,Vi (((i:Nat):Int))),(4,Vi (((k:Nat):Int))),(42,Vb (true)),(5,Vi (((gp vs i k:Nat):Int)))] st7 ⟨ks,ks,(kr2 45 46 fun _ _ _ _ v0 x0 X0 v1 x1 X1=>⟨_,run_subi rfl (x0.trans (show v0= .int .i64 ((k:Nat):Int)from X0)) (x1.trans (show v1= .int .i64 ((i:Nat):Int)from X1)) (wrap_id (by omega) (by omega)),rfl⟩),ks,(kr1 48 fun _ _ _ _ _ x0 X0=>len_Sv rfl rfl x0 X0 hS),(kr2 47 49 fun _ _ _ _ v0 x0 X0 v1 x1 X1=>⟨_,run_addi rfl (x0.trans (show v0= .int .i64 ((k:Int) - (i:Int))from X0)) (x1.trans (show v1= .int .i64 (vs.length:Int)from X1)) (wrap_id (by omega) (by omega)),congrArg (Value.int .i64) (by omega)⟩),ks,(kr1 51 fun _ _ _ _ _ x0 X0=>len_Sv rfl rfl x0 X0 hS),(kr2 50 52 fun _ _ _ _ _ x0 X0 _ x1 X1=>rem_n (j:=k+vs.length - i) (n:=vs.length) rfl x0 x1 X0 X1 (by omega)),ks,trivial⟩ ?_;intro a8 w8 st8;clear st7;by_cases hg1:1<gp vs i k
      ·
       by_cases hg2:gp vs i k+1<vs.length
       ·
        by_cases hmt:meetsR (cv vs i) (cv vs (i+1)) (cv vs k) (cv vs (k+1))=true
        ·
         refine Wn ?_
         refine rH [] [Vi (((gp vs i k:Nat):Int)),Vb (true),Vb (true),Vi (((gp vs i k:Nat):Int)),VEq (lv),Vi ((vs.length:Int)),Vi (((vs.length:Int)) - (1)),Vb (true),Vb (true),Vb (true),VEq (lv),Vi (((i:Nat):Int)),VAt w (VEp 32 8 (Vv N (cv vs i).1 (cv vs i).2)),Vv N ((cv vs i).1) ((cv vs i).2),VEq (lv),Vi (((i:Nat):Int)),Vi (((i+1:Nat):Int)),Vv N ((cv vs (i+1)).1) ((cv vs (i+1)).2),VEq (lv),Vi (((k:Nat):Int)),VAt w (VEp 32 8 (Vv N (cv vs k).1 (cv vs k).2)),Vv N ((cv vs k).1) ((cv vs k).2),VEq (lv),Vi (((k:Nat):Int)),Vi (((k+1:Nat):Int)),Vv N ((cv vs (k+1)).1) ((cv vs (k+1)).2),Vb (true),Vb (true)] [] [(0,VEq (lv)),(3,Vi (((i:Nat):Int))),(4,Vi (((k:Nat):Int))),(42,Vb (true)),(81,Vb (true))] st8 ⟨ks,(kr1 54 fun _ _ _ _ _ x0 X0=>⟨_,run_gtri rfl (x0.trans X0) rfl,congrArg Value.bool (dT (by omega))⟩),ks,ks,ks,(kr1 58 fun _ _ _ _ _ x0 X0=>len_Sv rfl rfl x0 X0 hS),(kr1 59 fun _ _ _ _ _ x0 X0=>⟨_,run_subi rfl (x0.trans X0) rfl (wrap_id (by omega) (by omega)),rfl⟩),(kr2 57 60 fun _ _ _ _ _ x0 X0 _ x1 X1=>⟨_,run_lssi rfl (x0.trans X0) (x1.trans X1),congrArg Value.bool (dT (by omega))⟩),ks,ks,ks,ks,(kr2 64 65 fun _ _ _ _ _ x0 X0 _ x1 X1=>index_Sv rfl x0 X0 hS x1 X1 hgi),(kr1 66 fun _ _ _ h _ x0 X0=>load_EpC (w:=w) (k:=8) (A:=Vv N (cv vs i).1 (cv vs i).2) (Stab_Vv _ _ _) rfl x0 X0 h.k.below Tryz.underlying32 rfl size_Vec),ks,ks,(kr1 69 fun _ _ _ _ v0 x0 X0=>⟨_,run_addi rfl (x0.trans (show v0= .int .i64 ((i:Nat):Int)from X0)) rfl (wrap_id (by omega) (by omega)),congrArg (Value.int .i64) (by omega)⟩),(kd2 fun _ _ _ h _ X0 _ X1=>cR6Corner (k:=i+1) X0 X1 (VSv_later hS h.k.below)),ks,ks,(kr2 72 73 fun _ _ _ _ _ x0 X0 _ x1 X1=>index_Sv rfl x0 X0 hS x1 X1 hgk),(kr1 74 fun _ _ _ h _ x0 X0=>load_EpC (w:=w) (k:=8) (A:=Vv N (cv vs k).1 (cv vs k).2) (Stab_Vv _ _ _) rfl x0 X0 h.k.below Tryz.underlying32 rfl size_Vec),ks,ks,(kr1 77 fun _ _ _ _ v0 x0 X0=>⟨_,run_addi rfl (x0.trans (show v0= .int .i64 ((k:Nat):Int)from X0)) rfl (wrap_id (by omega) (by omega)),congrArg (Value.int .i64) (by omega)⟩),(kd2 fun _ _ _ h _ X0 _ X1=>cR6Corner (k:=k+1) X0 X1 (VSv_later hS h.k.below)),(by refine kc fun _ ac Y h D=>?_;obtain⟨v0,x0,X0⟩:=h.dp D 67;obtain⟨v1,x1,X1⟩:=h.dp D 71;obtain⟨v2,x2,X2⟩:=h.dp D 75;obtain⟨v3,x3,X3⟩:=h.dp D 79;exact⟨#[v0,v1,v2,v3],by simp [x0,x1,x2,x3],cR6MeetsV X0 X1 X2 X3 (by omega) (by omega) hmt⟩),ks,trivial⟩ ?_;intro a9 w9 st9;clear st8;refine Wn ?_
         refine cT st9 ?_;refine Wn ?_
         refine rH [] [Vb (false)] [] [(0,VEq (lv)),(3,Vi (((i:Nat):Int))),(4,Vi (((k:Nat):Int))),(42,Vb (true)),(81,Vb (true)),(2,Vb (false))] st9 ⟨ks,trivial⟩ fun a10 w10 st10=>Wn ?_;clear st9
         exact wp_ret (rS 2 (Vb (false)) st10 fun vr r4=>(by rw [validR_f hlt (fun h=>by have:=h.2 k (List.mem_range.2 hlk);unfold badR at this;rw [dT hg1,dT hg2,hmt] at this;cases this)];exact r4))
        ·
         rw [Bool.not_eq_true] at hmt;refine Wn ?_
         refine rH [] [Vi (((gp vs i k:Nat):Int)),Vb (true),Vb (true),Vi (((gp vs i k:Nat):Int)),VEq (lv),Vi ((vs.length:Int)),Vi (((vs.length:Int)) - (1)),Vb (true),Vb (true),Vb (true),VEq (lv),Vi (((i:Nat):Int)),VAt w (VEp 32 8 (Vv N (cv vs i).1 (cv vs i).2)),Vv N ((cv vs i).1) ((cv vs i).2),VEq (lv),Vi (((i:Nat):Int)),Vi (((i+1:Nat):Int)),Vv N ((cv vs (i+1)).1) ((cv vs (i+1)).2),VEq (lv),Vi (((k:Nat):Int)),VAt w (VEp 32 8 (Vv N (cv vs k).1 (cv vs k).2)),Vv N ((cv vs k).1) ((cv vs k).2),VEq (lv),Vi (((k:Nat):Int)),Vi (((k+1:Nat):Int)),Vv N ((cv vs (k+1)).1) ((cv vs (k+1)).2),Vb (false),Vb (false)] [] [(0,VEq (lv)),(3,Vi (((i:Nat):Int))),(4,Vi (((k:Nat):Int))),(42,Vb (true)),(81,Vb (false))] st8 ⟨ks,(kr1 54 fun _ _ _ _ _ x0 X0=>⟨_,run_gtri rfl (x0.trans X0) rfl,congrArg Value.bool (dT (by omega))⟩),ks,ks,ks,(kr1 58 fun _ _ _ _ _ x0 X0=>len_Sv rfl rfl x0 X0 hS),(kr1 59 fun _ _ _ _ _ x0 X0=>⟨_,run_subi rfl (x0.trans X0) rfl (wrap_id (by omega) (by omega)),rfl⟩),(kr2 57 60 fun _ _ _ _ _ x0 X0 _ x1 X1=>⟨_,run_lssi rfl (x0.trans X0) (x1.trans X1),congrArg Value.bool (dT (by omega))⟩),ks,ks,ks,ks,(kr2 64 65 fun _ _ _ _ _ x0 X0 _ x1 X1=>index_Sv rfl x0 X0 hS x1 X1 hgi),(kr1 66 fun _ _ _ h _ x0 X0=>load_EpC (w:=w) (k:=8) (A:=Vv N (cv vs i).1 (cv vs i).2) (Stab_Vv _ _ _) rfl x0 X0 h.k.below Tryz.underlying32 rfl size_Vec),ks,ks,(kr1 69 fun _ _ _ _ v0 x0 X0=>⟨_,run_addi rfl (x0.trans (show v0= .int .i64 ((i:Nat):Int)from X0)) rfl (wrap_id (by omega) (by omega)),congrArg (Value.int .i64) (by omega)⟩),(kd2 fun _ _ _ h _ X0 _ X1=>cR6Corner (k:=i+1) X0 X1 (VSv_later hS h.k.below)),ks,ks,(kr2 72 73 fun _ _ _ _ _ x0 X0 _ x1 X1=>index_Sv rfl x0 X0 hS x1 X1 hgk),(kr1 74 fun _ _ _ h _ x0 X0=>load_EpC (w:=w) (k:=8) (A:=Vv N (cv vs k).1 (cv vs k).2) (Stab_Vv _ _ _) rfl x0 X0 h.k.below Tryz.underlying32 rfl size_Vec),ks,ks,(kr1 77 fun _ _ _ _ v0 x0 X0=>⟨_,run_addi rfl (x0.trans (show v0= .int .i64 ((k:Nat):Int)from X0)) rfl (wrap_id (by omega) (by omega)),congrArg (Value.int .i64) (by omega)⟩),(kd2 fun _ _ _ h _ X0 _ X1=>cR6Corner (k:=k+1) X0 X1 (VSv_later hS h.k.below)),(by refine kc fun _ ac Y h D=>?_;obtain⟨v0,x0,X0⟩:=h.dp D 67;obtain⟨v1,x1,X1⟩:=h.dp D 71;obtain⟨v2,x2,X2⟩:=h.dp D 75;obtain⟨v3,x3,X3⟩:=h.dp D 79;exact⟨#[v0,v1,v2,v3],by simp [x0,x1,x2,x3],cR6MeetsV X0 X1 X2 X3 (by omega) (by omega) hmt⟩),ks,trivial⟩ ?_;intro a9 w9 st9;clear st8;refine Wn ?_
         refine cF st9 ?_;have hbd:badR vs i k=false:=by unfold badR;rw [hmt];simp
         refine Wn ?_
         refine rH [] [Vi (((k:Nat):Int)),Vi (((k+1:Nat):Int)),Vi (((k+1:Nat):Int))] [] [(0,VEq (lv)),(3,Vi (((i:Nat):Int))),(42,Vb (true)),(81,Vb (false)),(4,Vi (((k+1:Nat):Int)))] st9 ⟨?s0,(kr1 43 fun _ _ _ _ v0 x0 X0=>⟨_,run_addi rfl (x0.trans (show v0= .int .i64 ((k:Nat):Int)from X0)) rfl (wrap_id (by omega) (by omega)),congrArg (Value.int .i64) (by omega)⟩),ks,trivial⟩ ?_
         case s0=>
          refine k_run0 SbB.out (by kernel_rfl) fun listed ac Y h D hnl=>⟨trivial,?_⟩
          obtain⟨v0,x0,X0⟩:=h.out0 hnl (4,Vi (((k:Nat):Int))) (.tail _ (.tail _ (.head _))) 2 (by kernel_rfl) (.inr (by kernel_rfl));exact⟨_,run_move rfl,by rw [x0];exact X0⟩
         intro a10 w10 st10;clear st9;replace st10:St w.heap.size w 86 [] [(0,VEq (lv)),(3,Vi (((i:Nat):Int))),(42,Vb (true)),(81,Vb (false)),(4,Vi (((k+1:Nat):Int)))] a10 w10:=st10;exact⟨m2 - 1,by omega,k+1,by omega,fun k2 hk2=>(by rcases Nat.lt_or_ge k2 k with h|h;exact hpre2 k2 h;rw [show k2=k by omega];exact hbd),st10.cut⟩
       ·
        refine Wn ?_
        refine rH [] [Vi (((gp vs i k:Nat):Int)),Vb (true),Vb (true),Vi (((gp vs i k:Nat):Int)),VEq (lv),Vi ((vs.length:Int)),Vi (((vs.length:Int)) - (1)),Vb (false),Vb (false),Vb (false),VT,VT,VT,VT,VT,VT,VT,VT,VT,VT,VT,VT,VT,VT,VT,VT,VT,Vb (false)] [] [(0,VEq (lv)),(3,Vi (((i:Nat):Int))),(4,Vi (((k:Nat):Int))),(42,Vb (true)),(81,Vb (false))] st8 ⟨ks,(kr1 54 fun _ _ _ _ _ x0 X0=>⟨_,run_gtri rfl (x0.trans X0) rfl,congrArg Value.bool (dT (by omega))⟩),ks,ks,ks,(kr1 58 fun _ _ _ _ _ x0 X0=>len_Sv rfl rfl x0 X0 hS),(kr1 59 fun _ _ _ _ _ x0 X0=>⟨_,run_subi rfl (x0.trans X0) rfl (wrap_id (by omega) (by omega)),rfl⟩),(kr2 57 60 fun _ _ _ _ _ x0 X0 _ x1 X1=>⟨_,run_lssi rfl (x0.trans X0) (x1.trans X1),congrArg Value.bool (dF (by omega))⟩),ks,ks,ks,ks,?s12,?s13,ks,ks,?s16,ks,ks,ks,?s20,?s21,ks,ks,?s24,ks,ks,ks,trivial⟩ ?_
        case s12=>
         refine k_skip SbB.out (by kernel_rfl) fun listed ac Y h D=>⟨?_,trivial⟩
         obtain⟨u,hu,hy,hU⟩:=h.dep D 9 63 (by kernel_rfl) (by kernel_rfl);obtain rfl:u= .bool false:=hU;exact⟨9,true,false,rfl,hy,by decide⟩
        case s13=>
         refine k_skip SbB.out (by kernel_rfl) fun listed ac Y h D=>⟨?_,trivial⟩
         obtain⟨u,hu,hy,hU⟩:=h.dep D 9 63 (by kernel_rfl) (by kernel_rfl);obtain rfl:u= .bool false:=hU;exact⟨9,true,false,rfl,hy,by decide⟩
        case s16=>
         refine k_skip SbB.out (by kernel_rfl) fun listed ac Y h D=>⟨?_,trivial⟩
         obtain⟨u,hu,hy,hU⟩:=h.dep D 9 63 (by kernel_rfl) (by kernel_rfl);obtain rfl:u= .bool false:=hU;exact⟨9,true,false,rfl,hy,by decide⟩
        case s20=>
         refine k_skip SbB.out (by kernel_rfl) fun listed ac Y h D=>⟨?_,trivial⟩
         obtain⟨u,hu,hy,hU⟩:=h.dep D 9 63 (by kernel_rfl) (by kernel_rfl);obtain rfl:u= .bool false:=hU;exact⟨9,true,false,rfl,hy,by decide⟩
        case s21=>
         refine k_skip SbB.out (by kernel_rfl) fun listed ac Y h D=>⟨?_,trivial⟩
         obtain⟨u,hu,hy,hU⟩:=h.dep D 9 63 (by kernel_rfl) (by kernel_rfl);obtain rfl:u= .bool false:=hU;exact⟨9,true,false,rfl,hy,by decide⟩
        case s24=>
         refine k_skip SbB.out (by kernel_rfl) fun listed ac Y h D=>⟨?_,trivial⟩
         obtain⟨u,hu,hy,hU⟩:=h.dep D 9 63 (by kernel_rfl) (by kernel_rfl);obtain rfl:u= .bool false:=hU;exact⟨9,true,false,rfl,hy,by decide⟩
        intro a9 w9 st9;clear st8;refine Wn ?_
        refine cF st9 ?_;have hbd:badR vs i k=false:=by unfold badR;rw [dF hg2];simp
        refine Wn ?_
        refine rH [] [Vi (((k:Nat):Int)),Vi (((k+1:Nat):Int)),Vi (((k+1:Nat):Int))] [] [(0,VEq (lv)),(3,Vi (((i:Nat):Int))),(42,Vb (true)),(81,Vb (false)),(4,Vi (((k+1:Nat):Int)))] st9 ⟨?s0,(kr1 43 fun _ _ _ _ v0 x0 X0=>⟨_,run_addi rfl (x0.trans (show v0= .int .i64 ((k:Nat):Int)from X0)) rfl (wrap_id (by omega) (by omega)),congrArg (Value.int .i64) (by omega)⟩),ks,trivial⟩ ?_
        case s0=>
         refine k_run0 SbB.out (by kernel_rfl) fun listed ac Y h D hnl=>⟨trivial,?_⟩
         obtain⟨v0,x0,X0⟩:=h.out0 hnl (4,Vi (((k:Nat):Int))) (.tail _ (.tail _ (.head _))) 2 (by kernel_rfl) (.inr (by kernel_rfl));exact⟨_,run_move rfl,by rw [x0];exact X0⟩
        intro a10 w10 st10;clear st9;replace st10:St w.heap.size w 86 [] [(0,VEq (lv)),(3,Vi (((i:Nat):Int))),(42,Vb (true)),(81,Vb (false)),(4,Vi (((k+1:Nat):Int)))] a10 w10:=st10;exact⟨m2 - 1,by omega,k+1,by omega,fun k2 hk2=>(by rcases Nat.lt_or_ge k2 k with h|h;exact hpre2 k2 h;rw [show k2=k by omega];exact hbd),st10.cut⟩
      ·
       refine Wn ?_
       refine rH [] [Vi (((gp vs i k:Nat):Int)),Vb (false),Vb (false),VT,VT,VT,VT,VT,Vb (false),Vb (false),VT,VT,VT,VT,VT,VT,VT,VT,VT,VT,VT,VT,VT,VT,VT,VT,VT,Vb (false)] [] [(0,VEq (lv)),(3,Vi (((i:Nat):Int))),(4,Vi (((k:Nat):Int))),(42,Vb (true)),(81,Vb (false))] st8 ⟨ks,(kr1 54 fun _ _ _ _ _ x0 X0=>⟨_,run_gtri rfl (x0.trans X0) rfl,congrArg Value.bool (dF (by omega))⟩),ks,ks,ks,?s5,ks,ks,ks,ks,ks,ks,?s12,?s13,ks,ks,?s16,ks,ks,ks,?s20,?s21,ks,ks,?s24,ks,ks,ks,trivial⟩ ?_
       case s5=>
        refine k_skip SbB.out (by kernel_rfl) fun listed ac Y h D=>⟨?_,trivial⟩
        obtain⟨u,hu,hy,hU⟩:=h.dep D 2 56 (by kernel_rfl) (by kernel_rfl);obtain rfl:u= .bool false:=hU;exact⟨2,true,false,rfl,hy,by decide⟩
       case s12=>
        refine k_skip SbB.out (by kernel_rfl) fun listed ac Y h D=>⟨?_,trivial⟩
        obtain⟨u,hu,hy,hU⟩:=h.dep D 9 63 (by kernel_rfl) (by kernel_rfl);obtain rfl:u= .bool false:=hU;exact⟨9,true,false,rfl,hy,by decide⟩
       case s13=>
        refine k_skip SbB.out (by kernel_rfl) fun listed ac Y h D=>⟨?_,trivial⟩
        obtain⟨u,hu,hy,hU⟩:=h.dep D 9 63 (by kernel_rfl) (by kernel_rfl);obtain rfl:u= .bool false:=hU;exact⟨9,true,false,rfl,hy,by decide⟩
       case s16=>
        refine k_skip SbB.out (by kernel_rfl) fun listed ac Y h D=>⟨?_,trivial⟩
        obtain⟨u,hu,hy,hU⟩:=h.dep D 9 63 (by kernel_rfl) (by kernel_rfl);obtain rfl:u= .bool false:=hU;exact⟨9,true,false,rfl,hy,by decide⟩
       case s20=>
        refine k_skip SbB.out (by kernel_rfl) fun listed ac Y h D=>⟨?_,trivial⟩
        obtain⟨u,hu,hy,hU⟩:=h.dep D 9 63 (by kernel_rfl) (by kernel_rfl);obtain rfl:u= .bool false:=hU;exact⟨9,true,false,rfl,hy,by decide⟩
       case s21=>
        refine k_skip SbB.out (by kernel_rfl) fun listed ac Y h D=>⟨?_,trivial⟩
        obtain⟨u,hu,hy,hU⟩:=h.dep D 9 63 (by kernel_rfl) (by kernel_rfl);obtain rfl:u= .bool false:=hU;exact⟨9,true,false,rfl,hy,by decide⟩
       case s24=>
        refine k_skip SbB.out (by kernel_rfl) fun listed ac Y h D=>⟨?_,trivial⟩
        obtain⟨u,hu,hy,hU⟩:=h.dep D 9 63 (by kernel_rfl) (by kernel_rfl);obtain rfl:u= .bool false:=hU;exact⟨9,true,false,rfl,hy,by decide⟩
       intro a9 w9 st9;clear st8;refine Wn ?_
       refine cF st9 ?_;have hbd:badR vs i k=false:=by unfold badR;rw [dF hg1];simp
       refine Wn ?_
       refine rH [] [Vi (((k:Nat):Int)),Vi (((k+1:Nat):Int)),Vi (((k+1:Nat):Int))] [] [(0,VEq (lv)),(3,Vi (((i:Nat):Int))),(42,Vb (true)),(81,Vb (false)),(4,Vi (((k+1:Nat):Int)))] st9 ⟨?s0,(kr1 43 fun _ _ _ _ v0 x0 X0=>⟨_,run_addi rfl (x0.trans (show v0= .int .i64 ((k:Nat):Int)from X0)) rfl (wrap_id (by omega) (by omega)),congrArg (Value.int .i64) (by omega)⟩),ks,trivial⟩ ?_
       case s0=>
        refine k_run0 SbB.out (by kernel_rfl) fun listed ac Y h D hnl=>⟨trivial,?_⟩
        obtain⟨v0,x0,X0⟩:=h.out0 hnl (4,Vi (((k:Nat):Int))) (.tail _ (.tail _ (.head _))) 2 (by kernel_rfl) (.inr (by kernel_rfl));exact⟨_,run_move rfl,by rw [x0];exact X0⟩
       intro a10 w10 st10;clear st9;replace st10:St w.heap.size w 86 [] [(0,VEq (lv)),(3,Vi (((i:Nat):Int))),(42,Vb (true)),(81,Vb (false)),(4,Vi (((k+1:Nat):Int)))] a10 w10:=st10;exact⟨m2 - 1,by omega,k+1,by omega,fun k2 hk2=>(by rcases Nat.lt_or_ge k2 k with h|h;exact hpre2 k2 h;rw [show k2=k by omega];exact hbd),st10.cut⟩
     ·
      refine Wn ?_
      refine rH [] [Vi (((k:Nat):Int)),VEq (lv),Vi ((vs.length:Int)),Vb (false)] [] [(0,VEq (lv)),(3,Vi (((i:Nat):Int))),(4,Vi (((k:Nat):Int))),(42,Vb (false))] st6 ⟨ks,ks,(kr1 40 fun _ _ _ _ _ x0 X0=>len_Sv rfl rfl x0 X0 hS),(kr2 39 41 fun _ _ _ _ _ x0 X0 _ x1 X1=>⟨_,run_lssi rfl (x0.trans X0) (x1.trans X1),congrArg Value.bool (dF (by omega))⟩),trivial⟩ fun a7 w7 st7=>Wn ?_;clear st6
      refine cF st7 ?_;refine Wn ?_
      refine rH [] [Vi (((i:Nat):Int)),Vi (((i+1:Nat):Int)),Vi (((i+1:Nat):Int))] [] [(0,VEq (lv)),(4,Vi (((k:Nat):Int))),(42,Vb (false)),(3,Vi (((i+1:Nat):Int)))] st7 ⟨?s0,(kr1 23 fun _ _ _ _ v0 x0 X0=>⟨_,run_addi rfl (x0.trans (show v0= .int .i64 ((i:Nat):Int)from X0)) rfl (wrap_id (by omega) (by omega)),congrArg (Value.int .i64) (by omega)⟩),ks,trivial⟩ ?_
      case s0=>
       refine k_run0 SbB.out (by kernel_rfl) fun listed ac Y h D hnl=>⟨trivial,?_⟩
       obtain⟨v0,x0,X0⟩:=h.out0 hnl (3,Vi (((i:Nat):Int))) (.tail _ (.head _)) 2 (by kernel_rfl) (.inr (by kernel_rfl));exact⟨_,run_move rfl,by rw [x0];exact X0⟩
      intro a8 w8 st8;clear st7;replace st8:St w.heap.size w 86 [] [(0,VEq (lv)),(4,Vi (((k:Nat):Int))),(42,Vb (false)),(3,Vi (((i+1:Nat):Int)))] a8 w8:=st8;exact⟨m - 1,by omega,i+1,by omega,fun i2 hi2=>(by rcases Nat.lt_or_ge i2 i with h|h;exact hpre i2 h;rw [show i2=i by omega];exact⟨htn,fun k2 hk2=>hpre2 k2 (by have:=List.mem_range.1 hk2;omega)⟩),st8.cut⟩
   ·
    refine Wn ?_
    refine rH [] [Vi (((i:Nat):Int)),VEq (lv),Vi ((vs.length:Int)),Vb (false)] [] [(0,VEq (lv)),(3,Vi (((i:Nat):Int))),(22,Vb (false))] st3 ⟨ks,ks,(kr1 20 fun _ _ _ _ _ x0 X0=>len_Sv rfl rfl x0 X0 hS),(kr2 19 21 fun _ _ _ _ _ x0 X0 _ x1 X1=>⟨_,run_lssi rfl (x0.trans X0) (x1.trans X1),congrArg Value.bool (dF (by omega))⟩),trivial⟩ fun a4 w4 st4=>Wn ?_;clear st3
    refine cF st4 ?_;have hok:decide (∀i∈List.range vs.length,okR vs i)=true:=dT fun i2 hi2=>hpre i2 (by have:=List.mem_range.1 hi2;omega)
    by_cases har:0<(areaR vs).num
    ·
     refine Wn ?_
     refine rH [] [VEq (lv),Vq (6+vs.length*(4*N+3)) (areaR vs),Vi (cmpI (areaR vs).num 0),Vb (true),Vb (true)] [] [(0,VEq (lv)),(3,Vi (((i:Nat):Int))),(22,Vb (false)),(2,Vb (true))] st4 ⟨ks,(kd1 fun _ _ _ h _ X0=>cR6Area X0 (VSv_later hS h.k.below) (by omega) hbd6),(kd1 fun _ _ _ _ _ X0=>cR4Sign X0),(kr1 84 fun _ _ _ _ _ x0 X0=>⟨_,run_gtri rfl (x0.trans X0) rfl,congrArg Value.bool (dT ((cmpI_gt _).2 har))⟩),ks,trivial⟩ fun a5 w5 st5=>Wn ?_;clear st4
     exact wp_ret (rS 2 (Vb (true)) st5 fun vr r4=>(by rw [show validR vs=true by unfold validR;rw [h3,h12,hok,dT har];rfl];exact r4))
    ·
     refine Wn ?_
     refine rH [] [VEq (lv),Vq (6+vs.length*(4*N+3)) (areaR vs),Vi (cmpI (areaR vs).num 0),Vb (false),Vb (false)] [] [(0,VEq (lv)),(3,Vi (((i:Nat):Int))),(22,Vb (false)),(2,Vb (false))] st4 ⟨ks,(kd1 fun _ _ _ h _ X0=>cR6Area X0 (VSv_later hS h.k.below) (by omega) hbd6),(kd1 fun _ _ _ _ _ X0=>cR4Sign X0),(kr1 84 fun _ _ _ h _ x0 X0=>⟨_,run_gtri rfl (x0.trans X0) rfl,congrArg Value.bool (dF (fun h=>har ((cmpI_gt _).1 h)))⟩),ks,trivial⟩ fun a5 w5 st5=>Wn ?_;clear st4
     exact wp_ret (rS 2 (Vb (false)) st5 fun vr r4=>(by rw [show validR vs=false by unfold validR;rw [dF har];simp];exact r4))
theorem validR_len {vs:List P2}(h:validR vs=true):3<=vs.length/\vs.length<=12:=by
 unfold validR at h;simp only [Bool.and_eq_true,decide_eq_true_eq] at h;exact⟨h.1,h.2.1⟩
theorem cR6ValidV {w:World}{N:Nat}{vs:List P2}{lv v0:Value}{x:Bool}(h0:VEq lv v0 w)(hS:VSv N vs lv w)(hN1:3<=N)(hN2:N<=17)(hx:validR vs=x):Calls Tryz.prog 35 #[v0] w (RV (Vb x) w):=by
 subst hx;exact cR6Valid h0 hS hN1 hN2
end Go.Proofs.YteacdbgalloaiaaGreat
