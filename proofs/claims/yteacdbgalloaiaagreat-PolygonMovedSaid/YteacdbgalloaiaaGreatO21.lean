/- Contracts of the packages integer, rat, plane, polygon and their references. -/
import Derived.Test.YteacdbgalloaiaaGreatO20
set_option linter.unusedVariables false
set_option maxRecDepth 100000
set_option maxHeartbeats 6400000
namespace Go.Proofs.YteacdbgalloaiaaGreat
open Go.RowKit
open Go
theorem same_f {vs ws:List P2}{j:Nat}(hl:vs.length=ws.length)(hj:j<vs.length)(h:¬((cv vs j).1=(cv ws j).1/\(cv vs j).2=(cv ws j).2)):decide (vs=ws)=false:=dF fun e=>by
 subst e;exact h ⟨rfl,rfl⟩
theorem same_t {vs ws:List P2}(hl:vs.length=ws.length)(h:∀i<vs.length,(cv vs i).1=(cv ws i).1/\(cv vs i).2=(cv ws i).2):decide (vs=ws)=true:=dT (by
 refine List.ext_getElem hl fun i h1 h2=>?_
 have e:=h i h1;have a1:vs[i]? =some (cv vs i):=by have:=cv_get (vs:=vs) i (by omega);rwa [Nat.mod_eq_of_lt h1] at this
 have a2:ws[i]? =some (cv ws i):=by have:=cv_get (vs:=ws) i (by omega);rwa [Nat.mod_eq_of_lt h2] at this
 rw [List.getElem?_eq_getElem h1] at a1;rw [List.getElem?_eq_getElem h2] at a2;rw [Option.some.inj a1,Option.some.inj a2]
 exact Prod.ext e.1 e.2)
theorem cR4SameV {w:World}{N:Nat}{a b:Rat}{v0 v1:Value}{x:Bool}(h0:Vq N a v0 w)(h1:Vq N b v1 w)(hN:N<=900)(hx:decide (a=b)=x):Calls Tryz.prog 19 #[v0,v1] w (RV (Vb x) w):=by
 subst hx;exact cR4Same h0 h1
theorem cR6Same {w:World}{N:Nat}{vs ws:List P2}{lv lw:Value}{v0 v1:Value}(h0:VEq lv v0 w)(h1:VEq lw v1 w)(hS:VSv N vs lv w)(hT:VSv N ws lw w)(hN3:3<=N:=by omega)(hN:N<=900:=by omega):Calls Tryz.prog 25 #[v0,v1] w (RV (Vb (decide (vs=ws))) w):=by
 go_enter Tryz.func25,Tryz.ntmps25
 generalize hA:(⟨_,_⟩:Act)=a0;have st0:St w.heap.size w 43 [] [(0,VEq lv),(1,VEq lw)] a0 w:=by subst hA;exact St.begin rfl rfl (Lq.2 ⟨⟨_,rfl,h0⟩,(Lq.2 ⟨⟨_,rfl,h1⟩,L0⟩)⟩)
 clear hA;have hmax:=VSv_max hS;refine Wn ?_
 refine rH [] [Vb false] [] [(0,VEq lv),(1,VEq lw),(4,Vb false)] st0 ⟨ks,trivial⟩ ?_;intro a1 w1 st1;by_cases hne:vs.length=ws.length
 ·
  have hl:vs.length=ws.length:=by omega
  refine Wn ?_
  refine rH [] [VEq lv,Vi (vs.length:Int),VEq lw,Vi (ws.length:Int),Vb false] [] [(0,VEq lv),(1,VEq lw),(4,Vb false),(10,Vb false)] st1 ⟨ks,(kr1 6 fun _ _ _ _ _ x0 X0=>len_Sv rfl rfl x0 X0 hS),ks,(kr1 8 fun _ _ _ _ _ x0 X0=>len_Sv rfl rfl x0 X0 hT),(kr2 7 9 fun _ _ _ _ _ x0 X0 _ x1 X1=>⟨_,run_neqi rfl (x0.trans X0) (x1.trans X1),congrArg Value.bool (bne_eq_false_iff_eq.2 (by omega))⟩),trivial⟩ fun a2 w2 st2=>Wn ?_
  refine cF st2 ?_;refine Wn ?_
  refine rH [] [Vi 0] [] [(0,VEq lv),(1,VEq lw),(4,Vb false),(10,Vb false),(5,Vi 0)] st2 ⟨ks,trivial⟩ ?_;intro a3 w3 st3;replace st3:St w.heap.size w 43 [] [(0,VEq lv),(1,VEq lw),(5,Vi ((0:Nat):Int))] a3 w3:=st3.cut;refine Wn ?_
  refine wp_loop_ghost (fun m aX wX=>∃j:Nat,j+m=vs.length/\(∀i<j,(cv vs i).1=(cv ws i).1/\(cv vs i).2=(cv ws i).2)/\St w.heap.size w 43 [] [(0,VEq lv),(1,VEq lw),(5,Vi j)] aX wX) vs.length ⟨0,by omega,fun i hi=>absurd hi (by omega),st3⟩ ?_;intro m aL wL ⟨j,hj,hpre,st3⟩;by_cases hlt:j<vs.length
  ·
   refine Wn ?_
   refine rH [] [Vi j,VEq lv,Vi (vs.length:Int),Vb true] [] [(0,VEq lv),(1,VEq lw),(5,Vi j),(14,Vb true)] st3 ⟨ks,ks,(kr1 12 fun _ _ _ _ _ x0 X0=>len_Sv rfl rfl x0 X0 hS),(kr2 11 13 fun _ _ _ _ _ x0 X0 _ x1 X1=>⟨_,run_lssi rfl (x0.trans X0) (x1.trans X1),congrArg Value.bool (dT (by omega))⟩),trivial⟩ fun a4 w4 st4=>Wn ?_
   refine cT st4 ?_;have hgd:vs[j]? =some (cv vs j):=by have:=cv_get (vs:=vs) j (by omega);rwa [Nat.mod_eq_of_lt hlt] at this
   have hgt:ws[j]? =some (cv ws j):=by have:=cv_get (vs:=ws) j (by omega);rwa [Nat.mod_eq_of_lt (by omega)] at this
   by_cases h1x:(cv vs j).1=(cv ws j).1
   ·
    by_cases h2x:(cv vs j).2=(cv ws j).2
    ·
     refine Wn ?_
     refine rH [] [VEq lv,Vi j,VAt w (VEp 32 8 (Vv N (cv vs j).1 (cv vs j).2)),VAt w (VEp 32 4 (Vq N ((cv vs j).1))),Vq N ((cv vs j).1),VEq lw,Vi j,VAt w (VEp 32 8 (Vv N (cv ws j).1 (cv ws j).2)),VAt w (VEp 32 4 (Vq N ((cv ws j).1))),Vq N ((cv ws j).1),Vb true,Vb false,Vb false,VEq lv,Vi j,VAt w (VEp 32 8 (Vv N (cv vs j).1 (cv vs j).2)),VAt w (VEp 32 4 (Vq N ((cv vs j).2))),Vq N ((cv vs j).2),VEq lw,Vi j,VAt w (VEp 32 8 (Vv N (cv ws j).1 (cv ws j).2)),VAt w (VEp 32 4 (Vq N ((cv ws j).2))),Vq N ((cv ws j).2),Vb true,Vb false,Vb false] [] [(0,VEq lv),(1,VEq lw),(5,Vi j),(14,Vb true),(42,Vb false)] st4 ⟨ks,ks,(kr2 17 18 fun _ _ _ _ _ x0 X0 _ x1 X1=>index_Sv rfl x0 X0 hS x1 X1 hgd),(kr1 19 fun _ _ _ _ _ x0 X0=>field_Ep0 rfl x0 X0),(kr1 20 fun _ _ _ h _ x0 X0=>load_EpF rfl x0 X0 h.k.below),ks,ks,(kr2 22 23 fun _ _ _ _ _ x0 X0 _ x1 X1=>index_Sv rfl x0 X0 hT x1 X1 hgt),(kr1 24 fun _ _ _ _ _ x0 X0=>field_Ep0 rfl x0 X0),(kr1 25 fun _ _ _ h _ x0 X0=>load_EpF rfl x0 X0 h.k.below),(kd2 fun _ _ _ _ _ X0 _ X1=>cR4SameV X0 X1 (by omega) (dT h1x)),ks,ks,ks,ks,(kr2 30 31 fun _ _ _ _ _ x0 X0 _ x1 X1=>index_Sv rfl x0 X0 hS x1 X1 hgd),(kr1 32 fun _ _ _ _ _ x0 X0=>field_Ep1 rfl x0 X0),(kr1 33 fun _ _ _ h _ x0 X0=>load_EpF rfl x0 X0 h.k.below),ks,ks,(kr2 35 36 fun _ _ _ _ _ x0 X0 _ x1 X1=>index_Sv rfl x0 X0 hT x1 X1 hgt),(kr1 37 fun _ _ _ _ _ x0 X0=>field_Ep1 rfl x0 X0),(kr1 38 fun _ _ _ h _ x0 X0=>load_EpF rfl x0 X0 h.k.below),(kd2 fun _ _ _ _ _ X0 _ X1=>cR4SameV X0 X1 (by omega) (dT h2x)),ks,ks,trivial⟩ fun a5 w5 st5=>Wn ?_
     refine cF st5 ?_;refine Wn ?_
     refine rH [] [Vi j,Vi ((j+1:Nat):Int),Vi ((j+1:Nat):Int)] [] [(0,VEq lv),(1,VEq lw),(14,Vb true),(42,Vb false),(5,Vi ((j+1:Nat):Int))] st5 ⟨?s0,(kr1 15 fun _ _ _ _ v0 x0 X0=>⟨_,run_addi rfl (x0.trans (show v0= .int .i64 j from X0)) rfl wO,congrArg (Value.int .i64) (by omega)⟩),ks,trivial⟩ ?_
     case s0=>
      refine k_run0 SbB.out (by kernel_rfl) fun listed A Y h D hnl=>⟨trivial,?_⟩
      obtain⟨v0,x0,X0⟩:=h.out0 hnl (5,Vi j) (.tail _ (.tail _ (.head _))) 2 (by kernel_rfl) (.inr (by kernel_rfl));exact⟨_,run_move rfl,by rw [x0];exact X0⟩
     intro a6 w6 st6;replace st6:St w.heap.size w 43 [] [(0,VEq lv),(1,VEq lw),(14,Vb true),(42,Vb false),(5,Vi ((j+1:Nat):Int))] a6 w6:=st6;exact⟨m - 1,by omega,j+1,by omega,fun i hi=>(by rcases Nat.lt_or_ge i j with h|h;exact hpre i h;rw [show i=j by omega];exact⟨h1x,h2x⟩),st6.cut⟩
    ·
     refine Wn ?_
     refine rH [] [VEq lv,Vi j,VAt w (VEp 32 8 (Vv N (cv vs j).1 (cv vs j).2)),VAt w (VEp 32 4 (Vq N ((cv vs j).1))),Vq N ((cv vs j).1),VEq lw,Vi j,VAt w (VEp 32 8 (Vv N (cv ws j).1 (cv ws j).2)),VAt w (VEp 32 4 (Vq N ((cv ws j).1))),Vq N ((cv ws j).1),Vb true,Vb false,Vb false,VEq lv,Vi j,VAt w (VEp 32 8 (Vv N (cv vs j).1 (cv vs j).2)),VAt w (VEp 32 4 (Vq N ((cv vs j).2))),Vq N ((cv vs j).2),VEq lw,Vi j,VAt w (VEp 32 8 (Vv N (cv ws j).1 (cv ws j).2)),VAt w (VEp 32 4 (Vq N ((cv ws j).2))),Vq N ((cv ws j).2),Vb false,Vb true,Vb true] [] [(0,VEq lv),(1,VEq lw),(5,Vi j),(14,Vb true),(42,Vb true)] st4 ⟨ks,ks,(kr2 17 18 fun _ _ _ _ _ x0 X0 _ x1 X1=>index_Sv rfl x0 X0 hS x1 X1 hgd),(kr1 19 fun _ _ _ _ _ x0 X0=>field_Ep0 rfl x0 X0),(kr1 20 fun _ _ _ h _ x0 X0=>load_EpF rfl x0 X0 h.k.below),ks,ks,(kr2 22 23 fun _ _ _ _ _ x0 X0 _ x1 X1=>index_Sv rfl x0 X0 hT x1 X1 hgt),(kr1 24 fun _ _ _ _ _ x0 X0=>field_Ep0 rfl x0 X0),(kr1 25 fun _ _ _ h _ x0 X0=>load_EpF rfl x0 X0 h.k.below),(kd2 fun _ _ _ _ _ X0 _ X1=>cR4SameV X0 X1 (by omega) (dT h1x)),ks,ks,ks,ks,(kr2 30 31 fun _ _ _ _ _ x0 X0 _ x1 X1=>index_Sv rfl x0 X0 hS x1 X1 hgd),(kr1 32 fun _ _ _ _ _ x0 X0=>field_Ep1 rfl x0 X0),(kr1 33 fun _ _ _ h _ x0 X0=>load_EpF rfl x0 X0 h.k.below),ks,ks,(kr2 35 36 fun _ _ _ _ _ x0 X0 _ x1 X1=>index_Sv rfl x0 X0 hT x1 X1 hgt),(kr1 37 fun _ _ _ _ _ x0 X0=>field_Ep1 rfl x0 X0),(kr1 38 fun _ _ _ h _ x0 X0=>load_EpF rfl x0 X0 h.k.below),(kd2 fun _ _ _ _ _ X0 _ X1=>cR4SameV X0 X1 (by omega) (dF h2x)),ks,ks,trivial⟩ fun a5 w5 st5=>Wn ?_
     refine cT st5 ?_;refine Wn ?_
     refine rH [] [Vb false] [] [(0,VEq lv),(1,VEq lw),(5,Vi j),(14,Vb true),(42,Vb true),(4,Vb false)] st5 ⟨ks,trivial⟩ fun a6 w6 st6=>Wn ?_
     exact wp_ret (rS 4 (Vb false) st6 fun vr r4=>(by rw [same_f hl hlt (by rintro⟨h1,h2⟩;first|exact h1x h1|exact h2x h2)];exact r4))
   ·
    refine Wn ?_
    refine rH [] [VEq lv,Vi j,VAt w (VEp 32 8 (Vv N (cv vs j).1 (cv vs j).2)),VAt w (VEp 32 4 (Vq N ((cv vs j).1))),Vq N ((cv vs j).1),VEq lw,Vi j,VAt w (VEp 32 8 (Vv N (cv ws j).1 (cv ws j).2)),VAt w (VEp 32 4 (Vq N ((cv ws j).1))),Vq N ((cv ws j).1),Vb false,Vb true,Vb true,VT,VT,VT,VT,VT,VT,VT,VT,VT,VT,VT,VT,Vb true] [] [(0,VEq lv),(1,VEq lw),(5,Vi j),(14,Vb true),(42,Vb true)] st4 ⟨ks,ks,(kr2 17 18 fun _ _ _ _ _ x0 X0 _ x1 X1=>index_Sv rfl x0 X0 hS x1 X1 hgd),(kr1 19 fun _ _ _ _ _ x0 X0=>field_Ep0 rfl x0 X0),(kr1 20 fun _ _ _ h _ x0 X0=>load_EpF rfl x0 X0 h.k.below),ks,ks,(kr2 22 23 fun _ _ _ _ _ x0 X0 _ x1 X1=>index_Sv rfl x0 X0 hT x1 X1 hgt),(kr1 24 fun _ _ _ _ _ x0 X0=>field_Ep0 rfl x0 X0),(kr1 25 fun _ _ _ h _ x0 X0=>load_EpF rfl x0 X0 h.k.below),(kd2 fun _ _ _ _ _ X0 _ X1=>cR4SameV X0 X1 (by omega) (dF h1x)),ks,ks,ks,ks,?s15,?s16,?s17,ks,ks,?s20,?s21,?s22,ks,ks,ks,trivial⟩ ?_
    case s15=>
     refine k_skip SbB.out (by kernel_rfl) fun listed A Y h D=>⟨?_,trivial⟩
     obtain⟨u,hu,hy,hU⟩:=h.dep D 12 29 (by kernel_rfl) (by kernel_rfl);obtain rfl:u= .bool true:=hU;exact⟨12,false,true,rfl,hy,by decide⟩
    case s16=>
     refine k_skip SbB.out (by kernel_rfl) fun listed A Y h D=>⟨?_,trivial⟩
     obtain⟨u,hu,hy,hU⟩:=h.dep D 12 29 (by kernel_rfl) (by kernel_rfl);obtain rfl:u= .bool true:=hU;exact⟨12,false,true,rfl,hy,by decide⟩
    case s17=>
     refine k_skip SbB.out (by kernel_rfl) fun listed A Y h D=>⟨?_,trivial⟩
     obtain⟨u,hu,hy,hU⟩:=h.dep D 12 29 (by kernel_rfl) (by kernel_rfl);obtain rfl:u= .bool true:=hU;exact⟨12,false,true,rfl,hy,by decide⟩
    case s20=>
     refine k_skip SbB.out (by kernel_rfl) fun listed A Y h D=>⟨?_,trivial⟩
     obtain⟨u,hu,hy,hU⟩:=h.dep D 12 29 (by kernel_rfl) (by kernel_rfl);obtain rfl:u= .bool true:=hU;exact⟨12,false,true,rfl,hy,by decide⟩
    case s21=>
     refine k_skip SbB.out (by kernel_rfl) fun listed A Y h D=>⟨?_,trivial⟩
     obtain⟨u,hu,hy,hU⟩:=h.dep D 12 29 (by kernel_rfl) (by kernel_rfl);obtain rfl:u= .bool true:=hU;exact⟨12,false,true,rfl,hy,by decide⟩
    case s22=>
     refine k_skip SbB.out (by kernel_rfl) fun listed A Y h D=>⟨?_,trivial⟩
     obtain⟨u,hu,hy,hU⟩:=h.dep D 12 29 (by kernel_rfl) (by kernel_rfl);obtain rfl:u= .bool true:=hU;exact⟨12,false,true,rfl,hy,by decide⟩
    intro a5 w5 st5;refine Wn ?_
    refine cT st5 ?_;refine Wn ?_
    refine rH [] [Vb false] [] [(0,VEq lv),(1,VEq lw),(5,Vi j),(14,Vb true),(42,Vb true),(4,Vb false)] st5 ⟨ks,trivial⟩ fun a6 w6 st6=>Wn ?_
    exact wp_ret (rS 4 (Vb false) st6 fun vr r4=>(by rw [same_f hl hlt (by rintro⟨h1,h2⟩;first|exact h1x h1|exact h2x h2)];exact r4))
  ·
   refine Wn ?_
   refine rH [] [Vi j,VEq lv,Vi (vs.length:Int),Vb false] [] [(0,VEq lv),(1,VEq lw),(5,Vi j),(14,Vb false)] st3 ⟨ks,ks,(kr1 12 fun _ _ _ _ _ x0 X0=>len_Sv rfl rfl x0 X0 hS),(kr2 11 13 fun _ _ _ _ _ x0 X0 _ x1 X1=>⟨_,run_lssi rfl (x0.trans X0) (x1.trans X1),congrArg Value.bool (dF (by omega))⟩),trivial⟩ fun a4 w4 st4=>Wn ?_
   refine cF st4 ?_;refine Wn ?_
   refine rH [] [Vb true] [] [(0,VEq lv),(1,VEq lw),(5,Vi j),(14,Vb false),(4,Vb true)] st4 ⟨ks,trivial⟩ fun a5 w5 st5=>Wn ?_
   exact wp_ret (rS 4 (Vb true) st5 fun vr r4=>(by rw [same_t hl fun i hi=>hpre i (by omega)];exact r4))
 ·
  refine Wn ?_
  refine rH [] [VEq lv,Vi (vs.length:Int),VEq lw,Vi (ws.length:Int),Vb true] [] [(0,VEq lv),(1,VEq lw),(4,Vb false),(10,Vb true)] st1 ⟨ks,(kr1 6 fun _ _ _ _ _ x0 X0=>len_Sv rfl rfl x0 X0 hS),ks,(kr1 8 fun _ _ _ _ _ x0 X0=>len_Sv rfl rfl x0 X0 hT),(kr2 7 9 fun _ _ _ _ _ x0 X0 _ x1 X1=>⟨_,run_neqi rfl (x0.trans X0) (x1.trans X1),congrArg Value.bool (bne_iff_ne.2 (by omega))⟩),trivial⟩ fun a2 w2 st2=>Wn ?_
  refine cT st2 ?_;refine Wn ?_
  refine rH [] [Vb false] [] [(0,VEq lv),(1,VEq lw),(10,Vb true),(4,Vb false)] st2 ⟨ks,trivial⟩ fun a3 w3 st3=>Wn ?_
  exact wp_ret (rS 4 (Vb false) st3 fun vr r4=>(by rw [show decide (vs=ws)=false from dF (by rintro rfl;exact hne rfl)];exact r4))
def sdR (a b c:P2):Int:=cmpI ((b.1 - a.1)*(c.2 - a.2) - (b.2 - a.2)*(c.1 - a.1)).num 0
def tnR (vs:List P2)(k:Nat):Int:=sdR (cv vs k) (cv vs (k+1)) (cv vs (k+2))
def gp (vs:List P2)(i k:Nat):Nat:=(k+vs.length - i) % vs.length
def badR (vs:List P2)(i k:Nat):Bool:=decide (1<gp vs i k) && (decide (gp vs i k+1<vs.length) && meetsR (cv vs i) (cv vs (i+1)) (cv vs k) (cv vs (k+1)))
def okR (vs:List P2)(i:Nat):Prop:=¬tnR vs i=0/\∀k∈List.range vs.length,badR vs i k=false
instance (vs:List P2)(i:Nat):Decidable (okR vs i):=by unfold okR;infer_instance
def validR (vs:List P2):Bool:=decide (3<=vs.length) && (decide (vs.length<=12) && (decide (∀i∈List.range vs.length,okR vs i) && decide (0<(areaR vs).num)))
theorem validR_f {vs:List P2}{i:Nat}(hi:i<vs.length)(h:¬okR vs i):validR vs=false:=by
 unfold validR;rw [dF (p:=∀i∈List.range vs.length,okR vs i) (fun h2=>h (h2 i (List.mem_range.2 hi)))];simp
theorem cR6MeetsV {w:World}{N:Nat}{a b c d:P2}{v0 v1 v2 v3:Value}{x:Bool}(h0:Vv N a.1 a.2 v0 w)(h1:Vv N b.1 b.2 v1 w)(h2:Vv N c.1 c.2 v2 w)(h3:Vv N d.1 d.2 v3 w)(hN3:3<=N)(hN:N<=400)(hx:meetsR a b c d=x):Calls Tryz.prog 46 #[v0,v1,v2,v3] w (RV (Vb x) w):=by
 subst hx;exact cR6Meets h0 h1 h2 h3 hN3 hN
theorem cR6Valid {w:World}{N:Nat}{vs:List P2}{lv:Value}{v0:Value}(h0:VEq lv v0 w)(hS:VSv N vs lv w)(hN3:3<=N:=by omega)(hN:N<=17:=by omega):Calls Tryz.prog 35 #[v0] w (RV (Vb (validR vs)) w):=by
 go_enter Tryz.func35,Tryz.ntmps35
 generalize hA:(⟨_,_⟩:Act)=a0;have st0:St w.heap.size w 86 [] [(0,VEq lv)] a0 w:=by subst hA;exact St.begin rfl rfl (Lq.2 ⟨⟨_,rfl,h0⟩,L0⟩)
 clear hA;have hmax:=VSv_max hS;refine Wn ?_
 refine rH [] [Vb false] [] [(0,VEq lv),(2,Vb false)] st0 ⟨ks,trivial⟩ ?_;intro a1 w1 st1;by_cases hlt3:vs.length<3
 ·
  refine Wn ?_
  refine rH [] [VEq lv,Vi (vs.length:Int),Vb true,Vb true,VT,VT,VT,Vb true,Vb true,VT,VT,VT,Vb true] [] [(0,VEq lv),(2,Vb false),(18,Vb true)] st1 ⟨ks,(kr1 6 fun _ _ _ _ _ x0 X0=>len_Sv rfl rfl x0 X0 hS),(kr1 7 fun _ _ _ _ _ x0 X0=>⟨_,run_lssi rfl (x0.trans X0) rfl,congrArg Value.bool (dT (by omega))⟩),ks,ks,?s5,ks,ks,ks,ks,ks,ks,ks,trivial⟩ ?_
  case s5=>
   refine k_skip SbB.out (by kernel_rfl) fun listed ac Y h D=>⟨?_,trivial⟩
   obtain⟨u,hu,hy,hU⟩:=h.dep D 3 9 (by kernel_rfl) (by kernel_rfl);obtain rfl:u= .bool true:=hU;exact⟨3,false,true,rfl,hy,by decide⟩
  intro a2 w2 st2;refine Wn ?_
  refine cT st2 ?_;refine Wn ?_
  refine rH [] [Vb false] [] [(0,VEq lv),(18,Vb true),(2,Vb false)] st2 ⟨ks,trivial⟩ fun a3 w3 st3=>Wn ?_
  exact wp_ret (rS 2 (Vb false) st3 fun vr r4=>(by rw [show validR vs=false by unfold validR;rw [dF (show ¬3<=vs.length by omega)];simp];exact r4))
 ·
  by_cases hgt:12<vs.length
  ·
   refine Wn ?_
   refine rH [] [VEq lv,Vi (vs.length:Int),Vb false,Vb false,VEq lv,Vi (vs.length:Int),Vb true,Vb true,Vb true,VT,VT,VT,Vb true] [] [(0,VEq lv),(2,Vb false),(18,Vb true)] st1 ⟨ks,(kr1 6 fun _ _ _ _ _ x0 X0=>len_Sv rfl rfl x0 X0 hS),(kr1 7 fun _ _ _ _ _ x0 X0=>⟨_,run_lssi rfl (x0.trans X0) rfl,congrArg Value.bool (dF (by omega))⟩),ks,ks,(kr1 10 fun _ _ _ _ _ x0 X0=>len_Sv rfl rfl x0 X0 hS),(kr1 11 fun _ _ _ _ _ x0 X0=>⟨_,run_gtri rfl (x0.trans X0) rfl,congrArg Value.bool (dT (by omega))⟩),ks,ks,ks,ks,ks,ks,trivial⟩ fun a2 w2 st2=>Wn ?_
   refine cT st2 ?_;refine Wn ?_
   refine rH [] [Vb false] [] [(0,VEq lv),(18,Vb true),(2,Vb false)] st2 ⟨ks,trivial⟩ fun a3 w3 st3=>Wn ?_
   exact wp_ret (rS 2 (Vb false) st3 fun vr r4=>(by rw [show validR vs=false by unfold validR;rw [dF (show ¬vs.length<=12 by omega)];simp];exact r4))
  ·
   refine Wn ?_
   refine rH [] [VEq lv,Vi (vs.length:Int),Vb false,Vb false,VEq lv,Vi (vs.length:Int),Vb false,Vb false,Vb false,VEq lv,Vb true,Vb false,Vb false] [] [(0,VEq lv),(2,Vb false),(18,Vb false)] st1 ⟨ks,(kr1 6 fun _ _ _ _ _ x0 X0=>len_Sv rfl rfl x0 X0 hS),(kr1 7 fun _ _ _ _ _ x0 X0=>⟨_,run_lssi rfl (x0.trans X0) rfl,congrArg Value.bool (dF (by omega))⟩),ks,ks,(kr1 10 fun _ _ _ _ _ x0 X0=>len_Sv rfl rfl x0 X0 hS),(kr1 11 fun _ _ _ _ _ x0 X0=>⟨_,run_gtri rfl (x0.trans X0) rfl,congrArg Value.bool (dF (by omega))⟩),ks,ks,ks,(kd1 fun _ _ _ h _ X0=>cR6Numbers X0 (VSv_later hS h.k.below)),ks,ks,trivial⟩ ?_;intro a2 w2 st2
   have hbd6:6+vs.length*(4*N+3)<=900:=by
    have:=Nat.mul_le_mul (show vs.length<=12 by omega) (show 4*N+3<=71 by omega);omega
   have h3:decide (3<=vs.length)=true:=dT (by omega);have h12:decide (vs.length<=12)=true:=dT (by omega);refine Wn ?_
   refine cF st2 ?_;refine Wn ?_
   refine rH [] [Vi 0] [] [(0,VEq lv),(2,Vb false),(18,Vb false),(3,Vi 0)] st2 ⟨ks,trivial⟩ ?_;intro a3 w3 st3;replace st3:St w.heap.size w 86 [] [(0,VEq lv),(3,Vi ((0:Nat):Int))] a3 w3:=st3.cut;refine Wn ?_
   refine wp_loop_ghost (fun m aX wX=>∃i:Nat,i+m=vs.length/\(∀i2<i,okR vs i2)/\St w.heap.size w 86 [] [(0,VEq lv),(3,Vi i)] aX wX) vs.length ⟨0,by omega,fun i hi=>absurd hi (by omega),st3⟩ ?_;intro m aL wL ⟨i,hi,hpre,st3⟩;by_cases hlt:i<vs.length
   ·
    refine Wn ?_
    refine rH [] [Vi i,VEq lv,Vi (vs.length:Int),Vb true] [] [(0,VEq lv),(3,Vi i),(22,Vb true)] st3 ⟨ks,ks,(kr1 20 fun _ _ _ _ _ x0 X0=>len_Sv rfl rfl x0 X0 hS),(kr2 19 21 fun _ _ _ _ _ x0 X0 _ x1 X1=>⟨_,run_lssi rfl (x0.trans X0) (x1.trans X1),congrArg Value.bool (dT (by omega))⟩),trivial⟩ fun a4 w4 st4=>Wn ?_
    refine cT st4 ?_;have hgi:vs[i]? =some (cv vs i):=by have:=cv_get (vs:=vs) i (by omega);rwa [Nat.mod_eq_of_lt (by omega)] at this
    by_cases htn:tnR vs i=0
    ·
     refine Wn ?_
     refine rH [] [VEq lv,Vi i,VAt w (VEp 32 8 (Vv N (cv vs i).1 (cv vs i).2)),Vv N ((cv vs i).1) ((cv vs i).2),VEq lv,Vi i,Vi ((i+1:Nat):Int),Vv N ((cv vs (i+1)).1) ((cv vs (i+1)).2),VEq lv,Vi i,Vi ((i+2:Nat):Int),Vv N ((cv vs (i+2)).1) ((cv vs (i+2)).2),Vi (sdR (cv vs i) (cv vs (i+1)) (cv vs (i+2))),Vb true] [] [(0,VEq lv),(3,Vi i),(22,Vb true),(38,Vb true)] st4 ⟨ks,ks,(kr2 25 26 fun _ _ _ _ _ x0 X0 _ x1 X1=>index_Sv rfl x0 X0 hS x1 X1 hgi),(kr1 27 fun _ _ _ h _ x0 X0=>load_EpC (w:=w) (k:=8) (A:=Vv N (cv vs i).1 (cv vs i).2) (Stab_Vv _ _ _) rfl x0 X0 h.k.below Tryz.underlying32 rfl size_Vec),ks,ks,(kr1 30 fun _ _ _ _ v0 x0 X0=>⟨_,run_addi rfl (x0.trans (show v0= .int .i64 i from X0)) rfl wO,congrArg (Value.int .i64) (by omega)⟩),(kd2 fun _ _ _ h _ X0 _ X1=>cR6Corner (k:=i+1) X0 X1 (VSv_later hS h.k.below)),ks,ks,(kr1 34 fun _ _ _ _ v0 x0 X0=>⟨_,run_addi rfl (x0.trans (show v0= .int .i64 i from X0)) rfl wO,congrArg (Value.int .i64) (by omega)⟩),(kd2 fun _ _ _ h _ X0 _ X1=>cR6Corner (k:=i+2) X0 X1 (VSv_later hS h.k.below)),(by refine kc fun _ ac Y h D=>?_;obtain⟨v0,x0,X0⟩:=h.dp D 28;obtain⟨v1,x1,X1⟩:=h.dp D 32;obtain⟨v2,x2,X2⟩:=h.dp D 36;exact⟨#[v0,v1,v2],by simp [x0,x1,x2],cR5Side X0 X1 X2⟩),(kr1 37 fun _ _ _ _ _ x0 X0=>⟨_,run_eqi rfl (x0.trans X0) rfl,congrArg Value.bool (dT htn)⟩),trivial⟩ ?_;intro a5 w5 st5;refine Wn ?_
     refine cT st5 ?_;refine Wn ?_
     refine rH [] [Vb false] [] [(0,VEq lv),(3,Vi i),(22,Vb true),(38,Vb true),(2,Vb false)] st5 ⟨ks,trivial⟩ fun a6 w6 st6=>Wn ?_
     exact wp_ret (rS 2 (Vb false) st6 fun vr r4=>(by rw [validR_f hlt (fun h=>h.1 htn)];exact r4))
    ·
     refine Wn ?_
     refine rH [] [VEq lv,Vi i,VAt w (VEp 32 8 (Vv N (cv vs i).1 (cv vs i).2)),Vv N ((cv vs i).1) ((cv vs i).2),VEq lv,Vi i,Vi ((i+1:Nat):Int),Vv N ((cv vs (i+1)).1) ((cv vs (i+1)).2),VEq lv,Vi i,Vi ((i+2:Nat):Int),Vv N ((cv vs (i+2)).1) ((cv vs (i+2)).2),Vi (sdR (cv vs i) (cv vs (i+1)) (cv vs (i+2))),Vb false] [] [(0,VEq lv),(3,Vi i),(22,Vb true),(38,Vb false)] st4 ⟨ks,ks,(kr2 25 26 fun _ _ _ _ _ x0 X0 _ x1 X1=>index_Sv rfl x0 X0 hS x1 X1 hgi),(kr1 27 fun _ _ _ h _ x0 X0=>load_EpC (w:=w) (k:=8) (A:=Vv N (cv vs i).1 (cv vs i).2) (Stab_Vv _ _ _) rfl x0 X0 h.k.below Tryz.underlying32 rfl size_Vec),ks,ks,(kr1 30 fun _ _ _ _ v0 x0 X0=>⟨_,run_addi rfl (x0.trans (show v0= .int .i64 i from X0)) rfl wO,congrArg (Value.int .i64) (by omega)⟩),(kd2 fun _ _ _ h _ X0 _ X1=>cR6Corner (k:=i+1) X0 X1 (VSv_later hS h.k.below)),ks,ks,(kr1 34 fun _ _ _ _ v0 x0 X0=>⟨_,run_addi rfl (x0.trans (show v0= .int .i64 i from X0)) rfl wO,congrArg (Value.int .i64) (by omega)⟩),(kd2 fun _ _ _ h _ X0 _ X1=>cR6Corner (k:=i+2) X0 X1 (VSv_later hS h.k.below)),(by refine kc fun _ ac Y h D=>?_;obtain⟨v0,x0,X0⟩:=h.dp D 28;obtain⟨v1,x1,X1⟩:=h.dp D 32;obtain⟨v2,x2,X2⟩:=h.dp D 36;exact⟨#[v0,v1,v2],by simp [x0,x1,x2],cR5Side X0 X1 X2⟩),(kr1 37 fun _ _ _ _ _ x0 X0=>⟨_,run_eqi rfl (x0.trans X0) rfl,congrArg Value.bool (dF htn)⟩),trivial⟩ ?_;intro a5 w5 st5;refine Wn ?_
     refine cF st5 ?_;refine Wn ?_
     refine rH [] [Vi 0] [] [(0,VEq lv),(3,Vi i),(22,Vb true),(38,Vb false),(4,Vi 0)] st5 ⟨ks,trivial⟩ ?_;intro a6 w6 st6;replace st6:St w.heap.size w 86 [] [(0,VEq lv),(3,Vi i),(4,Vi ((0:Nat):Int))] a6 w6:=st6.cut;refine Wn ?_
     refine wp_loop_ghost (fun m2 aX wX=>∃k:Nat,k+m2=vs.length/\(∀k2<k,badR vs i k2=false)/\St w.heap.size w 86 [] [(0,VEq lv),(3,Vi i),(4,Vi k)] aX wX) vs.length ⟨0,by omega,fun i hi=>absurd hi (by omega),st6⟩ ?_;intro m2 aK wK ⟨k,hk,hpre2,st6⟩;by_cases hlk:k<vs.length
     ·
      refine Wn ?_
      refine rH [] [Vi k,VEq lv,Vi (vs.length:Int),Vb true] [] [(0,VEq lv),(3,Vi i),(4,Vi k),(42,Vb true)] st6 ⟨ks,ks,(kr1 40 fun _ _ _ _ _ x0 X0=>len_Sv rfl rfl x0 X0 hS),(kr2 39 41 fun _ _ _ _ _ x0 X0 _ x1 X1=>⟨_,run_lssi rfl (x0.trans X0) (x1.trans X1),congrArg Value.bool (dT (by omega))⟩),trivial⟩ fun a7 w7 st7=>Wn ?_
      refine cT st7 ?_;have hgk:vs[k]? =some (cv vs k):=by have:=cv_get (vs:=vs) k (by omega);rwa [Nat.mod_eq_of_lt (by omega)] at this
      refine Wn ?_
      refine rH [] [Vi k,Vi i,Vi ((k:Int) - (i:Int)),VEq lv,Vi (vs.length:Int),Vi ((k+vs.length - i:Nat):Int),VEq lv,Vi (vs.length:Int),Vi ((gp vs i k:Nat):Int),Vi ((gp vs i k:Nat):Int)] [] [(0,VEq lv),(3,Vi i),(4,Vi k),(42,Vb true),(5,Vi ((gp vs i k:Nat):Int))] st7 ⟨ks,ks,(kr2 45 46 fun _ _ _ _ v0 x0 X0 v1 x1 X1=>⟨_,run_subi rfl (x0.trans (show v0= .int .i64 k from X0)) (x1.trans (show v1= .int .i64 i from X1)) wO,rfl⟩),ks,(kr1 48 fun _ _ _ _ _ x0 X0=>len_Sv rfl rfl x0 X0 hS),(kr2 47 49 fun _ _ _ _ v0 x0 X0 v1 x1 X1=>⟨_,run_addi rfl (x0.trans (show v0= .int .i64 ((k:Int) - (i:Int))from X0)) (x1.trans (show v1= .int .i64 (vs.length:Int)from X1)) wO,congrArg (Value.int .i64) (by omega)⟩),ks,(kr1 51 fun _ _ _ _ _ x0 X0=>len_Sv rfl rfl x0 X0 hS),(kr2 50 52 fun _ _ _ _ _ x0 X0 _ x1 X1=>rem_n (j:=k+vs.length - i) (n:=vs.length) rfl x0 x1 X0 X1 (by omega)),ks,trivial⟩ ?_;intro a8 w8 st8;by_cases hg1:1<gp vs i k
      ·
       by_cases hg2:gp vs i k+1<vs.length
       ·
        by_cases hmt:meetsR (cv vs i) (cv vs (i+1)) (cv vs k) (cv vs (k+1))=true
        ·
         refine Wn ?_
         refine rH [] [Vi ((gp vs i k:Nat):Int),Vb true,Vb true,Vi ((gp vs i k:Nat):Int),VEq lv,Vi (vs.length:Int),Vi ((vs.length:Int) - 1),Vb true,Vb true,Vb true,VEq lv,Vi i,VAt w (VEp 32 8 (Vv N (cv vs i).1 (cv vs i).2)),Vv N ((cv vs i).1) ((cv vs i).2),VEq lv,Vi i,Vi ((i+1:Nat):Int),Vv N ((cv vs (i+1)).1) ((cv vs (i+1)).2),VEq lv,Vi k,VAt w (VEp 32 8 (Vv N (cv vs k).1 (cv vs k).2)),Vv N ((cv vs k).1) ((cv vs k).2),VEq lv,Vi k,Vi ((k+1:Nat):Int),Vv N ((cv vs (k+1)).1) ((cv vs (k+1)).2),Vb true,Vb true] [] [(0,VEq lv),(3,Vi i),(4,Vi k),(42,Vb true),(81,Vb true)] st8 ⟨ks,(kr1 54 fun _ _ _ _ _ x0 X0=>⟨_,run_gtri rfl (x0.trans X0) rfl,congrArg Value.bool (dT (by omega))⟩),ks,ks,ks,(kr1 58 fun _ _ _ _ _ x0 X0=>len_Sv rfl rfl x0 X0 hS),(kr1 59 fun _ _ _ _ _ x0 X0=>⟨_,run_subi rfl (x0.trans X0) rfl wO,rfl⟩),(kr2 57 60 fun _ _ _ _ _ x0 X0 _ x1 X1=>⟨_,run_lssi rfl (x0.trans X0) (x1.trans X1),congrArg Value.bool (dT (by omega))⟩),ks,ks,ks,ks,(kr2 64 65 fun _ _ _ _ _ x0 X0 _ x1 X1=>index_Sv rfl x0 X0 hS x1 X1 hgi),(kr1 66 fun _ _ _ h _ x0 X0=>load_EpC (w:=w) (k:=8) (A:=Vv N (cv vs i).1 (cv vs i).2) (Stab_Vv _ _ _) rfl x0 X0 h.k.below Tryz.underlying32 rfl size_Vec),ks,ks,(kr1 69 fun _ _ _ _ v0 x0 X0=>⟨_,run_addi rfl (x0.trans (show v0= .int .i64 i from X0)) rfl wO,congrArg (Value.int .i64) (by omega)⟩),(kd2 fun _ _ _ h _ X0 _ X1=>cR6Corner (k:=i+1) X0 X1 (VSv_later hS h.k.below)),ks,ks,(kr2 72 73 fun _ _ _ _ _ x0 X0 _ x1 X1=>index_Sv rfl x0 X0 hS x1 X1 hgk),(kr1 74 fun _ _ _ h _ x0 X0=>load_EpC (w:=w) (k:=8) (A:=Vv N (cv vs k).1 (cv vs k).2) (Stab_Vv _ _ _) rfl x0 X0 h.k.below Tryz.underlying32 rfl size_Vec),ks,ks,(kr1 77 fun _ _ _ _ v0 x0 X0=>⟨_,run_addi rfl (x0.trans (show v0= .int .i64 k from X0)) rfl wO,congrArg (Value.int .i64) (by omega)⟩),(kd2 fun _ _ _ h _ X0 _ X1=>cR6Corner (k:=k+1) X0 X1 (VSv_later hS h.k.below)),(by refine kc fun _ ac Y h D=>?_;obtain⟨v0,x0,X0⟩:=h.dp D 67;obtain⟨v1,x1,X1⟩:=h.dp D 71;obtain⟨v2,x2,X2⟩:=h.dp D 75;obtain⟨v3,x3,X3⟩:=h.dp D 79;exact⟨#[v0,v1,v2,v3],by simp [x0,x1,x2,x3],cR6MeetsV X0 X1 X2 X3 (by omega) (by omega) hmt⟩),ks,trivial⟩ ?_;intro a9 w9 st9;refine Wn ?_
         refine cT st9 ?_;refine Wn ?_
         refine rH [] [Vb false] [] [(0,VEq lv),(3,Vi i),(4,Vi k),(42,Vb true),(81,Vb true),(2,Vb false)] st9 ⟨ks,trivial⟩ fun a10 w10 st10=>Wn ?_
         exact wp_ret (rS 2 (Vb false) st10 fun vr r4=>(by rw [validR_f hlt (fun h=>by have:=h.2 k (List.mem_range.2 hlk);unfold badR at this;rw [dT hg1,dT hg2,hmt] at this;cases this)];exact r4))
        ·
         rw [Bool.not_eq_true] at hmt;refine Wn ?_
         refine rH [] [Vi ((gp vs i k:Nat):Int),Vb true,Vb true,Vi ((gp vs i k:Nat):Int),VEq lv,Vi (vs.length:Int),Vi ((vs.length:Int) - 1),Vb true,Vb true,Vb true,VEq lv,Vi i,VAt w (VEp 32 8 (Vv N (cv vs i).1 (cv vs i).2)),Vv N ((cv vs i).1) ((cv vs i).2),VEq lv,Vi i,Vi ((i+1:Nat):Int),Vv N ((cv vs (i+1)).1) ((cv vs (i+1)).2),VEq lv,Vi k,VAt w (VEp 32 8 (Vv N (cv vs k).1 (cv vs k).2)),Vv N ((cv vs k).1) ((cv vs k).2),VEq lv,Vi k,Vi ((k+1:Nat):Int),Vv N ((cv vs (k+1)).1) ((cv vs (k+1)).2),Vb false,Vb false] [] [(0,VEq lv),(3,Vi i),(4,Vi k),(42,Vb true),(81,Vb false)] st8 ⟨ks,(kr1 54 fun _ _ _ _ _ x0 X0=>⟨_,run_gtri rfl (x0.trans X0) rfl,congrArg Value.bool (dT (by omega))⟩),ks,ks,ks,(kr1 58 fun _ _ _ _ _ x0 X0=>len_Sv rfl rfl x0 X0 hS),(kr1 59 fun _ _ _ _ _ x0 X0=>⟨_,run_subi rfl (x0.trans X0) rfl wO,rfl⟩),(kr2 57 60 fun _ _ _ _ _ x0 X0 _ x1 X1=>⟨_,run_lssi rfl (x0.trans X0) (x1.trans X1),congrArg Value.bool (dT (by omega))⟩),ks,ks,ks,ks,(kr2 64 65 fun _ _ _ _ _ x0 X0 _ x1 X1=>index_Sv rfl x0 X0 hS x1 X1 hgi),(kr1 66 fun _ _ _ h _ x0 X0=>load_EpC (w:=w) (k:=8) (A:=Vv N (cv vs i).1 (cv vs i).2) (Stab_Vv _ _ _) rfl x0 X0 h.k.below Tryz.underlying32 rfl size_Vec),ks,ks,(kr1 69 fun _ _ _ _ v0 x0 X0=>⟨_,run_addi rfl (x0.trans (show v0= .int .i64 i from X0)) rfl wO,congrArg (Value.int .i64) (by omega)⟩),(kd2 fun _ _ _ h _ X0 _ X1=>cR6Corner (k:=i+1) X0 X1 (VSv_later hS h.k.below)),ks,ks,(kr2 72 73 fun _ _ _ _ _ x0 X0 _ x1 X1=>index_Sv rfl x0 X0 hS x1 X1 hgk),(kr1 74 fun _ _ _ h _ x0 X0=>load_EpC (w:=w) (k:=8) (A:=Vv N (cv vs k).1 (cv vs k).2) (Stab_Vv _ _ _) rfl x0 X0 h.k.below Tryz.underlying32 rfl size_Vec),ks,ks,(kr1 77 fun _ _ _ _ v0 x0 X0=>⟨_,run_addi rfl (x0.trans (show v0= .int .i64 k from X0)) rfl wO,congrArg (Value.int .i64) (by omega)⟩),(kd2 fun _ _ _ h _ X0 _ X1=>cR6Corner (k:=k+1) X0 X1 (VSv_later hS h.k.below)),(by refine kc fun _ ac Y h D=>?_;obtain⟨v0,x0,X0⟩:=h.dp D 67;obtain⟨v1,x1,X1⟩:=h.dp D 71;obtain⟨v2,x2,X2⟩:=h.dp D 75;obtain⟨v3,x3,X3⟩:=h.dp D 79;exact⟨#[v0,v1,v2,v3],by simp [x0,x1,x2,x3],cR6MeetsV X0 X1 X2 X3 (by omega) (by omega) hmt⟩),ks,trivial⟩ ?_;intro a9 w9 st9;refine Wn ?_
         refine cF st9 ?_;have hbd:badR vs i k=false:=by unfold badR;rw [hmt];simp
         refine Wn ?_
         refine rH [] [Vi k,Vi ((k+1:Nat):Int),Vi ((k+1:Nat):Int)] [] [(0,VEq lv),(3,Vi i),(42,Vb true),(81,Vb false),(4,Vi ((k+1:Nat):Int))] st9 ⟨?s0,(kr1 43 fun _ _ _ _ v0 x0 X0=>⟨_,run_addi rfl (x0.trans (show v0= .int .i64 k from X0)) rfl wO,congrArg (Value.int .i64) (by omega)⟩),ks,trivial⟩ ?_
         case s0=>
          refine k_run0 SbB.out (by kernel_rfl) fun listed ac Y h D hnl=>⟨trivial,?_⟩
          obtain⟨v0,x0,X0⟩:=h.out0 hnl (4,Vi k) (.tail _ (.tail _ (.head _))) 2 (by kernel_rfl) (.inr (by kernel_rfl));exact⟨_,run_move rfl,by rw [x0];exact X0⟩
         intro a10 w10 st10;replace st10:St w.heap.size w 86 [] [(0,VEq lv),(3,Vi i),(42,Vb true),(81,Vb false),(4,Vi ((k+1:Nat):Int))] a10 w10:=st10;exact⟨m2 - 1,by omega,k+1,by omega,fun k2 hk2=>(by rcases Nat.lt_or_ge k2 k with h|h;exact hpre2 k2 h;rw [show k2=k by omega];exact hbd),st10.cut⟩
       ·
        refine Wn ?_
        refine rH [] [Vi ((gp vs i k:Nat):Int),Vb true,Vb true,Vi ((gp vs i k:Nat):Int),VEq lv,Vi (vs.length:Int),Vi ((vs.length:Int) - 1),Vb false,Vb false,Vb false,VT,VT,VT,VT,VT,VT,VT,VT,VT,VT,VT,VT,VT,VT,VT,VT,VT,Vb false] [] [(0,VEq lv),(3,Vi i),(4,Vi k),(42,Vb true),(81,Vb false)] st8 ⟨ks,(kr1 54 fun _ _ _ _ _ x0 X0=>⟨_,run_gtri rfl (x0.trans X0) rfl,congrArg Value.bool (dT (by omega))⟩),ks,ks,ks,(kr1 58 fun _ _ _ _ _ x0 X0=>len_Sv rfl rfl x0 X0 hS),(kr1 59 fun _ _ _ _ _ x0 X0=>⟨_,run_subi rfl (x0.trans X0) rfl wO,rfl⟩),(kr2 57 60 fun _ _ _ _ _ x0 X0 _ x1 X1=>⟨_,run_lssi rfl (x0.trans X0) (x1.trans X1),congrArg Value.bool (dF (by omega))⟩),ks,ks,ks,ks,?s12,?s13,ks,ks,?s16,ks,ks,ks,?s20,?s21,ks,ks,?s24,ks,ks,ks,trivial⟩ ?_
        case s12=>
         refine k_skip SbB.out (by kernel_rfl) fun listed ac Y h D=>⟨?_,trivial⟩
         obtain⟨u,hu,hy,hU⟩:=h.dep D 9 63 (by kernel_rfl) (by kernel_rfl);obtain rfl:u= .bool false:=hU;exact⟨9,true,false,rfl,hy,by decide⟩
        case s13=>
         refine k_skip SbB.out (by kernel_rfl) fun listed ac Y h D=>⟨?_,trivial⟩
         obtain⟨u,hu,hy,hU⟩:=h.dep D 9 63 (by kernel_rfl) (by kernel_rfl);obtain rfl:u= .bool false:=hU;exact⟨9,true,false,rfl,hy,by decide⟩
        case s16=>
         refine k_skip SbB.out (by kernel_rfl) fun listed ac Y h D=>⟨?_,trivial⟩
         obtain⟨u,hu,hy,hU⟩:=h.dep D 9 63 (by kernel_rfl) (by kernel_rfl);obtain rfl:u= .bool false:=hU;exact⟨9,true,false,rfl,hy,by decide⟩
        case s20=>
         refine k_skip SbB.out (by kernel_rfl) fun listed ac Y h D=>⟨?_,trivial⟩
         obtain⟨u,hu,hy,hU⟩:=h.dep D 9 63 (by kernel_rfl) (by kernel_rfl);obtain rfl:u= .bool false:=hU;exact⟨9,true,false,rfl,hy,by decide⟩
        case s21=>
         refine k_skip SbB.out (by kernel_rfl) fun listed ac Y h D=>⟨?_,trivial⟩
         obtain⟨u,hu,hy,hU⟩:=h.dep D 9 63 (by kernel_rfl) (by kernel_rfl);obtain rfl:u= .bool false:=hU;exact⟨9,true,false,rfl,hy,by decide⟩
        case s24=>
         refine k_skip SbB.out (by kernel_rfl) fun listed ac Y h D=>⟨?_,trivial⟩
         obtain⟨u,hu,hy,hU⟩:=h.dep D 9 63 (by kernel_rfl) (by kernel_rfl);obtain rfl:u= .bool false:=hU;exact⟨9,true,false,rfl,hy,by decide⟩
        intro a9 w9 st9;refine Wn ?_
        refine cF st9 ?_;have hbd:badR vs i k=false:=by unfold badR;rw [dF hg2];simp
        refine Wn ?_
        refine rH [] [Vi k,Vi ((k+1:Nat):Int),Vi ((k+1:Nat):Int)] [] [(0,VEq lv),(3,Vi i),(42,Vb true),(81,Vb false),(4,Vi ((k+1:Nat):Int))] st9 ⟨?s0,(kr1 43 fun _ _ _ _ v0 x0 X0=>⟨_,run_addi rfl (x0.trans (show v0= .int .i64 k from X0)) rfl wO,congrArg (Value.int .i64) (by omega)⟩),ks,trivial⟩ ?_
        case s0=>
         refine k_run0 SbB.out (by kernel_rfl) fun listed ac Y h D hnl=>⟨trivial,?_⟩
         obtain⟨v0,x0,X0⟩:=h.out0 hnl (4,Vi k) (.tail _ (.tail _ (.head _))) 2 (by kernel_rfl) (.inr (by kernel_rfl));exact⟨_,run_move rfl,by rw [x0];exact X0⟩
        intro a10 w10 st10;replace st10:St w.heap.size w 86 [] [(0,VEq lv),(3,Vi i),(42,Vb true),(81,Vb false),(4,Vi ((k+1:Nat):Int))] a10 w10:=st10;exact⟨m2 - 1,by omega,k+1,by omega,fun k2 hk2=>(by rcases Nat.lt_or_ge k2 k with h|h;exact hpre2 k2 h;rw [show k2=k by omega];exact hbd),st10.cut⟩
      ·
       refine Wn ?_
       refine rH [] [Vi ((gp vs i k:Nat):Int),Vb false,Vb false,VT,VT,VT,VT,VT,Vb false,Vb false,VT,VT,VT,VT,VT,VT,VT,VT,VT,VT,VT,VT,VT,VT,VT,VT,VT,Vb false] [] [(0,VEq lv),(3,Vi i),(4,Vi k),(42,Vb true),(81,Vb false)] st8 ⟨ks,(kr1 54 fun _ _ _ _ _ x0 X0=>⟨_,run_gtri rfl (x0.trans X0) rfl,congrArg Value.bool (dF (by omega))⟩),ks,ks,ks,?s5,ks,ks,ks,ks,ks,ks,?s12,?s13,ks,ks,?s16,ks,ks,ks,?s20,?s21,ks,ks,?s24,ks,ks,ks,trivial⟩ ?_
       case s5=>
        refine k_skip SbB.out (by kernel_rfl) fun listed ac Y h D=>⟨?_,trivial⟩
        obtain⟨u,hu,hy,hU⟩:=h.dep D 2 56 (by kernel_rfl) (by kernel_rfl);obtain rfl:u= .bool false:=hU;exact⟨2,true,false,rfl,hy,by decide⟩
       case s12=>
        refine k_skip SbB.out (by kernel_rfl) fun listed ac Y h D=>⟨?_,trivial⟩
        obtain⟨u,hu,hy,hU⟩:=h.dep D 9 63 (by kernel_rfl) (by kernel_rfl);obtain rfl:u= .bool false:=hU;exact⟨9,true,false,rfl,hy,by decide⟩
       case s13=>
        refine k_skip SbB.out (by kernel_rfl) fun listed ac Y h D=>⟨?_,trivial⟩
        obtain⟨u,hu,hy,hU⟩:=h.dep D 9 63 (by kernel_rfl) (by kernel_rfl);obtain rfl:u= .bool false:=hU;exact⟨9,true,false,rfl,hy,by decide⟩
       case s16=>
        refine k_skip SbB.out (by kernel_rfl) fun listed ac Y h D=>⟨?_,trivial⟩
        obtain⟨u,hu,hy,hU⟩:=h.dep D 9 63 (by kernel_rfl) (by kernel_rfl);obtain rfl:u= .bool false:=hU;exact⟨9,true,false,rfl,hy,by decide⟩
       case s20=>
        refine k_skip SbB.out (by kernel_rfl) fun listed ac Y h D=>⟨?_,trivial⟩
        obtain⟨u,hu,hy,hU⟩:=h.dep D 9 63 (by kernel_rfl) (by kernel_rfl);obtain rfl:u= .bool false:=hU;exact⟨9,true,false,rfl,hy,by decide⟩
       case s21=>
        refine k_skip SbB.out (by kernel_rfl) fun listed ac Y h D=>⟨?_,trivial⟩
        obtain⟨u,hu,hy,hU⟩:=h.dep D 9 63 (by kernel_rfl) (by kernel_rfl);obtain rfl:u= .bool false:=hU;exact⟨9,true,false,rfl,hy,by decide⟩
       case s24=>
        refine k_skip SbB.out (by kernel_rfl) fun listed ac Y h D=>⟨?_,trivial⟩
        obtain⟨u,hu,hy,hU⟩:=h.dep D 9 63 (by kernel_rfl) (by kernel_rfl);obtain rfl:u= .bool false:=hU;exact⟨9,true,false,rfl,hy,by decide⟩
       intro a9 w9 st9;refine Wn ?_
       refine cF st9 ?_;have hbd:badR vs i k=false:=by unfold badR;rw [dF hg1];simp
       refine Wn ?_
       refine rH [] [Vi k,Vi ((k+1:Nat):Int),Vi ((k+1:Nat):Int)] [] [(0,VEq lv),(3,Vi i),(42,Vb true),(81,Vb false),(4,Vi ((k+1:Nat):Int))] st9 ⟨?s0,(kr1 43 fun _ _ _ _ v0 x0 X0=>⟨_,run_addi rfl (x0.trans (show v0= .int .i64 k from X0)) rfl wO,congrArg (Value.int .i64) (by omega)⟩),ks,trivial⟩ ?_
       case s0=>
        refine k_run0 SbB.out (by kernel_rfl) fun listed ac Y h D hnl=>⟨trivial,?_⟩
        obtain⟨v0,x0,X0⟩:=h.out0 hnl (4,Vi k) (.tail _ (.tail _ (.head _))) 2 (by kernel_rfl) (.inr (by kernel_rfl));exact⟨_,run_move rfl,by rw [x0];exact X0⟩
       intro a10 w10 st10;replace st10:St w.heap.size w 86 [] [(0,VEq lv),(3,Vi i),(42,Vb true),(81,Vb false),(4,Vi ((k+1:Nat):Int))] a10 w10:=st10;exact⟨m2 - 1,by omega,k+1,by omega,fun k2 hk2=>(by rcases Nat.lt_or_ge k2 k with h|h;exact hpre2 k2 h;rw [show k2=k by omega];exact hbd),st10.cut⟩
     ·
      refine Wn ?_
      refine rH [] [Vi k,VEq lv,Vi (vs.length:Int),Vb false] [] [(0,VEq lv),(3,Vi i),(4,Vi k),(42,Vb false)] st6 ⟨ks,ks,(kr1 40 fun _ _ _ _ _ x0 X0=>len_Sv rfl rfl x0 X0 hS),(kr2 39 41 fun _ _ _ _ _ x0 X0 _ x1 X1=>⟨_,run_lssi rfl (x0.trans X0) (x1.trans X1),congrArg Value.bool (dF (by omega))⟩),trivial⟩ fun a7 w7 st7=>Wn ?_
      refine cF st7 ?_;refine Wn ?_
      refine rH [] [Vi i,Vi ((i+1:Nat):Int),Vi ((i+1:Nat):Int)] [] [(0,VEq lv),(4,Vi k),(42,Vb false),(3,Vi ((i+1:Nat):Int))] st7 ⟨?s0,(kr1 23 fun _ _ _ _ v0 x0 X0=>⟨_,run_addi rfl (x0.trans (show v0= .int .i64 i from X0)) rfl wO,congrArg (Value.int .i64) (by omega)⟩),ks,trivial⟩ ?_
      case s0=>
       refine k_run0 SbB.out (by kernel_rfl) fun listed ac Y h D hnl=>⟨trivial,?_⟩
       obtain⟨v0,x0,X0⟩:=h.out0 hnl (3,Vi i) (.tail _ (.head _)) 2 (by kernel_rfl) (.inr (by kernel_rfl));exact⟨_,run_move rfl,by rw [x0];exact X0⟩
      intro a8 w8 st8;replace st8:St w.heap.size w 86 [] [(0,VEq lv),(4,Vi k),(42,Vb false),(3,Vi ((i+1:Nat):Int))] a8 w8:=st8;exact⟨m - 1,by omega,i+1,by omega,fun i2 hi2=>(by rcases Nat.lt_or_ge i2 i with h|h;exact hpre i2 h;rw [show i2=i by omega];exact⟨htn,fun k2 hk2=>hpre2 k2 (by have:=List.mem_range.1 hk2;omega)⟩),st8.cut⟩
   ·
    refine Wn ?_
    refine rH [] [Vi i,VEq lv,Vi (vs.length:Int),Vb false] [] [(0,VEq lv),(3,Vi i),(22,Vb false)] st3 ⟨ks,ks,(kr1 20 fun _ _ _ _ _ x0 X0=>len_Sv rfl rfl x0 X0 hS),(kr2 19 21 fun _ _ _ _ _ x0 X0 _ x1 X1=>⟨_,run_lssi rfl (x0.trans X0) (x1.trans X1),congrArg Value.bool (dF (by omega))⟩),trivial⟩ fun a4 w4 st4=>Wn ?_
    refine cF st4 ?_;have hok:decide (∀i∈List.range vs.length,okR vs i)=true:=dT fun i2 hi2=>hpre i2 (by have:=List.mem_range.1 hi2;omega)
    by_cases har:0<(areaR vs).num
    ·
     refine Wn ?_
     refine rH [] [VEq lv,Vq (6+vs.length*(4*N+3)) (areaR vs),Vi (cmpI (areaR vs).num 0),Vb true,Vb true] [] [(0,VEq lv),(3,Vi i),(22,Vb false),(2,Vb true)] st4 ⟨ks,(kd1 fun _ _ _ h _ X0=>cR6Area X0 (VSv_later hS h.k.below) (by omega) hbd6),(kd1 fun _ _ _ _ _ X0=>cR4Sign X0),(kr1 84 fun _ _ _ _ _ x0 X0=>⟨_,run_gtri rfl (x0.trans X0) rfl,congrArg Value.bool (dT ((cmpI_gt _).2 har))⟩),ks,trivial⟩ fun a5 w5 st5=>Wn ?_
     exact wp_ret (rS 2 (Vb true) st5 fun vr r4=>(by rw [show validR vs=true by unfold validR;rw [h3,h12,hok,dT har];rfl];exact r4))
    ·
     refine Wn ?_
     refine rH [] [VEq lv,Vq (6+vs.length*(4*N+3)) (areaR vs),Vi (cmpI (areaR vs).num 0),Vb false,Vb false] [] [(0,VEq lv),(3,Vi i),(22,Vb false),(2,Vb false)] st4 ⟨ks,(kd1 fun _ _ _ h _ X0=>cR6Area X0 (VSv_later hS h.k.below) (by omega) hbd6),(kd1 fun _ _ _ _ _ X0=>cR4Sign X0),(kr1 84 fun _ _ _ h _ x0 X0=>⟨_,run_gtri rfl (x0.trans X0) rfl,congrArg Value.bool (dF (fun h=>har ((cmpI_gt _).1 h)))⟩),ks,trivial⟩ fun a5 w5 st5=>Wn ?_
     exact wp_ret (rS 2 (Vb false) st5 fun vr r4=>(by rw [show validR vs=false by unfold validR;rw [dF har];simp];exact r4))
theorem validR_len {vs:List P2}(h:validR vs=true):3<=vs.length/\vs.length<=12:=by
 unfold validR at h;simp only [Bool.and_eq_true,decide_eq_true_eq] at h;exact⟨h.1,h.2.1⟩
theorem cR6ValidV {w:World}{N:Nat}{vs:List P2}{lv v0:Value}{x:Bool}(h0:VEq lv v0 w)(hS:VSv N vs lv w)(hN1:3<=N)(hN2:N<=17)(hx:validR vs=x):Calls Tryz.prog 35 #[v0] w (RV (Vb x) w):=by
 subst hx;exact cR6Valid h0 hS hN1 hN2
def onR (vs:List P2)(p:P2)(k:Nat):Bool:=meetsR p p (cv vs k) (cv vs (k+1))
theorem cR5AddN {w:World}{N M:Nat}{a b c d:Rat}{v0 v1:Value}(h0:Vv N a b v0 w)(h1:Vv M c d v1 w)(k1:3<=N:=by omega)(k2:N<=50000:=by omega)(k3:3<=M:=by omega)(k4:M<=50000:=by omega):Calls Tryz.prog 39 #[v0,v1] w (RV (Vv (N+M+1) (a+c) (b+d)) w):=by
 go_enter Tryz.func39,Tryz.ntmps39
 refine Sg 16 [(0,Vv N a b),(1,Vv M c d)] (Lq.2 ⟨⟨_,rfl,h0⟩,(Lq.2 ⟨⟨_,rfl,h1⟩,L0⟩)⟩) fun a0 st0=>Wn ?_
 refine rH [(32,8,0)] [VT,VT,VT] [⟨2,some 0,some 0,32,8,Vv N a b,VT⟩,⟨3,some 1,some 1,32,8,Vv M c d,VT⟩,⟨4,some 2,none,32,8,VT,VT⟩] [] st0 ⟨ks,ks,ks,trivial⟩ fun a1 w1 st1=>Wn ?_
 refine rH [(32,8,0)] [Vpt a1 2 0,Vq N a,Vpt a1 3 0,Vq M c,Vq (N+M+1) ((a)+(c)),Vpt a1 2 4,Vq N b,Vpt a1 3 4,Vq M d,Vq (N+M+1) ((b)+(d)),Vv (N+M+1) ((a)+(c)) ((b)+(d)),VT] [.k 2 32 8 (Vv N a b),.k 3 32 8 (Vv M c d),⟨4,none,some 11,32,8,Vv (N+M+1) ((a)+(c)) ((b)+(d)),VT⟩] [] st1 ⟨ks,ks,ks,ks,(kd2 fun _ _ _ _ _ X0 _ X1=>cR4AddN X0 X1),ks,ks,ks,ks,(kd2 fun _ _ _ _ _ X0 _ X1=>cR4AddN X0 X1),(kr2 9 14 fun _ _ _ _ _ x0 X0 _ x1 X1=>build_Vec rfl x0 x1 (AggV_Vq _ _) (AggV_Vq _ _) X0 X1),ks,trivial⟩ fun a2 w2 st2=>Wn ?_
 exact wp_ret (rC 4 32 (Vv (N+M+1) ((a)+(c)) ((b)+(d))) st2 fun cs r4=>r4)
theorem cR5ScaleN {w:World}{N M:Nat}{a b c:Rat}{v0 v1:Value}(h0:Vv N a b v0 w)(h1:Vq M c v1 w)(k1:3<=N:=by omega)(k2:N<=50000:=by omega)(k3:3<=M:=by omega)(k4:M<=50000:=by omega):Calls Tryz.prog 70 #[v0,v1] w (RV (Vv (N+M) (a*c) (b*c)) w):=by
 go_enter Tryz.func70,Tryz.ntmps70
 refine Sg 14 [(0,Vv N a b),(1,Vq M c)] (Lq.2 ⟨⟨_,rfl,h0⟩,(Lq.2 ⟨⟨_,rfl,h1⟩,L0⟩)⟩) fun a0 st0=>Wn ?_
 refine rH [(32,8,0)] [VT,VT,VT] [⟨2,some 0,some 0,32,8,Vv N a b,VT⟩,⟨3,some 1,some 1,30,4,Vq M c,VT⟩,⟨4,some 2,none,32,8,VT,VT⟩] [] st0 ⟨ks,ks,ks,trivial⟩ fun a1 w1 st1=>Wn ?_
 refine rH [(32,8,0)] [Vpt a1 2 0,Vq N a,Vq M c,Vq (N+M) ((a)*(c)),Vpt a1 2 4,Vq N b,Vq M c,Vq (N+M) ((b)*(c)),Vv (N+M) ((a)*(c)) ((b)*(c)),VT] [.k 2 32 8 (Vv N a b),.k 3 30 4 (Vq M c),⟨4,none,some 9,32,8,Vv (N+M) ((a)*(c)) ((b)*(c)),VT⟩] [] st1 ⟨ks,ks,ks,(kd2 fun _ _ _ _ _ X0 _ X1=>cR4MulN X0 X1),ks,ks,ks,(kd2 fun _ _ _ _ _ X0 _ X1=>cR4MulN X0 X1),(kr2 8 12 fun _ _ _ _ _ x0 X0 _ x1 X1=>build_Vec rfl x0 x1 (AggV_Vq _ _) (AggV_Vq _ _) X0 X1),ks,trivial⟩ fun a2 w2 st2=>Wn ?_
 exact wp_ret (rC 4 32 (Vv (N+M) ((a)*(c)) ((b)*(c))) st2 fun cs r4=>r4)
theorem Vv_zero (w:World):Vv 1 0 0 (.agg #[.bool false,.slice none 0 0,.bool false,.slice none 0 0,.bool false,.slice none 0 0,.bool false,.slice none 0 0]) w:=
 show Vv 1 0 0 (.agg (#[.bool false,.slice none 0 0,.bool false,.slice none 0 0]++ #[.bool false,.slice none 0 0,.bool false,.slice none 0 0])) w from⟨_,_,rfl,rfl,rfl,Vq_zero _,Vq_zero _⟩
section
variable {md:Region.Mode}{ops:Array Oper}{Q:Exit->Act->World->Prop}{a0:Act}{Vl:List VP}{n0:Nat}{w0:World}{B:List Bd}{SL:List (Nat×VP)}{BT:List (TypeId×Nat×Nat)}
theorem k_allocV0 {i t:Nat}{o:Oper}{b:Bd}[hB:SbB BT B](ho:o.op= .alloc 32)(hds:o.dst=some t)(hb:gB B (iB B t)=some b)(hbt:b.t=t)(hT:b.T=32)(hia:b.ia=some i)(hm:b.m=8)(hP:b.P=Vv 1 0 0)(hV:GV Vl i=VT)
 (hq:quietB (B.take (iB B t)++B.drop (iB B t+1)) i (some t)=true) (hg:GOk md ops Vl o):KStep BT Tryz.prog md ops Q a0 (GV Vl) n0 w0 B SL i o:=by
 subst hbt;intro listed a w h D hin hil hnl K hK;rw [if_pos (wanted_of (hg.get h D))]
 have ht:b.t<a.tmps.size:=by
  rw [hds] at hin;rw [h.size]
  simpa using hin
 have hks:=h.k.alloc (gB_split hb) hq hia hil ht hB.out h.n #[.bool false,.slice none 0 0,.bool false,.slice none 0 0,.bool false,.slice none 0 0,.bool false,.slice none 0 0] (by rw [hm];rfl) noint_Vec (fun hk=>by rw [hP];exact Vv_zero _);rw [hT] at hks;unfold Oper.wp execOp;simp only [ho,Sem.run_bind,alloc_Vec,Sem.run_pure,Result.andThen_ok];rw [<-hds] at hks;exact hK _ _ hks (RI.of_below (below_new _ _)) (by rw [hV];trivial)
end
def prR (vs:List P2)(k:Nat):Rat:=((sbP (cv vs (k+1)) (cv vs 0)).1*(sbP (cv vs (k+2)) (cv vs 0)).2 - (sbP (cv vs (k+1)) (cv vs 0)).2*(sbP (cv vs (k+2)) (cv vs 0)).1)*Rat.divInt 1 6
def ceX (vs:List P2)(k:Nat):Rat:=((cv vs 0).1+(cv vs (k+1)).1+(cv vs (k+2)).1)*prR vs k
def ceY (vs:List P2)(k:Nat):Rat:=((cv vs 0).2+(cv vs (k+1)).2+(cv vs (k+2)).2)*prR vs k
def ctrR (vs:List P2):P2:=if (areaR vs).num=0 then(0,0)else(sumT (ceX vs) (vs.length - 2)*(Rat.divInt 1 1 / areaR vs),sumT (ceY vs) (vs.length - 2)*(Rat.divInt 1 1 / areaR vs))
theorem cmpI_zero (z:Int):cmpI z 0=0↔z=0:=by unfold cmpI;split<;>(try split)<;>omega
theorem ctrR_zero {vs:List P2}(h:(areaR vs).num=0):ctrR vs=(0,0):=if_pos h
theorem ctrR_ne {vs:List P2}(h:¬(areaR vs).num=0):ctrR vs=(sumT (ceX vs) (vs.length - 2)*(Rat.divInt 1 1 / areaR vs),sumT (ceY vs) (vs.length - 2)*(Rat.divInt 1 1 / areaR vs)):=if_neg h
theorem cR6Center {w:World}{N:Nat}{vs:List P2}{lv:Value}{v0:Value}(h0:VEq lv v0 w)(hS:VSv N vs lv w)(hN3:3<=N:=by omega)(hbdc:6+vs.length*(11*N+11)<=900:=by omega):Calls Tryz.prog 42 #[v0] w (RV (Vv 3000 (ctrR vs).1 (ctrR vs).2) w):=by
 go_enter Tryz.func42,Tryz.ntmps42
 generalize hA:(⟨_,_⟩:Act)=a0;have st0:St w.heap.size w 63 [] [(0,VEq lv)] a0 w:=by subst hA;exact St.begin rfl rfl (Lq.2 ⟨⟨_,rfl,h0⟩,L0⟩)
 clear hA;have hmax:=VSv_max hS;have hn9:vs.length*(4*N+3)<=vs.length*(11*N+11):=Nat.mul_le_mul_left _ (by omega);have hbd6:6+vs.length*(4*N+3)<=900:=by omega
 refine Wn ?_
 refine rH [(30,4,0),(32,8,0)] [VT] [⟨2,some 0,none,32,8,VT,VT⟩] [(0,VEq lv)] st0 ⟨ks,trivial⟩ fun a1 w1 st1=>Wn ?_
 refine rH [(30,4,0),(32,8,0)] [VEq lv,Vq (6+vs.length*(4*N+3)) (areaR vs),VT,VT] [.k 2 32 8 VT,⟨3,some 2,some 3,30,4,Vq (6+vs.length*(4*N+3)) (areaR vs),VT⟩] [(0,VEq lv)] st1 ⟨ks,(kd1 fun _ _ _ h _ X0=>cR6Area X0 (VSv_later hS h.k.below) (by omega) hbd6),ks,ks,trivial⟩ ?_;intro a2 w2 st2;by_cases har:(areaR vs).num=0
 ·
  refine Wn ?_
  refine rH [(30,4,0),(32,8,0)] [Vq (6+vs.length*(4*N+3)) (areaR vs),Vi (cmpI (areaR vs).num 0),Vb true] [.k 2 32 8 VT,.k 3 30 4 (Vq (6+vs.length*(4*N+3)) (areaR vs))] [(0,VEq lv),(11,Vb true)] st2 ⟨ks,(kd1 fun _ _ _ _ _ X0=>cR4Sign X0),(kr1 10 fun _ _ _ _ _ x0 X0=>⟨_,run_eqi rfl (x0.trans X0) rfl,congrArg Value.bool (dT ((cmpI_zero _).2 har))⟩),trivial⟩ fun a3 w3 st3=>Wn ?_
  refine cT st3 ?_;refine Wn ?_
  refine rH [(30,4,0),(32,8,0)] [Vv 1 0 0,VT] [⟨2,none,some 1,32,8,Vv 1 0 0,VT⟩,.k 3 30 4 (Vq (6+vs.length*(4*N+3)) (areaR vs))] [(0,VEq lv),(11,Vb true)] st3 ⟨(kr fun _ ac Y h D=>build_Vec0 rfl),ks,trivial⟩ fun a4 w4 st4=>Wn ?_
  exact wp_ret (rC 2 32 (Vv 1 0 0) st4 fun cs r4=>(by rw [ctrR_zero har];exact Vv_le r4 (by omega)))
 ·
  refine Wn ?_
  refine rH [(30,4,0),(32,8,0)] [Vq (6+vs.length*(4*N+3)) (areaR vs),Vi (cmpI (areaR vs).num 0),Vb false] [.k 2 32 8 VT,.k 3 30 4 (Vq (6+vs.length*(4*N+3)) (areaR vs))] [(0,VEq lv),(11,Vb false)] st2 ⟨ks,(kd1 fun _ _ _ _ _ X0=>cR4Sign X0),(kr1 10 fun _ _ _ h _ x0 X0=>⟨_,run_eqi rfl (x0.trans X0) rfl,congrArg Value.bool (dF (fun h=>har ((cmpI_zero _).1 h)))⟩),trivial⟩ fun a3 w3 st3=>Wn ?_
  refine cF st3 ?_;refine Wn ?_
  refine rH [(30,4,0),(32,8,0)] [VT] [.k 2 32 8 VT,.k 3 30 4 (Vq (6+vs.length*(4*N+3)) (areaR vs)),⟨4,some 0,none,32,8,Vv 1 0 0,VT⟩] [(0,VEq lv),(11,Vb false)] st3 ⟨(k_allocV0 rfl rfl rfl rfl rfl rfl rfl rfl rfl (by kernel_rfl) (by first|exact trivial|exact⟨by kernel_rfl,⟨_,rfl⟩,rfl⟩)),trivial⟩ fun a4 w4 st4=>Wn ?_
  refine rH [(30,4,0),(32,8,0)] [Vi 1] [.k 2 32 8 VT,.k 3 30 4 (Vq (6+vs.length*(4*N+3)) (areaR vs)),.k 4 32 8 (Vv 1 0 0)] [(0,VEq lv),(11,Vb false),(5,Vi 1)] st4 ⟨ks,trivial⟩ ?_;intro a5 w5 st5;replace st5:St w.heap.size w 63 [.k 2 32 8 VT,.k 3 30 4 (Vq (6+vs.length*(4*N+3)) (areaR vs)),.k 4 32 8 (Vv 1 0 0)] [(0,VEq lv),(5,Vi ((0+1:Nat):Int))] a5 w5:=st5.cut;replace st5:St w.heap.size w 63 [.k 2 32 8 VT,.k 3 30 4 (Vq (6+vs.length*(4*N+3)) (areaR vs)),.k 4 32 8 (Vv (3+0*(11*N+11)) (sumT (ceX vs) 0) (sumT (ceY vs) 0))] [(0,VEq lv),(5,Vi ((0+1:Nat):Int))] a5 w5:=st5.weak [.k 2 32 8 VT,.k 3 30 4 (Vq (6+vs.length*(4*N+3)) (areaR vs)),.k 4 32 8 (Vv (3+0*(11*N+11)) (sumT (ceX vs) 0) (sumT (ceY vs) 0))] (Lq.2 ⟨⟨_,(.head _),rfl,rfl,rfl,rfl,rfl,rfl,rfl,fun _ _ h=>h⟩,(Lq.2 ⟨⟨_,(.tail _ (.head _)),rfl,rfl,rfl,rfl,rfl,rfl,rfl,fun _ _ h=>h⟩,(Lq.2 ⟨⟨_,(.tail _ (.tail _ (.head _))),rfl,rfl,rfl,rfl,rfl,rfl,rfl,fun _ _ h=>Vv_le h (by omega)⟩,L0⟩)⟩)⟩);refine Wn ?_
  refine wp_loop_ghost (fun m aX wX=>∃j:Nat,j+m=vs.length - 2/\St w.heap.size w 63 [.k 2 32 8 VT,.k 3 30 4 (Vq (6+vs.length*(4*N+3)) (areaR vs)),.k 4 32 8 (Vv (3+j*(11*N+11)) (sumT (ceX vs) j) (sumT (ceY vs) j))] [(0,VEq lv),(5,Vi ((j+1:Nat):Int))] aX wX) (vs.length - 2) ⟨0,by omega,st5⟩ ?_;intro m aL wL ⟨j,hj,st5⟩;have hmul:=Nat.mul_le_mul_right (11*N+11) (show j<=vs.length by omega);by_cases hlt:j+2<vs.length
  ·
   refine Wn ?_
   refine rH [(30,4,0),(32,8,0)] [Vi ((j+1:Nat):Int),Vi ((j+2:Nat):Int),VEq lv,Vi (vs.length:Int),Vb true] [.k 2 32 8 VT,.k 3 30 4 (Vq (6+vs.length*(4*N+3)) (areaR vs)),.k 4 32 8 (Vv (3+j*(11*N+11)) (sumT (ceX vs) j) (sumT (ceY vs) j))] [(0,VEq lv),(5,Vi ((j+1:Nat):Int)),(17,Vb true)] st5 ⟨ks,(kr1 13 fun _ _ _ _ v0 x0 X0=>⟨_,run_addi rfl (x0.trans (show v0= .int .i64 ((j+1:Nat):Int)from X0)) rfl wO,congrArg (Value.int .i64) (by omega)⟩),ks,(kr1 15 fun _ _ _ _ _ x0 X0=>len_Sv rfl rfl x0 X0 hS),(kr2 14 16 fun _ _ _ _ _ x0 X0 _ x1 X1=>⟨_,run_lssi rfl (x0.trans X0) (x1.trans X1),congrArg Value.bool (dT (by omega))⟩),trivial⟩ fun a6 w6 st6=>Wn ?_
   refine cT st6 ?_;have hN9:11*N+11<=900:=by have:=Nat.le_mul_of_pos_left (11*N+11) (show 0<vs.length by omega);omega
   have hg0:vs[0]? =some (cv vs 0):=by have:=cv_get (vs:=vs) 0 (by omega);rwa [Nat.zero_mod] at this
   have hg1:vs[(j+1)]? =some (cv vs (j+1)):=by have:=cv_get (vs:=vs) (j+1) (by omega);rwa [Nat.mod_eq_of_lt (by omega)] at this
   have hg2:vs[(j+2)]? =some (cv vs (j+2)):=by have:=cv_get (vs:=vs) (j+2) (by omega);rwa [Nat.mod_eq_of_lt (by omega)] at this
   refine Wn ?_
   refine rH [(30,4,0),(32,8,0)] [VEq lv,Vi ((j+1:Nat):Int),VAt w (VEp 32 8 (Vv N (cv vs (j+1)).1 (cv vs (j+1)).2)),Vv N ((cv vs (j+1)).1) ((cv vs (j+1)).2),VEq lv,VAt w (VEp 32 8 (Vv N (cv vs 0).1 (cv vs 0).2)),Vv N ((cv vs 0).1) ((cv vs 0).2),Vv (N+N+1) (((cv vs (j+1)).1) - ((cv vs 0).1)) (((cv vs (j+1)).2) - ((cv vs 0).2)),VEq lv,Vi ((j+1:Nat):Int),Vi ((j+2:Nat):Int),VAt w (VEp 32 8 (Vv N (cv vs (j+2)).1 (cv vs (j+2)).2)),Vv N ((cv vs (j+2)).1) ((cv vs (j+2)).2),VEq lv,VAt w (VEp 32 8 (Vv N (cv vs 0).1 (cv vs 0).2)),Vv N ((cv vs 0).1) ((cv vs 0).2),Vv (N+N+1) (((cv vs (j+2)).1) - ((cv vs 0).1)) (((cv vs (j+2)).2) - ((cv vs 0).2)),Vq (4*(N+N+1)+1) ((((cv vs (j+1)).1) - ((cv vs 0).1))*(((cv vs (j+2)).2) - ((cv vs 0).2)) - (((cv vs (j+1)).2) - ((cv vs 0).2))*(((cv vs (j+2)).1) - ((cv vs 0).1))),Vq 3 (Rat.divInt 1 6),Vq ((4*(N+N+1)+1)+3) (((((cv vs (j+1)).1) - ((cv vs 0).1))*(((cv vs (j+2)).2) - ((cv vs 0).2)) - (((cv vs (j+1)).2) - ((cv vs 0).2))*(((cv vs (j+2)).1) - ((cv vs 0).1)))*(Rat.divInt 1 6)),VT,VT] [.k 2 32 8 VT,.k 3 30 4 (Vq (6+vs.length*(4*N+3)) (areaR vs)),.k 4 32 8 (Vv (3+j*(11*N+11)) (sumT (ceX vs) j) (sumT (ceY vs) j)),⟨6,some 20,some 21,30,4,Vq ((4*(N+N+1)+1)+3) (((((cv vs (j+1)).1) - ((cv vs 0).1))*(((cv vs (j+2)).2) - ((cv vs 0).2)) - (((cv vs (j+1)).2) - ((cv vs 0).2))*(((cv vs (j+2)).1) - ((cv vs 0).1)))*(Rat.divInt 1 6)),VT⟩] [(0,VEq lv),(5,Vi ((j+1:Nat):Int)),(17,Vb true)] st6 ⟨ks,ks,(kr2 20 21 fun _ _ _ _ _ x0 X0 _ x1 X1=>index_Sv rfl x0 X0 hS x1 X1 hg1),(kr1 22 fun _ _ _ h _ x0 X0=>load_EpC (w:=w) (k:=8) (A:=Vv N (cv vs (j+1)).1 (cv vs (j+1)).2) (Stab_Vv _ _ _) rfl x0 X0 h.k.below Tryz.underlying32 rfl size_Vec),ks,(kr1 24 fun _ _ _ _ _ x0 X0=>index_Sv (j:=0) rfl x0 X0 hS rfl rfl hg0),(kr1 25 fun _ _ _ h _ x0 X0=>load_EpC (w:=w) (k:=8) (A:=Vv N (cv vs 0).1 (cv vs 0).2) (Stab_Vv _ _ _) rfl x0 X0 h.k.below Tryz.underlying32 rfl size_Vec),(kd2 fun _ _ _ _ _ X0 _ X1=>cR5Sub X0 X1),ks,ks,(kr1 29 fun _ _ _ _ v0 x0 X0=>⟨_,run_addi rfl (x0.trans (show v0= .int .i64 ((j+1:Nat):Int)from X0)) rfl wO,congrArg (Value.int .i64) (by omega)⟩),(kr2 28 30 fun _ _ _ _ _ x0 X0 _ x1 X1=>index_Sv rfl x0 X0 hS x1 X1 hg2),(kr1 31 fun _ _ _ h _ x0 X0=>load_EpC (w:=w) (k:=8) (A:=Vv N (cv vs (j+2)).1 (cv vs (j+2)).2) (Stab_Vv _ _ _) rfl x0 X0 h.k.below Tryz.underlying32 rfl size_Vec),ks,(kr1 33 fun _ _ _ _ _ x0 X0=>index_Sv (j:=0) rfl x0 X0 hS rfl rfl hg0),(kr1 34 fun _ _ _ h _ x0 X0=>load_EpC (w:=w) (k:=8) (A:=Vv N (cv vs 0).1 (cv vs 0).2) (Stab_Vv _ _ _) rfl x0 X0 h.k.below Tryz.underlying32 rfl size_Vec),(kd2 fun _ _ _ _ _ X0 _ X1=>cR5Sub X0 X1),(kd2 fun _ _ _ _ _ X0 _ X1=>cR5Cross X0 X1),(by refine kc fun _ ac Y h D=>?_;exact⟨#[.int .i64 1,.int .i64 6],by simp [eval_const],cR4Of (show Vi 1 (.int .i64 1) Y from rfl) (show Vi 6 (.int .i64 6) Y from rfl)⟩),(kd2 fun _ _ _ _ _ X0 _ X1=>cR4MulN X0 X1),ks,ks,trivial⟩ ?_;intro a7 w7 st7;replace st7:St w.heap.size w 63 [.k 2 32 8 VT,.k 3 30 4 (Vq (6+vs.length*(4*N+3)) (areaR vs)),.k 4 32 8 (Vv (3+j*(11*N+11)) (sumT (ceX vs) j) (sumT (ceY vs) j)),.k 6 30 4 (Vq (4*(N+N+1)+1+3) (prR vs j))] [(0,VEq lv),(5,Vi ((j+1:Nat):Int)),(17,Vb true)] a7 w7:=st7;refine Wn ?_
   refine rH [(30,4,0),(32,8,0)] [Vv (3+j*(11*N+11)) (sumT (ceX vs) j) (sumT (ceY vs) j),VEq lv,VAt w (VEp 32 8 (Vv N (cv vs 0).1 (cv vs 0).2)),Vv N ((cv vs 0).1) ((cv vs 0).2),VEq lv,Vi ((j+1:Nat):Int),VAt w (VEp 32 8 (Vv N (cv vs (j+1)).1 (cv vs (j+1)).2)),Vv N ((cv vs (j+1)).1) ((cv vs (j+1)).2),Vv (N+N+1) (((cv vs 0).1)+((cv vs (j+1)).1)) (((cv vs 0).2)+((cv vs (j+1)).2)),VEq lv,Vi ((j+1:Nat):Int),Vi ((j+2:Nat):Int),VAt w (VEp 32 8 (Vv N (cv vs (j+2)).1 (cv vs (j+2)).2)),Vv N ((cv vs (j+2)).1) ((cv vs (j+2)).2),Vv ((N+N+1)+N+1) ((((cv vs 0).1)+((cv vs (j+1)).1))+((cv vs (j+2)).1)) ((((cv vs 0).2)+((cv vs (j+1)).2))+((cv vs (j+2)).2)),Vq (4*(N+N+1)+1+3) (prR vs j),Vv (((N+N+1)+N+1)+(4*(N+N+1)+1+3)) (((((cv vs 0).1)+((cv vs (j+1)).1))+((cv vs (j+2)).1))*(prR vs j)) (((((cv vs 0).2)+((cv vs (j+1)).2))+((cv vs (j+2)).2))*(prR vs j)),Vv ((3+j*(11*N+11))+(((N+N+1)+N+1)+(4*(N+N+1)+1+3))+1) ((sumT (ceX vs) j)+(((((cv vs 0).1)+((cv vs (j+1)).1))+((cv vs (j+2)).1))*(prR vs j))) ((sumT (ceY vs) j)+(((((cv vs 0).2)+((cv vs (j+1)).2))+((cv vs (j+2)).2))*(prR vs j))),VT] [.k 2 32 8 VT,.k 3 30 4 (Vq (6+vs.length*(4*N+3)) (areaR vs)),⟨4,none,some 18,32,8,Vv ((3+j*(11*N+11))+(((N+N+1)+N+1)+(4*(N+N+1)+1+3))+1) ((sumT (ceX vs) j)+(((((cv vs 0).1)+((cv vs (j+1)).1))+((cv vs (j+2)).1))*(prR vs j))) ((sumT (ceY vs) j)+(((((cv vs 0).2)+((cv vs (j+1)).2))+((cv vs (j+2)).2))*(prR vs j))),Vv (3+j*(11*N+11)) (sumT (ceX vs) j) (sumT (ceY vs) j)⟩,.k 6 30 4 (Vq (4*(N+N+1)+1+3) (prR vs j))] [(0,VEq lv),(5,Vi ((j+1:Nat):Int)),(17,Vb true)] st7 ⟨ks,ks,(kr1 41 fun _ _ _ _ _ x0 X0=>index_Sv (j:=0) rfl x0 X0 hS rfl rfl hg0),(kr1 42 fun _ _ _ h _ x0 X0=>load_EpC (w:=w) (k:=8) (A:=Vv N (cv vs 0).1 (cv vs 0).2) (Stab_Vv _ _ _) rfl x0 X0 h.k.below Tryz.underlying32 rfl size_Vec),ks,ks,(kr2 44 45 fun _ _ _ _ _ x0 X0 _ x1 X1=>index_Sv rfl x0 X0 hS x1 X1 hg1),(kr1 46 fun _ _ _ h _ x0 X0=>load_EpC (w:=w) (k:=8) (A:=Vv N (cv vs (j+1)).1 (cv vs (j+1)).2) (Stab_Vv _ _ _) rfl x0 X0 h.k.below Tryz.underlying32 rfl size_Vec),(kd2 fun _ _ _ _ _ X0 _ X1=>cR5AddN X0 X1),ks,ks,(kr1 50 fun _ _ _ _ v0 x0 X0=>⟨_,run_addi rfl (x0.trans (show v0= .int .i64 ((j+1:Nat):Int)from X0)) rfl wO,congrArg (Value.int .i64) (by omega)⟩),(kr2 49 51 fun _ _ _ _ _ x0 X0 _ x1 X1=>index_Sv rfl x0 X0 hS x1 X1 hg2),(kr1 52 fun _ _ _ h _ x0 X0=>load_EpC (w:=w) (k:=8) (A:=Vv N (cv vs (j+2)).1 (cv vs (j+2)).2) (Stab_Vv _ _ _) rfl x0 X0 h.k.below Tryz.underlying32 rfl size_Vec),(kd2 fun _ _ _ _ _ X0 _ X1=>cR5AddN X0 X1),ks,(kd2 fun _ _ _ _ _ X0 _ X1=>cR5ScaleN X0 X1),(kd2 fun _ _ _ _ _ X0 _ X1=>cR5AddN X0 X1),ks,trivial⟩ fun a8 w8 st8=>Wn ?_
   refine rH [(30,4,0),(32,8,0)] [Vi ((j+1:Nat):Int),Vi ((j+1+1:Nat):Int),Vi ((j+1+1:Nat):Int)] [.k 2 32 8 VT,.k 3 30 4 (Vq (6+vs.length*(4*N+3)) (areaR vs)),.k 4 32 8 (Vv ((3+j*(11*N+11))+(((N+N+1)+N+1)+(4*(N+N+1)+1+3))+1) ((sumT (ceX vs) j)+(((((cv vs 0).1)+((cv vs (j+1)).1))+((cv vs (j+2)).1))*(prR vs j))) ((sumT (ceY vs) j)+(((((cv vs 0).2)+((cv vs (j+1)).2))+((cv vs (j+2)).2))*(prR vs j)))),.k 6 30 4 (Vq (4*(N+N+1)+1+3) (prR vs j))] [(0,VEq lv),(17,Vb true),(5,Vi ((j+1+1:Nat):Int))] st8 ⟨?s0,(kr1 18 fun _ _ _ _ v0 x0 X0=>⟨_,run_addi rfl (x0.trans (show v0= .int .i64 ((j+1:Nat):Int)from X0)) rfl wO,congrArg (Value.int .i64) (by omega)⟩),ks,trivial⟩ ?_
   case s0=>
    refine k_run0 SbB.out (by kernel_rfl) fun listed ac Y h D hnl=>⟨trivial,?_⟩
    obtain⟨v0,x0,X0⟩:=h.out0 hnl (5,Vi ((j+1:Nat):Int)) (.tail _ (.head _)) 2 (by kernel_rfl) (.inr (by kernel_rfl));exact⟨_,run_move rfl,by rw [x0];exact X0⟩
   intro a9 w9 st9;replace st9:St w.heap.size w 63 [.k 2 32 8 VT,.k 3 30 4 (Vq (6+vs.length*(4*N+3)) (areaR vs)),.k 4 32 8 (Vv ((3+j*(11*N+11))+(((N+N+1)+N+1)+(4*(N+N+1)+1+3))+1) ((sumT (ceX vs) j)+(((((cv vs 0).1)+((cv vs (j+1)).1))+((cv vs (j+2)).1))*(prR vs j))) ((sumT (ceY vs) j)+(((((cv vs 0).2)+((cv vs (j+1)).2))+((cv vs (j+2)).2))*(prR vs j))))] [(0,VEq lv),(5,Vi ((j+1+1:Nat):Int))] a9 w9:=st9.cut;have eS:=sumT_succ (ceX vs) j;have eT:=sumT_succ (ceY vs) j;have eM:3+(j+1)*(11*N+11)=(3+j*(11*N+11))+(11*N+11):=by rw [Nat.succ_mul];omega
   exact⟨m - 1,by omega,j+1,by omega,st9.weak [.k 2 32 8 VT,.k 3 30 4 (Vq (6+vs.length*(4*N+3)) (areaR vs)),.k 4 32 8 (Vv (3+(j+1)*(11*N+11)) (sumT (ceX vs) (j+1)) (sumT (ceY vs) (j+1)))] (Lq.2 ⟨⟨_,(.head _),rfl,rfl,rfl,rfl,rfl,rfl,rfl,fun _ _ h=>h⟩,(Lq.2 ⟨⟨_,(.tail _ (.head _)),rfl,rfl,rfl,rfl,rfl,rfl,rfl,fun _ _ h=>h⟩,(Lq.2 ⟨⟨_,(.tail _ (.tail _ (.head _))),rfl,rfl,rfl,rfl,rfl,rfl,rfl,fun _ _ h=>by rw [eS,eT];exact Vv_le h (by omega)⟩,L0⟩)⟩)⟩)⟩
  ·
   refine Wn ?_
   refine rH [(30,4,0),(32,8,0)] [Vi ((j+1:Nat):Int),Vi ((j+2:Nat):Int),VEq lv,Vi (vs.length:Int),Vb false] [.k 2 32 8 VT,.k 3 30 4 (Vq (6+vs.length*(4*N+3)) (areaR vs)),.k 4 32 8 (Vv (3+j*(11*N+11)) (sumT (ceX vs) j) (sumT (ceY vs) j))] [(0,VEq lv),(5,Vi ((j+1:Nat):Int)),(17,Vb false)] st5 ⟨ks,(kr1 13 fun _ _ _ _ v0 x0 X0=>⟨_,run_addi rfl (x0.trans (show v0= .int .i64 ((j+1:Nat):Int)from X0)) rfl wO,congrArg (Value.int .i64) (by omega)⟩),ks,(kr1 15 fun _ _ _ _ _ x0 X0=>len_Sv rfl rfl x0 X0 hS),(kr2 14 16 fun _ _ _ _ _ x0 X0 _ x1 X1=>⟨_,run_lssi rfl (x0.trans X0) (x1.trans X1),congrArg Value.bool (dF (by omega))⟩),trivial⟩ fun a6 w6 st6=>Wn ?_
   refine cF st6 ?_;have ej:j=vs.length - 2:=by omega
   refine Wn ?_
   refine rH [(30,4,0),(32,8,0)] [Vv (3+j*(11*N+11)) (sumT (ceX vs) j) (sumT (ceY vs) j),Vq 3 (Rat.divInt 1 1),Vq (6+vs.length*(4*N+3)) (areaR vs),Vq ((max 3 (6+vs.length*(4*N+3)))+(max 3 (6+vs.length*(4*N+3)))) ((Rat.divInt 1 1) / (areaR vs)),Vv ((3+j*(11*N+11))+((max 3 (6+vs.length*(4*N+3)))+(max 3 (6+vs.length*(4*N+3))))) ((sumT (ceX vs) j)*((Rat.divInt 1 1) / (areaR vs))) ((sumT (ceY vs) j)*((Rat.divInt 1 1) / (areaR vs))),VT] [⟨2,none,some 5,32,8,Vv ((3+j*(11*N+11))+((max 3 (6+vs.length*(4*N+3)))+(max 3 (6+vs.length*(4*N+3))))) ((sumT (ceX vs) j)*((Rat.divInt 1 1) / (areaR vs))) ((sumT (ceY vs) j)*((Rat.divInt 1 1) / (areaR vs))),VT⟩,.k 3 30 4 (Vq (6+vs.length*(4*N+3)) (areaR vs)),.k 4 32 8 (Vv (3+j*(11*N+11)) (sumT (ceX vs) j) (sumT (ceY vs) j))] [(0,VEq lv),(5,Vi ((j+1:Nat):Int)),(17,Vb false)] st6 ⟨ks,(by refine kc fun _ ac Y h D=>?_;exact⟨#[.int .i64 1,.int .i64 1],by simp [eval_const],cR4Of (show Vi 1 (.int .i64 1) Y from rfl) (show Vi 1 (.int .i64 1) Y from rfl)⟩),ks,(kd2 fun _ _ _ _ _ X0 _ X1=>cR4Div (Vq_le (M:=(max 3 (6+vs.length*(4*N+3)))) X0 (by omega)) (Vq_le (M:=(max 3 (6+vs.length*(4*N+3)))) X1 (by omega))),(kd2 fun _ _ _ _ _ X0 _ X1=>cR5ScaleN X0 X1),ks,trivial⟩ ?_;intro a7 w7 st7;refine Wn ?_
   exact wp_ret (rC 2 32 (Vv ((3+j*(11*N+11))+((max 3 (6+vs.length*(4*N+3)))+(max 3 (6+vs.length*(4*N+3))))) ((sumT (ceX vs) j)*((Rat.divInt 1 1) / (areaR vs))) ((sumT (ceY vs) j)*((Rat.divInt 1 1) / (areaR vs)))) st7 fun cs r4=>(by rw [ctrR_ne har];rw [ej] at r4;exact Vv_le r4 (by rw [<-ej];omega)))
end Go.Proofs.YteacdbgalloaiaaGreat
