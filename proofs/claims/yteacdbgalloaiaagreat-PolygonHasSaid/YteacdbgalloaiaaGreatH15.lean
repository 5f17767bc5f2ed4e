/- Contracts of the packages integer, rat, plane, polygon and their references. -/
import Derived.Test.YteacdbgalloaiaaGreatH14
import Derived.Test.YteacdbgalloaiaaGreatH5
import Derived.Test.YteacdbgalloaiaaGreatH6
import Derived.Deep.RegionWith
set_option linter.unusedVariables false
set_option maxRecDepth 100000
set_option maxHeartbeats 6400000
namespace Go.Proofs.YteacdbgalloaiaaGreat
open Go.RowKit
theorem cCross {w:World}{N:Nat}{a b c d:Rat}{v0 v1:Value}(h0:Vv N (a) (b) v0 w)(h1:Vv N (c) (d) v1 w)(hN1:1<=N:=by omega)(hN:N<=4000:=by omega):Calls Tryz.prog 107 #[v0,v1] w (RV (Vq (4*N+1) (a*d+ -b*c)) w):=by
 go_enter Tryz.func107,Tryz.ntmps107
 generalize hA:(⟨_,_⟩:Act)=a0;have st0:St w.heap.size w 18 [] [(0,Vv N (a) (b)),(1,Vv N (c) (d))] a0 w:=by subst hA;exact St.begin rfl rfl (Lq.2 ⟨⟨_,rfl,h0⟩,(Lq.2 ⟨⟨_,rfl,h1⟩,L0⟩)⟩)
 clear hA;refine Wn ?_
 refine rH [(30,4,0)] [VT,VT,VT] [⟨2,some 0,some 0,32,8,Vv N (a) (b),VT⟩,⟨3,some 1,some 1,32,8,Vv N (c) (d),VT⟩,⟨4,some 2,none,30,4,VT,VT⟩] [] st0 ⟨ks,ks,ks,trivial⟩ fun a1 w1 st1=>Wn ?_;clear st0
 have:Sb [(30,4,0)] (VR1 (Vv N (-(b)) (c))):=⟨Stab_VR1 (Stab_Vv _ _ _) (by kernel_rfl)⟩;refine rH [(30,4,0)] [Vpt a1 2 0,Vq N (a),Vpt a1 3 4,Vq N (d),Vv N (a) (d),Vpt a1 2 4,Vq N (b),Vq N (-(b)),Vpt a1 3 0,Vq N (c),Vv N (-(b)) (c),VR1 (Vv N (-(b)) (c)),Vq (4*N+1) ((a)*(d)+(-(b))*(c)),VT] [⟨2,none,none,32,8,Vv N (a) (b),VT⟩,⟨3,none,none,32,8,Vv N (c) (d),VT⟩,⟨4,none,some 13,30,4,Vq (4*N+1) ((a)*(d)+(-(b))*(c)),VT⟩] [] st1 ⟨ks,ks,ks,ks,(kr2 6 8 fun _ _ _ _ _ x0 X0 _ x1 X1=>build_pair rfl x0 x1 (AggV_Vq _ _) (AggV_Vq _ _) X0 X1),ks,ks,(kd1 fun _ _ _ _ _ X0=>cQNeg X0),ks,ks,(kr2 12 14 fun _ _ _ _ _ x0 X0 _ x1 X1=>build_pair rfl x0 x1 (AggV_Vq _ _) (AggV_Vq _ _) X0 X1),(by refine km fun _ A Y h D=>?_;obtain⟨v0,x0,X0⟩:=h.dp D 15;exact bslice_pair rfl x0 (AggV_Vv _ _ _) (Stab_Vv _ _ _) X0),(kd2 fun _ _ Y _ v0 X0 v1 X1=>cSumA X0 (show VR1 (Vv N (-(b)) (c)) v1 Y from X1)),ks,trivial⟩ ?_;intro a2 w2 st2;clear st1;refine Wn ?_
 exact wp_ret (rC 4 30 (Vq (4*N+1) ((a)*(d)+(-(b))*(c))) st2 fun cs r4=>r4)
theorem cVAdd {w:World}{N:Nat}{a b c d:Rat}{v0 v1:Value}(h0:Vv N (a) (b) v0 w)(h1:Vv N (c) (d) v1 w)(hN1:1<=N:=by omega)(hN:N<=4000:=by omega):Calls Tryz.prog 61 #[v0,v1] w (RV (Vv (N+N+1) (a+c) (b+d)) w):=by
 go_enter Tryz.func61,Tryz.ntmps61
 generalize hA:(⟨_,_⟩:Act)=a0;have st0:St w.heap.size w 16 [] [(0,Vv N (a) (b)),(1,Vv N (c) (d))] a0 w:=by subst hA;exact St.begin rfl rfl (Lq.2 ⟨⟨_,rfl,h0⟩,(Lq.2 ⟨⟨_,rfl,h1⟩,L0⟩)⟩)
 clear hA;refine Wn ?_
 refine rH [(32,8,0)] [VT,VT,VT] [⟨2,some 0,some 0,32,8,Vv N (a) (b),VT⟩,⟨3,some 1,some 1,32,8,Vv N (c) (d),VT⟩,⟨4,some 2,none,32,8,VT,VT⟩] [] st0 ⟨ks,ks,ks,trivial⟩ fun a1 w1 st1=>Wn ?_;clear st0
 refine rH [(32,8,0)] [Vpt a1 2 0,Vq N (a),Vpt a1 3 0,Vq N (c),Vq (N+N+1) ((a)+(c)),Vpt a1 2 4,Vq N (b),Vpt a1 3 4,Vq N (d),Vq (N+N+1) ((b)+(d)),Vv (N+N+1) ((a)+(c)) ((b)+(d)),VT] [⟨2,none,none,32,8,Vv N (a) (b),VT⟩,⟨3,none,none,32,8,Vv N (c) (d),VT⟩,⟨4,none,some 11,32,8,Vv (N+N+1) ((a)+(c)) ((b)+(d)),VT⟩] [] st1 ⟨ks,ks,ks,ks,(kd2 fun _ _ _ _ _ X0 _ X1=>cQAdd X0 X1),ks,ks,ks,ks,(kd2 fun _ _ _ _ _ X0 _ X1=>cQAdd X0 X1),(kr2 9 14 fun _ _ _ _ _ x0 X0 _ x1 X1=>build_Vec rfl x0 x1 (AggV_Vq _ _) (AggV_Vq _ _) X0 X1),ks,trivial⟩ fun a2 w2 st2=>Wn ?_;clear st1
 exact wp_ret (rC 4 32 (Vv (N+N+1) ((a)+(c)) ((b)+(d))) st2 fun cs r4=>r4)
theorem cVSub {w:World}{N:Nat}{a b c d:Rat}{v0 v1:Value}(h0:Vv N (a) (b) v0 w)(h1:Vv N (c) (d) v1 w)(hN1:1<=N:=by omega)(hN:N<=4000:=by omega):Calls Tryz.prog 132 #[v0,v1] w (RV (Vv (N+N+1) (a - c) (b - d)) w):=by
 go_enter Tryz.func132,Tryz.ntmps132
 generalize hA:(⟨_,_⟩:Act)=a0;have st0:St w.heap.size w 16 [] [(0,Vv N (a) (b)),(1,Vv N (c) (d))] a0 w:=by subst hA;exact St.begin rfl rfl (Lq.2 ⟨⟨_,rfl,h0⟩,(Lq.2 ⟨⟨_,rfl,h1⟩,L0⟩)⟩)
 clear hA;refine Wn ?_
 refine rH [(32,8,0)] [VT,VT,VT] [⟨2,some 0,some 0,32,8,Vv N (a) (b),VT⟩,⟨3,some 1,some 1,32,8,Vv N (c) (d),VT⟩,⟨4,some 2,none,32,8,VT,VT⟩] [] st0 ⟨ks,ks,ks,trivial⟩ fun a1 w1 st1=>Wn ?_;clear st0
 refine rH [(32,8,0)] [Vpt a1 2 0,Vq N (a),Vpt a1 3 0,Vq N (c),Vq (N+N+1) ((a) - (c)),Vpt a1 2 4,Vq N (b),Vpt a1 3 4,Vq N (d),Vq (N+N+1) ((b) - (d)),Vv (N+N+1) ((a) - (c)) ((b) - (d)),VT] [⟨2,none,none,32,8,Vv N (a) (b),VT⟩,⟨3,none,none,32,8,Vv N (c) (d),VT⟩,⟨4,none,some 11,32,8,Vv (N+N+1) ((a) - (c)) ((b) - (d)),VT⟩] [] st1 ⟨ks,ks,ks,ks,(kd2 fun _ _ _ _ _ X0 _ X1=>cQSub X0 X1),ks,ks,ks,ks,(kd2 fun _ _ _ _ _ X0 _ X1=>cQSub X0 X1),(kr2 9 14 fun _ _ _ _ _ x0 X0 _ x1 X1=>build_Vec rfl x0 x1 (AggV_Vq _ _) (AggV_Vq _ _) X0 X1),ks,trivial⟩ fun a2 w2 st2=>Wn ?_;clear st1
 exact wp_ret (rC 4 32 (Vv (N+N+1) ((a) - (c)) ((b) - (d))) st2 fun cs r4=>r4)
theorem cVCompare {w:World}{N:Nat}{a b c d:Rat}{v0 v1:Value}(h0:Vv N (a) (b) v0 w)(h1:Vv N (c) (d) v1 w)(hN1:1<=N:=by omega)(hN:N<=4000:=by omega):Calls Tryz.prog 125 #[v0,v1] w (RV (Vi (if cmpQ a c=0 then cmpQ b d else cmpQ a c)) w):=by
 go_enter Tryz.func125,Tryz.ntmps125
 generalize hA:(⟨_,_⟩:Act)=a0;have st0:St w.heap.size w 19 [] [(0,Vv N (a) (b)),(1,Vv N (c) (d))] a0 w:=by subst hA;exact St.begin rfl rfl (Lq.2 ⟨⟨_,rfl,h0⟩,(Lq.2 ⟨⟨_,rfl,h1⟩,L0⟩)⟩)
 clear hA;refine Wn ?_
 refine rH [] [VT,VT,Vi (0)] [⟨2,some 0,some 0,32,8,Vv N (a) (b),VT⟩,⟨3,some 1,some 1,32,8,Vv N (c) (d),VT⟩] [(4,Vi (0))] st0 ⟨ks,ks,ks,trivial⟩ fun a1 w1 st1=>Wn ?_;clear st0
 refine rH [] [Vpt a1 2 0,Vq N (a),Vpt a1 3 0,Vq N (c),Vi (cmpQ (a) (c)),Vi (cmpQ (a) (c))] [⟨2,none,none,32,8,Vv N (a) (b),VT⟩,⟨3,none,none,32,8,Vv N (c) (d),VT⟩] [(4,Vi (0)),(5,Vi (cmpQ (a) (c)))] st1 ⟨ks,ks,ks,ks,(kd2 fun _ _ _ _ _ X0 _ X1=>cQCompare X0 X1),ks,trivial⟩ ?_;intro a2 w2 st2;clear st1;by_cases hp:cmpQ a c=0
 ·
  refine Wn ?_
  refine rH [] [Vi (cmpQ (a) (c)),Vb (false)] [⟨2,none,none,32,8,Vv N (a) (b),VT⟩,⟨3,none,none,32,8,Vv N (c) (d),VT⟩] [(4,Vi (0)),(5,Vi (cmpQ (a) (c))),(12,Vb (false))] st2 ⟨ks,(by refine kr fun _ A Y h D=>?_;obtain⟨v0,x0,X0⟩:=h.dp D 11;have hV0':v0= .int .i64 (cmpQ (a) (c)):=X0;exact⟨_,run_neqi rfl (x0.trans hV0') rfl,congrArg Value.bool (by rw [hp];rfl)⟩),trivial⟩ ?_;intro a3 w3 st3;clear st2;refine Wn ?_
  refine cF st3 ?_;refine Wn ?_
  refine rH [] [Vpt a3 2 4,Vq N (b),Vpt a3 3 4,Vq N (d),Vi (cmpQ (b) (d)),Vi (cmpQ (b) (d))] [⟨2,none,none,32,8,Vv N (a) (b),VT⟩,⟨3,none,none,32,8,Vv N (c) (d),VT⟩] [(5,Vi (cmpQ (a) (c))),(12,Vb (false)),(4,Vi (cmpQ (b) (d)))] st3 ⟨ks,ks,ks,ks,(kd2 fun _ _ _ _ _ X0 _ X1=>cQCompare X0 X1),ks,trivial⟩ fun a4 w4 st4=>Wn ?_;clear st3
  exact wp_ret (rS 4 (Vi (cmpQ (b) (d))) st4 fun vr r4=>(by rw [if_pos hp];exact r4))
 ·
  refine Wn ?_
  refine rH [] [Vi (cmpQ (a) (c)),Vb (true)] [⟨2,none,none,32,8,Vv N (a) (b),VT⟩,⟨3,none,none,32,8,Vv N (c) (d),VT⟩] [(4,Vi (0)),(5,Vi (cmpQ (a) (c))),(12,Vb (true))] st2 ⟨ks,(kr1 11 fun _ _ _ _ _ x0 X0=>⟨_,run_neqi rfl (x0.trans X0) rfl,congrArg Value.bool (bne_iff_ne.2 hp)⟩),trivial⟩ fun a3 w3 st3=>Wn ?_;clear st2
  refine cT st3 ?_;refine Wn ?_
  refine rH [] [Vi (cmpQ (a) (c)),Vi (cmpQ (a) (c))] [⟨2,none,none,32,8,Vv N (a) (b),VT⟩,⟨3,none,none,32,8,Vv N (c) (d),VT⟩] [(5,Vi (cmpQ (a) (c))),(12,Vb (true)),(4,Vi (cmpQ (a) (c)))] st3 ⟨ks,ks,trivial⟩ fun a4 w4 st4=>Wn ?_;clear st3
  exact wp_ret (rS 4 (Vi (cmpQ (a) (c))) st4 fun vr r4=>(by rw [if_neg hp];exact r4))
theorem cSide {w:World}{N:Nat}{a b c d e f:Rat}{v0 v1 v2:Value}(h0:Vv N (a) (b) v0 w)(h1:Vv N (c) (d) v1 w)(h2:Vv N (e) (f) v2 w)(hN1:1<=N:=by omega)(hN:N<=1000:=by omega):Calls Tryz.prog 99 #[v0,v1,v2] w (RV (Vi (cmpI ((c - a)*(f - b)+ -(d - b)*(e - a)).num 0)) w):=by
 go_enter Tryz.func99,Tryz.ntmps99
 generalize hA:(⟨_,_⟩:Act)=a0;have st0:St w.heap.size w 15 [] [(0,Vv N (a) (b)),(1,Vv N (c) (d)),(2,Vv N (e) (f))] a0 w:=by subst hA;exact St.begin rfl rfl (Lq.2 ⟨⟨_,rfl,h0⟩,(Lq.2 ⟨⟨_,rfl,h1⟩,(Lq.2 ⟨⟨_,rfl,h2⟩,L0⟩)⟩)⟩)
 clear hA;refine Wn ?_
 refine rH [] [VT,VT,VT,Vi (0)] [⟨3,some 0,some 0,32,8,Vv N (a) (b),VT⟩,⟨4,some 1,some 1,32,8,Vv N (c) (d),VT⟩,⟨5,some 2,some 2,32,8,Vv N (e) (f),VT⟩] [(6,Vi (0))] st0 ⟨ks,ks,ks,ks,trivial⟩ fun a1 w1 st1=>Wn ?_;clear st0
 refine rH [] [Vv N (c) (d),Vv N (a) (b),Vv (N+N+1) ((c) - (a)) ((d) - (b)),Vv N (e) (f),Vv N (a) (b),Vv (N+N+1) ((e) - (a)) ((f) - (b)),Vq (4*(N+N+1)+1) (((c) - (a))*((f) - (b))+ -((d) - (b))*((e) - (a))),Vi (cmpI (((c) - (a))*((f) - (b))+ -((d) - (b))*((e) - (a))).num 0),Vi (cmpI (((c) - (a))*((f) - (b))+ -((d) - (b))*((e) - (a))).num 0)] [⟨3,none,none,32,8,Vv N (a) (b),VT⟩,⟨4,none,none,32,8,Vv N (c) (d),VT⟩,⟨5,none,none,32,8,Vv N (e) (f),VT⟩] [(6,Vi (cmpI (((c) - (a))*((f) - (b))+ -((d) - (b))*((e) - (a))).num 0))] st1 ⟨ks,ks,(kd2 fun _ _ _ _ _ X0 _ X1=>cVSub X0 X1),ks,ks,(kd2 fun _ _ _ _ _ X0 _ X1=>cVSub X0 X1),(kd2 fun _ _ _ _ _ X0 _ X1=>cCross X0 X1),(kd1 fun _ _ _ _ _ X0=>cQSign X0),ks,trivial⟩ fun a2 w2 st2=>Wn ?_;clear st1
 exact wp_ret (rS 6 (Vi (cmpI (((c) - (a))*((f) - (b))+ -((d) - (b))*((e) - (a))).num 0)) st2 fun vr r4=>r4)
section
variable {BT:List (TypeId×Nat×Nat)}
theorem arr8 {x:Array Value}(h:x.size=8):∃a b c d e f g h,x=#[a,b,c,d,e,f,g,h]:=by
 match x,h with
 |⟨[a,b,c,d,e,f,g,h]⟩,_=>exact⟨a,b,c,d,e,f,g,h,rfl⟩
end



structure MinI (l m:List Int)(k:Nat)(b:Int)(z:List Int):Prop where
 len:z.length=k
 dg:Dg z
 sum:val z - pw k*b=val (l.take k) - val (m.take k)
 lo:0<=b
 hi:b<=1
theorem MinI.start (l m:List Int):MinI l m 0 0 []:=⟨rfl,Dg_nil,by simp [val],by omega,by omega⟩
theorem MinI.keep {l m z:List Int}{k:Nat}{b:Int}(h:MinI l m k b z)(hl:Dg l)(hm:Dg m)(hv:0<=iat l k - iat m k - b):MinI l m (k+1) 0 (z++ [iat l k - iat m k - b]):=by
 have h1:=hl.all k;have h2:=hm.all k;have h3:=h.lo;have hs:=h.sum;have hlen:=h.len;refine⟨by rw [List.length_append,hlen];rfl,Dg_append h.dg (Dg_cons (by omega) (by omega) Dg_nil),?_,by omega,by omega⟩;rw [val_append,hlen,val_take',val_take'];show val z+pw k*((iat l k - iat m k - b)+1000000000*0) - 1000000000*pw k*0=_
 grind
theorem MinI.take_ {l m z:List Int}{k:Nat}{b:Int}(h:MinI l m k b z)(hl:Dg l)(hm:Dg m)(hv:iat l k - iat m k - b<0):MinI l m (k+1) 1 (z++ [iat l k - iat m k - b+1000000000]):=by
 have h1:=hl.all k;have h2:=hm.all k;have h3:=h.hi;have hs:=h.sum;have hlen:=h.len;refine⟨by rw [List.length_append,hlen];rfl,Dg_append h.dg (Dg_cons (by omega) (by omega) Dg_nil),?_,by omega,by omega⟩;rw [val_append,hlen,val_take',val_take'];show val z+pw k*((iat l k - iat m k - b+1000000000)+1000000000*0) - 1000000000*pw k*1=_
 grind
theorem MinI.done {l m z:List Int}{b:Int}(h:MinI l m l.length b z)(hml:m.length<=l.length)(hle:val m<=val l):DifP l m z:=by
 have hs:=h.sum;rw [List.take_length,List.take_of_length_le hml] at hs;have h1:=h.dg.hi;rw [h.len] at h1;have h2:=h.lo;have h3:=h.hi
 have hb:b=0:=by
  rcases Int.lt_or_le 0 b with h4|h4
  ·have:b=1:=by omega
   subst this;omega
  ·omega
 subst hb;exact⟨h.dg,by simpa using hs,h.len⟩
def MinL (w:World)(l m:List Int)(k:Nat)(b:Int)(v:Value)(wr:World):Prop:=∃z,MinI l m k b z/\GrowI w v z wr
theorem minus_any (a1 a2:Option Addr)(n1 c1 n2 c2:Nat)(l m:List Int)(w:World)(hR1:Rdi w a1 l)(hR2:Rdi w a2 m)(hn1:n1=l.length)(hn2:n2=m.length)(hd1:Dg l)(hd2:Dg m)(hm1:n1<=1099511627775)(hle:n2<=n1)(x0:val m<=val l):
 Calls Tryz.prog 140 #[.slice a1 n1 c1,.slice a2 n2 c2] w (NewS w (DifP l m)):=by
 obtain⟨i0,hi,hz0,hz1,hz2⟩:=info_parts info_i64;have H1:=hIq hR1;have H2:=hIq hR2;have N1:=hIq hn1;have N2:=hIq hn2;have D1:=hIq hd1;have D2:=hIq hd2;have hv:=hIq x0;have hI:Hid (MinL w l m 0 0 (.slice none 0 0) w):=hIq ⟨[],MinI.start l m,GrowI.start w⟩;clear hR1 hR2 hn1 hn2 hd1 hd2 x0
 go_enter Tryz.func140,Tryz.ntmps140
 go_wp2_with fail
 go_loopw [5,6,7] (fun v bv iv wr=>∃(k:Nat) (b:Int),k<=n1/\iv= .int .i64 (k:Int)/\bv= .int .i64 b/\MinL w l m k b v wr) (fun _ _ iv _=>n1 - (intOf iv).toNat)
 case atStart=>exact⟨0,0,by omega,rfl,rfl,hI.out⟩
 case round=>
  obtain⟨k,b,hk,rfl,rfl,z,hP,hG⟩:=hrel;clear hI;have hzl:Hid (z.length=k):=hIq hP.len;by_cases hlt:k<n1
  ·have hB:=hG.2;have gq:Hid (∀q,Calls Tryz.prog 148 #[.slice a2 n2 c2,.int .i64 (k:Int)] (wr.drewN q) fun e w'=>e= .returned (.int .i64 (iat m k))/\wr.drewN q=w'):=hIq fun q=>digit_any _ _ _ _ _ (wr.drewN q) (Rdi_below (below_drewN hB q) H2.out) N2.out
   obtain⟨b1,o1,rfl,hc1⟩:=Rdi_at H1.out k (by rw [<-N1.out];exact hlt);have cx:=Below.cell_of' hB hc1;have hx:=D1.out.all k;have hy:=D2.out.all k;have hb0:=hP.lo;have hb1:=hP.hi;have hkeep:=hIq (fun h=>hP.keep D1.out D2.out h);have htake:=hIq (fun h=>hP.take_ D1.out D2.out h);obtain⟨x,hxx⟩:∃x,iat l k=x:=⟨_,rfl⟩;obtain⟨y,hyy⟩:∃y,iat m k=y:=⟨_,rfl⟩;rw [hxx] at cx hx hkeep htake;rw [hyy] at gq hy hkeep htake;obtain⟨hx1,hx2⟩:=hx;obtain⟨hy1,hy2⟩:=hy;have hG':=hIq hG;have hsz:=hB.size;have k0:0<=(k:Int):=by omega
   have k1:(k:Int)<(n1:Int):=by omega
   have k2:((k:Int)).toNat=k:=by omega
   have s0: -1000000000<x - y:=by omega
   have s1:x - y<1000000000:=by omega
   have s2: -1000000001<x - y - b:=by omega
   have s3:x - y - b<1000000000:=by omega
   clear hP hG hB hxx hyy hc1;by_cases hneg:x - y - b<0
   ·have hst:=hIq (htake.out hneg);have s4:0<=x - y - b+1000000000:=by omega
    clear hkeep htake;go_wp2_with fail
    go_quiet ((go_at_call 148;exact q_left (gq.out _)))
    have hGq:=hIq (hG'.out.drewN nq);have hsq:w.heap.size<=(wr.drewN nq).heap.size:=hsz;generalize wr.drewN nq=wq at hGq hsq ⊢;clear cx hG';go_wp2_with (at_builtin;refine wpList_append_own _ rfl _ _ 22 rfl w.heap.size 3 i0 (.int .i64 0) 1 8 Tryz.underlying22 hi hz0 hz1 hz2 rfl (by decide) _ _ _ rfl (hGq.out.1.alloc _) ⟨wq.heap.size,0,none⟩ 1 1 [.int .i64 (x - y - b+1000000000)] rfl rfl (cell_one_new _ _ _) (by intro u hu;simp at hu;subst hu;rfl) (by rw [hzl.out];unfold maxLen;omega) (by rw [hzl.out];omega) (by simp;omega) ?_;intro v2 w2 ho2 hg2 _;have hG2:=hIq (hGq.out.push ho2 hg2);clear ho2 hg2)
    exact⟨⟨k+1,_,by omega,by simp,rfl,_,hst.out,hG2.out⟩,by simp only [intOf];omega⟩
   ·have hst:=hIq (hkeep.out (by omega));clear hkeep htake;go_wp2_with fail
    go_quiet ((go_at_call 148;exact q_left (gq.out _)))
    have hGq:=hIq (hG'.out.drewN nq);have hsq:w.heap.size<=(wr.drewN nq).heap.size:=hsz;generalize wr.drewN nq=wq at hGq hsq ⊢;clear cx hG';go_wp2_with (at_builtin;refine wpList_append_own _ rfl _ _ 22 rfl w.heap.size 3 i0 (.int .i64 0) 1 8 Tryz.underlying22 hi hz0 hz1 hz2 rfl (by decide) _ _ _ rfl (hGq.out.1.alloc _) ⟨wq.heap.size,0,none⟩ 1 1 [.int .i64 (x - y - b)] rfl rfl (cell_one_new _ _ _) (by intro u hu;simp at hu;subst hu;rfl) (by rw [hzl.out];unfold maxLen;omega) (by rw [hzl.out];omega) (by simp;omega) ?_;intro v2 w2 ho2 hg2 _;have hG2:=hIq (hGq.out.push ho2 hg2);clear ho2 hg2)
    exact⟨⟨k+1,_,by omega,by simp,rfl,_,hst.out,hG2.out⟩,by simp only [intOf];omega⟩
  ·have hk':k=n1:=by omega
   subst hk';have hf:=hIq (hG.done (MinI.done (by rw [<-N1.out];exact hP) (by rw [<-N1.out,<-N2.out];exact hle) hv.out));clear hP hG;go_wp2_with fail
   go_ret
   exact hf.out
theorem Ar2.other {w W:World}{nx:Bool}{px:Option Addr}{lx cx:Nat}{ny:Bool}{py:Option Addr}{ly cy:Nat}(h:Ar2 w nx px lx cx ny py ly cy W){g i:Nat}{v:Value}(hg:w.heap.size+1+1<g):Ar2 w nx px lx cx ny py ly cy (W.setCell ⟨g,i,none⟩ v):=by
 obtain⟨h1,h2,⟨u,v,h3⟩,h4⟩:=h;refine⟨?_,?_,⟨u,v,?_⟩,h4.setCell (by simp;omega) _⟩
 ·rw [heap_setCell_other _ _ _ _ (by simp;omega)];exact h1
 ·rw [heap_setCell_other _ _ _ _ (by simp;omega)];exact h2
 ·rw [heap_setCell_other _ _ _ _ (by simp;omega)];exact h3
def RMulL (w:World)(nx:Bool)(px:Option Addr)(lx cx:Nat)(ny:Bool)(py:Option Addr)(ly cy:Nat)(g:Nat)(l m:List Int)(i:Nat)(wr:World):Prop:=∃z,MulA l m i z/\Blk wr g z/\Ar2 w nx px lx cx ny py ly cy wr
def RMulM (w:World)(nx:Bool)(px:Option Addr)(lx cx:Nat)(ny:Bool)(py:Option Addr)(ly cy:Nat)(g:Nat)(l m:List Int)(i j:Nat)(over:Int)(wr:World):Prop:=∃z,MulB l m i j over z/\Blk wr g z/\Ar2 w nx px lx cx ny py ly cy wr
theorem rMul_any (nx ny:Bool)(px py:Option Addr)(lx cx ly cy:Nat)(x y:Int)(w:World)(hx0:IntZ w nx px lx cx x)(hy0:IntZ w ny py ly cy y)(hlx:lx<=549755813887)(hly:ly<=549755813887):
 Calls Tryz.prog 95 #[.agg #[.bool nx,.slice px lx cx],.agg #[.bool ny,.slice py ly cy]] w (RetI w (x*y)):=by
 have H1:=hIq hx0.2.2.1;have H2:=hIq hy0.2.2.1;have N1:=hIq hx0.2.1;have N2:=hIq hy0.2.1;have D1:=hIq (Dg_digs x.natAbs);have D2:=hIq (Dg_digs y.natAbs)
 have hsg:Hid (sg (nx !=ny) (val (digs x.natAbs)*val (digs y.natAbs))=x*y):=hIq (by
  rw [val_digs,val_digs];have h1:=wk_neg hx0.1;have h2:=wk_neg hy0.1;by_cases hxz:x=0
  ·subst hxz;cases nx<;>cases ny<;>simp [sg]
  ·by_cases hyz:y=0
   ·subst hyz;cases nx<;>cases ny<;>simp [sg]
   ·rw [hx0.1 hxz,hy0.1 hyz];exact mul_sg x y)
 have hS0:=hIq (@Ar2.start nx px lx cx ny py ly cy w);have hf:=hIq (fun W (h:Ar2 w nx px lx cx ny py ly cy W)=>h.facts);generalize digs x.natAbs=l at H1 N1 D1 hsg;generalize digs y.natAbs=m at H2 N2 D2 hsg;clear hx0 hy0;have hmk:=run_make_row' (P:=Tryz.prog) 22 3 (.int .i64 0) 8 Tryz.underlying22 info_i64 rfl .i64 .i64 (lx+ly) (by omega) (by omega);rw [zvs_zeros,show((lx+ly:Nat):Int)=(lx:Int)+(ly:Int) by omega] at hmk;obtain⟨Z,hZ⟩:∃Z,zvs (List.replicate (lx+ly) 0)=Z:=⟨_,rfl⟩;rw [hZ] at hmk;have hZ':=hIq hZ;clear hZ
 go_enter Tryz.func95,Tryz.ntmps95
 go_upto_region 1 with fail
 generalize((w.alloc (.cells #[.bool nx,.slice px lx cx] 28)).alloc (.cells #[.bool ny,.slice py ly cy] 28)).alloc (.cells #[.bool false,.slice none 0 0] 28)=W0 at hS0 ⊢;have hS1:=hS0.out;have hf1:=hf.out _ hS1;have hI:Hid (RMulL w nx px lx cx ny py ly cy W0.heap.size l m 0 (W0.alloc (.cells Z.toArray 3))):=hIq ⟨_,MulA.start l m,by rw [<-N1.out,<-N2.out];have:=hZ'.out;rw [<-this];exact Blk_new _ _,hS1.later (below_new _ _)⟩;have hgt:Hid (w.heap.size+1+1<W0.heap.size):=hIq hS1.top;clear hS0;go_wp2_with fail
 generalize W0.alloc (.cells Z.toArray 3)=w1 at hI ⊢;generalize W0.heap.size=g at hI hgt ⊢;clear hmk hS1 hf1
 go_loopw [6] (fun iv wr=>∃k:Nat,k<=lx/\iv= .int .i64 (k:Int)/\RMulL w nx px lx cx ny py ly cy g l m k wr) (fun iv _=>lx - (intOf iv).toNat)
 case atStart=>exact⟨0,Nat.zero_le _,rfl,hI.out⟩
 case round=>
  obtain⟨i,hi,rfl,hL⟩:=hrel;clear hI;have hf2:_:=hf.out _ hL.choose_spec.2.2;by_cases hlt:i<lx
  ·have hM:Hid (RMulM w nx px lx cx ny py ly cy g l m i 0 0 wr):=hIq (by
    obtain⟨z,hA,hz,hB⟩:=hL
    exact⟨z,hA.row,hz,hB⟩)
   have i0:0<=(i:Int):=by omega
   have i1:(i:Int)<(lx:Int):=by omega
   clear hL;go_wp2_with fail
   obtain⟨wo,rfl⟩:∃wo:World,wo=wr:=⟨_,rfl⟩;clear hf2;have hlt':=hIq hlt;clear hlt
   go_loopw [7,8] (fun ov jv wr=>∃(j:Nat) (over:Int),j<=ly/\jv= .int .i64 (j:Int)/\ov= .int .i64 over/\RMulM w nx px lx cx ny py ly cy g l m i j over wr) (fun _ jv _=>ly - (intOf jv).toNat)
   case atStart=>exact⟨0,0,Nat.zero_le _,rfl,rfl,hM.out⟩
   case round=>
    obtain⟨j,over,hj,rfl,rfl,z,hB,hz,hA2⟩:=hrel;clear hM;have hf3:=hf.out _ hA2;have hil:i<l.length:=by rw [<-N1.out];exact hlt'.out
    by_cases hlt:j<ly
    ·obtain⟨b1,o1,hpx,hcx0⟩:=Rdi_at H1.out i hil;obtain⟨b2,o2,hpy,hcy0⟩:=Rdi_at H2.out j (by rw [<-N2.out];exact hlt);have kx:=Below.cell_of' hA2.2.2.2 hcx0;have ky:=Below.cell_of' hA2.2.2.2 hcy0;have hkz:i+j<z.length:=by rw [hB.len,<-N1.out,<-N2.out];omega
     have cz:=hz.cell hkz;have cf:=hz.free (i+j);have hx1:=D1.out.all i;have hnx:=hB.next hil (by rw [<-N2.out];exact hlt) hx1.1 hx1.2 D2.out;have hst:Hid (∀q,RMulM w nx px lx cx ny py ly cy g l m i (j+1) ((iat l i*iat m j+iat z (i+j)+over) / 1000000000) ((wr.drewN q).setCell ⟨g,i+j,none⟩ (.int .i64 ((iat l i*iat m j+iat z (i+j)+over) % 1000000000)))):=hIq fun q=>⟨_,hnx,Blk.set (hz.drewN q) _ _,(hA2.later (below_drewN (Below.refl _ _) q)).other hgt.out⟩
     have hy1:=D2.out.all j;have hz1:=hB.dg.all (i+j);have ho1:=hB.lo;have ho2:=hB.hi;have hmd:=mul_digit hx1.1 hx1.2 hy1.1 hy1.2 hz1.1 hz1.2 ho1 ho2;obtain⟨x',hxx⟩:∃x,iat l i=x:=⟨_,rfl⟩;obtain⟨y',hyy⟩:∃y,iat m j=y:=⟨_,rfl⟩;obtain⟨v,hvv⟩:∃v,iat z (i+j)=v:=⟨_,rfl⟩;rw [hxx] at kx hst hmd;rw [hyy] at ky hst hmd;rw [hvv] at cz hst hz1 hmd;rw [Int.add_comm (x'*y') v] at hst hmd;obtain⟨q1,q2,q3,q4⟩:=hmd;obtain⟨hz3,hz4⟩:=hz1;have j0:0<=(j:Int):=by omega
     have j1:(j:Int)<(ly:Int):=by omega
     have j2:(i:Int)+(j:Int)<(lx:Int)+(ly:Int):=by omega
     have j3:0<=(i:Int)+(j:Int):=by omega
     have j4:((i:Int)+(j:Int)).toNat=i+j:=by omega
     have j5:((i:Int)).toNat=i:=by omega
     have j6:((j:Int)).toNat=j:=by omega
     have v1:0<=v+x'*y':=by omega
     have v2:v+x'*y'<2000000000000000000:=by omega
     have u1:IntKind.i64.wrap ((i:Int)+(j:Int))=(i:Int)+(j:Int):=IntWalk.i64_in _ (by omega);have u2:IntKind.i64.wrap (x'*y')=x'*y':=IntWalk.i64_in _ (by omega);have u3:IntKind.i64.wrap (v+x'*y')=v+x'*y':=IntWalk.i64_in _ (by omega);have u4:IntKind.i64.wrap (v+x'*y'+over)=v+x'*y'+over:=IntWalk.i64_in _ (by omega);have hfin2:Hid (ly - (j+1)<ly - j):=hIq (by omega);subst hpx hpy;clear hB hz hA2 hcx0 hcy0 hkz hil hnx hxx hyy hvv hx1 hy1 hlt;go_wp2_with fail
     go_quiet (fail)
     have czq:(wr.drewN nq).cell? ⟨g,i+j,none⟩=some (.int .i64 v):=cz;have cfq:(wr.drewN nq).frozen? ⟨g,i+j,none⟩=false:=cf;have hstq:=hIq (hst.out nq);generalize wr.drewN nq=wq at czq cfq hstq ⊢;clear cz cf kx ky hf3 u2 u3 u4;go_wp2_with fail
     exact⟨⟨j+1,_,by omega,by simp,rfl,hstq.out⟩,by simp [intOf];exact hfin2.out⟩
    ·obtain rfl:ly=j:=by omega
     have hkz:i+ly<z.length:=by rw [hB.len,<-N1.out,<-N2.out];have:=hlt'.out;omega
     have cz:=hz.cell hkz;have cf:=hz.free (i+ly);rw [N2.out] at hB;have hdn:=hB.done hil;rw [<-N2.out] at hdn;have hst:Hid (RMulL w nx px lx cx ny py ly cy g l m (i+1) (wr.setCell ⟨g,i+ly,none⟩ (.int .i64 over))):=hIq ⟨_,hdn,hz.set _ _,hA2.other hgt.out⟩;have hii:=hlt'.out;have hii2:Hid (lx - (i+1)<lx - i):=hIq (by omega);have j0:0<=(ly:Int):=by omega
     generalize iat z (i+ly)=v at cz;clear hB hz hA2 hil hkz hdn hlt;go_wp2_with fail
     exact⟨⟨i+1,by omega,by simp,hst.out⟩,by simp [intOf];exact hii2.out⟩
  ·have hk':i=lx:=by omega
   subst hk';obtain⟨z,hA,hz,hB⟩:=hL;have hno:Hid (Calls Tryz.prog 122 #[.bool (!nx==ny),.slice (some ⟨g,0,none⟩) (i+ly) (i+ly)] wr (RetF (fun q=>some (⟨g,0,none⟩:Addr)=some q) wr (sg (!nx==ny) (val z)))):=hIq (normal_any _ _ _ _ z wr hz.rdi (by rw [hA.len,N1.out,N2.out]) (Nat.le_refl _) (by omega) hA.dg);have hsg2:Hid (sg (!nx==ny) (val z)=x*y):=hIq (by rw [hA.sum,N1.out,List.take_length,<-hsg.out];cases nx<;>cases ny<;>rfl);have hB':=hB;clear hz hA hB hsg;go_wp2_with fail
   refine hno.out.mono ?_
   rintro e w2 ⟨nb,p,n2,c2,rfl,hI0,hb2,hp0⟩
   have hS2:=hB'.later hb2;have hf4:=hf.out _ hS2
   have hfin:=hIq (hS2.ret hI0 (fun q hq=>by
    have:=hp0 q hq;cases this
    exact hgt.out) hsg2.out)
   clear hI0 hb2 hp0;go_wp2_with fail
   exact bodyPost_ret (v:= .agg #[.bool nb,.slice p n2 c2]) (results_cell_row rfl _ _ (w.heap.size+1+1) 28 _ (0,0) _ rfl (hS2.res _ _) Tryz.underlying28 rfl size_Int) rfl hfin.out
theorem compared_any (a1 a2:Option Addr)(n1 c1 n2 c2:Nat)(x y:Nat)(w:World)(hR1:Rdi w a1 (digs x))(hR2:Rdi w a2 (digs y))(hn1:n1=(digs x).length)(hn2:n2=(digs y).length)(hm1:n1<=9223372036854775807)(hm2:n2<=9223372036854775807):
 Calls Tryz.prog 128 #[.slice a1 n1 c1,.slice a2 n2 c2] w fun e w'=>e= .returned (.int .i64 (cmpI x y))/\Below w.heap.size w w':=by
 have H1:=hIq hR1;have H2:=hIq hR2;have N1:=hIq hn1;have N2:=hIq hn2;clear hR1 hR2 hn1 hn2;rcases Nat.lt_trichotomy n1 n2 with hlt|heq|hgt
 ·have t1:(n1:Int)<(n2:Int):=by omega
  have hr:Hid (cmpI x y= -1):=hIq (by rw [<-cmp_len (by rw [<-N1.out,<-N2.out];omega),<-N1.out,<-N2.out];exact cmp_lt t1)
  go_enter Tryz.func128,Tryz.ntmps128
  go_wp2_with fail
  go_ret
  exact⟨by rw [hr.out];rfl,Below.refl _ _⟩
 ·subst heq;have t1:¬(n1:Int)<(n1:Int):=by omega
  have HL:Hid ((digs x).length=(digs y).length):=hIq (by rw [<-N1.out,<-N2.out])
  go_enter Tryz.func128,Tryz.ntmps128
  go_wp2_with fail
  go_loopw [5] (fun i wr=>∃k:Nat,k<=n1/\i= .int .i64 ((k:Int) - 1)/\Hid ((digs x).drop k=(digs y).drop k)/\Below w.heap.size w wr) (fun i _=>(intOf i+1).toNat)
  case atStart=>exact⟨n1,Nat.le_refl _,rfl,hIq (by rw [List.drop_of_length_le (by rw [<-N1.out];exact Nat.le_refl _),List.drop_of_length_le (by rw [<-N2.out];exact Nat.le_refl _)]),Below.refl _ _⟩
  case round=>
   obtain⟨k,hk,rfl,D,hB⟩:=hrel;by_cases h0:k=0
   ·subst h0
    have hr:Hid (cmpI x y=0):=hIq (by
     have:=D.out;rw [List.drop_zero,List.drop_zero] at this
     rw [digs_inj this];exact cmp_eq _)
    have hB':=hIq hB;clear hB;rw [show((0:Nat):Int) - 1= -1 from rfl];go_wp2_with fail
    go_ret
    exact⟨by rw [hr.out];rfl,hB'.out⟩
   ·obtain⟨j,rfl⟩:∃j,k=j+1:=⟨k - 1,by omega⟩;obtain⟨b1,o1,rfl,hc1⟩:=Rdi_at H1.out j (by rw [<-N1.out];omega);obtain⟨b2,o2,rfl,hc2⟩:=Rdi_at H2.out j (by rw [<-N2.out];omega);have C1:=Below.cell_of' hB hc1;have C2:=Below.cell_of' hB hc2;have hB':=hIq hB;obtain⟨X,hX⟩:∃X,iat (digs x) j=X:=⟨_,rfl⟩;obtain⟨Y,hY⟩:∃Y,iat (digs y) j=Y:=⟨_,rfl⟩;rw [hX] at C1;rw [hY] at C2;have hX':=hIq hX;have hY':=hIq hY;have hj1:j<(digs x).length:=by rw [<-N1.out];omega
    have e3:(j:Int)<(n1:Int):=by omega
    have e4:0<=(j:Int):=by omega
    have e5:((j:Int)).toNat=j:=by omega
    clear hB hc1 hc2 hX hY h0;rw [show((j+1:Nat):Int) - 1=(j:Int) by omega];rcases Int.lt_trichotomy X Y with hXY|hXY|hXY
    ·have hn:X<Y:=hXY;have hr:Hid (cmpI x y= -1):=hIq (by rw [<-cmp_top HL.out j hj1 D.out (by rw [hX'.out,hY'.out];omega),hX'.out,hY'.out];exact cmp_lt hXY);clear hXY;go_wp2_with fail
     go_quiet (fail)
     go_wp2_with fail
     go_ret
     exact⟨by rw [hr.out];rfl,below_drewN hB'.out _⟩
    ·subst hXY;have hn:¬X<X:=by omega
     have hs:Hid ((digs x).drop j=(digs y).drop j):=hIq (drop_same HL.out j hj1 D.out (by rw [hX'.out,hY'.out]));go_wp2_with fail
     go_quiet (fail)
     go_wp2_with fail
     have hBq:=hIq (below_drewN hB'.out nq);have C1q:(wr.drewN nq).cell? ⟨b1,o1+j,none⟩=some (.int .i64 X):=C1;have C2q:(wr.drewN nq).cell? ⟨b2,o2+j,none⟩=some (.int .i64 X):=C2;generalize wr.drewN nq=wq at hBq C1q C2q ⊢;clear C1 C2
     go_quiet (fail)
     go_wp2_with fail
     exact⟨⟨j,by omega,by simp,hs,below_drewN hBq.out _⟩,by simp [intOf]⟩
    ·have hn:¬X<Y:=by omega
     have hn2:Y<X:=hXY;have hr:Hid (cmpI x y=1):=hIq (by rw [<-cmp_top HL.out j hj1 D.out (by rw [hX'.out,hY'.out];omega),hX'.out,hY'.out];exact cmp_gt hXY);clear hXY;go_wp2_with fail
     go_quiet (fail)
     go_wp2_with fail
     have hBq:=hIq (below_drewN hB'.out nq);have C1q:(wr.drewN nq).cell? ⟨b1,o1+j,none⟩=some (.int .i64 X):=C1;have C2q:(wr.drewN nq).cell? ⟨b2,o2+j,none⟩=some (.int .i64 Y):=C2;generalize wr.drewN nq=wq at hBq C1q C2q ⊢;clear C1 C2
     go_quiet (fail)
     go_wp2_with fail
     go_ret
     exact⟨by rw [hr.out];rfl,below_drewN hBq.out _⟩
 ·have t1:¬(n1:Int)<(n2:Int):=by omega
  have t2:(n2:Int)<(n1:Int):=by omega
  have hr:Hid (cmpI x y=1):=hIq (by rw [<-cmp_len (by rw [<-N1.out,<-N2.out];omega),<-N1.out,<-N2.out];exact cmp_gt t2)
  go_enter Tryz.func128,Tryz.ntmps128
  go_wp2_with fail
  go_ret
  exact⟨by rw [hr.out];rfl,Below.refl _ _⟩
theorem rAdd_same (nx:Bool)(px py:Option Addr)(lx cx ly cy:Nat)(x y:Int)(w:World)(hx0:IntZ w nx px lx cx x)(hy0:IntZ w nx py ly cy y)(hlx:lx<=549755813887)(hly:ly<=549755813887):
 Calls Tryz.prog 117 #[.agg #[.bool nx,.slice px lx cx],.agg #[.bool nx,.slice py ly cy]] w (RetI w (x+y)):=by
 have hx:=hIq hx0;have hy:=hIq hy0
 have hca:Hid (∀W,Ar2 w nx px lx cx nx py ly cy W->Calls Tryz.prog 139 #[.slice px lx cx,.slice py ly cy] W (NewS W (SumP (digs x.natAbs) (digs y.natAbs)))):=
  hIq fun W h=>plus_any _ _ _ _ _ _ _ _ W (Rdi_below h.2.2.2 hx0.2.2.1) (Rdi_below h.2.2.2 hy0.2.2.1) hx0.2.1 hy0.2.1 (Dg_digs _) (Dg_digs _) (by omega) (by omega)
 have hf:=fun W (h:Ar2 w nx px lx cx nx py ly cy W)=>h.facts
 have hS0:=hIq (@Ar2.start nx px lx cx nx py ly cy w);have hsg:Hid (sg nx (val (digs x.natAbs)+val (digs y.natAbs))=x+y):=hIq (by rw [val_digs,val_digs];exact same_neg hx0.1 hy0.1 rfl);have hle:Hid ((digs x.natAbs).length=lx/\(digs y.natAbs).length=ly):=hIq ⟨hx0.2.1.symm,hy0.2.1.symm⟩;have hnn:(nx== !nx)=false:=by cases nx<;>rfl
 clear hx0 hy0
 go_enter Tryz.func117,Tryz.ntmps117
 go_wp2_with fail
 generalize((w.alloc (.cells #[.bool nx,.slice px lx cx] 28)).alloc (.cells #[.bool nx,.slice py ly cy] 28)).alloc (.cells #[.bool false,.slice none 0 0] 28)=W0 at hS0 ⊢;have hS1:=hS0.out;clear hS0
 go_region_held3 (fun W=>Ar2 w nx px lx cx nx py ly cy W) (first|exact Ar2.drew (by assumption)|exact Ar2.later (by assumption) (by assumption)|exact Ar2.store (by assumption) _ _) (first|(go_at_call 139;refine(hca.out _ (by assumption)).mono ?_;rintro e w1 ⟨p1,n,c1,z,rfl,hz0,hn0,hnc,hcm,hp10,hb1,hP0⟩;have hp1:=hIq hp10;have hz:=hIq hz0;have hn:=hIq hn0;have hP:=hIq hP0;have hnl:n<=1099511627774:=(by have:=hP0.2.2;have:=hle.out;omega);clear hz0 hn0 hP0 hp10)|(go_at_call 122;refine(normal_any _ p1 n c1 z _ hz.out hn.out.symm hnc hcm hP.out.1).mono ?_;rintro e w2 ⟨nb,p,n2,c2,rfl,hI0,hb2,hp0⟩;have hI:=hIq hI0;have hp:=hIq hp0;clear hI0 hp0))
 have hS2:=(hS1.drew.later hb1).later hb2;have hgt:∀q,p=some q->w.heap.size+1+1<q.block:=fun q hq=>Nat.lt_of_lt_of_le hS1.drew.top (hp1.out q (hp.out q hq))
 have hfin:=hIq (hS2.ret hI.out hgt (by rw [hP.out.2.1,<-hsg.out]:sg nx (val z)=x+y));go_wp2_with fail
 exact bodyPost_ret (v:= .agg #[.bool nb,.slice p n2 c2]) (results_cell_row rfl _ _ (w.heap.size+1+1) 28 _ (0,0) _ rfl (hS2.res _ _) Tryz.underlying28 rfl size_Int) rfl hfin.out
theorem rAdd_lt (nx:Bool)(px py:Option Addr)(lx cx ly cy:Nat)(x y:Int)(w:World)(hx0:IntZ w nx px lx cx x)(hy0:IntZ w (!nx) py ly cy y)(hlx:lx<=549755813887)(hly:ly<=549755813887)(hlt:x.natAbs<y.natAbs):
 Calls Tryz.prog 117 #[.agg #[.bool nx,.slice px lx cx],.agg #[.bool (!nx),.slice py ly cy]] w (RetI w (x+y)):=by
 have hx:=hIq hx0;have hy:=hIq hy0
 have hca:Hid (∀W,Ar2 w nx px lx cx (!nx) py ly cy W->Calls Tryz.prog 140 #[.slice py ly cy,.slice px lx cx] W (NewS W (DifP (digs y.natAbs) (digs x.natAbs)))):=
  hIq fun W h=>minus_any _ _ _ _ _ _ _ _ W (Rdi_below h.2.2.2 hy0.2.2.1) (Rdi_below h.2.2.2 hx0.2.2.1) hy0.2.1 hx0.2.1 (Dg_digs _) (Dg_digs _) (by omega) (by rw [hx0.2.1,hy0.2.1];exact digs_len_mono (by omega)) (by rw [val_digs,val_digs];omega)
 have hcm:Hid (∀W,Below w.heap.size w W->Calls Tryz.prog 128 #[.slice px lx cx,.slice py ly cy] W fun e w'=>e= .returned (.int .i64 (-1))/\Below W.heap.size W w'):=
  hIq fun W h=>by rw [show(-1:Int)=cmpI x.natAbs y.natAbs from(cmp_lt (by omega)).symm];exact compared_any _ _ _ _ _ _ _ _ W (Rdi_below h hx0.2.2.1) (Rdi_below h hy0.2.2.1) hx0.2.1 hy0.2.1 (by omega) (by omega)
 have hf:=fun W (h:Ar2 w nx px lx cx (!nx) py ly cy W)=>h.facts
 have hS0:=hIq (@Ar2.start nx px lx cx (!nx) py ly cy w);have hsg:Hid (sg (!nx) (val (digs y.natAbs) - val (digs x.natAbs))=x+y):=hIq (by rw [val_digs,val_digs,Int.add_comm];exact diff_neg hy0.1 hx0.1 (by cases nx<;>decide));have hle:Hid ((digs x.natAbs).length=lx/\(digs y.natAbs).length=ly):=hIq ⟨hx0.2.1.symm,hy0.2.1.symm⟩;have hnn:(nx== !nx)=false:=by cases nx<;>rfl
 clear hx0 hy0
 go_enter Tryz.func117,Tryz.ntmps117
 go_wp2_with fail
 generalize((w.alloc (.cells #[.bool nx,.slice px lx cx] 28)).alloc (.cells #[.bool (!nx),.slice py ly cy] 28)).alloc (.cells #[.bool false,.slice none 0 0] 28)=W9 at hS0 ⊢;have hS9:=hS0.out;clear hS0;have hf9:=hf _ hS9;go_wp2_with (go_at_call 128;refine(hcm.out _ hS9.2.2.2).mono ?_;rintro e W0 ⟨rfl,hb9⟩;have hS1:=hS9.later hb9;clear hb9 hf9)
 go_region_held3 (fun W=>Ar2 w nx px lx cx (!nx) py ly cy W) (first|exact Ar2.drew (by assumption)|exact Ar2.later (by assumption) (by assumption)|exact Ar2.store (by assumption) _ _) (first|(go_at_call 140;refine(hca.out _ (by assumption)).mono ?_;rintro e w1 ⟨p1,n,c1,z,rfl,hz0,hn0,hnc,hcm,hp10,hb1,hP0⟩;have hp1:=hIq hp10;have hz:=hIq hz0;have hn:=hIq hn0;have hP:=hIq hP0;have hnl:n<=1099511627774:=(by have:=hP0.2.2;have:=hle.out;omega);clear hz0 hn0 hP0 hp10)|(go_at_call 122;refine(normal_any _ p1 n c1 z _ hz.out hn.out.symm hnc hcm hP.out.1).mono ?_;rintro e w2 ⟨nb,p,n2,c2,rfl,hI0,hb2,hp0⟩;have hI:=hIq hI0;have hp:=hIq hp0;clear hI0 hp0))
 have hS2:=(hS1.drew.later hb1).later hb2;have hgt:∀q,p=some q->w.heap.size+1+1<q.block:=fun q hq=>Nat.lt_of_lt_of_le hS1.drew.top (hp1.out q (hp.out q hq))
 have hfin:=hIq (hS2.ret hI.out hgt (by rw [hP.out.2.1,<-hsg.out]:sg (!nx) (val z)=x+y));go_wp2_with fail
 exact bodyPost_ret (v:= .agg #[.bool nb,.slice p n2 c2]) (results_cell_row rfl _ _ (w.heap.size+1+1) 28 _ (0,0) _ rfl (hS2.res _ _) Tryz.underlying28 rfl size_Int) rfl hfin.out
theorem rAdd_ge (nx:Bool)(px py:Option Addr)(lx cx ly cy:Nat)(x y:Int)(w:World)(hx0:IntZ w nx px lx cx x)(hy0:IntZ w (!nx) py ly cy y)(hlx:lx<=549755813887)(hly:ly<=549755813887)(hge:y.natAbs<=x.natAbs)(r:Int)(hr:0<=r)(hr1:r<=1)(hrr:Hid (r=cmpI x.natAbs y.natAbs)):
 Calls Tryz.prog 117 #[.agg #[.bool nx,.slice px lx cx],.agg #[.bool (!nx),.slice py ly cy]] w (RetI w (x+y)):=by
 have hx:=hIq hx0;have hy:=hIq hy0
 have hca:Hid (∀W,Ar2 w nx px lx cx (!nx) py ly cy W->Calls Tryz.prog 140 #[.slice px lx cx,.slice py ly cy] W (NewS W (DifP (digs x.natAbs) (digs y.natAbs)))):=
  hIq fun W h=>minus_any _ _ _ _ _ _ _ _ W (Rdi_below h.2.2.2 hx0.2.2.1) (Rdi_below h.2.2.2 hy0.2.2.1) hx0.2.1 hy0.2.1 (Dg_digs _) (Dg_digs _) (by omega) (by rw [hx0.2.1,hy0.2.1];exact digs_len_mono (by omega)) (by rw [val_digs,val_digs];omega)
 have hcm:Hid (∀W,Below w.heap.size w W->Calls Tryz.prog 128 #[.slice px lx cx,.slice py ly cy] W fun e w'=>e= .returned (.int .i64 (r))/\Below W.heap.size W w'):=
  hIq fun W h=>by rw [show(r:Int)=cmpI x.natAbs y.natAbs from hrr.out];exact compared_any _ _ _ _ _ _ _ _ W (Rdi_below h hx0.2.2.1) (Rdi_below h hy0.2.2.1) hx0.2.1 hy0.2.1 (by omega) (by omega)
 have hf:=fun W (h:Ar2 w nx px lx cx (!nx) py ly cy W)=>h.facts
 have hS0:=hIq (@Ar2.start nx px lx cx (!nx) py ly cy w);have hsg:Hid (sg nx (val (digs x.natAbs) - val (digs y.natAbs))=x+y):=hIq (by rw [val_digs,val_digs];exact diff_neg hx0.1 hy0.1 (by cases nx<;>decide));have hle:Hid ((digs x.natAbs).length=lx/\(digs y.natAbs).length=ly):=hIq ⟨hx0.2.1.symm,hy0.2.1.symm⟩;have hnn:(nx== !nx)=false:=by cases nx<;>rfl
 clear hx0 hy0
 go_enter Tryz.func117,Tryz.ntmps117
 go_wp2_with fail
 generalize((w.alloc (.cells #[.bool nx,.slice px lx cx] 28)).alloc (.cells #[.bool (!nx),.slice py ly cy] 28)).alloc (.cells #[.bool false,.slice none 0 0] 28)=W9 at hS0 ⊢;have hS9:=hS0.out;clear hS0;have hf9:=hf _ hS9;go_wp2_with (go_at_call 128;refine(hcm.out _ hS9.2.2.2).mono ?_;rintro e W0 ⟨rfl,hb9⟩;have hS1:=hS9.later hb9;clear hb9 hf9)
 go_region_held3 (fun W=>Ar2 w nx px lx cx (!nx) py ly cy W) (first|exact Ar2.drew (by assumption)|exact Ar2.later (by assumption) (by assumption)|exact Ar2.store (by assumption) _ _) (first|(go_at_call 140;refine(hca.out _ (by assumption)).mono ?_;rintro e w1 ⟨p1,n,c1,z,rfl,hz0,hn0,hnc,hcm,hp10,hb1,hP0⟩;have hp1:=hIq hp10;have hz:=hIq hz0;have hn:=hIq hn0;have hP:=hIq hP0;have hnl:n<=1099511627774:=(by have:=hP0.2.2;have:=hle.out;omega);clear hz0 hn0 hP0 hp10)|(go_at_call 122;refine(normal_any _ p1 n c1 z _ hz.out hn.out.symm hnc hcm hP.out.1).mono ?_;rintro e w2 ⟨nb,p,n2,c2,rfl,hI0,hb2,hp0⟩;have hI:=hIq hI0;have hp:=hIq hp0;clear hI0 hp0))
 have hS2:=(hS1.drew.later hb1).later hb2;have hgt:∀q,p=some q->w.heap.size+1+1<q.block:=fun q hq=>Nat.lt_of_lt_of_le hS1.drew.top (hp1.out q (hp.out q hq))
 have hfin:=hIq (hS2.ret hI.out hgt (by rw [hP.out.2.1,<-hsg.out]:sg nx (val z)=x+y));go_wp2_with fail
 exact bodyPost_ret (v:= .agg #[.bool nb,.slice p n2 c2]) (results_cell_row rfl _ _ (w.heap.size+1+1) 28 _ (0,0) _ rfl (hS2.res _ _) Tryz.underlying28 rfl size_Int) rfl hfin.out
theorem rAdd_any (nx ny:Bool)(px py:Option Addr)(lx cx ly cy:Nat)(x y:Int)(w:World)(hx0:IntZ w nx px lx cx x)(hy0:IntZ w ny py ly cy y)(hlx:lx<=549755813887)(hly:ly<=549755813887):
 Calls Tryz.prog 117 #[.agg #[.bool nx,.slice px lx cx],.agg #[.bool ny,.slice py ly cy]] w (RetI w (x+y)):=by
 by_cases h:nx=ny
 ·subst h;exact rAdd_same nx px py lx cx ly cy x y w hx0 hy0 hlx hly
 ·obtain rfl:ny= !nx:=by cases nx<;>cases ny<;>first|rfl|exact absurd rfl h
  by_cases hlt:x.natAbs<y.natAbs
  ·exact rAdd_lt nx px py lx cx ly cy x y w hx0 hy0 hlx hly hlt
  ·refine rAdd_ge nx px py lx cx ly cy x y w hx0 hy0 hlx hly (by omega) (cmpI x.natAbs y.natAbs) ?_ ?_ (hIq rfl)
   ·unfold cmpI;rw [if_neg (by omega)];split<;>omega
   ·unfold cmpI;rw [if_neg (by omega)];split<;>omega


end Go.Proofs.YteacdbgalloaiaaGreat
