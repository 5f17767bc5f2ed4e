/- Contracts of the packages integer, rat, plane, polygon and their references. -/
import Derived.Test.YteacdbgalloaiaaGreatH15
import Derived.Test.YteacdbgalloaiaaGreatH20
set_option linter.unusedVariables false
set_option maxRecDepth 100000
set_option maxHeartbeats 6400000
namespace Go.Proofs.YteacdbgalloaiaaGreat
open Go.RowKit
theorem size_segment:(Tryz.prog.info? 73).map (·.size)=some 16:=by kernel_rfl
theorem field_segment0 (g off:Nat)(W:World):(Instr.fieldAt 73 (.pointer (some ⟨g,off,none⟩)) 0).run Tryz.prog W= .ok (.pointer (some ⟨g,off+0,none⟩)) W:=by go_simp
theorem field_segment1 (g off:Nat)(W:World):(Instr.fieldAt 73 (.pointer (some ⟨g,off,none⟩)) 1).run Tryz.prog W= .ok (.pointer (some ⟨g,off+8,none⟩)) W:=by go_simp
theorem alloc_segment (W:World):(Instr.alloc 73 true (.tuple #[])).run Tryz.prog W= .ok (.pointer (some ⟨W.heap.size,0,none⟩)) (W.alloc (.cells #[.bool false,.slice none 0 0,.bool false,.slice none 0 0,.bool false,.slice none 0 0,.bool false,.slice none 0 0,.bool false,.slice none 0 0,.bool false,.slice none 0 0,.bool false,.slice none 0 0,.bool false,.slice none 0 0] 73)):=by go_simp
theorem noint_segment:NoInt #[Value.bool false,.slice none 0 0,.bool false,.slice none 0 0,.bool false,.slice none 0 0,.bool false,.slice none 0 0,.bool false,.slice none 0 0,.bool false,.slice none 0 0,.bool false,.slice none 0 0,.bool false,.slice none 0 0]:=noint_of (by simp)
instance iSzsegment:SzT 73 16:=⟨⟨_,Tryz.underlying73,rfl⟩,size_segment⟩
instance iFdsegment0:FdT 73 0 0:=⟨field_segment0⟩
instance iFdsegment1:FdT 73 1 8:=⟨field_segment1⟩
instance iAlsegment:AlT 73 16:=⟨_,alloc_segment,rfl,noint_segment⟩
theorem build_segment {ρ:Operand->Value}{o:Oper}{W:World}{x y:Operand}{va vb:Value}{A B:VP}(ho:o.op= .build 73 #[(0,x),(1,y)])(hx:ρ x=va)(hy:ρ y=vb)(hA:AggV 8 A)(hB:AggV 8 B)(h1:A va W)(h2:B vb W):∃v,(execOp ρ o).run Tryz.prog W= .ok (.value v) W/\VP2 8 8 A B v W:=by
 obtain⟨cx,rfl,e1,-⟩:=hA _ _ h1;obtain⟨cy,rfl,e2,-⟩:=hB _ _ h2;obtain⟨a0,a1,a2,a3,a4,a5,a6,a7,rfl⟩:=arr8 e1;obtain⟨b0,b1,b2,b3,b4,b5,b6,b7,rfl⟩:=arr8 e2;refine⟨.agg (#[a0,a1,a2,a3,a4,a5,a6,a7]++ #[b0,b1,b2,b3,b4,b5,b6,b7]),?_,⟨_,_,rfl,rfl,rfl,h1,h2⟩⟩;clear h1 h2;obtain⟨dd,op,ty,ps,af,gd⟩:=o;subst ho
 go_simp
abbrev P2:=Rat×Rat
def crs (a b:P2):Rat:=a.1*b.2+ -a.2*b.1
def sdI (a b p:P2):Int:=cmpI ((b.1 - a.1)*(p.2 - a.2)+ -(b.2 - a.2)*(p.1 - a.1)).num 0
def cmpV (a b:P2):Int:=if cmpQ a.1 b.1=0 then cmpQ a.2 b.2 else cmpQ a.1 b.1
def loV (a b:P2):P2:=if 0<cmpV a b then b else a
def hiV (a b:P2):P2:=if 0<cmpV a b then a else b
def ovl (a b c d:P2):Bool:=decide (cmpV (loV a b) (hiV c d)<=0) && decide (cmpV (loV c d) (hiV a b)<=0)
def prt (a b c d:P2):Bool:=decide (sdI a b c*sdI a b d<=0)
def hasS (a b p:P2):Bool:=ovl a b p p && (sdI a b p==0)
def mts (a b c d:P2):Bool:=ovl a b c d && (prt a b c d && prt c d a b)
def abv (a p:P2):Bool:=decide (0<cmpQ a.2 p.2)
def rgt (a b p:P2):Bool:=if abv a p==abv b p then false else if abv b p then decide (0<sdI a b p)else decide (sdI a b p<0)
theorem cmpI_abs (x y:Int):cmpI x y= -1∨cmpI x y=0∨cmpI x y=1:=by
 unfold cmpI;split
 ·simp
 ·split<;>simp
def lsQ (x y:Rat):Rat:=if cmpQ x y<=0 then x else y
def grQ (x y:Rat):Rat:=if 0<=cmpQ x y then x else y
theorem cSgCross {w:World}{N:Nat}{a b:P2}{v0:Value}(h0:Vp N (a.1) (a.2) (b.1) (b.2) v0 w)(hN1:1<=N:=by omega)(hN:N<=1000:=by omega):Calls Tryz.prog 63 #[v0] w (RV (Vq (4*N+1) (crs a b)) w):=by
 go_enter Tryz.func63,Tryz.ntmps63
 generalize hA:(⟨_,_⟩:Act)=a0;have st0:St w.heap.size w 8 [] [(0,Vp N (a.1) (a.2) (b.1) (b.2))] a0 w:=by subst hA;exact St.begin rfl rfl (Lq.2 ⟨⟨_,rfl,h0⟩,L0⟩)
 clear hA;refine Wn ?_
 refine rH [(30,4,0)] [VT,VT] [⟨1,some 0,some 0,73,16,Vp N (a.1) (a.2) (b.1) (b.2),VT⟩,⟨2,some 1,none,30,4,VT,VT⟩] [] st0 ⟨ks,ks,trivial⟩ fun a1 w1 st1=>Wn ?_;clear st0
 refine rH [(30,4,0)] [Vpt a1 1 0,Vv N (a.1) (a.2),Vpt a1 1 8,Vv N (b.1) (b.2),Vq (4*N+1) ((a.1)*(b.2)+ -(a.2)*(b.1)),VT] [⟨1,none,none,73,16,Vp N (a.1) (a.2) (b.1) (b.2),VT⟩,⟨2,none,some 5,30,4,Vq (4*N+1) ((a.1)*(b.2)+ -(a.2)*(b.1)),VT⟩] [] st1 ⟨ks,ks,ks,ks,(kd2 fun _ _ _ _ _ X0 _ X1=>cCross X0 X1),ks,trivial⟩ fun a2 w2 st2=>Wn ?_;clear st1
 exact wp_ret (rC 2 30 (Vq (4*N+1) ((a.1)*(b.2)+ -(a.2)*(b.1))) st2 fun cs r4=>r4)
theorem cSgSide {w:World}{N:Nat}{a b p:P2}{v0 v1:Value}(h0:Vp N (a.1) (a.2) (b.1) (b.2) v0 w)(h1:Vv N (p.1) (p.2) v1 w)(hN1:1<=N:=by omega)(hN:N<=1000:=by omega):Calls Tryz.prog 90 #[v0,v1] w (RV (Vi (sdI a b p)) w):=by
 go_enter Tryz.func90,Tryz.ntmps90
 generalize hA:(⟨_,_⟩:Act)=a0;have st0:St w.heap.size w 11 [] [(0,Vp N (a.1) (a.2) (b.1) (b.2)),(1,Vv N (p.1) (p.2))] a0 w:=by subst hA;exact St.begin rfl rfl (Lq.2 ⟨⟨_,rfl,h0⟩,(Lq.2 ⟨⟨_,rfl,h1⟩,L0⟩)⟩)
 clear hA;refine Wn ?_
 refine rH [] [VT,VT,Vi (0)] [⟨2,some 0,some 0,73,16,Vp N (a.1) (a.2) (b.1) (b.2),VT⟩,⟨3,some 1,some 1,32,8,Vv N (p.1) (p.2),VT⟩] [(4,Vi (0))] st0 ⟨ks,ks,ks,trivial⟩ fun a1 w1 st1=>Wn ?_;clear st0
 refine rH [] [Vpt a1 2 0,Vv N (a.1) (a.2),Vpt a1 2 8,Vv N (b.1) (b.2),Vv N (p.1) (p.2),Vi (cmpI (((b.1) - (a.1))*((p.2) - (a.2))+ -((b.2) - (a.2))*((p.1) - (a.1))).num 0),Vi (cmpI (((b.1) - (a.1))*((p.2) - (a.2))+ -((b.2) - (a.2))*((p.1) - (a.1))).num 0)] [⟨2,none,none,73,16,Vp N (a.1) (a.2) (b.1) (b.2),VT⟩,⟨3,none,none,32,8,Vv N (p.1) (p.2),VT⟩] [(4,Vi (cmpI (((b.1) - (a.1))*((p.2) - (a.2))+ -((b.2) - (a.2))*((p.1) - (a.1))).num 0))] st1 ⟨ks,ks,ks,ks,ks,(by refine kc fun _ A Y h D=>?_;obtain⟨v0,x0,X0⟩:=h.dp D 6;obtain⟨v1,x1,X1⟩:=h.dp D 8;obtain⟨v2,x2,X2⟩:=h.dp D 9;exact⟨#[v0,v1,v2],by simp [x0,x1,x2],cSide X0 X1 X2⟩),ks,trivial⟩ ?_;intro a2 w2 st2;clear st1;refine Wn ?_
 exact wp_ret (rS 4 (Vi (cmpI (((b.1) - (a.1))*((p.2) - (a.2))+ -((b.2) - (a.2))*((p.1) - (a.1))).num 0)) st2 fun vr r4=>r4)
theorem cAbove {w:World}{N:Nat}{a p:P2}{v0 v1:Value}(h0:Vv N (a.1) (a.2) v0 w)(h1:Vv N (p.1) (p.2) v1 w)(hN1:1<=N:=by omega)(hN:N<=1000:=by omega):Calls Tryz.prog 91 #[v0,v1] w (RV (Vb (abv a p)) w):=by
 go_enter Tryz.func91,Tryz.ntmps91
 generalize hA:(⟨_,_⟩:Act)=a0;have st0:St w.heap.size w 11 [] [(0,Vv N (a.1) (a.2)),(1,Vv N (p.1) (p.2))] a0 w:=by subst hA;exact St.begin rfl rfl (Lq.2 ⟨⟨_,rfl,h0⟩,(Lq.2 ⟨⟨_,rfl,h1⟩,L0⟩)⟩)
 clear hA;refine Wn ?_
 refine rH [] [VT,VT,Vb (false)] [⟨2,some 0,some 0,32,8,Vv N (a.1) (a.2),VT⟩,⟨3,some 1,some 1,32,8,Vv N (p.1) (p.2),VT⟩] [(4,Vb (false))] st0 ⟨ks,ks,ks,trivial⟩ fun a1 w1 st1=>Wn ?_;clear st0
 refine rH [] [Vpt a1 2 4,Vq N (a.2),Vpt a1 3 4,Vq N (p.2),Vi (cmpQ (a.2) (p.2)),Vb (decide ((0)<(cmpQ (a.2) (p.2)))),Vb (decide ((0)<(cmpQ (a.2) (p.2))))] [⟨2,none,none,32,8,Vv N (a.1) (a.2),VT⟩,⟨3,none,none,32,8,Vv N (p.1) (p.2),VT⟩] [(4,Vb (decide ((0)<(cmpQ (a.2) (p.2)))))] st1 ⟨ks,ks,ks,ks,(kd2 fun _ _ _ _ _ X0 _ X1=>cQCompare X0 X1),(kr1 9 fun _ _ _ _ _ x0 X0=>⟨_,run_gtri rfl (x0.trans X0) rfl,congrArg Value.bool (rfl)⟩),ks,trivial⟩ fun a2 w2 st2=>Wn ?_;clear st1
 exact wp_ret (rS 4 (Vb (decide ((0)<(cmpQ (a.2) (p.2))))) st2 fun vr r4=>r4)
theorem cSgOrdered {w:World}{N:Nat}{a b:P2}{v0:Value}(h0:Vp N (a.1) (a.2) (b.1) (b.2) v0 w)(hN1:1<=N:=by omega)(hN:N<=1000:=by omega):Calls Tryz.prog 124 #[v0] w (RV (VTup (Vv N (loV a b).1 (loV a b).2) (Vv N (hiV a b).1 (hiV a b).2)) w):=by
 go_enter Tryz.func124,Tryz.ntmps124
 generalize hA:(⟨_,_⟩:Act)=a0;have st0:St w.heap.size w 18 [] [(0,Vp N (a.1) (a.2) (b.1) (b.2))] a0 w:=by subst hA;exact St.begin rfl rfl (Lq.2 ⟨⟨_,rfl,h0⟩,L0⟩)
 clear hA;refine Wn ?_
 refine rH [(32,8,0)] [VT,VT,VT] [⟨1,some 0,some 0,73,16,Vp N (a.1) (a.2) (b.1) (b.2),VT⟩,⟨2,some 1,none,32,8,VT,VT⟩,⟨3,some 2,none,32,8,VT,VT⟩] [] st0 ⟨ks,ks,ks,trivial⟩ ?_;intro a1 w1 st1;clear st0;by_cases hcc:0<cmpV a b
 ·
  refine Wn ?_
  refine rH [(32,8,0)] [Vpt a1 1 0,Vv N (a.1) (a.2),Vpt a1 1 8,Vv N (b.1) (b.2),Vi (cmpV a b),Vb (true)] [⟨1,none,none,73,16,Vp N (a.1) (a.2) (b.1) (b.2),VT⟩,⟨2,none,none,32,8,VT,VT⟩,⟨3,none,none,32,8,VT,VT⟩] [(9,Vb (true))] st1 ⟨ks,ks,ks,ks,(kd2 fun _ _ _ _ _ X0 _ X1=>cVCompare X0 X1),(kr1 8 fun _ _ _ _ _ x0 X0=>⟨_,run_gtri rfl (x0.trans X0) rfl,congrArg Value.bool (dT hcc)⟩),trivial⟩ fun a2 w2 st2=>Wn ?_;clear st1
  refine cT st2 ?_;refine Wn ?_
  refine rH [(32,8,0)] [Vpt a2 1 8,Vv N (b.1) (b.2),Vpt a2 1 0,Vv N (a.1) (a.2),VT,VT] [⟨1,none,none,73,16,Vp N (a.1) (a.2) (b.1) (b.2),VT⟩,⟨2,none,some 4,32,8,Vv N (b.1) (b.2),VT⟩,⟨3,none,some 5,32,8,Vv N (a.1) (a.2),VT⟩] [(9,Vb (true))] st2 ⟨ks,ks,ks,ks,ks,ks,trivial⟩ fun a3 w3 st3=>Wn ?_;clear st2
  obtain⟨g,cs,r1,r2,r3,r4,r5⟩:=st3.res ⟨2,none,none,32,8,Vv N (b.1) (b.2),VT⟩ (.tail _ (.head _)) rfl rfl;obtain⟨g2,cs2,p1,p2,p3,p4,p5⟩:=st3.res ⟨3,none,none,32,8,Vv N (a.1) (a.2),VT⟩ (.tail _ (.tail _ (.head _))) rfl rfl;exact wp_ret (bodyPost_ret (results_cell2 rfl _ _ g g2 32 cs cs2 (0,0) (0,0) _ r1 p1 r2 p2 Tryz.underlying32 rfl (by rw [r3];exact size_Vec) (by rw [p3];exact size_Vec)) st3.defers ⟨_,rfl,⟨_,_,rfl,(by rw [show loV a b=b from if_pos hcc];exact r4),(by rw [show hiV a b=a from if_pos hcc];exact p4)⟩,r5⟩)
 ·
  refine Wn ?_
  refine rH [(32,8,0)] [Vpt a1 1 0,Vv N (a.1) (a.2),Vpt a1 1 8,Vv N (b.1) (b.2),Vi (cmpV a b),Vb (false)] [⟨1,none,none,73,16,Vp N (a.1) (a.2) (b.1) (b.2),VT⟩,⟨2,none,none,32,8,VT,VT⟩,⟨3,none,none,32,8,VT,VT⟩] [(9,Vb (false))] st1 ⟨ks,ks,ks,ks,(kd2 fun _ _ _ _ _ X0 _ X1=>cVCompare X0 X1),(kr1 8 fun _ _ _ _ _ x0 X0=>⟨_,run_gtri rfl (x0.trans X0) rfl,congrArg Value.bool (dF hcc)⟩),trivial⟩ fun a2 w2 st2=>Wn ?_;clear st1
  refine cF st2 ?_;refine Wn ?_
  refine rH [(32,8,0)] [Vpt a2 1 0,Vv N (a.1) (a.2),Vpt a2 1 8,Vv N (b.1) (b.2),VT,VT] [⟨1,none,none,73,16,Vp N (a.1) (a.2) (b.1) (b.2),VT⟩,⟨2,none,some 4,32,8,Vv N (a.1) (a.2),VT⟩,⟨3,none,some 5,32,8,Vv N (b.1) (b.2),VT⟩] [(9,Vb (false))] st2 ⟨ks,ks,ks,ks,ks,ks,trivial⟩ fun a3 w3 st3=>Wn ?_;clear st2
  obtain⟨g,cs,r1,r2,r3,r4,r5⟩:=st3.res ⟨2,none,none,32,8,Vv N (a.1) (a.2),VT⟩ (.tail _ (.head _)) rfl rfl;obtain⟨g2,cs2,p1,p2,p3,p4,p5⟩:=st3.res ⟨3,none,none,32,8,Vv N (b.1) (b.2),VT⟩ (.tail _ (.tail _ (.head _))) rfl rfl;exact wp_ret (bodyPost_ret (results_cell2 rfl _ _ g g2 32 cs cs2 (0,0) (0,0) _ r1 p1 r2 p2 Tryz.underlying32 rfl (by rw [r3];exact size_Vec) (by rw [p3];exact size_Vec)) st3.defers ⟨_,rfl,⟨_,_,rfl,(by rw [show loV a b=a from if_neg hcc];exact r4),(by rw [show hiV a b=b from if_neg hcc];exact p4)⟩,r5⟩)
theorem cSgOverlaps {w:World}{N:Nat}{a b c d:P2}{v0 v1:Value}(h0:Vp N (a.1) (a.2) (b.1) (b.2) v0 w)(h1:Vp N (c.1) (c.2) (d.1) (d.2) v1 w)(hN1:1<=N:=by omega)(hN:N<=1000:=by omega):Calls Tryz.prog 89 #[v0,v1] w (RV (Vb (ovl a b c d)) w):=by
 go_enter Tryz.func89,Tryz.ntmps89
 generalize hA:(⟨_,_⟩:Act)=a0;have st0:St w.heap.size w 29 [] [(0,Vp N (a.1) (a.2) (b.1) (b.2)),(1,Vp N (c.1) (c.2) (d.1) (d.2))] a0 w:=by subst hA;exact St.begin rfl rfl (Lq.2 ⟨⟨_,rfl,h0⟩,(Lq.2 ⟨⟨_,rfl,h1⟩,L0⟩)⟩)
 clear hA;refine Wn ?_
 refine rH [(32,8,0)] [VT,VT,Vb (false)] [⟨2,some 0,some 0,73,16,Vp N (a.1) (a.2) (b.1) (b.2),VT⟩,⟨3,some 1,some 1,73,16,Vp N (c.1) (c.2) (d.1) (d.2),VT⟩] [(4,Vb (false))] st0 ⟨ks,ks,ks,trivial⟩ fun a1 w1 st1=>Wn ?_;clear st0
 refine rH [(32,8,0)] [Vp N (a.1) (a.2) (b.1) (b.2),VTup (Vv N ((loV a b).1) ((loV a b).2)) (Vv N ((hiV a b).1) ((hiV a b).2)),VTup (Vv N ((loV a b).1) ((loV a b).2)) (Vv N ((hiV a b).1) ((hiV a b).2)),Vv N ((loV a b).1) ((loV a b).2),Vv N ((hiV a b).1) ((hiV a b).2),VT,VT,VT,VT] [⟨2,none,none,73,16,Vp N (a.1) (a.2) (b.1) (b.2),VT⟩,⟨3,none,none,73,16,Vp N (c.1) (c.2) (d.1) (d.2),VT⟩,⟨5,some 5,some 7,32,8,Vv N ((loV a b).1) ((loV a b).2),VT⟩,⟨6,some 6,some 8,32,8,Vv N ((hiV a b).1) ((hiV a b).2),VT⟩] [(4,Vb (false))] st1 ⟨ks,(kd1 fun _ _ _ _ _ X0=>cSgOrdered X0),ks,ks,ks,ks,ks,ks,ks,trivial⟩ fun a2 w2 st2=>Wn ?_;clear st1
 refine rH [(32,8,0)] [Vp N (c.1) (c.2) (d.1) (d.2),VTup (Vv N ((loV c d).1) ((loV c d).2)) (Vv N ((hiV c d).1) ((hiV c d).2)),VTup (Vv N ((loV c d).1) ((loV c d).2)) (Vv N ((hiV c d).1) ((hiV c d).2)),Vv N ((loV c d).1) ((loV c d).2),Vv N ((hiV c d).1) ((hiV c d).2),VT,VT,VT,VT] [⟨2,none,none,73,16,Vp N (a.1) (a.2) (b.1) (b.2),VT⟩,⟨3,none,none,73,16,Vp N (c.1) (c.2) (d.1) (d.2),VT⟩,⟨5,none,none,32,8,Vv N ((loV a b).1) ((loV a b).2),VT⟩,⟨6,none,none,32,8,Vv N ((hiV a b).1) ((hiV a b).2),VT⟩,⟨7,some 5,some 7,32,8,Vv N ((loV c d).1) ((loV c d).2),VT⟩,⟨8,some 6,some 8,32,8,Vv N ((hiV c d).1) ((hiV c d).2),VT⟩] [(4,Vb (false))] st2 ⟨ks,(kd1 fun _ _ _ _ _ X0=>cSgOrdered X0),ks,ks,ks,ks,ks,ks,ks,trivial⟩ ?_;intro a3 w3 st3;clear st2;by_cases h1c:cmpV (loV a b) (hiV c d)<=0
 ·
  by_cases h2c:cmpV (loV c d) (hiV a b)<=0
  ·
   refine Wn ?_
   refine rH [(32,8,0)] [Vv N ((loV a b).1) ((loV a b).2),Vv N ((hiV c d).1) ((hiV c d).2),Vi (cmpV (loV a b) (hiV c d)),Vb (true),Vb (true),Vv N ((loV c d).1) ((loV c d).2),Vv N ((hiV a b).1) ((hiV a b).2),Vi (cmpV (loV c d) (hiV a b)),Vb (true),Vb (true),Vb (true)] [⟨2,none,none,73,16,Vp N (a.1) (a.2) (b.1) (b.2),VT⟩,⟨3,none,none,73,16,Vp N (c.1) (c.2) (d.1) (d.2),VT⟩,⟨5,none,none,32,8,Vv N ((loV a b).1) ((loV a b).2),VT⟩,⟨6,none,none,32,8,Vv N ((hiV a b).1) ((hiV a b).2),VT⟩,⟨7,none,none,32,8,Vv N ((loV c d).1) ((loV c d).2),VT⟩,⟨8,none,none,32,8,Vv N ((hiV c d).1) ((hiV c d).2),VT⟩] [(4,Vb (true))] st3 ⟨ks,ks,(kd2 fun _ _ _ _ _ X0 _ X1=>cVCompare X0 X1),(kr1 21 fun _ _ _ _ _ x0 X0=>⟨_,run_leqi rfl (x0.trans X0) rfl,congrArg Value.bool (dT h1c)⟩),ks,ks,ks,(kd2 fun _ _ _ _ _ X0 _ X1=>cVCompare X0 X1),(kr1 26 fun _ _ _ _ _ x0 X0=>⟨_,run_leqi rfl (x0.trans X0) rfl,congrArg Value.bool (dT h2c)⟩),ks,ks,trivial⟩ fun a4 w4 st4=>Wn ?_;clear st3
   exact wp_ret (rS 4 (Vb (true)) st4 fun vr r4=>(by rw [show ovl a b c d=true from by unfold ovl;simp [h1c,h2c]];exact r4))
  ·
   refine Wn ?_
   refine rH [(32,8,0)] [Vv N ((loV a b).1) ((loV a b).2),Vv N ((hiV c d).1) ((hiV c d).2),Vi (cmpV (loV a b) (hiV c d)),Vb (true),Vb (true),Vv N ((loV c d).1) ((loV c d).2),Vv N ((hiV a b).1) ((hiV a b).2),Vi (cmpV (loV c d) (hiV a b)),Vb (false),Vb (false),Vb (false)] [⟨2,none,none,73,16,Vp N (a.1) (a.2) (b.1) (b.2),VT⟩,⟨3,none,none,73,16,Vp N (c.1) (c.2) (d.1) (d.2),VT⟩,⟨5,none,none,32,8,Vv N ((loV a b).1) ((loV a b).2),VT⟩,⟨6,none,none,32,8,Vv N ((hiV a b).1) ((hiV a b).2),VT⟩,⟨7,none,none,32,8,Vv N ((loV c d).1) ((loV c d).2),VT⟩,⟨8,none,none,32,8,Vv N ((hiV c d).1) ((hiV c d).2),VT⟩] [(4,Vb (false))] st3 ⟨ks,ks,(kd2 fun _ _ _ _ _ X0 _ X1=>cVCompare X0 X1),(kr1 21 fun _ _ _ _ _ x0 X0=>⟨_,run_leqi rfl (x0.trans X0) rfl,congrArg Value.bool (dT h1c)⟩),ks,ks,ks,(kd2 fun _ _ _ _ _ X0 _ X1=>cVCompare X0 X1),(kr1 26 fun _ _ _ _ _ x0 X0=>⟨_,run_leqi rfl (x0.trans X0) rfl,congrArg Value.bool (dF h2c)⟩),ks,ks,trivial⟩ fun a4 w4 st4=>Wn ?_;clear st3
   exact wp_ret (rS 4 (Vb (false)) st4 fun vr r4=>(by rw [show ovl a b c d=false from by unfold ovl;simp [h2c]];exact r4))
 ·
  refine Wn ?_
  refine rH [(32,8,0)] [Vv N ((loV a b).1) ((loV a b).2),Vv N ((hiV c d).1) ((hiV c d).2),Vi (cmpV (loV a b) (hiV c d)),Vb (false),Vb (false),VT,VT,VT,VT,Vb (false),Vb (false)] [⟨2,none,none,73,16,Vp N (a.1) (a.2) (b.1) (b.2),VT⟩,⟨3,none,none,73,16,Vp N (c.1) (c.2) (d.1) (d.2),VT⟩,⟨5,none,none,32,8,Vv N ((loV a b).1) ((loV a b).2),VT⟩,⟨6,none,none,32,8,Vv N ((hiV a b).1) ((hiV a b).2),VT⟩,⟨7,none,none,32,8,Vv N ((loV c d).1) ((loV c d).2),VT⟩,⟨8,none,none,32,8,Vv N ((hiV c d).1) ((hiV c d).2),VT⟩] [(4,Vb (false))] st3 ⟨ks,ks,(kd2 fun _ _ _ _ _ X0 _ X1=>cVCompare X0 X1),(kr1 21 fun _ _ _ _ _ x0 X0=>⟨_,run_leqi rfl (x0.trans X0) rfl,congrArg Value.bool (dF h1c)⟩),ks,ks,ks,ks,ks,ks,ks,trivial⟩ fun a4 w4 st4=>Wn ?_;clear st3
  exact wp_ret (rS 4 (Vb (false)) st4 fun vr r4=>(by rw [show ovl a b c d=false from by unfold ovl;simp [h1c]];exact r4))
theorem cSgParts {w:World}{N:Nat}{a b c d:P2}{v0 v1:Value}(h0:Vp N (a.1) (a.2) (b.1) (b.2) v0 w)(h1:Vp N (c.1) (c.2) (d.1) (d.2) v1 w)(hN1:1<=N:=by omega)(hN:N<=1000:=by omega):Calls Tryz.prog 114 #[v0,v1] w (RV (Vb (prt a b c d)) w):=by
 go_enter Tryz.func114,Tryz.ntmps114
 generalize hA:(⟨_,_⟩:Act)=a0;have st0:St w.heap.size w 15 [] [(0,Vp N (a.1) (a.2) (b.1) (b.2)),(1,Vp N (c.1) (c.2) (d.1) (d.2))] a0 w:=by subst hA;exact St.begin rfl rfl (Lq.2 ⟨⟨_,rfl,h0⟩,(Lq.2 ⟨⟨_,rfl,h1⟩,L0⟩)⟩)
 clear hA;have k1:=cmpI_abs (((b.1 - a.1)*(c.2 - a.2)+ -(b.2 - a.2)*(c.1 - a.1)).num) 0;have k2:=cmpI_abs (((b.1 - a.1)*(d.2 - a.2)+ -(b.2 - a.2)*(d.1 - a.1)).num) 0;have k3:sdI a b c= -1∨sdI a b c=0∨sdI a b c=1:=k1;have k4:sdI a b d= -1∨sdI a b d=0∨sdI a b d=1:=k2;clear k1 k2;refine Wn ?_
 refine rH [] [VT,VT,Vb (false)] [⟨2,some 0,some 0,73,16,Vp N (a.1) (a.2) (b.1) (b.2),VT⟩,⟨3,some 1,some 1,73,16,Vp N (c.1) (c.2) (d.1) (d.2),VT⟩] [(4,Vb (false))] st0 ⟨ks,ks,ks,trivial⟩ fun a1 w1 st1=>Wn ?_;clear st0
 refine rH [] [Vp N (a.1) (a.2) (b.1) (b.2),Vpt a1 3 0,Vv N (c.1) (c.2),Vi (sdI a b c),Vp N (a.1) (a.2) (b.1) (b.2),Vpt a1 3 8,Vv N (d.1) (d.2),Vi (sdI a b d),Vi ((sdI a b c)*(sdI a b d)),Vb (decide (((sdI a b c)*(sdI a b d))<=(0))),Vb (decide (((sdI a b c)*(sdI a b d))<=(0)))] [⟨2,none,none,73,16,Vp N (a.1) (a.2) (b.1) (b.2),VT⟩,⟨3,none,none,73,16,Vp N (c.1) (c.2) (d.1) (d.2),VT⟩] [(4,Vb (decide (((sdI a b c)*(sdI a b d))<=(0))))] st1 ⟨ks,ks,ks,(kd2 fun _ _ _ _ _ X0 _ X1=>cSgSide X0 X1),ks,ks,ks,(kd2 fun _ _ _ _ _ X0 _ X1=>cSgSide X0 X1),(by refine kr fun _ A Y h D=>?_;obtain⟨v0,x0,X0⟩:=h.dp D 8;have hV0':v0= .int .i64 (sdI a b c):=X0;obtain⟨v1,x1,X1⟩:=h.dp D 12;have hV1':v1= .int .i64 (sdI a b d):=X1;exact⟨_,run_muli rfl (x0.trans hV0') (x1.trans hV1') (wrap_id (by rcases k3 with h|h|h<;>rcases k4 with h2|h2|h2<;>rw [h,h2]<;>decide) (by rcases k3 with h|h|h<;>rcases k4 with h2|h2|h2<;>rw [h,h2]<;>decide)),rfl⟩),(kr1 13 fun _ _ _ _ _ x0 X0=>⟨_,run_leqi rfl (x0.trans X0) rfl,congrArg Value.bool (rfl)⟩),ks,trivial⟩ ?_;intro a2 w2 st2;clear st1;refine Wn ?_
 exact wp_ret (rS 4 (Vb (decide (((sdI a b c)*(sdI a b d))<=(0)))) st2 fun vr r4=>r4)
theorem cSgHas {w:World}{N:Nat}{a b p:P2}{v0 v1:Value}(h0:Vp N (a.1) (a.2) (b.1) (b.2) v0 w)(h1:Vv N (p.1) (p.2) v1 w)(hN1:1<=N:=by omega)(hN:N<=1000:=by omega):Calls Tryz.prog 44 #[v0,v1] w (RV (Vb (hasS a b p)) w):=by
 go_enter Tryz.func44,Tryz.ntmps44
 generalize hA:(⟨_,_⟩:Act)=a0;have st0:St w.heap.size w 16 [] [(0,Vp N (a.1) (a.2) (b.1) (b.2)),(1,Vv N (p.1) (p.2))] a0 w:=by subst hA;exact St.begin rfl rfl (Lq.2 ⟨⟨_,rfl,h0⟩,(Lq.2 ⟨⟨_,rfl,h1⟩,L0⟩)⟩)
 clear hA;refine Wn ?_
 refine rH [] [VT,VT,Vb (false)] [⟨2,some 0,some 0,73,16,Vp N (a.1) (a.2) (b.1) (b.2),VT⟩,⟨3,some 1,some 1,32,8,Vv N (p.1) (p.2),VT⟩] [(4,Vb (false))] st0 ⟨ks,ks,ks,trivial⟩ ?_;intro a1 w1 st1;clear st0;by_cases hcc:ovl a b p p=true
 ·
  refine Wn ?_
  refine rH [] [Vp N (a.1) (a.2) (b.1) (b.2),Vv N (p.1) (p.2),Vv N (p.1) (p.2),Vp N (p.1) (p.2) (p.1) (p.2),Vb (true),Vb (true),Vp N (a.1) (a.2) (b.1) (b.2),Vv N (p.1) (p.2),Vi (sdI a b p),Vb ((sdI a b p)==(0)),Vb ((sdI a b p)==(0)),Vb ((sdI a b p)==(0))] [⟨2,none,none,73,16,Vp N (a.1) (a.2) (b.1) (b.2),VT⟩,⟨3,none,none,32,8,Vv N (p.1) (p.2),VT⟩] [(4,Vb ((sdI a b p)==(0)))] st1 ⟨ks,ks,ks,(kr2 6 7 fun _ _ _ _ _ x0 X0 _ x1 X1=>build_segment rfl x0 x1 (AggV_Vv _ _ _) (AggV_Vv _ _ _) X0 X1),(kd2 fun _ _ _ h _ X0 _ X1=>(cSgOverlaps X0 X1).mono fun e w h=>h.le fun v w hv=>hv.trans (congrArg Value.bool (hcc))),ks,ks,ks,(kd2 fun _ _ _ _ _ X0 _ X1=>cSgSide X0 X1),(kr1 13 fun _ _ _ _ _ x0 X0=>⟨_,run_eqi rfl (x0.trans X0) rfl,congrArg Value.bool (rfl)⟩),ks,ks,trivial⟩ fun a2 w2 st2=>Wn ?_;clear st1
  exact wp_ret (rS 4 (Vb ((sdI a b p)==(0))) st2 fun vr r4=>(by rw [show hasS a b p=(sdI a b p==0)from by unfold hasS;simp [hcc]];exact r4))
 ·
  refine Wn ?_
  refine rH [] [Vp N (a.1) (a.2) (b.1) (b.2),Vv N (p.1) (p.2),Vv N (p.1) (p.2),Vp N (p.1) (p.2) (p.1) (p.2),Vb (false),Vb (false),VT,VT,VT,VT,Vb (false),Vb (false)] [⟨2,none,none,73,16,Vp N (a.1) (a.2) (b.1) (b.2),VT⟩,⟨3,none,none,32,8,Vv N (p.1) (p.2),VT⟩] [(4,Vb (false))] st1 ⟨ks,ks,ks,(kr2 6 7 fun _ _ _ _ _ x0 X0 _ x1 X1=>build_segment rfl x0 x1 (AggV_Vv _ _ _) (AggV_Vv _ _ _) X0 X1),(kd2 fun _ _ _ h _ X0 _ X1=>(cSgOverlaps X0 X1).mono fun e w h=>h.le fun v w hv=>hv.trans (congrArg Value.bool (by simpa using hcc))),ks,ks,ks,ks,ks,ks,ks,trivial⟩ fun a2 w2 st2=>Wn ?_;clear st1
  exact wp_ret (rS 4 (Vb (false)) st2 fun vr r4=>(by rw [show hasS a b p=false from by unfold hasS;simp [hcc]];exact r4))
theorem cSgMeets {w:World}{N:Nat}{a b c d:P2}{v0 v1:Value}(h0:Vp N (a.1) (a.2) (b.1) (b.2) v0 w)(h1:Vp N (c.1) (c.2) (d.1) (d.2) v1 w)(hN1:1<=N:=by omega)(hN:N<=1000:=by omega):Calls Tryz.prog 75 #[v0,v1] w (RV (Vb (mts a b c d)) w):=by
 go_enter Tryz.func75,Tryz.ntmps75
 generalize hA:(⟨_,_⟩:Act)=a0;have st0:St w.heap.size w 18 [] [(0,Vp N (a.1) (a.2) (b.1) (b.2)),(1,Vp N (c.1) (c.2) (d.1) (d.2))] a0 w:=by subst hA;exact St.begin rfl rfl (Lq.2 ⟨⟨_,rfl,h0⟩,(Lq.2 ⟨⟨_,rfl,h1⟩,L0⟩)⟩)
 clear hA;refine Wn ?_
 refine rH [] [VT,VT,Vb (false)] [⟨2,some 0,some 0,73,16,Vp N (a.1) (a.2) (b.1) (b.2),VT⟩,⟨3,some 1,some 1,73,16,Vp N (c.1) (c.2) (d.1) (d.2),VT⟩] [(4,Vb (false))] st0 ⟨ks,ks,ks,trivial⟩ ?_;intro a1 w1 st1;clear st0;by_cases h1c:ovl a b c d=true
 ·
  by_cases h2c:prt a b c d=true
  ·
   refine Wn ?_
   refine rH [] [Vp N (a.1) (a.2) (b.1) (b.2),Vp N (c.1) (c.2) (d.1) (d.2),Vb (true),Vb (true),Vp N (a.1) (a.2) (b.1) (b.2),Vp N (c.1) (c.2) (d.1) (d.2),Vb (true),Vb (true),Vb (true),Vp N (c.1) (c.2) (d.1) (d.2),Vp N (a.1) (a.2) (b.1) (b.2),Vb (prt c d a b),Vb (prt c d a b),Vb (prt c d a b)] [⟨2,none,none,73,16,Vp N (a.1) (a.2) (b.1) (b.2),VT⟩,⟨3,none,none,73,16,Vp N (c.1) (c.2) (d.1) (d.2),VT⟩] [(4,Vb (prt c d a b))] st1 ⟨ks,ks,(kd2 fun _ _ _ h _ X0 _ X1=>(cSgOverlaps X0 X1).mono fun e w h=>h.le fun v w hv=>hv.trans (congrArg Value.bool (h1c))),ks,ks,ks,(kd2 fun _ _ _ h _ X0 _ X1=>(cSgParts X0 X1).mono fun e w h=>h.le fun v w hv=>hv.trans (congrArg Value.bool (h2c))),ks,ks,ks,ks,(kd2 fun _ _ _ _ _ X0 _ X1=>cSgParts X0 X1),ks,ks,trivial⟩ fun a2 w2 st2=>Wn ?_;clear st1
   exact wp_ret (rS 4 (Vb (prt c d a b)) st2 fun vr r4=>(by rw [show mts a b c d=prt c d a b from by unfold mts;simp [h1c,h2c]];exact r4))
  ·
   refine Wn ?_
   refine rH [] [Vp N (a.1) (a.2) (b.1) (b.2),Vp N (c.1) (c.2) (d.1) (d.2),Vb (true),Vb (true),Vp N (a.1) (a.2) (b.1) (b.2),Vp N (c.1) (c.2) (d.1) (d.2),Vb (false),Vb (false),Vb (false),VT,VT,VT,Vb (false),Vb (false)] [⟨2,none,none,73,16,Vp N (a.1) (a.2) (b.1) (b.2),VT⟩,⟨3,none,none,73,16,Vp N (c.1) (c.2) (d.1) (d.2),VT⟩] [(4,Vb (false))] st1 ⟨ks,ks,(kd2 fun _ _ _ h _ X0 _ X1=>(cSgOverlaps X0 X1).mono fun e w h=>h.le fun v w hv=>hv.trans (congrArg Value.bool (h1c))),ks,ks,ks,(kd2 fun _ _ _ h _ X0 _ X1=>(cSgParts X0 X1).mono fun e w h=>h.le fun v w hv=>hv.trans (congrArg Value.bool (by simpa using h2c))),ks,ks,ks,ks,ks,ks,ks,trivial⟩ fun a2 w2 st2=>Wn ?_;clear st1
   exact wp_ret (rS 4 (Vb (false)) st2 fun vr r4=>(by rw [show mts a b c d=false from by unfold mts;simp [h2c]];exact r4))
 ·
  refine Wn ?_
  refine rH [] [Vp N (a.1) (a.2) (b.1) (b.2),Vp N (c.1) (c.2) (d.1) (d.2),Vb (false),Vb (false),VT,VT,VT,Vb (false),Vb (false),VT,VT,VT,Vb (false),Vb (false)] [⟨2,none,none,73,16,Vp N (a.1) (a.2) (b.1) (b.2),VT⟩,⟨3,none,none,73,16,Vp N (c.1) (c.2) (d.1) (d.2),VT⟩] [(4,Vb (false))] st1 ⟨ks,ks,(kd2 fun _ _ _ h _ X0 _ X1=>(cSgOverlaps X0 X1).mono fun e w h=>h.le fun v w hv=>hv.trans (congrArg Value.bool (by simpa using h1c))),ks,ks,ks,ks,ks,ks,ks,ks,ks,ks,ks,trivial⟩ fun a2 w2 st2=>Wn ?_;clear st1
  exact wp_ret (rS 4 (Vb (false)) st2 fun vr r4=>(by rw [show mts a b c d=false from by unfold mts;simp [h1c]];exact r4))
theorem cSgRight {w:World}{N:Nat}{a b p:P2}{v0 v1:Value}(h0:Vp N (a.1) (a.2) (b.1) (b.2) v0 w)(h1:Vv N (p.1) (p.2) v1 w)(hN1:1<=N:=by omega)(hN:N<=1000:=by omega):Calls Tryz.prog 45 #[v0,v1] w (RV (Vb (rgt a b p)) w):=by
 go_enter Tryz.func45,Tryz.ntmps45
 generalize hA:(⟨_,_⟩:Act)=a0;have st0:St w.heap.size w 29 [] [(0,Vp N (a.1) (a.2) (b.1) (b.2)),(1,Vv N (p.1) (p.2))] a0 w:=by subst hA;exact St.begin rfl rfl (Lq.2 ⟨⟨_,rfl,h0⟩,(Lq.2 ⟨⟨_,rfl,h1⟩,L0⟩)⟩)
 clear hA;refine Wn ?_
 refine rH [] [VT,VT,Vb (false)] [⟨2,some 0,some 0,73,16,Vp N (a.1) (a.2) (b.1) (b.2),VT⟩,⟨3,some 1,some 1,32,8,Vv N (p.1) (p.2),VT⟩] [(4,Vb (false))] st0 ⟨ks,ks,ks,trivial⟩ fun a1 w1 st1=>Wn ?_;clear st0
 refine rH [] [Vpt a1 2 0,Vv N (a.1) (a.2),Vv N (p.1) (p.2),Vb (abv a p),Vpt a1 2 8,Vv N (b.1) (b.2),Vv N (p.1) (p.2),Vb (abv b p),Vb (abv a p),Vb (abv b p)] [⟨2,none,none,73,16,Vp N (a.1) (a.2) (b.1) (b.2),VT⟩,⟨3,none,none,32,8,Vv N (p.1) (p.2),VT⟩] [(4,Vb (false)),(5,Vb (abv a p)),(6,Vb (abv b p))] st1 ⟨ks,ks,ks,(kd2 fun _ _ _ _ _ X0 _ X1=>cAbove X0 X1),ks,ks,ks,(kd2 fun _ _ _ _ _ X0 _ X1=>cAbove X0 X1),ks,ks,trivial⟩ ?_;intro a2 w2 st2;clear st1;by_cases hcc:(abv a p==abv b p)=true
 ·
  refine Wn ?_
  refine rH [] [Vb (abv a p),Vb (abv b p),Vb (true),Vb (true)] [⟨2,none,none,73,16,Vp N (a.1) (a.2) (b.1) (b.2),VT⟩,⟨3,none,none,32,8,Vv N (p.1) (p.2),VT⟩] [(4,Vb (false)),(6,Vb (abv b p)),(15,Vb (true))] st2 ⟨ks,ks,(kr2 16 17 fun _ _ _ _ _ x0 X0 _ x1 X1=>⟨_,run_eqb rfl (x0.trans X0) (x1.trans X1),congrArg Value.bool (hcc)⟩),ks,trivial⟩ fun a3 w3 st3=>Wn ?_;clear st2
  refine cT st3 ?_;refine Wn ?_
  refine rH [] [Vb (false)] [⟨2,none,none,73,16,Vp N (a.1) (a.2) (b.1) (b.2),VT⟩,⟨3,none,none,32,8,Vv N (p.1) (p.2),VT⟩] [(6,Vb (abv b p)),(15,Vb (true)),(4,Vb (false))] st3 ⟨ks,trivial⟩ fun a4 w4 st4=>Wn ?_;clear st3
  exact wp_ret (rS 4 (Vb (false)) st4 fun vr r4=>(by rw [show rgt a b p=false from if_pos hcc];exact r4))
 ·
  refine Wn ?_
  refine rH [] [Vb (abv a p),Vb (abv b p),Vb (false),Vb (false)] [⟨2,none,none,73,16,Vp N (a.1) (a.2) (b.1) (b.2),VT⟩,⟨3,none,none,32,8,Vv N (p.1) (p.2),VT⟩] [(4,Vb (false)),(6,Vb (abv b p)),(15,Vb (false))] st2 ⟨ks,ks,(kr2 16 17 fun _ _ _ _ _ x0 X0 _ x1 X1=>⟨_,run_eqb rfl (x0.trans X0) (x1.trans X1),congrArg Value.bool (Bool.eq_false_iff.2 hcc)⟩),ks,trivial⟩ fun a3 w3 st3=>Wn ?_;clear st2
  refine cF st3 ?_;by_cases hb2:abv b p=true
  ·
   replace st3:St w.heap.size w 29 [⟨2,none,none,73,16,Vp N (a.1) (a.2) (b.1) (b.2),VT⟩,⟨3,none,none,32,8,Vv N (p.1) (p.2),VT⟩] [(4,Vb (false)),(6,Vb (abv b p)),(15,Vb (false))] a3 w3:=st3;rw [hb2] at st3;refine Wn ?_
   refine rH [] [Vb (true),Vb (true)] [⟨2,none,none,73,16,Vp N (a.1) (a.2) (b.1) (b.2),VT⟩,⟨3,none,none,32,8,Vv N (p.1) (p.2),VT⟩] [(4,Vb (false)),(6,Vb (true)),(15,Vb (false)),(19,Vb (true))] st3 ⟨ks,ks,trivial⟩ fun a4 w4 st4=>Wn ?_;clear st3
   refine cT st4 ?_;refine Wn ?_
   refine rH [] [Vp N (a.1) (a.2) (b.1) (b.2),Vv N (p.1) (p.2),Vi (sdI a b p),Vb (decide ((0)<(sdI a b p))),Vb (decide ((0)<(sdI a b p)))] [⟨2,none,none,73,16,Vp N (a.1) (a.2) (b.1) (b.2),VT⟩,⟨3,none,none,32,8,Vv N (p.1) (p.2),VT⟩] [(6,Vb (true)),(15,Vb (false)),(19,Vb (true)),(4,Vb (decide ((0)<(sdI a b p))))] st4 ⟨ks,ks,(kd2 fun _ _ _ _ _ X0 _ X1=>cSgSide X0 X1),(kr1 23 fun _ _ _ _ _ x0 X0=>⟨_,run_gtri rfl (x0.trans X0) rfl,congrArg Value.bool (rfl)⟩),ks,trivial⟩ fun a5 w5 st5=>Wn ?_;clear st4
   exact wp_ret (rS 4 (Vb (decide ((0)<(sdI a b p)))) st5 fun vr r4=>(by rw [show rgt a b p=decide (0<sdI a b p)from(if_neg hcc).trans (if_pos hb2)];exact r4))
  ·
   have hb3:abv b p=false:=by simpa using hb2
   replace st3:St w.heap.size w 29 [⟨2,none,none,73,16,Vp N (a.1) (a.2) (b.1) (b.2),VT⟩,⟨3,none,none,32,8,Vv N (p.1) (p.2),VT⟩] [(4,Vb (false)),(6,Vb (abv b p)),(15,Vb (false))] a3 w3:=st3;rw [hb3] at st3;refine Wn ?_
   refine rH [] [Vb (false),Vb (false)] [⟨2,none,none,73,16,Vp N (a.1) (a.2) (b.1) (b.2),VT⟩,⟨3,none,none,32,8,Vv N (p.1) (p.2),VT⟩] [(4,Vb (false)),(6,Vb (false)),(15,Vb (false)),(19,Vb (false))] st3 ⟨ks,ks,trivial⟩ fun a4 w4 st4=>Wn ?_;clear st3
   refine cF st4 ?_;refine Wn ?_
   refine rH [] [Vp N (a.1) (a.2) (b.1) (b.2),Vv N (p.1) (p.2),Vi (sdI a b p),Vb (decide ((sdI a b p)<(0))),Vb (decide ((sdI a b p)<(0)))] [⟨2,none,none,73,16,Vp N (a.1) (a.2) (b.1) (b.2),VT⟩,⟨3,none,none,32,8,Vv N (p.1) (p.2),VT⟩] [(6,Vb (false)),(15,Vb (false)),(19,Vb (false)),(4,Vb (decide ((sdI a b p)<(0))))] st4 ⟨ks,ks,(kd2 fun _ _ _ _ _ X0 _ X1=>cSgSide X0 X1),(kr1 27 fun _ _ _ _ _ x0 X0=>⟨_,run_lssi rfl (x0.trans X0) rfl,congrArg Value.bool (rfl)⟩),ks,trivial⟩ fun a5 w5 st5=>Wn ?_;clear st4
   exact wp_ret (rS 4 (Vb (decide ((sdI a b p)<(0)))) st5 fun vr r4=>(by rw [show rgt a b p=decide (sdI a b p<0)from(if_neg hcc).trans (if_neg hb2)];exact r4))
theorem cMeets {w:World}{N:Nat}{a b c d:P2}{v0 v1 v2 v3:Value}(h0:Vv N (a.1) (a.2) v0 w)(h1:Vv N (b.1) (b.2) v1 w)(h2:Vv N (c.1) (c.2) v2 w)(h3:Vv N (d.1) (d.2) v3 w)(hN1:1<=N:=by omega)(hN:N<=1000:=by omega):Calls Tryz.prog 33 #[v0,v1,v2,v3] w (RV (Vb (mts a b c d)) w):=by
 go_enter Tryz.func33,Tryz.ntmps33
 generalize hA:(⟨_,_⟩:Act)=a0;have st0:St w.heap.size w 16 [] [(0,Vv N (a.1) (a.2)),(1,Vv N (b.1) (b.2)),(2,Vv N (c.1) (c.2)),(3,Vv N (d.1) (d.2))] a0 w:=by subst hA;exact St.begin rfl rfl (Lq.2 ⟨⟨_,rfl,h0⟩,(Lq.2 ⟨⟨_,rfl,h1⟩,(Lq.2 ⟨⟨_,rfl,h2⟩,(Lq.2 ⟨⟨_,rfl,h3⟩,L0⟩)⟩)⟩)⟩)
 clear hA;refine Wn ?_
 refine rH [] [VT,VT,VT,VT,Vb (false)] [⟨4,some 0,some 0,32,8,Vv N (a.1) (a.2),VT⟩,⟨5,some 1,some 1,32,8,Vv N (b.1) (b.2),VT⟩,⟨6,some 2,some 2,32,8,Vv N (c.1) (c.2),VT⟩,⟨7,some 3,some 3,32,8,Vv N (d.1) (d.2),VT⟩] [(8,Vb (false))] st0 ⟨ks,ks,ks,ks,ks,trivial⟩ fun a1 w1 st1=>Wn ?_;clear st0
 refine rH [] [Vv N (a.1) (a.2),Vv N (b.1) (b.2),Vp N (a.1) (a.2) (b.1) (b.2),Vv N (c.1) (c.2),Vv N (d.1) (d.2),Vp N (c.1) (c.2) (d.1) (d.2),Vb (mts a b c d),Vb (mts a b c d)] [⟨4,none,none,32,8,Vv N (a.1) (a.2),VT⟩,⟨5,none,none,32,8,Vv N (b.1) (b.2),VT⟩,⟨6,none,none,32,8,Vv N (c.1) (c.2),VT⟩,⟨7,none,none,32,8,Vv N (d.1) (d.2),VT⟩] [(8,Vb (mts a b c d))] st1 ⟨ks,ks,(kr2 9 10 fun _ _ _ _ _ x0 X0 _ x1 X1=>build_segment rfl x0 x1 (AggV_Vv _ _ _) (AggV_Vv _ _ _) X0 X1),ks,ks,(kr2 12 13 fun _ _ _ _ _ x0 X0 _ x1 X1=>build_segment rfl x0 x1 (AggV_Vv _ _ _) (AggV_Vv _ _ _) X0 X1),(kd2 fun _ _ _ _ _ X0 _ X1=>cSgMeets X0 X1),ks,trivial⟩ fun a2 w2 st2=>Wn ?_;clear st1
 exact wp_ret (rS 8 (Vb (mts a b c d)) st2 fun vr r4=>r4)
theorem cLesser {w:World}{N:Nat}{x y:Rat}{v0 v1:Value}(h0:Vq N (x) v0 w)(h1:Vq N (y) v1 w)(hN1:1<=N:=by omega)(hN:N<=1000:=by omega):Calls Tryz.prog 50 #[v0,v1] w (RV (Vq N (lsQ x y)) w):=by
 go_enter Tryz.func50,Tryz.ntmps50
 generalize hA:(⟨_,_⟩:Act)=a0;have st0:St w.heap.size w 11 [] [(0,Vq N (x)),(1,Vq N (y))] a0 w:=by subst hA;exact St.begin rfl rfl (Lq.2 ⟨⟨_,rfl,h0⟩,(Lq.2 ⟨⟨_,rfl,h1⟩,L0⟩)⟩)
 clear hA;refine Wn ?_
 refine rH [(30,4,0)] [VT,VT,VT] [⟨2,some 0,some 0,30,4,Vq N (x),VT⟩,⟨3,some 1,some 1,30,4,Vq N (y),VT⟩,⟨4,some 2,none,30,4,VT,VT⟩] [] st0 ⟨ks,ks,ks,trivial⟩ ?_;intro a1 w1 st1;clear st0;by_cases hcc:cmpQ x y<=0
 ·
  refine Wn ?_
  refine rH [(30,4,0)] [Vq N (x),Vq N (y),Vi (cmpQ (x) (y)),Vb (true)] [⟨2,none,none,30,4,Vq N (x),VT⟩,⟨3,none,none,30,4,Vq N (y),VT⟩,⟨4,none,none,30,4,VT,VT⟩] [(8,Vb (true))] st1 ⟨ks,ks,(kd2 fun _ _ _ _ _ X0 _ X1=>cQCompare X0 X1),(kr1 7 fun _ _ _ _ _ x0 X0=>⟨_,run_leqi rfl (x0.trans X0) rfl,congrArg Value.bool (dT hcc)⟩),trivial⟩ fun a2 w2 st2=>Wn ?_;clear st1
  refine cT st2 ?_;refine Wn ?_
  refine rH [(30,4,0)] [Vq N (x),VT] [⟨2,none,none,30,4,Vq N (x),VT⟩,⟨3,none,none,30,4,Vq N (y),VT⟩,⟨4,none,some 1,30,4,Vq N (x),VT⟩] [(8,Vb (true))] st2 ⟨ks,ks,trivial⟩ fun a3 w3 st3=>Wn ?_;clear st2
  exact wp_ret (rC 4 30 (Vq N (x)) st3 fun cs r4=>(by rw [show lsQ x y=x from if_pos hcc];exact r4))
 ·
  refine Wn ?_
  refine rH [(30,4,0)] [Vq N (x),Vq N (y),Vi (cmpQ (x) (y)),Vb (false)] [⟨2,none,none,30,4,Vq N (x),VT⟩,⟨3,none,none,30,4,Vq N (y),VT⟩,⟨4,none,none,30,4,VT,VT⟩] [(8,Vb (false))] st1 ⟨ks,ks,(kd2 fun _ _ _ _ _ X0 _ X1=>cQCompare X0 X1),(kr1 7 fun _ _ _ _ _ x0 X0=>⟨_,run_leqi rfl (x0.trans X0) rfl,congrArg Value.bool (dF hcc)⟩),trivial⟩ fun a2 w2 st2=>Wn ?_;clear st1
  refine cF st2 ?_;refine Wn ?_
  refine rH [(30,4,0)] [Vq N (y),VT] [⟨2,none,none,30,4,Vq N (x),VT⟩,⟨3,none,none,30,4,Vq N (y),VT⟩,⟨4,none,some 1,30,4,Vq N (y),VT⟩] [(8,Vb (false))] st2 ⟨ks,ks,trivial⟩ fun a3 w3 st3=>Wn ?_;clear st2
  exact wp_ret (rC 4 30 (Vq N (y)) st3 fun cs r4=>(by rw [show lsQ x y=y from if_neg hcc];exact r4))
theorem cGreater {w:World}{N:Nat}{x y:Rat}{v0 v1:Value}(h0:Vq N (x) v0 w)(h1:Vq N (y) v1 w)(hN1:1<=N:=by omega)(hN:N<=1000:=by omega):Calls Tryz.prog 51 #[v0,v1] w (RV (Vq N (grQ x y)) w):=by
 go_enter Tryz.func51,Tryz.ntmps51
 generalize hA:(⟨_,_⟩:Act)=a0;have st0:St w.heap.size w 11 [] [(0,Vq N (x)),(1,Vq N (y))] a0 w:=by subst hA;exact St.begin rfl rfl (Lq.2 ⟨⟨_,rfl,h0⟩,(Lq.2 ⟨⟨_,rfl,h1⟩,L0⟩)⟩)
 clear hA;refine Wn ?_
 refine rH [(30,4,0)] [VT,VT,VT] [⟨2,some 0,some 0,30,4,Vq N (x),VT⟩,⟨3,some 1,some 1,30,4,Vq N (y),VT⟩,⟨4,some 2,none,30,4,VT,VT⟩] [] st0 ⟨ks,ks,ks,trivial⟩ ?_;intro a1 w1 st1;clear st0;by_cases hcc:0<=cmpQ x y
 ·
  refine Wn ?_
  refine rH [(30,4,0)] [Vq N (x),Vq N (y),Vi (cmpQ (x) (y)),Vb (true)] [⟨2,none,none,30,4,Vq N (x),VT⟩,⟨3,none,none,30,4,Vq N (y),VT⟩,⟨4,none,none,30,4,VT,VT⟩] [(8,Vb (true))] st1 ⟨ks,ks,(kd2 fun _ _ _ _ _ X0 _ X1=>cQCompare X0 X1),(kr1 7 fun _ _ _ _ _ x0 X0=>⟨_,run_geqi rfl (x0.trans X0) rfl,congrArg Value.bool (dT hcc)⟩),trivial⟩ fun a2 w2 st2=>Wn ?_;clear st1
  refine cT st2 ?_;refine Wn ?_
  refine rH [(30,4,0)] [Vq N (x),VT] [⟨2,none,none,30,4,Vq N (x),VT⟩,⟨3,none,none,30,4,Vq N (y),VT⟩,⟨4,none,some 1,30,4,Vq N (x),VT⟩] [(8,Vb (true))] st2 ⟨ks,ks,trivial⟩ fun a3 w3 st3=>Wn ?_;clear st2
  exact wp_ret (rC 4 30 (Vq N (x)) st3 fun cs r4=>(by rw [show grQ x y=x from if_pos hcc];exact r4))
 ·
  refine Wn ?_
  refine rH [(30,4,0)] [Vq N (x),Vq N (y),Vi (cmpQ (x) (y)),Vb (false)] [⟨2,none,none,30,4,Vq N (x),VT⟩,⟨3,none,none,30,4,Vq N (y),VT⟩,⟨4,none,none,30,4,VT,VT⟩] [(8,Vb (false))] st1 ⟨ks,ks,(kd2 fun _ _ _ _ _ X0 _ X1=>cQCompare X0 X1),(kr1 7 fun _ _ _ _ _ x0 X0=>⟨_,run_geqi rfl (x0.trans X0) rfl,congrArg Value.bool (dF hcc)⟩),trivial⟩ fun a2 w2 st2=>Wn ?_;clear st1
  refine cF st2 ?_;refine Wn ?_
  refine rH [(30,4,0)] [Vq N (y),VT] [⟨2,none,none,30,4,Vq N (x),VT⟩,⟨3,none,none,30,4,Vq N (y),VT⟩,⟨4,none,some 1,30,4,Vq N (y),VT⟩] [(8,Vb (false))] st2 ⟨ks,ks,trivial⟩ fun a3 w3 st3=>Wn ?_;clear st2
  exact wp_ret (rC 4 30 (Vq N (y)) st3 fun cs r4=>(by rw [show grQ x y=y from if_neg hcc];exact r4))
end Go.Proofs.YteacdbgalloaiaaGreat
