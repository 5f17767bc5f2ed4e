/- Contracts of the packages integer, rat, plane, polygon and their references. -/
import Derived.Test.YteacdbgalloaiaaGreatB9
import Derived.Test.YteacdbgalloaiaaGreatB12
import Derived.Test.YteacdbgalloaiaaGreatB8
import Derived.OrdersIn
import Derived.TacticsIn
import Derived.RangeFuncNested
import Derived.RangeFuncCalls
import Derived.RangeFuncLeaves
import Derived.Deep.MidRow
set_option linter.unusedVariables false
set_option maxRecDepth 100000
set_option maxHeartbeats 6400000
namespace Go.Proofs.YteacdbgalloaiaaGreat
open Go.RowKit
theorem size_segment:(Tryz.prog.info? 73).map (·.size)=some 16:=by kernel_rfl
theorem field_segment0 (g off:Nat)(W:World):(Instr.fieldAt 73 (.pointer (some ⟨g,off,none⟩)) 0).run Tryz.prog W= .ok (.pointer (some ⟨g,off+0,none⟩)) W:=by go_simp
theorem field_segment1 (g off:Nat)(W:World):(Instr.fieldAt 73 (.pointer (some ⟨g,off,none⟩)) 1).run Tryz.prog W= .ok (.pointer (some ⟨g,off+8,none⟩)) W:=by go_simp
theorem alloc_segment (W:World):(Instr.alloc 73 true (.tuple #[])).run Tryz.prog W= .ok (.pointer (some ⟨W.heap.size,0,none⟩)) (W.alloc (.cells #[.bool false,.slice none 0 0,.bool false,.slice none 0 0,.bool false,.slice none 0 0,.bool false,.slice none 0 0,.bool false,.slice none 0 0,.bool false,.slice none 0 0,.bool false,.slice none 0 0,.bool false,.slice none 0 0] 73)):=by go_simp
theorem noint_segment:NoInt #[Value.bool false,.slice none 0 0,.bool false,.slice none 0 0,.bool false,.slice none 0 0,.bool false,.slice none 0 0,.bool false,.slice none 0 0,.bool false,.slice none 0 0,.bool false,.slice none 0 0,.bool false,.slice none 0 0]:=noint_of (by simp)
instance iSzsegment:SzT 73 16:=⟨⟨_,Tryz.underlying73,rfl⟩,size_segment⟩
instance iFdsegment0:FdT 73 0 0:=⟨field_segment0⟩
instance iFdsegment1:FdT 73 1 8:=⟨field_segment1⟩
instance iAlsegment:AlT 73 16:=⟨_,alloc_segment,rfl,noint_segment⟩
theorem build_segment {ρ:Operand->Value}{o:Oper}{W:World}{x y:Operand}{va vb:Value}{A B:VP}(ho:o.op= .build 73 #[(0,x),(1,y)])(hx:ρ x=va)(hy:ρ y=vb)(hA:AggV 8 A)(hB:AggV 8 B)(h1:A va W)(h2:B vb W):∃v,(execOp ρ o).run Tryz.prog W= .ok (.value v) W/\VP2 8 8 A B v W:=by
 obtain⟨cx,rfl,e1,-⟩:=hA _ _ h1;obtain⟨cy,rfl,e2,-⟩:=hB _ _ h2;obtain⟨a0,a1,a2,a3,a4,a5,a6,a7,rfl⟩:=arr8 e1;obtain⟨b0,b1,b2,b3,b4,b5,b6,b7,rfl⟩:=arr8 e2;refine⟨.agg (#[a0,a1,a2,a3,a4,a5,a6,a7]++ #[b0,b1,b2,b3,b4,b5,b6,b7]),?_,⟨_,_,rfl,rfl,rfl,h1,h2⟩⟩;clear h1 h2;obtain⟨dd,op,ty,ps,af,gd⟩:=o;subst ho
 go_simp
abbrev P2:=Rat×Rat
def crs (a b:P2):Rat:=a.1*b.2+ -a.2*b.1
def sdI (a b p:P2):Int:=cmpI ((b.1 - a.1)*(p.2 - a.2)+ -(b.2 - a.2)*(p.1 - a.1)).num 0
def cmpV (a b:P2):Int:=if cmpQ a.1 b.1=0 then cmpQ a.2 b.2 else cmpQ a.1 b.1
def loV (a b:P2):P2:=if 0<cmpV a b then b else a
def hiV (a b:P2):P2:=if 0<cmpV a b then a else b
def ovl (a b c d:P2):Bool:=decide (cmpV (loV a b) (hiV c d)<=0) && decide (cmpV (loV c d) (hiV a b)<=0)
def prt (a b c d:P2):Bool:=decide (sdI a b c*sdI a b d<=0)
def hasS (a b p:P2):Bool:=ovl a b p p && (sdI a b p==0)
def mts (a b c d:P2):Bool:=ovl a b c d && (prt a b c d && prt c d a b)
def abv (a p:P2):Bool:=decide (0<cmpQ a.2 p.2)
def rgt (a b p:P2):Bool:=if abv a p==abv b p then false else if abv b p then decide (0<sdI a b p)else decide (sdI a b p<0)
theorem cmpI_abs (x y:Int):cmpI x y= -1∨cmpI x y=0∨cmpI x y=1:=by
 unfold cmpI;split
 ·simp
 ·split<;>simp
def lsQ (x y:Rat):Rat:=if cmpQ x y<=0 then x else y
def grQ (x y:Rat):Rat:=if 0<=cmpQ x y then x else y
theorem cSgCross {w:World}{N:Nat}{a b:P2}{v0:Value}(h0:Vp N a.1 a.2 b.1 b.2 v0 w)(hN1:1<=N:=by omega)(hN:N<=1000:=by omega):Calls Tryz.prog 63 #[v0] w (RV (Vq (4*N+1) (crs a b)) w):=by
 go_enter Tryz.func63,Tryz.ntmps63
 refine Sg 8 [(0,Vp N a.1 a.2 b.1 b.2)] (Lq.2 ⟨⟨_,rfl,h0⟩,L0⟩) fun a0 st0=>Wn ?_
 refine rH [(30,4,0)] [VT,VT] [⟨1,some 0,some 0,73,16,Vp N a.1 a.2 b.1 b.2,VT⟩,⟨2,some 1,none,30,4,VT,VT⟩] [] st0 ⟨ks,ks,trivial⟩ fun a1 w1 st1=>Wn ?_
 refine rH [(30,4,0)] [Vpt a1 1 0,Vv N a.1 a.2,Vpt a1 1 8,Vv N b.1 b.2,Vq (4*N+1) ((a.1)*(b.2)+ -(a.2)*(b.1)),VT] [.k 1 73 16 (Vp N a.1 a.2 b.1 b.2),⟨2,none,some 5,30,4,Vq (4*N+1) ((a.1)*(b.2)+ -(a.2)*(b.1)),VT⟩] [] st1 ⟨ks,ks,ks,ks,(kd2 fun _ _ _ _ _ X0 _ X1=>cCross X0 X1),ks,trivial⟩ fun a2 w2 st2=>Wn ?_
 exact wp_ret (rC 2 30 (Vq (4*N+1) ((a.1)*(b.2)+ -(a.2)*(b.1))) st2 fun cs r4=>r4)
theorem cSgSide {w:World}{N:Nat}{a b p:P2}{v0 v1:Value}(h0:Vp N a.1 a.2 b.1 b.2 v0 w)(h1:Vv N p.1 p.2 v1 w)(hN1:1<=N:=by omega)(hN:N<=1000:=by omega):Calls Tryz.prog 90 #[v0,v1] w (RV (Vi (sdI a b p)) w):=by
 go_enter Tryz.func90,Tryz.ntmps90
 refine Sg 11 [(0,Vp N a.1 a.2 b.1 b.2),(1,Vv N p.1 p.2)] (Lq.2 ⟨⟨_,rfl,h0⟩,(Lq.2 ⟨⟨_,rfl,h1⟩,L0⟩)⟩) fun a0 st0=>Wn ?_
 refine rH [] [VT,VT,Vi 0] [⟨2,some 0,some 0,73,16,Vp N a.1 a.2 b.1 b.2,VT⟩,⟨3,some 1,some 1,32,8,Vv N p.1 p.2,VT⟩] [(4,Vi 0)] st0 ⟨ks,ks,ks,trivial⟩ fun a1 w1 st1=>Wn ?_
 refine rH [] [Vpt a1 2 0,Vv N a.1 a.2,Vpt a1 2 8,Vv N b.1 b.2,Vv N p.1 p.2,Vi (cmpI (((b.1) - a.1)*((p.2) - a.2)+ -((b.2) - a.2)*((p.1) - a.1)).num 0),Vi (cmpI (((b.1) - a.1)*((p.2) - a.2)+ -((b.2) - a.2)*((p.1) - a.1)).num 0)] [.k 2 73 16 (Vp N a.1 a.2 b.1 b.2),.k 3 32 8 (Vv N p.1 p.2)] [(4,Vi (cmpI (((b.1) - a.1)*((p.2) - a.2)+ -((b.2) - a.2)*((p.1) - a.1)).num 0))] st1 ⟨ks,ks,ks,ks,ks,(by refine kc fun _ A Y h D=>?_;obtain⟨v0,x0,X0⟩:=h.dp D 6;obtain⟨v1,x1,X1⟩:=h.dp D 8;obtain⟨v2,x2,X2⟩:=h.dp D 9;exact⟨#[v0,v1,v2],by simp [x0,x1,x2],cSide X0 X1 X2⟩),ks,trivial⟩ ?_;intro a2 w2 st2;refine Wn ?_
 exact wp_ret (rS 4 (Vi (cmpI (((b.1) - a.1)*((p.2) - a.2)+ -((b.2) - a.2)*((p.1) - a.1)).num 0)) st2 fun vr r4=>r4)
theorem cAbove {w:World}{N:Nat}{a p:P2}{v0 v1:Value}(h0:Vv N a.1 a.2 v0 w)(h1:Vv N p.1 p.2 v1 w)(hN1:1<=N:=by omega)(hN:N<=1000:=by omega):Calls Tryz.prog 91 #[v0,v1] w (RV (Vb (abv a p)) w):=by
 go_enter Tryz.func91,Tryz.ntmps91
 refine Sg 11 [(0,Vv N a.1 a.2),(1,Vv N p.1 p.2)] (Lq.2 ⟨⟨_,rfl,h0⟩,(Lq.2 ⟨⟨_,rfl,h1⟩,L0⟩)⟩) fun a0 st0=>Wn ?_
 refine rH [] [VT,VT,Vb false] [⟨2,some 0,some 0,32,8,Vv N a.1 a.2,VT⟩,⟨3,some 1,some 1,32,8,Vv N p.1 p.2,VT⟩] [(4,Vb false)] st0 ⟨ks,ks,ks,trivial⟩ fun a1 w1 st1=>Wn ?_
 refine rH [] [Vpt a1 2 4,Vq N a.2,Vpt a1 3 4,Vq N p.2,Vi (cmpQ a.2 p.2),Vb (decide ((0)<(cmpQ a.2 p.2))),Vb (decide ((0)<(cmpQ a.2 p.2)))] [.k 2 32 8 (Vv N a.1 a.2),.k 3 32 8 (Vv N p.1 p.2)] [(4,Vb (decide ((0)<(cmpQ a.2 p.2))))] st1 ⟨ks,ks,ks,ks,(kd2 fun _ _ _ _ _ X0 _ X1=>cQCompare X0 X1),(kr1 9 fun _ _ _ _ _ x0 X0=>⟨_,run_gtri rfl (x0.trans X0) rfl,congrArg Value.bool rfl⟩),ks,trivial⟩ fun a2 w2 st2=>Wn ?_
 exact wp_ret (rS 4 (Vb (decide ((0)<(cmpQ a.2 p.2)))) st2 fun vr r4=>r4)
theorem cSgOrdered {w:World}{N:Nat}{a b:P2}{v0:Value}(h0:Vp N a.1 a.2 b.1 b.2 v0 w)(hN1:1<=N:=by omega)(hN:N<=1000:=by omega):Calls Tryz.prog 124 #[v0] w (RV (VTup (Vv N (loV a b).1 (loV a b).2) (Vv N (hiV a b).1 (hiV a b).2)) w):=by
 go_enter Tryz.func124,Tryz.ntmps124
 refine Sg 18 [(0,Vp N a.1 a.2 b.1 b.2)] (Lq.2 ⟨⟨_,rfl,h0⟩,L0⟩) fun a0 st0=>Wn ?_
 refine rH [(32,8,0)] [VT,VT,VT] [⟨1,some 0,some 0,73,16,Vp N a.1 a.2 b.1 b.2,VT⟩,⟨2,some 1,none,32,8,VT,VT⟩,⟨3,some 2,none,32,8,VT,VT⟩] [] st0 ⟨ks,ks,ks,trivial⟩ ?_;intro a1 w1 st1;by_cases hcc:0<cmpV a b
 ·
  refine Wn ?_
  refine rH [(32,8,0)] [Vpt a1 1 0,Vv N a.1 a.2,Vpt a1 1 8,Vv N b.1 b.2,Vi (cmpV a b),Vb true] [.k 1 73 16 (Vp N a.1 a.2 b.1 b.2),.k 2 32 8 VT,.k 3 32 8 VT] [(9,Vb true)] st1 ⟨ks,ks,ks,ks,(kd2 fun _ _ _ _ _ X0 _ X1=>cVCompare X0 X1),(kr1 8 fun _ _ _ _ _ x0 X0=>⟨_,run_gtri rfl (x0.trans X0) rfl,congrArg Value.bool (dT hcc)⟩),trivial⟩ fun a2 w2 st2=>Wn ?_
  refine cT st2 ?_;refine Wn ?_
  refine rH [(32,8,0)] [Vpt a2 1 8,Vv N b.1 b.2,Vpt a2 1 0,Vv N a.1 a.2,VT,VT] [.k 1 73 16 (Vp N a.1 a.2 b.1 b.2),⟨2,none,some 4,32,8,Vv N b.1 b.2,VT⟩,⟨3,none,some 5,32,8,Vv N a.1 a.2,VT⟩] [(9,Vb true)] st2 ⟨ks,ks,ks,ks,ks,ks,trivial⟩ fun a3 w3 st3=>Wn ?_
  obtain⟨g,cs,r1,r2,r3,r4,r5⟩:=st3.res (.k 2 32 8 (Vv N b.1 b.2)) (.tail _ (.head _)) rfl rfl;obtain⟨g2,cs2,p1,p2,p3,p4,p5⟩:=st3.res (.k 3 32 8 (Vv N a.1 a.2)) (.tail _ (.tail _ (.head _))) rfl rfl;exact wp_ret (bodyPost_ret (results_cell2 rfl _ _ g g2 32 cs cs2 (0,0) (0,0) _ r1 p1 r2 p2 Tryz.underlying32 rfl (by rw [r3];exact size_Vec) (by rw [p3];exact size_Vec)) st3.defers ⟨_,rfl,⟨_,_,rfl,(by rw [show loV a b=b from if_pos hcc];exact r4),(by rw [show hiV a b=a from if_pos hcc];exact p4)⟩,r5⟩)
 ·
  refine Wn ?_
  refine rH [(32,8,0)] [Vpt a1 1 0,Vv N a.1 a.2,Vpt a1 1 8,Vv N b.1 b.2,Vi (cmpV a b),Vb false] [.k 1 73 16 (Vp N a.1 a.2 b.1 b.2),.k 2 32 8 VT,.k 3 32 8 VT] [(9,Vb false)] st1 ⟨ks,ks,ks,ks,(kd2 fun _ _ _ _ _ X0 _ X1=>cVCompare X0 X1),(kr1 8 fun _ _ _ _ _ x0 X0=>⟨_,run_gtri rfl (x0.trans X0) rfl,congrArg Value.bool (dF hcc)⟩),trivial⟩ fun a2 w2 st2=>Wn ?_
  refine cF st2 ?_;refine Wn ?_
  refine rH [(32,8,0)] [Vpt a2 1 0,Vv N a.1 a.2,Vpt a2 1 8,Vv N b.1 b.2,VT,VT] [.k 1 73 16 (Vp N a.1 a.2 b.1 b.2),⟨2,none,some 4,32,8,Vv N a.1 a.2,VT⟩,⟨3,none,some 5,32,8,Vv N b.1 b.2,VT⟩] [(9,Vb false)] st2 ⟨ks,ks,ks,ks,ks,ks,trivial⟩ fun a3 w3 st3=>Wn ?_
  obtain⟨g,cs,r1,r2,r3,r4,r5⟩:=st3.res (.k 2 32 8 (Vv N a.1 a.2)) (.tail _ (.head _)) rfl rfl;obtain⟨g2,cs2,p1,p2,p3,p4,p5⟩:=st3.res (.k 3 32 8 (Vv N b.1 b.2)) (.tail _ (.tail _ (.head _))) rfl rfl;exact wp_ret (bodyPost_ret (results_cell2 rfl _ _ g g2 32 cs cs2 (0,0) (0,0) _ r1 p1 r2 p2 Tryz.underlying32 rfl (by rw [r3];exact size_Vec) (by rw [p3];exact size_Vec)) st3.defers ⟨_,rfl,⟨_,_,rfl,(by rw [show loV a b=a from if_neg hcc];exact r4),(by rw [show hiV a b=b from if_neg hcc];exact p4)⟩,r5⟩)
theorem cSgOverlaps {w:World}{N:Nat}{a b c d:P2}{v0 v1:Value}(h0:Vp N a.1 a.2 b.1 b.2 v0 w)(h1:Vp N c.1 c.2 d.1 d.2 v1 w)(hN1:1<=N:=by omega)(hN:N<=1000:=by omega):Calls Tryz.prog 89 #[v0,v1] w (RV (Vb (ovl a b c d)) w):=by
 go_enter Tryz.func89,Tryz.ntmps89
 refine Sg 29 [(0,Vp N a.1 a.2 b.1 b.2),(1,Vp N c.1 c.2 d.1 d.2)] (Lq.2 ⟨⟨_,rfl,h0⟩,(Lq.2 ⟨⟨_,rfl,h1⟩,L0⟩)⟩) fun a0 st0=>Wn ?_
 refine rH [(32,8,0)] [VT,VT,Vb false] [⟨2,some 0,some 0,73,16,Vp N a.1 a.2 b.1 b.2,VT⟩,⟨3,some 1,some 1,73,16,Vp N c.1 c.2 d.1 d.2,VT⟩] [(4,Vb false)] st0 ⟨ks,ks,ks,trivial⟩ fun a1 w1 st1=>Wn ?_
 refine rH [(32,8,0)] [Vp N a.1 a.2 b.1 b.2,VTup (Vv N ((loV a b).1) ((loV a b).2)) (Vv N ((hiV a b).1) ((hiV a b).2)),VTup (Vv N ((loV a b).1) ((loV a b).2)) (Vv N ((hiV a b).1) ((hiV a b).2)),Vv N ((loV a b).1) ((loV a b).2),Vv N ((hiV a b).1) ((hiV a b).2),VT,VT,VT,VT] [.k 2 73 16 (Vp N a.1 a.2 b.1 b.2),.k 3 73 16 (Vp N c.1 c.2 d.1 d.2),⟨5,some 5,some 7,32,8,Vv N ((loV a b).1) ((loV a b).2),VT⟩,⟨6,some 6,some 8,32,8,Vv N ((hiV a b).1) ((hiV a b).2),VT⟩] [(4,Vb false)] st1 ⟨ks,(kd1 fun _ _ _ _ _ X0=>cSgOrdered X0),ks,ks,ks,ks,ks,ks,ks,trivial⟩ fun a2 w2 st2=>Wn ?_
 refine rH [(32,8,0)] [Vp N c.1 c.2 d.1 d.2,VTup (Vv N ((loV c d).1) ((loV c d).2)) (Vv N ((hiV c d).1) ((hiV c d).2)),VTup (Vv N ((loV c d).1) ((loV c d).2)) (Vv N ((hiV c d).1) ((hiV c d).2)),Vv N ((loV c d).1) ((loV c d).2),Vv N ((hiV c d).1) ((hiV c d).2),VT,VT,VT,VT] [.k 2 73 16 (Vp N a.1 a.2 b.1 b.2),.k 3 73 16 (Vp N c.1 c.2 d.1 d.2),.k 5 32 8 (Vv N ((loV a b).1) ((loV a b).2)),.k 6 32 8 (Vv N ((hiV a b).1) ((hiV a b).2)),⟨7,some 5,some 7,32,8,Vv N ((loV c d).1) ((loV c d).2),VT⟩,⟨8,some 6,some 8,32,8,Vv N ((hiV c d).1) ((hiV c d).2),VT⟩] [(4,Vb false)] st2 ⟨ks,(kd1 fun _ _ _ _ _ X0=>cSgOrdered X0),ks,ks,ks,ks,ks,ks,ks,trivial⟩ ?_;intro a3 w3 st3;by_cases h1c:cmpV (loV a b) (hiV c d)<=0
 ·
  by_cases h2c:cmpV (loV c d) (hiV a b)<=0
  ·
   refine Wn ?_
   refine rH [(32,8,0)] [Vv N ((loV a b).1) ((loV a b).2),Vv N ((hiV c d).1) ((hiV c d).2),Vi (cmpV (loV a b) (hiV c d)),Vb true,Vb true,Vv N ((loV c d).1) ((loV c d).2),Vv N ((hiV a b).1) ((hiV a b).2),Vi (cmpV (loV c d) (hiV a b)),Vb true,Vb true,Vb true] [.k 2 73 16 (Vp N a.1 a.2 b.1 b.2),.k 3 73 16 (Vp N c.1 c.2 d.1 d.2),.k 5 32 8 (Vv N ((loV a b).1) ((loV a b).2)),.k 6 32 8 (Vv N ((hiV a b).1) ((hiV a b).2)),.k 7 32 8 (Vv N ((loV c d).1) ((loV c d).2)),.k 8 32 8 (Vv N ((hiV c d).1) ((hiV c d).2))] [(4,Vb true)] st3 ⟨ks,ks,(kd2 fun _ _ _ _ _ X0 _ X1=>cVCompare X0 X1),(kr1 21 fun _ _ _ _ _ x0 X0=>⟨_,run_leqi rfl (x0.trans X0) rfl,congrArg Value.bool (dT h1c)⟩),ks,ks,ks,(kd2 fun _ _ _ _ _ X0 _ X1=>cVCompare X0 X1),(kr1 26 fun _ _ _ _ _ x0 X0=>⟨_,run_leqi rfl (x0.trans X0) rfl,congrArg Value.bool (dT h2c)⟩),ks,ks,trivial⟩ fun a4 w4 st4=>Wn ?_
   exact wp_ret (rS 4 (Vb true) st4 fun vr r4=>(by rw [show ovl a b c d=true from by unfold ovl;simp [h1c,h2c]];exact r4))
  ·
   refine Wn ?_
   refine rH [(32,8,0)] [Vv N ((loV a b).1) ((loV a b).2),Vv N ((hiV c d).1) ((hiV c d).2),Vi (cmpV (loV a b) (hiV c d)),Vb true,Vb true,Vv N ((loV c d).1) ((loV c d).2),Vv N ((hiV a b).1) ((hiV a b).2),Vi (cmpV (loV c d) (hiV a b)),Vb false,Vb false,Vb false] [.k 2 73 16 (Vp N a.1 a.2 b.1 b.2),.k 3 73 16 (Vp N c.1 c.2 d.1 d.2),.k 5 32 8 (Vv N ((loV a b).1) ((loV a b).2)),.k 6 32 8 (Vv N ((hiV a b).1) ((hiV a b).2)),.k 7 32 8 (Vv N ((loV c d).1) ((loV c d).2)),.k 8 32 8 (Vv N ((hiV c d).1) ((hiV c d).2))] [(4,Vb false)] st3 ⟨ks,ks,(kd2 fun _ _ _ _ _ X0 _ X1=>cVCompare X0 X1),(kr1 21 fun _ _ _ _ _ x0 X0=>⟨_,run_leqi rfl (x0.trans X0) rfl,congrArg Value.bool (dT h1c)⟩),ks,ks,ks,(kd2 fun _ _ _ _ _ X0 _ X1=>cVCompare X0 X1),(kr1 26 fun _ _ _ _ _ x0 X0=>⟨_,run_leqi rfl (x0.trans X0) rfl,congrArg Value.bool (dF h2c)⟩),ks,ks,trivial⟩ fun a4 w4 st4=>Wn ?_
   exact wp_ret (rS 4 (Vb false) st4 fun vr r4=>(by rw [show ovl a b c d=false from by unfold ovl;simp [h2c]];exact r4))
 ·
  refine Wn ?_
  refine rH [(32,8,0)] [Vv N ((loV a b).1) ((loV a b).2),Vv N ((hiV c d).1) ((hiV c d).2),Vi (cmpV (loV a b) (hiV c d)),Vb false,Vb false,VT,VT,VT,VT,Vb false,Vb false] [.k 2 73 16 (Vp N a.1 a.2 b.1 b.2),.k 3 73 16 (Vp N c.1 c.2 d.1 d.2),.k 5 32 8 (Vv N ((loV a b).1) ((loV a b).2)),.k 6 32 8 (Vv N ((hiV a b).1) ((hiV a b).2)),.k 7 32 8 (Vv N ((loV c d).1) ((loV c d).2)),.k 8 32 8 (Vv N ((hiV c d).1) ((hiV c d).2))] [(4,Vb false)] st3 ⟨ks,ks,(kd2 fun _ _ _ _ _ X0 _ X1=>cVCompare X0 X1),(kr1 21 fun _ _ _ _ _ x0 X0=>⟨_,run_leqi rfl (x0.trans X0) rfl,congrArg Value.bool (dF h1c)⟩),ks,ks,ks,ks,ks,ks,ks,trivial⟩ fun a4 w4 st4=>Wn ?_
  exact wp_ret (rS 4 (Vb false) st4 fun vr r4=>(by rw [show ovl a b c d=false from by unfold ovl;simp [h1c]];exact r4))
theorem cSgParts {w:World}{N:Nat}{a b c d:P2}{v0 v1:Value}(h0:Vp N a.1 a.2 b.1 b.2 v0 w)(h1:Vp N c.1 c.2 d.1 d.2 v1 w)(hN1:1<=N:=by omega)(hN:N<=1000:=by omega):Calls Tryz.prog 114 #[v0,v1] w (RV (Vb (prt a b c d)) w):=by
 go_enter Tryz.func114,Tryz.ntmps114
 generalize hA:(⟨_,_⟩:Act)=a0;have st0:St w.heap.size w 15 [] [(0,Vp N a.1 a.2 b.1 b.2),(1,Vp N c.1 c.2 d.1 d.2)] a0 w:=by subst hA;exact St.begin rfl rfl (Lq.2 ⟨⟨_,rfl,h0⟩,(Lq.2 ⟨⟨_,rfl,h1⟩,L0⟩)⟩)
 clear hA;have k1:=cmpI_abs (((b.1 - a.1)*(c.2 - a.2)+ -(b.2 - a.2)*(c.1 - a.1)).num) 0;have k2:=cmpI_abs (((b.1 - a.1)*(d.2 - a.2)+ -(b.2 - a.2)*(d.1 - a.1)).num) 0;have k3:sdI a b c= -1∨sdI a b c=0∨sdI a b c=1:=k1;have k4:sdI a b d= -1∨sdI a b d=0∨sdI a b d=1:=k2;clear k1 k2;refine Wn ?_
 refine rH [] [VT,VT,Vb false] [⟨2,some 0,some 0,73,16,Vp N a.1 a.2 b.1 b.2,VT⟩,⟨3,some 1,some 1,73,16,Vp N c.1 c.2 d.1 d.2,VT⟩] [(4,Vb false)] st0 ⟨ks,ks,ks,trivial⟩ fun a1 w1 st1=>Wn ?_
 refine rH [] [Vp N a.1 a.2 b.1 b.2,Vpt a1 3 0,Vv N c.1 c.2,Vi (sdI a b c),Vp N a.1 a.2 b.1 b.2,Vpt a1 3 8,Vv N d.1 d.2,Vi (sdI a b d),Vi ((sdI a b c)*(sdI a b d)),Vb (decide (((sdI a b c)*(sdI a b d))<=(0))),Vb (decide (((sdI a b c)*(sdI a b d))<=(0)))] [.k 2 73 16 (Vp N a.1 a.2 b.1 b.2),.k 3 73 16 (Vp N c.1 c.2 d.1 d.2)] [(4,Vb (decide (((sdI a b c)*(sdI a b d))<=(0))))] st1 ⟨ks,ks,ks,(kd2 fun _ _ _ _ _ X0 _ X1=>cSgSide X0 X1),ks,ks,ks,(kd2 fun _ _ _ _ _ X0 _ X1=>cSgSide X0 X1),(by refine kr fun _ A Y h D=>?_;obtain⟨v0,x0,X0⟩:=h.dp D 8;have hV0':v0= .int .i64 (sdI a b c):=X0;obtain⟨v1,x1,X1⟩:=h.dp D 12;have hV1':v1= .int .i64 (sdI a b d):=X1;exact⟨_,run_muli rfl (x0.trans hV0') (x1.trans hV1') (wrap_id (by rcases k3 with h|h|h<;>rcases k4 with h2|h2|h2<;>rw [h,h2]<;>decide) (by rcases k3 with h|h|h<;>rcases k4 with h2|h2|h2<;>rw [h,h2]<;>decide)),rfl⟩),(kr1 13 fun _ _ _ _ _ x0 X0=>⟨_,run_leqi rfl (x0.trans X0) rfl,congrArg Value.bool rfl⟩),ks,trivial⟩ ?_;intro a2 w2 st2;refine Wn ?_
 exact wp_ret (rS 4 (Vb (decide (((sdI a b c)*(sdI a b d))<=(0)))) st2 fun vr r4=>r4)
theorem cSgHas {w:World}{N:Nat}{a b p:P2}{v0 v1:Value}(h0:Vp N a.1 a.2 b.1 b.2 v0 w)(h1:Vv N p.1 p.2 v1 w)(hN1:1<=N:=by omega)(hN:N<=1000:=by omega):Calls Tryz.prog 44 #[v0,v1] w (RV (Vb (hasS a b p)) w):=by
 go_enter Tryz.func44,Tryz.ntmps44
 refine Sg 16 [(0,Vp N a.1 a.2 b.1 b.2),(1,Vv N p.1 p.2)] (Lq.2 ⟨⟨_,rfl,h0⟩,(Lq.2 ⟨⟨_,rfl,h1⟩,L0⟩)⟩) fun a0 st0=>Wn ?_
 refine rH [] [VT,VT,Vb false] [⟨2,some 0,some 0,73,16,Vp N a.1 a.2 b.1 b.2,VT⟩,⟨3,some 1,some 1,32,8,Vv N p.1 p.2,VT⟩] [(4,Vb false)] st0 ⟨ks,ks,ks,trivial⟩ ?_;intro a1 w1 st1;by_cases hcc:ovl a b p p=true
 ·
  refine Wn ?_
  refine rH [] [Vp N a.1 a.2 b.1 b.2,Vv N p.1 p.2,Vv N p.1 p.2,Vp N p.1 p.2 p.1 p.2,Vb true,Vb true,Vp N a.1 a.2 b.1 b.2,Vv N p.1 p.2,Vi (sdI a b p),Vb ((sdI a b p)==(0)),Vb ((sdI a b p)==(0)),Vb ((sdI a b p)==(0))] [.k 2 73 16 (Vp N a.1 a.2 b.1 b.2),.k 3 32 8 (Vv N p.1 p.2)] [(4,Vb ((sdI a b p)==(0)))] st1 ⟨ks,ks,ks,(kr2 6 7 fun _ _ _ _ _ x0 X0 _ x1 X1=>build_segment rfl x0 x1 (AggV_Vv _ _ _) (AggV_Vv _ _ _) X0 X1),(kd2 fun _ _ _ h _ X0 _ X1=>(cSgOverlaps X0 X1).mono fun e w h=>h.le fun v w hv=>hv.trans (congrArg Value.bool hcc)),ks,ks,ks,(kd2 fun _ _ _ _ _ X0 _ X1=>cSgSide X0 X1),(kr1 13 fun _ _ _ _ _ x0 X0=>⟨_,run_eqi rfl (x0.trans X0) rfl,congrArg Value.bool rfl⟩),ks,ks,trivial⟩ fun a2 w2 st2=>Wn ?_
  exact wp_ret (rS 4 (Vb ((sdI a b p)==(0))) st2 fun vr r4=>(by rw [show hasS a b p=(sdI a b p==0)from by unfold hasS;simp [hcc]];exact r4))
 ·
  refine Wn ?_
  refine rH [] [Vp N a.1 a.2 b.1 b.2,Vv N p.1 p.2,Vv N p.1 p.2,Vp N p.1 p.2 p.1 p.2,Vb false,Vb false,VT,VT,VT,VT,Vb false,Vb false] [.k 2 73 16 (Vp N a.1 a.2 b.1 b.2),.k 3 32 8 (Vv N p.1 p.2)] [(4,Vb false)] st1 ⟨ks,ks,ks,(kr2 6 7 fun _ _ _ _ _ x0 X0 _ x1 X1=>build_segment rfl x0 x1 (AggV_Vv _ _ _) (AggV_Vv _ _ _) X0 X1),(kd2 fun _ _ _ h _ X0 _ X1=>(cSgOverlaps X0 X1).mono fun e w h=>h.le fun v w hv=>hv.trans (congrArg Value.bool (by simpa using hcc))),ks,ks,ks,ks,ks,ks,ks,trivial⟩ fun a2 w2 st2=>Wn ?_
  exact wp_ret (rS 4 (Vb false) st2 fun vr r4=>(by rw [show hasS a b p=false from by unfold hasS;simp [hcc]];exact r4))
theorem cSgMeets {w:World}{N:Nat}{a b c d:P2}{v0 v1:Value}(h0:Vp N a.1 a.2 b.1 b.2 v0 w)(h1:Vp N c.1 c.2 d.1 d.2 v1 w)(hN1:1<=N:=by omega)(hN:N<=1000:=by omega):Calls Tryz.prog 75 #[v0,v1] w (RV (Vb (mts a b c d)) w):=by
 go_enter Tryz.func75,Tryz.ntmps75
 refine Sg 18 [(0,Vp N a.1 a.2 b.1 b.2),(1,Vp N c.1 c.2 d.1 d.2)] (Lq.2 ⟨⟨_,rfl,h0⟩,(Lq.2 ⟨⟨_,rfl,h1⟩,L0⟩)⟩) fun a0 st0=>Wn ?_
 refine rH [] [VT,VT,Vb false] [⟨2,some 0,some 0,73,16,Vp N a.1 a.2 b.1 b.2,VT⟩,⟨3,some 1,some 1,73,16,Vp N c.1 c.2 d.1 d.2,VT⟩] [(4,Vb false)] st0 ⟨ks,ks,ks,trivial⟩ ?_;intro a1 w1 st1;by_cases h1c:ovl a b c d=true
 ·
  by_cases h2c:prt a b c d=true
  ·
   refine Wn ?_
   refine rH [] [Vp N a.1 a.2 b.1 b.2,Vp N c.1 c.2 d.1 d.2,Vb true,Vb true,Vp N a.1 a.2 b.1 b.2,Vp N c.1 c.2 d.1 d.2,Vb true,Vb true,Vb true,Vp N c.1 c.2 d.1 d.2,Vp N a.1 a.2 b.1 b.2,Vb (prt c d a b),Vb (prt c d a b),Vb (prt c d a b)] [.k 2 73 16 (Vp N a.1 a.2 b.1 b.2),.k 3 73 16 (Vp N c.1 c.2 d.1 d.2)] [(4,Vb (prt c d a b))] st1 ⟨ks,ks,(kd2 fun _ _ _ h _ X0 _ X1=>(cSgOverlaps X0 X1).mono fun e w h=>h.le fun v w hv=>hv.trans (congrArg Value.bool h1c)),ks,ks,ks,(kd2 fun _ _ _ h _ X0 _ X1=>(cSgParts X0 X1).mono fun e w h=>h.le fun v w hv=>hv.trans (congrArg Value.bool h2c)),ks,ks,ks,ks,(kd2 fun _ _ _ _ _ X0 _ X1=>cSgParts X0 X1),ks,ks,trivial⟩ fun a2 w2 st2=>Wn ?_
   exact wp_ret (rS 4 (Vb (prt c d a b)) st2 fun vr r4=>(by rw [show mts a b c d=prt c d a b from by unfold mts;simp [h1c,h2c]];exact r4))
  ·
   refine Wn ?_
   refine rH [] [Vp N a.1 a.2 b.1 b.2,Vp N c.1 c.2 d.1 d.2,Vb true,Vb true,Vp N a.1 a.2 b.1 b.2,Vp N c.1 c.2 d.1 d.2,Vb false,Vb false,Vb false,VT,VT,VT,Vb false,Vb false] [.k 2 73 16 (Vp N a.1 a.2 b.1 b.2),.k 3 73 16 (Vp N c.1 c.2 d.1 d.2)] [(4,Vb false)] st1 ⟨ks,ks,(kd2 fun _ _ _ h _ X0 _ X1=>(cSgOverlaps X0 X1).mono fun e w h=>h.le fun v w hv=>hv.trans (congrArg Value.bool h1c)),ks,ks,ks,(kd2 fun _ _ _ h _ X0 _ X1=>(cSgParts X0 X1).mono fun e w h=>h.le fun v w hv=>hv.trans (congrArg Value.bool (by simpa using h2c))),ks,ks,ks,ks,ks,ks,ks,trivial⟩ fun a2 w2 st2=>Wn ?_
   exact wp_ret (rS 4 (Vb false) st2 fun vr r4=>(by rw [show mts a b c d=false from by unfold mts;simp [h2c]];exact r4))
 ·
  refine Wn ?_
  refine rH [] [Vp N a.1 a.2 b.1 b.2,Vp N c.1 c.2 d.1 d.2,Vb false,Vb false,VT,VT,VT,Vb false,Vb false,VT,VT,VT,Vb false,Vb false] [.k 2 73 16 (Vp N a.1 a.2 b.1 b.2),.k 3 73 16 (Vp N c.1 c.2 d.1 d.2)] [(4,Vb false)] st1 ⟨ks,ks,(kd2 fun _ _ _ h _ X0 _ X1=>(cSgOverlaps X0 X1).mono fun e w h=>h.le fun v w hv=>hv.trans (congrArg Value.bool (by simpa using h1c))),ks,ks,ks,ks,ks,ks,ks,ks,ks,ks,ks,trivial⟩ fun a2 w2 st2=>Wn ?_
  exact wp_ret (rS 4 (Vb false) st2 fun vr r4=>(by rw [show mts a b c d=false from by unfold mts;simp [h1c]];exact r4))
theorem cSgRight {w:World}{N:Nat}{a b p:P2}{v0 v1:Value}(h0:Vp N a.1 a.2 b.1 b.2 v0 w)(h1:Vv N p.1 p.2 v1 w)(hN1:1<=N:=by omega)(hN:N<=1000:=by omega):Calls Tryz.prog 45 #[v0,v1] w (RV (Vb (rgt a b p)) w):=by
 go_enter Tryz.func45,Tryz.ntmps45
 refine Sg 29 [(0,Vp N a.1 a.2 b.1 b.2),(1,Vv N p.1 p.2)] (Lq.2 ⟨⟨_,rfl,h0⟩,(Lq.2 ⟨⟨_,rfl,h1⟩,L0⟩)⟩) fun a0 st0=>Wn ?_
 refine rH [] [VT,VT,Vb false] [⟨2,some 0,some 0,73,16,Vp N a.1 a.2 b.1 b.2,VT⟩,⟨3,some 1,some 1,32,8,Vv N p.1 p.2,VT⟩] [(4,Vb false)] st0 ⟨ks,ks,ks,trivial⟩ fun a1 w1 st1=>Wn ?_
 refine rH [] [Vpt a1 2 0,Vv N a.1 a.2,Vv N p.1 p.2,Vb (abv a p),Vpt a1 2 8,Vv N b.1 b.2,Vv N p.1 p.2,Vb (abv b p),Vb (abv a p),Vb (abv b p)] [.k 2 73 16 (Vp N a.1 a.2 b.1 b.2),.k 3 32 8 (Vv N p.1 p.2)] [(4,Vb false),(5,Vb (abv a p)),(6,Vb (abv b p))] st1 ⟨ks,ks,ks,(kd2 fun _ _ _ _ _ X0 _ X1=>cAbove X0 X1),ks,ks,ks,(kd2 fun _ _ _ _ _ X0 _ X1=>cAbove X0 X1),ks,ks,trivial⟩ ?_;intro a2 w2 st2;by_cases hcc:(abv a p==abv b p)=true
 ·
  refine Wn ?_
  refine rH [] [Vb (abv a p),Vb (abv b p),Vb true,Vb true] [.k 2 73 16 (Vp N a.1 a.2 b.1 b.2),.k 3 32 8 (Vv N p.1 p.2)] [(4,Vb false),(6,Vb (abv b p)),(15,Vb true)] st2 ⟨ks,ks,(kr2 16 17 fun _ _ _ _ _ x0 X0 _ x1 X1=>⟨_,run_eqb rfl (x0.trans X0) (x1.trans X1),congrArg Value.bool hcc⟩),ks,trivial⟩ fun a3 w3 st3=>Wn ?_
  refine cT st3 ?_;refine Wn ?_
  refine rH [] [Vb false] [.k 2 73 16 (Vp N a.1 a.2 b.1 b.2),.k 3 32 8 (Vv N p.1 p.2)] [(6,Vb (abv b p)),(15,Vb true),(4,Vb false)] st3 ⟨ks,trivial⟩ fun a4 w4 st4=>Wn ?_
  exact wp_ret (rS 4 (Vb false) st4 fun vr r4=>(by rw [show rgt a b p=false from if_pos hcc];exact r4))
 ·
  refine Wn ?_
  refine rH [] [Vb (abv a p),Vb (abv b p),Vb false,Vb false] [.k 2 73 16 (Vp N a.1 a.2 b.1 b.2),.k 3 32 8 (Vv N p.1 p.2)] [(4,Vb false),(6,Vb (abv b p)),(15,Vb false)] st2 ⟨ks,ks,(kr2 16 17 fun _ _ _ _ _ x0 X0 _ x1 X1=>⟨_,run_eqb rfl (x0.trans X0) (x1.trans X1),congrArg Value.bool (Bool.eq_false_iff.2 hcc)⟩),ks,trivial⟩ fun a3 w3 st3=>Wn ?_
  refine cF st3 ?_;by_cases hb2:abv b p=true
  ·
   replace st3:St w.heap.size w 29 [.k 2 73 16 (Vp N a.1 a.2 b.1 b.2),.k 3 32 8 (Vv N p.1 p.2)] [(4,Vb false),(6,Vb (abv b p)),(15,Vb false)] a3 w3:=st3;rw [hb2] at st3;refine Wn ?_
   refine rH [] [Vb true,Vb true] [.k 2 73 16 (Vp N a.1 a.2 b.1 b.2),.k 3 32 8 (Vv N p.1 p.2)] [(4,Vb false),(6,Vb true),(15,Vb false),(19,Vb true)] st3 ⟨ks,ks,trivial⟩ fun a4 w4 st4=>Wn ?_
   refine cT st4 ?_;refine Wn ?_
   refine rH [] [Vp N a.1 a.2 b.1 b.2,Vv N p.1 p.2,Vi (sdI a b p),Vb (decide ((0)<(sdI a b p))),Vb (decide ((0)<(sdI a b p)))] [.k 2 73 16 (Vp N a.1 a.2 b.1 b.2),.k 3 32 8 (Vv N p.1 p.2)] [(6,Vb true),(15,Vb false),(19,Vb true),(4,Vb (decide ((0)<(sdI a b p))))] st4 ⟨ks,ks,(kd2 fun _ _ _ _ _ X0 _ X1=>cSgSide X0 X1),(kr1 23 fun _ _ _ _ _ x0 X0=>⟨_,run_gtri rfl (x0.trans X0) rfl,congrArg Value.bool rfl⟩),ks,trivial⟩ fun a5 w5 st5=>Wn ?_
   exact wp_ret (rS 4 (Vb (decide ((0)<(sdI a b p)))) st5 fun vr r4=>(by rw [show rgt a b p=decide (0<sdI a b p)from(if_neg hcc).trans (if_pos hb2)];exact r4))
  ·
   have hb3:abv b p=false:=by simpa using hb2
   replace st3:St w.heap.size w 29 [.k 2 73 16 (Vp N a.1 a.2 b.1 b.2),.k 3 32 8 (Vv N p.1 p.2)] [(4,Vb false),(6,Vb (abv b p)),(15,Vb false)] a3 w3:=st3;rw [hb3] at st3;refine Wn ?_
   refine rH [] [Vb false,Vb false] [.k 2 73 16 (Vp N a.1 a.2 b.1 b.2),.k 3 32 8 (Vv N p.1 p.2)] [(4,Vb false),(6,Vb false),(15,Vb false),(19,Vb false)] st3 ⟨ks,ks,trivial⟩ fun a4 w4 st4=>Wn ?_
   refine cF st4 ?_;refine Wn ?_
   refine rH [] [Vp N a.1 a.2 b.1 b.2,Vv N p.1 p.2,Vi (sdI a b p),Vb (decide ((sdI a b p)<(0))),Vb (decide ((sdI a b p)<(0)))] [.k 2 73 16 (Vp N a.1 a.2 b.1 b.2),.k 3 32 8 (Vv N p.1 p.2)] [(6,Vb false),(15,Vb false),(19,Vb false),(4,Vb (decide ((sdI a b p)<(0))))] st4 ⟨ks,ks,(kd2 fun _ _ _ _ _ X0 _ X1=>cSgSide X0 X1),(kr1 27 fun _ _ _ _ _ x0 X0=>⟨_,run_lssi rfl (x0.trans X0) rfl,congrArg Value.bool rfl⟩),ks,trivial⟩ fun a5 w5 st5=>Wn ?_
   exact wp_ret (rS 4 (Vb (decide ((sdI a b p)<(0)))) st5 fun vr r4=>(by rw [show rgt a b p=decide (sdI a b p<0)from(if_neg hcc).trans (if_neg hb2)];exact r4))
theorem cMeets {w:World}{N:Nat}{a b c d:P2}{v0 v1 v2 v3:Value}(h0:Vv N a.1 a.2 v0 w)(h1:Vv N b.1 b.2 v1 w)(h2:Vv N c.1 c.2 v2 w)(h3:Vv N d.1 d.2 v3 w)(hN1:1<=N:=by omega)(hN:N<=1000:=by omega):Calls Tryz.prog 33 #[v0,v1,v2,v3] w (RV (Vb (mts a b c d)) w):=by
 go_enter Tryz.func33,Tryz.ntmps33
 refine Sg 16 [(0,Vv N a.1 a.2),(1,Vv N b.1 b.2),(2,Vv N c.1 c.2),(3,Vv N d.1 d.2)] (Lq.2 ⟨⟨_,rfl,h0⟩,(Lq.2 ⟨⟨_,rfl,h1⟩,(Lq.2 ⟨⟨_,rfl,h2⟩,(Lq.2 ⟨⟨_,rfl,h3⟩,L0⟩)⟩)⟩)⟩) fun a0 st0=>Wn ?_
 refine rH [] [VT,VT,VT,VT,Vb false] [⟨4,some 0,some 0,32,8,Vv N a.1 a.2,VT⟩,⟨5,some 1,some 1,32,8,Vv N b.1 b.2,VT⟩,⟨6,some 2,some 2,32,8,Vv N c.1 c.2,VT⟩,⟨7,some 3,some 3,32,8,Vv N d.1 d.2,VT⟩] [(8,Vb false)] st0 ⟨ks,ks,ks,ks,ks,trivial⟩ fun a1 w1 st1=>Wn ?_
 refine rH [] [Vv N a.1 a.2,Vv N b.1 b.2,Vp N a.1 a.2 b.1 b.2,Vv N c.1 c.2,Vv N d.1 d.2,Vp N c.1 c.2 d.1 d.2,Vb (mts a b c d),Vb (mts a b c d)] [.k 4 32 8 (Vv N a.1 a.2),.k 5 32 8 (Vv N b.1 b.2),.k 6 32 8 (Vv N c.1 c.2),.k 7 32 8 (Vv N d.1 d.2)] [(8,Vb (mts a b c d))] st1 ⟨ks,ks,(kr2 9 10 fun _ _ _ _ _ x0 X0 _ x1 X1=>build_segment rfl x0 x1 (AggV_Vv _ _ _) (AggV_Vv _ _ _) X0 X1),ks,ks,(kr2 12 13 fun _ _ _ _ _ x0 X0 _ x1 X1=>build_segment rfl x0 x1 (AggV_Vv _ _ _) (AggV_Vv _ _ _) X0 X1),(kd2 fun _ _ _ _ _ X0 _ X1=>cSgMeets X0 X1),ks,trivial⟩ fun a2 w2 st2=>Wn ?_
 exact wp_ret (rS 8 (Vb (mts a b c d)) st2 fun vr r4=>r4)
theorem cLesser {w:World}{N:Nat}{x y:Rat}{v0 v1:Value}(h0:Vq N x v0 w)(h1:Vq N y v1 w)(hN1:1<=N:=by omega)(hN:N<=1000:=by omega):Calls Tryz.prog 50 #[v0,v1] w (RV (Vq N (lsQ x y)) w):=by
 go_enter Tryz.func50,Tryz.ntmps50
 refine Sg 11 [(0,Vq N x),(1,Vq N y)] (Lq.2 ⟨⟨_,rfl,h0⟩,(Lq.2 ⟨⟨_,rfl,h1⟩,L0⟩)⟩) fun a0 st0=>Wn ?_
 refine rH [(30,4,0)] [VT,VT,VT] [⟨2,some 0,some 0,30,4,Vq N x,VT⟩,⟨3,some 1,some 1,30,4,Vq N y,VT⟩,⟨4,some 2,none,30,4,VT,VT⟩] [] st0 ⟨ks,ks,ks,trivial⟩ ?_;intro a1 w1 st1;by_cases hcc:cmpQ x y<=0
 ·
  refine Wn ?_
  refine rH [(30,4,0)] [Vq N x,Vq N y,Vi (cmpQ x y),Vb true] [.k 2 30 4 (Vq N x),.k 3 30 4 (Vq N y),.k 4 30 4 VT] [(8,Vb true)] st1 ⟨ks,ks,(kd2 fun _ _ _ _ _ X0 _ X1=>cQCompare X0 X1),(kr1 7 fun _ _ _ _ _ x0 X0=>⟨_,run_leqi rfl (x0.trans X0) rfl,congrArg Value.bool (dT hcc)⟩),trivial⟩ fun a2 w2 st2=>Wn ?_
  refine cT st2 ?_;refine Wn ?_
  refine rH [(30,4,0)] [Vq N x,VT] [.k 2 30 4 (Vq N x),.k 3 30 4 (Vq N y),⟨4,none,some 1,30,4,Vq N x,VT⟩] [(8,Vb true)] st2 ⟨ks,ks,trivial⟩ fun a3 w3 st3=>Wn ?_
  exact wp_ret (rC 4 30 (Vq N x) st3 fun cs r4=>(by rw [show lsQ x y=x from if_pos hcc];exact r4))
 ·
  refine Wn ?_
  refine rH [(30,4,0)] [Vq N x,Vq N y,Vi (cmpQ x y),Vb false] [.k 2 30 4 (Vq N x),.k 3 30 4 (Vq N y),.k 4 30 4 VT] [(8,Vb false)] st1 ⟨ks,ks,(kd2 fun _ _ _ _ _ X0 _ X1=>cQCompare X0 X1),(kr1 7 fun _ _ _ _ _ x0 X0=>⟨_,run_leqi rfl (x0.trans X0) rfl,congrArg Value.bool (dF hcc)⟩),trivial⟩ fun a2 w2 st2=>Wn ?_
  refine cF st2 ?_;refine Wn ?_
  refine rH [(30,4,0)] [Vq N y,VT] [.k 2 30 4 (Vq N x),.k 3 30 4 (Vq N y),⟨4,none,some 1,30,4,Vq N y,VT⟩] [(8,Vb false)] st2 ⟨ks,ks,trivial⟩ fun a3 w3 st3=>Wn ?_
  exact wp_ret (rC 4 30 (Vq N y) st3 fun cs r4=>(by rw [show lsQ x y=y from if_neg hcc];exact r4))
theorem cGreater {w:World}{N:Nat}{x y:Rat}{v0 v1:Value}(h0:Vq N x v0 w)(h1:Vq N y v1 w)(hN1:1<=N:=by omega)(hN:N<=1000:=by omega):Calls Tryz.prog 51 #[v0,v1] w (RV (Vq N (grQ x y)) w):=by
 go_enter Tryz.func51,Tryz.ntmps51
 refine Sg 11 [(0,Vq N x),(1,Vq N y)] (Lq.2 ⟨⟨_,rfl,h0⟩,(Lq.2 ⟨⟨_,rfl,h1⟩,L0⟩)⟩) fun a0 st0=>Wn ?_
 refine rH [(30,4,0)] [VT,VT,VT] [⟨2,some 0,some 0,30,4,Vq N x,VT⟩,⟨3,some 1,some 1,30,4,Vq N y,VT⟩,⟨4,some 2,none,30,4,VT,VT⟩] [] st0 ⟨ks,ks,ks,trivial⟩ ?_;intro a1 w1 st1;by_cases hcc:0<=cmpQ x y
 ·
  refine Wn ?_
  refine rH [(30,4,0)] [Vq N x,Vq N y,Vi (cmpQ x y),Vb true] [.k 2 30 4 (Vq N x),.k 3 30 4 (Vq N y),.k 4 30 4 VT] [(8,Vb true)] st1 ⟨ks,ks,(kd2 fun _ _ _ _ _ X0 _ X1=>cQCompare X0 X1),(kr1 7 fun _ _ _ _ _ x0 X0=>⟨_,run_geqi rfl (x0.trans X0) rfl,congrArg Value.bool (dT hcc)⟩),trivial⟩ fun a2 w2 st2=>Wn ?_
  refine cT st2 ?_;refine Wn ?_
  refine rH [(30,4,0)] [Vq N x,VT] [.k 2 30 4 (Vq N x),.k 3 30 4 (Vq N y),⟨4,none,some 1,30,4,Vq N x,VT⟩] [(8,Vb true)] st2 ⟨ks,ks,trivial⟩ fun a3 w3 st3=>Wn ?_
  exact wp_ret (rC 4 30 (Vq N x) st3 fun cs r4=>(by rw [show grQ x y=x from if_pos hcc];exact r4))
 ·
  refine Wn ?_
  refine rH [(30,4,0)] [Vq N x,Vq N y,Vi (cmpQ x y),Vb false] [.k 2 30 4 (Vq N x),.k 3 30 4 (Vq N y),.k 4 30 4 VT] [(8,Vb false)] st1 ⟨ks,ks,(kd2 fun _ _ _ _ _ X0 _ X1=>cQCompare X0 X1),(kr1 7 fun _ _ _ _ _ x0 X0=>⟨_,run_geqi rfl (x0.trans X0) rfl,congrArg Value.bool (dF hcc)⟩),trivial⟩ fun a2 w2 st2=>Wn ?_
  refine cF st2 ?_;refine Wn ?_
  refine rH [(30,4,0)] [Vq N y,VT] [.k 2 30 4 (Vq N x),.k 3 30 4 (Vq N y),⟨4,none,some 1,30,4,Vq N y,VT⟩] [(8,Vb false)] st2 ⟨ks,ks,trivial⟩ fun a3 w3 st3=>Wn ?_
  exact wp_ret (rC 4 30 (Vq N y) st3 fun cs r4=>(by rw [show grQ x y=y from if_neg hcc];exact r4))
open Go
abbrev fW (ro:Option Nat):Fence:={fn:=fun _=>True,depth:=none,alive:=false,round:=ro}
section
variable {ro:Option Nat}{n:Nat}{P:Program}{ops:Array Oper}{md:Region.Mode}{Q:Exit->Act->World->Prop}{a a0:Act}{w:World}
theorem Calls.inW {f:FuncId}{args:Array Value}{R:Ending->World->Prop}(h:Calls P f args w R):CallsIn (fW ro) n P f args w R:=(callsIn_wide (n:=n)).2 h
theorem wp_in {o:Oper}{K:Act->World->Prop}(D:∀c,o.op≠ .defer c)(h:o.wp P a w K Q):o.wpIn (fW ro) n P a w K Q:=by
 refine⟨fun _ _=>trivial,?_⟩;rw [show(fW ro).round=ro from rfl,Oper.semAt_eq ro a.eval o D];unfold Oper.wp at h;generalize(execOp a.eval o).run P w=r at h ⊢;have nod:(fW ro).depth.isSome=true->1<=n:=fun e=>absurd e (by simp)
 cases r with
 |ok x w'=>
  cases x;case enter f args=>exact⟨nod,Calls.inW h⟩
  case row r args=>
   refine⟨nod,fun c cs _=>?_⟩;obtain⟨v,w'',hR,hs⟩:=h c cs;exact⟨v,w'',hR,stepsIn_wide.2 hs⟩
  case round=>exact h.elim
  all_goals exact h
 |halt x w'=>cases x<;>exact h
def noDefer (l:List Oper):Bool:=l.all fun o=>match o.op with| .defer _=>false|_=>true
def KStepI (BT:List (TypeId×Nat×Nat))(ro:Option Nat)(n:Nat)(P:Program)(md:Region.Mode)(ops:Array Oper)(Q:Exit->Act->World->Prop)(a0:Act)(V:Nat->VP)(n0:Nat)(w0:World)(B:List Bd)(SL:List (Nat×VP))(i:Nat)(o:Oper):Prop:=
 ∀listed a w,KI md ops a0 V n0 w0 B SL listed a w->(∀e∈o.after,Region.binds md e=true->listed.getD e.on false=true)->o.dst.all (fun d=>decide (d<a0.tmps.size))=true->i<listed.size->listed.getD i false=false->
  ∀K:Act->World->Prop,(∀v w',KS n0 w0 B (listed.setIfInBounds i true) (a.put o.dst v) w'->RI BT w w'->V i v w'->K (a.put o.dst v) w')->(if Region.wanted o (yielded ops a.tmps)then o.wpIn (fW ro) n P a w K Q else K (a.put o.dst undef) w)
variable {BT:List (TypeId×Nat×Nat)}{V:Nat->VP}{n0:Nat}{w0:World}{B:List Bd}{SL:List (Nat×VP)}
theorem KStep.toI {i:Nat}{o:Oper}(D:∀c,o.op≠ .defer c)(h:KStep BT P md ops Q a0 V n0 w0 B SL i o):KStepI BT ro n P md ops Q a0 V n0 w0 B SL i o:=fun listed a w h1 h2 h3 h4 h5 K hK=>by
 have:=h listed a w h1 h2 h3 h4 h5 K hK;by_cases hw:Region.wanted o (yielded ops a.tmps)=true
 ·simp only [hw,if_true] at this ⊢;exact wp_in D this
 ·simp only [hw] at this ⊢;exact this
theorem wpAny_kI (hfore:kFore md ops=true)(hown:flowOwn ops=true)(hin:∀(i:Nat) (o:Oper) (d:Tmp),ops[i]? =some o->o.dst=some d->d<a0.tmps.size)(hV:∀i,Stab BT (V i))(hSL:∀p∈SL,Stab BT p.2)
 (hstep:∀(i:Nat) (o:Oper),ops[i]? =some o->KStepI BT ro n P md ops Q a0 V n0 w0 B SL i o)
 (hdone:∀(listed:Array Bool) (a:Act) (w:World),(∀i,i<ops.size->listed.getD i false=true)->KI md ops a0 V n0 w0 B SL listed a w->Q .normal a w):
 ∀(fuel:Nat) (listed:Array Bool) (a:Act) (w:World),KI md ops a0 V n0 w0 B SL listed a w->listed.toList.count false<=fuel->wpAnyIn (fW ro) n P md ops Q fuel listed a w:=by
 intro fuel
 induction fuel with
 |zero=>
  intro listed a w h hc;have hall:∀i,i<ops.size->listed.getD i false=true:=fun i hi=>count_zero listed (by omega) i (by rw [h.len];exact hi)
  refine⟨?_,hdone _ _ _ hall h⟩;cases hr:Region.ready md ops listed with
  |nil=>rfl
  |cons i l=>
   have hi:i∈Region.ready md ops listed:=by rw [hr];exact List.mem_cons_self
   obtain⟨h1,o,ho,_⟩:=mem_ready.1 hi
   have hlt:i<ops.size:=by
    rcases Nat.lt_or_ge i ops.size with h'|h'
    ·exact h'
    ·rw [Array.getElem?_eq_none h'] at ho;cases ho
   have h2:=hall i hlt;have h3:i<listed.size:=by rw [h.len];exact hlt
   simp [Array.getD,h3] at h1 h2;rw [h2] at h1;cases h1
 |succ fuel ih=>
  intro listed a w h hc;refine⟨fun hr=>hdone _ _ _ (kready_none hfore h.len hr) h,fun i hi=>?_⟩;obtain⟨h1,o,ho,hdep⟩:=mem_ready.1 hi
  have hlt:i<listed.size:=by
   rw [h.len];rcases Nat.lt_or_ge i ops.size with h'|h'
   ·exact h'
   ·rw [Array.getElem?_eq_none h'] at ho;cases ho
  have hcnt:=count_set listed i hlt h1;have:=hstep i o ho listed a w h hdep (dst_ok hin ho) hlt (by have h5:=h1;simp only [Array.getD,hlt,dif_pos] at h5 ⊢;exact h5) (wpAnyIn (fW ro) n P md ops Q fuel (listed.setIfInBounds i true)) fun v w' hS hR hv=>ih _ _ _ (h.step hown hin hV hSL ho hdep hS hR hv) (by omega)
  unfold wpOpIn;rw [ho];by_cases hw:Region.wanted o (yielded ops a.tmps)=true
  ·simp only [hw,if_true] at this ⊢;exact this
  ·simp only [hw] at this ⊢;exact⟨fun _ _=>trivial,this⟩
theorem wpList_kI (hfore:kFore md ops=true)(hown:flowOwn ops=true)(hin:∀(i:Nat) (o:Oper) (d:Tmp),ops[i]? =some o->o.dst=some d->d<a0.tmps.size)(hV:∀i,Stab BT (V i))(hSL:∀p∈SL,Stab BT p.2)
 (hstep:∀(i:Nat) (o:Oper),ops[i]? =some o->KStepI BT ro n P md ops Q a0 V n0 w0 B SL i o)
 (hdone:∀(listed:Array Bool) (a:Act) (w:World),(∀i,i<ops.size->listed.getD i false=true)->KI md ops a0 V n0 w0 B SL listed a w->Q .normal a w):
 ∀(rest:List Oper) (k:Nat) (listed:Array Bool) (a:Act) (w:World),ops.toList.drop k=rest->(∀i,i<k->i<ops.size->listed.getD i false=true)->(∀i,k<=i->listed.getD i false=false)->KI md ops a0 V n0 w0 B SL listed a w->wpListIn (fW ro) n P ops Q rest a w:=by
 intro rest
 induction rest with
 |nil=>
  intro k listed a w hk hl _ h
  have:ops.size<=k:=by
   have:=List.drop_eq_nil_iff.1 hk
   simpa using this
  exact hdone listed a w (fun i hi=>hl i (by omega) hi) h
 |cons o rest ih=>
  intro k listed a w hk hl hnl h
  have hlt:k<ops.toList.length:=by
   rcases Nat.lt_or_ge k ops.toList.length with h'|h'
   ·exact h'
   ·rw [List.drop_eq_nil_iff.2 h'] at hk;cases hk
  rw [List.drop_eq_getElem_cons hlt] at hk;have ho':ops.toList[k]=o:=(List.cons.inj hk).1
  have ho:ops[k]? =some o:=by
   have h1:k<ops.size:=by simpa using hlt
   rw [Array.getElem?_eq_getElem h1]
   simpa using ho'
  have hlk:k<listed.size:=by rw [h.len];simpa using hlt
  have hdep:∀e∈o.after,Region.binds md e=true->listed.getD e.on false=true:=fun e he hb=>by
   have h1:=kFore_spec hfore ho e he hb
   exact hl e.on h1 (by
    have:k<ops.size:=by simpa using hlt
    omega)
  have:=hstep k o ho listed a w h hdep (dst_ok hin ho) hlk (hnl k (Nat.le_refl _)) (wpListIn (fW ro) n P ops Q rest) fun v w' hS hR hv=>ih (k+1) _ _ _ (List.cons.inj hk).2 (fun i hi hi'=>by
   rw [getD_set _ _ _ hlk];split
   ·rfl
   ·exact hl i (by omega) hi') (fun i hi=>by
   rw [getD_set _ _ _ hlk,if_neg (by omega)]
   exact hnl i (by omega)) (h.step hown hin hV hSL ho hdep hS hR hv)
  unfold wpListIn;by_cases hw:Region.wanted o (yielded ops a.tmps)=true
  ·simp only [hw,if_true] at this ⊢;exact this
  ·simp only [hw] at this ⊢;exact⟨fun _ _=>trivial,this⟩
def AllKI (BT:List (TypeId×Nat×Nat))(ro:Option Nat)(n:Nat)(P:Program)(md:Region.Mode)(ops:Array Oper)(Q:Exit->Act->World->Prop)(a0:Act)(V:Nat->VP)(n0:Nat)(w0:World)(B:List Bd)(SL:List (Nat×VP)):Nat->List Oper->Prop
 |_,[]=>True
 |i,o::l=>KStepI BT ro n P md ops Q a0 V n0 w0 B SL i o/\AllKI BT ro n P md ops Q a0 V n0 w0 B SL (i+1) l
theorem AllKI.get:∀(l:List Oper) (i:Nat),AllKI BT ro n P md ops Q a0 V n0 w0 B SL i l->∀(j:Nat) (o:Oper),l[j]? =some o->KStepI BT ro n P md ops Q a0 V n0 w0 B SL (i+j) o
 | [],_,_,j,o,ho=>by simp at ho
 |x::l,i,h,0,o,ho=>by
  have:x=o:=by simpa using ho
  subst this;exact h.1
 |x::l,i,h,j+1,o,ho=>by
  have:=AllKI.get l (i+1) h.2 j o (by simpa using ho);rw [show i+(j+1)=i+1+j by omega];exact this
theorem AllK.toI:∀(l:List Oper) (i:Nat),noDefer l=true->AllK BT P md ops Q a0 V n0 w0 B SL i l->AllKI BT ro n P md ops Q a0 V n0 w0 B SL i l
 | [],_,_,_=>trivial
 |o::l,i,D,h=>by
  simp only [noDefer,List.all_cons,Bool.and_eq_true] at D;refine⟨h.1.toI fun c e=>?_,AllK.toI l (i+1) D.2 h.2⟩;have:=D.1;rw [e] at this;cases this
theorem region_kI {id:Nat}{l:List Oper}{ord:Bool}{w:World}(hm:P.follows .mixedOrders=true)(hfore:kFore .any l.toArray=true)(hown:flowOwn l.toArray=true)(hin:l.all (fun o=>match o.dst with|some d=>decide (d<a0.tmps.size)|none=>true)=true)
 (hBP:∀b∈B,b.stab BT) (hSL:∀p∈SL,Stab BT p.2) (hV:∀i,Stab BT (V i))
 (hst:KS n0 w0 B (Array.replicate l.length false) a0 w) (hn:n0<=w.heap.size) (hsl:∀p∈SL,∃v,a0.tmps[p.1]? =some v/\p.2 v w)
 (hstep:AllKI BT ro n P .any l.toArray Q a0 V n0 w0 B SL 0 l)
 (hdone:∀(listed:Array Bool) (a:Act) (w:World),(∀i,i<l.toArray.size->listed.getD i false=true)->KI .any l.toArray a0 V n0 w0 B SL listed a w->Q .normal a w):(Code.region id l.toArray ord).wpIn (fW ro) n P Q a0 w:=by
 have hin':∀(i:Nat) (o:Oper) (d:Tmp),l.toArray[i]? =some o->o.dst=some d->d<a0.tmps.size:=fun i o d ho D=>by
  rw [List.all_eq_true] at hin;have ho':l[i]? =some o:=by simpa using ho
  have:=hin o (List.mem_of_getElem? ho');rw [D] at this;exact of_decide_eq_true this
 have hs':∀(i:Nat) (o:Oper),l.toArray[i]? =some o->KStepI BT ro n P .any l.toArray Q a0 V n0 w0 B SL i o:=fun i o ho=>by
  have:=AllKI.get l 0 hstep i o (by simpa using ho);rw [Nat.zero_add] at this;exact this
 have hno:∀i,(Array.replicate l.length false).getD i false=true->False:=fun i hl=>by
  simp only [Array.getD_eq_getD_getElem?,Array.getElem?_replicate] at hl;split at hl<;>simp at hl
 cases ord with
 |true=>
  refine wpIn_region_any hm (wpAny_kI hfore hown hin' hV hSL hs' hdone _ _ _ _ ⟨?_,hn,by simp,rfl,rfl,fun _ _=>rfl,fun i o d ho hl _=>(hno i hl).elim,fun p hp=>?_,fun k o _ hl=>(hno k hl).elim⟩ ?_)
  ·have:=hst.drew hBP
   simpa using this
  ·obtain⟨v,h1,h2⟩:=hsl p hp;exact⟨v,h1,hSL p hp _ _ _ h2 (RI.drew w)⟩
  ·simp
 |false=>
  refine wpIn_region_lit (wpList_kI hfore hown hin' hV hSL hs' hdone l 0 (Array.replicate l.length false) a0 w (by simp) (fun i hi=>by omega) (fun i _=>by
   cases hl:(Array.replicate l.length false).getD i false with
   |false=>rfl
   |true=>exact(hno i hl).elim) ⟨hst,hn,by simp,rfl,rfl,fun _ _=>rfl,fun i o d ho hl _=>(hno i hl).elim,hsl,fun k o _ hl=>(hno k hl).elim⟩)
end
section
variable {ro:Option Nat}{n:Nat}{Q:Exit->Act->World->Prop}{Vl:List VP}{n0:Nat}{w0:World}{B:List Bd}{SL:List (Nat×VP)}{BT:List (TypeId×Nat×Nat)}
theorem rgI {id N:Nat}{l:List Oper}{ord:Bool}{L:List Bd}{SL':List (Nat×VP)}{a:Act}{w:World}(st:St n0 w0 N L SL a w)(hstep:AllK BT Tryz.prog .any l.toArray Q a (GV Vl) n0 w0 B SL 0 l)(hdone:∀a' w',St n0 w0 N (B.map Bd.fin) SL' a' w'->Q .normal a' w')[hB:SbB BT B][hS:SbS BT SL][hL:SbL BT Vl]
 (hst:StartsF L B:=by repeat (first|exact trivial|refine⟨.inl ⟨_,rfl⟩,?_⟩|refine⟨.inr ⟨_,rfl,rfl,rfl,rfl,rfl,rfl,.inr ⟨rfl,rfl,rfl⟩⟩,?_⟩|refine⟨.inr ⟨_,rfl,rfl,rfl,rfl,rfl,rfl,.inl ⟨_,rfl,rfl,rfl⟩⟩,?_⟩))
 (hg:GetsF l.toArray (GV Vl) SL SL':=by repeat (first|exact trivial|refine⟨.inl ⟨rfl,rfl⟩,?_⟩|refine⟨.inr ⟨rfl,by kernel_rfl⟩,?_⟩))
 (hm:Tryz.prog.follows .mixedOrders=true:=by kernel_rfl) (hfore:kFore .any l.toArray=true:=by kernel_rfl) (hown:flowOwn l.toArray=true:=by kernel_rfl) (hin:l.all (fun o=>match o.dst with|some d=>decide (d<N)|none=>true)=true:=by kernel_rfl)
 (hlt:B.all (fun b=>(match b.ia with|some i=>decide (i<l.toArray.size)|none=>true) && (match b.ik with|some i=>decide (i<l.toArray.size)|none=>true))=true:=by kernel_rfl) (hnd:noDefer l=true:=by kernel_rfl):(Code.region id l.toArray ord).wpIn (fW ro) n Tryz.prog Q a w:=
 region_kI hm hfore hown (by rw [st.size];exact hin) hB.out hS.out (stab_of hL.out) (st.start hst.to _) st.n st.sl (hstep.toI l 0 hnd) fun listed a' w' hall kd=>hdone a' w' (kd.st hall st.size st.defers hlt SL' hg.to)
theorem cTI {ro:Option Nat}{n n0 N t:Nat}{w0:World}{Q:Exit->Act->World->Prop}{L:List Bd}{SL:List (Nat×VP)}{a:Act}{w:World}{x y:Code}{P:Program}(st:St n0 w0 N L SL a w)(k:x.wpIn (fW ro) n P Q a w)(hm:lS SL t=some (Vb true):=by rfl):(Code.cond (.tmp t) x y).wpIn (fW ro) n P Q a w:=by
 obtain⟨v,h1,h2⟩:=st.slot (t,Vb true) (lS_mem hm);exact wpIn_cond_true (h1.trans h2) k
theorem cFI {ro:Option Nat}{n n0 N t:Nat}{w0:World}{Q:Exit->Act->World->Prop}{L:List Bd}{SL:List (Nat×VP)}{a:Act}{w:World}{x y:Code}{P:Program}(st:St n0 w0 N L SL a w)(k:y.wpIn (fW ro) n P Q a w)(hm:lS SL t=some (Vb false):=by rfl):(Code.cond (.tmp t) x y).wpIn (fW ro) n P Q a w:=by
 obtain⟨v,h1,h2⟩:=st.slot (t,Vb false) (lS_mem hm);exact wpIn_cond_false (h1.trans h2) k
theorem rJ {id N:Nat}{l:List Oper}{ord:Bool}{L:List Bd}{a:Act}{w:World}(BT:List (TypeId×Nat×Nat))(Vl:List VP)(B:List Bd)(SL':List (Nat×VP))(st:St n0 w0 N L SL a w)(hstep:AllK BT Tryz.prog .any l.toArray Q a (GV Vl) n0 w0 B SL 0 l)(hdone:∀a' w',St n0 w0 N (B.map Bd.fin) SL' a' w'->Q .normal a' w')[hB:SbB BT B][hS:SbS BT SL][hL:SbL BT Vl]
 (hst:StartsF L B:=by repeat (first|exact trivial|refine⟨.inl ⟨_,rfl⟩,?_⟩|refine⟨.inr ⟨_,rfl,rfl,rfl,rfl,rfl,rfl,.inr ⟨rfl,rfl,rfl⟩⟩,?_⟩|refine⟨.inr ⟨_,rfl,rfl,rfl,rfl,rfl,rfl,.inl ⟨_,rfl,rfl,rfl⟩⟩,?_⟩))
 (hg:GetsF l.toArray (GV Vl) SL SL':=by repeat (first|exact trivial|refine⟨.inl ⟨rfl,rfl⟩,?_⟩|refine⟨.inr ⟨rfl,by kernel_rfl⟩,?_⟩))
 (hm:Tryz.prog.follows .mixedOrders=true:=by kernel_rfl) (hfore:kFore .any l.toArray=true:=by kernel_rfl) (hown:flowOwn l.toArray=true:=by kernel_rfl) (hin:l.all (fun o=>match o.dst with|some d=>decide (d<N)|none=>true)=true:=by kernel_rfl)
 (hlt:B.all (fun b=>(match b.ia with|some i=>decide (i<l.toArray.size)|none=>true) && (match b.ik with|some i=>decide (i<l.toArray.size)|none=>true))=true:=by kernel_rfl) (hnd:noDefer l=true:=by kernel_rfl):(Code.region id l.toArray ord).wpIn (fW ro) n Tryz.prog Q a w:=rgI st hstep hdone hst hg hm hfore hown hin hlt hnd
end
theorem World_heap_eq {w:World}{h:Array Obj}(e:h=w.heap):{w with heap:=h}=w:=by subst e;rfl
theorem setRow_same {w:World}{g:Nat}{cs:Array Value}{T:TypeId}{fr:Nat×Nat}(hg:w.heap[g]? =some (.cells cs T fr)):w.setRow g cs=w:=by
 unfold World.setRow;refine World_heap_eq (Array.ext_getElem? fun j=>?_);rw [Array.getElem?_modify];by_cases e:g=j
 ·subst e;rw [if_pos rfl,hg];rfl
 ·rw [if_neg e]
theorem setRow_two (w:World)(g:Nat)(x y:Array Value):(w.setRow g x).setRow g y=w.setRow g y:=by
 unfold World.setRow
 congr 1
 apply Array.ext_getElem?;intro j;simp only [Array.getElem?_modify];by_cases e:g=j
 ·subst e;simp only [if_true];cases w.heap[g]? with
  |none=>rfl
  |some o=>cases o<;>rfl
 ·simp [e]
def updR (cs:Array Value):Nat->List Value->Array Value
 |_,[]=>cs
 |o,v::r=>updR (cs.setIfInBounds o v) (o+1) r
theorem updR_size:∀(l:List Value) (o:Nat) (cs:Array Value),(updR cs o l).size=cs.size
 | [],_,_=>rfl
 |_::r,o,cs=>by unfold updR;rw [updR_size r];simp
theorem updR_get:∀(l:List Value) (o:Nat) (cs:Array Value) (j:Nat),o+l.length<=cs.size->(updR cs o l)[j]? =if o<=j/\j<o+l.length then l[j - o]? else cs[j]?
 | [],o,cs,j,_=>by
  unfold updR;rw [if_neg (by simp)]
 |v::r,o,cs,j,h=>by
  unfold updR;have h':o+1+r.length<=cs.size:=by simp at h;omega
  rw [updR_get r (o+1) _ j (by simpa using h')];by_cases h1:o+1<=j/\j<o+1+r.length
  ·rw [if_pos h1,if_pos (by simp;omega),show j - o=j - (o+1)+1 by omega,List.getElem?_cons_succ]
  ·rw [if_neg h1];by_cases h2:j=o
   ·subst h2;rw [if_pos (by simp),Nat.sub_self,List.getElem?_cons_zero,Array.getElem?_setIfInBounds_self_of_lt (by omega)]
   ·rw [if_neg (by simp;omega),Array.getElem?_setIfInBounds_ne (fun e=>h2 e.symm)]
theorem setCells_upd {g:Nat}{T:TypeId}{fr:Nat×Nat}:∀(l:List Value) (o:Nat) (w:World) (cs:Array Value),w.heap[g]? =some (.cells cs T fr)->w.setCells g o l=w.setRow g (updR cs o l)
 | [],_,w,cs,hg=>(setRow_same hg).symm
 |v::r,o,w,cs,hg=>by
  have e1:w.setCell ⟨g,o,none⟩ v=w.setRow g (cs.setIfInBounds o v):=by
   unfold World.setCell World.setRow
   congr 1
   apply Array.ext_getElem?;intro j;simp only [Array.getElem?_modify];by_cases e:g=j
   ·subst e;simp [hg]
   ·simp [e]
  unfold World.setCells updR;rw [e1,setCells_upd r (o+1) _ _ (setRow_heap w g cs _ T fr hg),setRow_two]
structure Rw where
 g:Nat
 k:Nat
 T:TypeId
 m:Nat
 P:VP
 P0:VP
def RowI (r:Rw)(listed:Array Bool)(w:World):Prop:=∃cs,w.heap[r.g]? =some (.cells cs r.T (0,0))/\cs.size=r.m/\NoInt cs/\(listed.getD r.k false=true->r.P (.agg cs) w)/\(listed.getD r.k false=false->r.P0 (.agg cs) w)
section
variable {P:Program}{md:Region.Mode}{ops:Array Oper}{Q:Exit->Act->World->Prop}{a0:Act}{V:Nat->VP}{n0:Nat}{w0:World}{B:List Bd}{SL:List (Nat×VP)}{BT BT2:List (TypeId×Nat×Nat)}{r:Rw}
theorem RI.mono {w w':World}(h:RI BT w w')(hs:∀e∈BT,e∈BT2)(hs2:∀e∈BT2,e.2.1=0->e∈BT):RI BT2 w w':=⟨h.size,h.int,fun k cs T hk hn=>h.row k cs T hk (hn.imp (fun hn e he=>hn e (hs e he)) fun ⟨h0,e,he,e1,e2,e3⟩=>⟨h0,e,hs2 e he e2,e1,e2,e3⟩),fun hb=>h.oth fun e he=>hb e (hs e he)⟩
theorem RowI.keep {listed:Array Bool}{w w':World}{i:Nat}(h:RowI r listed w)(hr:RI BT w w')(hn:BT.any (fun e=>e.1==r.T && e.2.1==r.m)=false)(hP:Stab BT r.P)(hP0:Stab BT r.P0)(hi:i≠r.k):RowI r (listed.setIfInBounds i true) w':=by
 obtain⟨cs,h1,h2,h3,h4,h5⟩:=h
 have e:(listed.setIfInBounds i true).getD r.k false=listed.getD r.k false:=by
  simp only [Array.getD_eq_getD_getElem?,Array.getElem?_setIfInBounds_ne hi]
 exact⟨cs,(hr.row _ _ _ h1 (BT_not hn h2)).trans h1,h2,h3,fun hl=>hP _ _ _ (h4 (by rw [<-e];exact hl)) hr,fun hl=>hP0 _ _ _ (h5 (by rw [<-e];exact hl)) hr⟩
def KStepR (BT2:List (TypeId×Nat×Nat))(P:Program)(md:Region.Mode)(ops:Array Oper)(Q:Exit->Act->World->Prop)(a0:Act)(V:Nat->VP)(n0:Nat)(w0:World)(B:List Bd)(SL:List (Nat×VP))(r:Rw)(o:Oper):Prop:=
 ∀listed a w,KI md ops a0 V n0 w0 B SL listed a w->RowI r listed w->(∀e∈o.after,Region.binds md e=true->listed.getD e.on false=true)->o.dst.all (fun d=>decide (d<a0.tmps.size))=true->r.k<listed.size->listed.getD r.k false=false->
  ∀K:Act->World->Prop,(∀v w',KS n0 w0 B (listed.setIfInBounds r.k true) (a.put o.dst v) w'->RI BT2 w w'->RowI r (listed.setIfInBounds r.k true) w'->V r.k v w'->K (a.put o.dst v) w')->(if Region.wanted o (yielded ops a.tmps)then o.wp P a w K Q else K (a.put o.dst undef) w)
theorem wpAny_r (hfore:kFore md ops=true)(hown:flowOwn ops=true)(hin:∀(i:Nat) (o:Oper) (d:Tmp),ops[i]? =some o->o.dst=some d->d<a0.tmps.size)(hV:∀i,Stab BT2 (V i))(hSL:∀p∈SL,Stab BT2 p.2)(hsub:∀e∈BT,e∈BT2)(hsub2:∀e∈BT2,e.2.1=0->e∈BT)
 (hn:BT.any (fun e=>e.1==r.T && e.2.1==r.m)=false) (hP:Stab BT r.P) (hP0:Stab BT r.P0)
 (hstep:∀(i:Nat) (o:Oper),ops[i]? =some o->i≠r.k->KStep BT P md ops Q a0 V n0 w0 B SL i o) (hstepR:∀o,ops[r.k]? =some o->KStepR BT2 P md ops Q a0 V n0 w0 B SL r o)
 (hdone:∀(listed:Array Bool) (a:Act) (w:World),(∀i,i<ops.size->listed.getD i false=true)->KI md ops a0 V n0 w0 B SL listed a w->RowI r listed w->Q .normal a w):
 ∀(fuel:Nat) (listed:Array Bool) (a:Act) (w:World),KI md ops a0 V n0 w0 B SL listed a w->RowI r listed w->listed.toList.count false<=fuel->wpAny P md ops Q fuel listed a w:=by
 intro fuel
 induction fuel with
 |zero=>
  intro listed a w h hr hc;have hall:∀i,i<ops.size->listed.getD i false=true:=fun i hi=>count_zero listed (by omega) i (by rw [h.len];exact hi)
  refine⟨?_,hdone _ _ _ hall h hr⟩;cases hr':Region.ready md ops listed with
  |nil=>rfl
  |cons i l=>
   have hi:i∈Region.ready md ops listed:=by rw [hr'];exact List.mem_cons_self
   obtain⟨h1,o,ho,_⟩:=mem_ready.1 hi
   have hlt:i<ops.size:=by
    rcases Nat.lt_or_ge i ops.size with h'|h'
    ·exact h'
    ·rw [Array.getElem?_eq_none h'] at ho;cases ho
   have h2:=hall i hlt;have h3:i<listed.size:=by rw [h.len];exact hlt
   simp [Array.getD,h3] at h1 h2;rw [h2] at h1;cases h1
 |succ fuel ih=>
  intro listed a w h hr hc;refine⟨fun hr'=>hdone _ _ _ (kready_none hfore h.len hr') h hr,fun i hi=>?_⟩;obtain⟨h1,o,ho,hdep⟩:=mem_ready.1 hi
  have hlt:i<listed.size:=by
   rw [h.len];rcases Nat.lt_or_ge i ops.size with h'|h'
   ·exact h'
   ·rw [Array.getElem?_eq_none h'] at ho;cases ho
  have hcnt:=count_set listed i hlt h1;have hnl:listed.getD i false=false:=by have h5:=h1;simp only [Array.getD,hlt,dif_pos] at h5 ⊢;exact h5
  have key:if Region.wanted o (yielded ops a.tmps)then o.wp P a w (wpAny P md ops Q fuel (listed.setIfInBounds i true)) Q else wpAny P md ops Q fuel (listed.setIfInBounds i true) (a.put o.dst undef) w:=by
   by_cases hik:i=r.k
   ·subst hik;exact hstepR o ho listed a w h hr hdep (dst_ok hin ho) hlt hnl _ fun v w' hS hR hrow hv=>ih _ _ _ (h.step hown hin hV hSL ho hdep hS hR hv) hrow (by omega)
   ·exact hstep i o ho hik listed a w h hdep (dst_ok hin ho) hlt hnl _ fun v w' hS hR hv=>ih _ _ _ (h.step hown hin hV hSL ho hdep hS (hR.mono hsub hsub2) hv) (hr.keep hR hn hP hP0 hik) (by omega)
  unfold wpOp;rw [ho];by_cases hw:Region.wanted o (yielded ops a.tmps)=true
  ·simp only [hw,if_true] at key ⊢;exact .inl key
  ·simp only [hw] at key ⊢;exact key
theorem wpList_r (hfore:kFore md ops=true)(hown:flowOwn ops=true)(hin:∀(i:Nat) (o:Oper) (d:Tmp),ops[i]? =some o->o.dst=some d->d<a0.tmps.size)(hV:∀i,Stab BT2 (V i))(hSL:∀p∈SL,Stab BT2 p.2)(hsub:∀e∈BT,e∈BT2)(hsub2:∀e∈BT2,e.2.1=0->e∈BT)
 (hn:BT.any (fun e=>e.1==r.T && e.2.1==r.m)=false) (hP:Stab BT r.P) (hP0:Stab BT r.P0)
 (hstep:∀(i:Nat) (o:Oper),ops[i]? =some o->i≠r.k->KStep BT P md ops Q a0 V n0 w0 B SL i o) (hstepR:∀o,ops[r.k]? =some o->KStepR BT2 P md ops Q a0 V n0 w0 B SL r o)
 (hdone:∀(listed:Array Bool) (a:Act) (w:World),(∀i,i<ops.size->listed.getD i false=true)->KI md ops a0 V n0 w0 B SL listed a w->RowI r listed w->Q .normal a w):
 ∀(rest:List Oper) (k:Nat) (listed:Array Bool) (a:Act) (w:World),ops.toList.drop k=rest->(∀i,i<k->i<ops.size->listed.getD i false=true)->(∀i,k<=i->listed.getD i false=false)->KI md ops a0 V n0 w0 B SL listed a w->RowI r listed w->wpList P ops Q rest a w:=by
 intro rest
 induction rest with
 |nil=>
  intro k listed a w hk hl _ h hr
  have:ops.size<=k:=by
   have:=List.drop_eq_nil_iff.1 hk
   simpa using this
  exact hdone listed a w (fun i hi=>hl i (by omega) hi) h hr
 |cons o rest ih=>
  intro k listed a w hk hl hnl h hr
  have hlt:k<ops.toList.length:=by
   rcases Nat.lt_or_ge k ops.toList.length with h'|h'
   ·exact h'
   ·rw [List.drop_eq_nil_iff.2 h'] at hk;cases hk
  rw [List.drop_eq_getElem_cons hlt] at hk;have ho':ops.toList[k]=o:=(List.cons.inj hk).1
  have ho:ops[k]? =some o:=by
   have h1:k<ops.size:=by simpa using hlt
   rw [Array.getElem?_eq_getElem h1]
   simpa using ho'
  have hlk:k<listed.size:=by rw [h.len];simpa using hlt
  have hdep:∀e∈o.after,Region.binds md e=true->listed.getD e.on false=true:=fun e he hb=>by
   have h1:=kFore_spec hfore ho e he hb
   exact hl e.on h1 (by
    have:k<ops.size:=by simpa using hlt
    omega)
  have next:∀(v:Value) (w':World),KI md ops a0 V n0 w0 B SL (listed.setIfInBounds k true) (a.put o.dst v) w'->RowI r (listed.setIfInBounds k true) w'->wpList P ops Q rest (a.put o.dst v) w':=fun v w' hK hrow=>ih (k+1) _ _ _ (List.cons.inj hk).2 (fun i hi hi'=>by
   rw [getD_set _ _ _ hlk];split
   ·rfl
   ·exact hl i (by omega) hi') (fun i hi=>by
   rw [getD_set _ _ _ hlk,if_neg (by omega)]
   exact hnl i (by omega)) hK hrow
  have key:if Region.wanted o (yielded ops a.tmps)then o.wp P a w (wpList P ops Q rest) Q else wpList P ops Q rest (a.put o.dst undef) w:=by
   by_cases hik:k=r.k
   ·subst hik;exact hstepR o ho listed a w h hr hdep (dst_ok hin ho) hlk (hnl _ (Nat.le_refl _)) _ fun v w' hS hR hrow hv=>next v w' (h.step hown hin hV hSL ho hdep hS hR hv) hrow
   ·exact hstep k o ho hik listed a w h hdep (dst_ok hin ho) hlk (hnl _ (Nat.le_refl _)) _ fun v w' hS hR hv=>next v w' (h.step hown hin hV hSL ho hdep hS (hR.mono hsub hsub2) hv) (hr.keep hR hn hP hP0 hik)
  unfold wpList;by_cases hw:Region.wanted o (yielded ops a.tmps)=true
  ·simp only [hw,if_true] at key ⊢;exact .inl key
  ·simp only [hw] at key ⊢;exact key
def AllR (k:Nat)(BT:List (TypeId×Nat×Nat))(P:Program)(md:Region.Mode)(ops:Array Oper)(Q:Exit->Act->World->Prop)(a0:Act)(V:Nat->VP)(n0:Nat)(w0:World)(B:List Bd)(SL:List (Nat×VP)):Nat->List Oper->Prop
 |_,[]=>True
 |i,o::l=>(i≠k->KStep BT P md ops Q a0 V n0 w0 B SL i o)/\AllR k BT P md ops Q a0 V n0 w0 B SL (i+1) l
theorem AllR.get {k:Nat}:∀(l:List Oper) (i:Nat),AllR k BT P md ops Q a0 V n0 w0 B SL i l->∀(j:Nat) (o:Oper),l[j]? =some o->i+j≠k->KStep BT P md ops Q a0 V n0 w0 B SL (i+j) o
 | [],_,_,j,o,ho,_=>by simp at ho
 |x::l,i,h,0,o,ho,hne=>by
  have:x=o:=by simpa using ho
  subst this;exact h.1 hne
 |x::l,i,h,j+1,o,ho,hne=>by
  have:=AllR.get l (i+1) h.2 j o (by simpa using ho) (by omega);rw [show i+(j+1)=i+1+j by omega];exact this
def RowAt (g:Nat)(T:TypeId)(m:Nat)(A:VP)(w:World):Prop:=∃cs,w.heap[g]? =some (.cells cs T (0,0))/\cs.size=m/\NoInt cs/\A (.agg cs) w
end
section
variable {Q:Exit->Act->World->Prop}{Vl:List VP}{n0:Nat}{w0:World}{B:List Bd}{SL:List (Nat×VP)}{BT:List (TypeId×Nat×Nat)}
theorem rgR {id N:Nat}{l:List Oper}{ord:Bool}{L:List Bd}{SL':List (Nat×VP)}{a:Act}{w:World}(r:Rw)(st:St n0 w0 N L SL a w)(hrow:RowAt r.g r.T r.m r.P0 w)(hstep:AllR r.k BT Tryz.prog .any l.toArray Q a (GV Vl) n0 w0 B SL 0 l)
 (hstepR:∀o,l.toArray[r.k]? =some o->KStepR ((r.T,r.m,0)::BT) Tryz.prog .any l.toArray Q a (GV Vl) n0 w0 B SL r o) (hdone:∀a' w',St n0 w0 N (B.map Bd.fin) SL' a' w'->RowAt r.g r.T r.m r.P w'->Q .normal a' w')
 [hB:SbB ((r.T,r.m,0)::BT) B] [hS:SbS ((r.T,r.m,0)::BT) SL] [hL:SbL ((r.T,r.m,0)::BT) Vl] [hP:Sb BT r.P] [hP0:Sb BT r.P0]
 (hn:BT.any (fun e=>e.1==r.T && e.2.1==r.m)=false) (hk:r.k<l.length)
 (hst:StartsF L B:=by repeat (first|exact trivial|refine⟨.inl ⟨_,rfl⟩,?_⟩|refine⟨.inr ⟨_,rfl,rfl,rfl,rfl,rfl,rfl,.inr ⟨rfl,rfl,rfl⟩⟩,?_⟩|refine⟨.inr ⟨_,rfl,rfl,rfl,rfl,rfl,rfl,.inl ⟨_,rfl,rfl,rfl⟩⟩,?_⟩))
 (hg:GetsF l.toArray (GV Vl) SL SL':=by repeat (first|exact trivial|refine⟨.inl ⟨rfl,rfl⟩,?_⟩|refine⟨.inr ⟨rfl,by kernel_rfl⟩,?_⟩))
 (hm:Tryz.prog.follows .mixedOrders=true:=by kernel_rfl) (hfore:kFore .any l.toArray=true:=by kernel_rfl) (hown:flowOwn l.toArray=true:=by kernel_rfl) (hin:l.all (fun o=>match o.dst with|some d=>decide (d<N)|none=>true)=true:=by kernel_rfl)
 (hlt:B.all (fun b=>(match b.ia with|some i=>decide (i<l.toArray.size)|none=>true) && (match b.ik with|some i=>decide (i<l.toArray.size)|none=>true))=true:=by kernel_rfl) (hm0:r.m≠0:=by decide):(Code.region id l.toArray ord).wp Tryz.prog Q a w:=by
 have hin':∀(i:Nat) (o:Oper) (d:Tmp),l.toArray[i]? =some o->o.dst=some d->d<a.tmps.size:=fun i o d ho D=>by
  rw [st.size];rw [List.all_eq_true] at hin;have ho':l[i]? =some o:=by simpa using ho
  have:=hin o (List.mem_of_getElem? ho');rw [D] at this;exact of_decide_eq_true this
 have hs':∀(i:Nat) (o:Oper),l.toArray[i]? =some o->i≠r.k->KStep BT Tryz.prog .any l.toArray Q a (GV Vl) n0 w0 B SL i o:=fun i o ho hne=>by
  have:=AllR.get l 0 hstep i o (by simpa using ho) (by omega);rw [Nat.zero_add] at this;exact this
 have hsub:∀e∈BT,e∈(r.T,r.m,0)::BT:=fun e he=>List.mem_cons_of_mem _ he
 have hsub2:∀e∈(r.T,r.m,0)::BT,e.2.1=0->e∈BT:=fun e he h0=>(List.mem_cons.1 he).resolve_left fun e1=>hm0 (by rw [e1] at h0;exact h0)
 have hno:∀i,(Array.replicate l.length false).getD i false=true->False:=fun i hl=>by
  simp only [Array.getD_eq_getD_getElem?,Array.getElem?_replicate] at hl;split at hl<;>simp at hl
 have hno':∀i,(Array.replicate l.length false).getD i false=false:=fun i=>by
  cases h:(Array.replicate l.length false).getD i false with
  |false=>rfl
  |true=>exact(hno i h).elim
 obtain⟨cs,c1,c2,c3,c4⟩:=hrow;have hst':=st.start hst.to l.length
 have fin:∀(listed:Array Bool) (a':Act) (w':World),(∀i,i<l.toArray.size->listed.getD i false=true)->KI .any l.toArray a (GV Vl) n0 w0 B SL listed a' w'->RowI r listed w'->Q .normal a' w':=fun listed a' w' hall kd hr=>by
  obtain⟨cs,d1,d2,d3,d4,-⟩:=hr;exact hdone a' w' (kd.st hall st.size st.defers hlt SL' hg.to) ⟨cs,d1,d2,d3,d4 (hall _ (by simpa using hk))⟩
 cases ord with
 |true=>
  refine wp_region_any hm (wpAny_r hfore hown hin' (stab_of hL.out) hS.out hsub hsub2 hn hP.out hP0.out hs' hstepR fin _ _ _ _ ⟨?_,st.n,by simp,rfl,rfl,fun _ _=>rfl,fun i o d ho hl _=>(hno i (by simpa using hl)).elim,fun p hp=>?_,fun k o _ hl=>(hno k (by simpa using hl)).elim⟩ ⟨cs,c1,c2,c3,fun hl=>(hno _ (by simpa using hl)).elim,fun _=>hP0.out _ _ _ c4 (RI.drew w)⟩ ?_)
  ·have:=hst'.drew hB.out
   simpa using this
  ·obtain⟨v,h1,h2⟩:=st.sl p hp;exact⟨v,h1,hS.out p hp _ _ _ h2 (RI.drew w)⟩
  ·simp
 |false=>
  exact wp_region_lit (wpList_r hfore hown hin' (stab_of hL.out) hS.out hsub hsub2 hn hP.out hP0.out hs' hstepR fin l 0 (Array.replicate l.length false) a w (by simp) (fun i hi=>by omega) (fun i _=>hno' i) ⟨hst',st.n,by simp,rfl,rfl,fun _ _=>rfl,fun i o d ho hl _=>(hno i hl).elim,st.sl,fun k o _ hl=>(hno k hl).elim⟩ ⟨cs,c1,c2,c3,fun hl=>(hno _ hl).elim,fun _=>c4⟩)
end
end Go.Proofs.YteacdbgalloaiaaGreat
