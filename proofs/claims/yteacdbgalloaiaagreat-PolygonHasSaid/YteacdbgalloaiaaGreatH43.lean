/- Contracts of the packages integer, rat, plane, polygon and their references. -/
import Derived.Test.YteacdbgalloaiaaGreatH41
import Derived.Test.YteacdbgalloaiaaGreatH34
import Derived.Test.YteacdbgalloaiaaGreatH40
import Derived.Test.YteacdbgalloaiaaGreatH42
import Derived.Test.YteacdbgalloaiaaGreatH8
set_option linter.unusedVariables false
set_option maxRecDepth 100000
set_option maxHeartbeats 6400000
namespace Go.Proofs.YteacdbgalloaiaaGreat
open Go Go.RowKit
def inS (a b p:P2):Bool:=decide (cmpQ (loX a b).1 p.1<=0) && (decide (cmpQ p.1 (hiX a b).1<0) && decide (sdR (loX a b) (hiX a b) p<0))
def quad (p v:P2):Bool:=decide (p.1<v.1) && decide (p.2<v.2)
theorem sd_low {x y u v:Rat}(hx:x<=0)(hu:u<=0)(hy:y<=0)(hv:0<=v):x*v - y*u<=0:=by
 have h1:=Rat.mul_nonneg (show 0<= -x by grind) hv;have h2:=Rat.mul_nonneg (show 0<= -y by grind) (show 0<= -u by grind)
 grind
theorem sd_high {x y u v:Rat}(hx:0<x)(hu:0<u)(hy:y<=0)(hv:0<v):0<x*v - y*u:=by
 have h1:=Rat.mul_pos hx hv;have h2:=Rat.mul_nonneg (show 0<= -y by grind) (Rat.le_of_lt hu)
 grind
theorem sdD_form (a b p:P2):sdD a b p=(a.1 - p.1)*(b.2 - p.2) - (a.2 - p.2)*(b.1 - p.1):=by
 unfold sdD
 grind
theorem sdD_swap (a b p:P2):sdD b a p= -sdD a b p:=by
 unfold sdD
 grind
theorem sdI_pos {a b p:P2}:0<sdI a b p↔0<sdD a b p:=by
 rw [sdI_sdD];rcases sign_cases (sdD a b p)with⟨h,e⟩|⟨h,e⟩|⟨h,e⟩<;>rw [e]<;>constructor<;>intro k<;>first|omega|exact h|(exfalso;grind)
theorem sdI_neg {a b p:P2}:sdI a b p<0↔sdD a b p<0:=by
 rw [sdI_sdD];rcases sign_cases (sdD a b p)with⟨h,e⟩|⟨h,e⟩|⟨h,e⟩<;>rw [e]<;>constructor<;>intro k<;>first|omega|exact h|(exfalso;grind)
theorem sdI_zero {a b p:P2}:sdI a b p=0↔sdD a b p=0:=by
 rw [sdI_sdD];rcases sign_cases (sdD a b p)with⟨h,e⟩|⟨h,e⟩|⟨h,e⟩<;>rw [e]<;>constructor<;>intro k<;>first|omega|exact h|(exfalso;grind)
theorem cmpQ_lt0 {x y:Rat}:cmpQ x y<0↔x<y:=by
 rw [<-cmpQ_lt];rcases cmpQ_cases x y with h|h|h<;>rw [h]<;>decide
theorem cmpQ_gt0 {x y:Rat}:0<cmpQ x y↔y<x:=by
 rw [<-cmpQ_gt];rcases cmpQ_cases x y with h|h|h<;>rw [h]<;>decide
theorem rgt_form (a b p:P2):rgt a b p=true↔(¬p.2<a.2/\p.2<b.2/\0<sdD a b p)∨(p.2<a.2/\¬p.2<b.2/\sdD a b p<0):=by
 unfold rgt abv;by_cases ha:p.2<a.2<;>by_cases hb:p.2<b.2<;>simp [cmpQ_gt0,ha,hb,sdI_pos,sdI_neg]
theorem inS_form (a b p:P2):inS a b p=true↔(¬p.1<a.1/\p.1<b.1/\sdD a b p<0)∨(p.1<a.1/\¬p.1<b.1/\0<sdD a b p):=by
 unfold inS loX hiX;rw [sdR_eq,Bool.and_eq_true,Bool.and_eq_true,decide_eq_true_eq,decide_eq_true_eq,decide_eq_true_eq,sdI_neg,cq_le,cmpQ_lt0];by_cases h:b.1<a.1
 ·rw [if_pos (cmpQ_gt0.2 h),if_pos (cmpQ_gt0.2 h),sdD_swap];constructor
  ·rintro⟨h1,h2,h3⟩
   exact .inr ⟨h2,Rat.not_lt.2 h1,by grind⟩
  ·rintro(⟨h1,h2,h3⟩|⟨h1,h2,h3⟩)
   ·exact absurd (show p.1<a.1 by grind) h1
   ·exact⟨Rat.not_lt.1 h2,h1,by grind⟩
 ·rw [if_neg (mt cmpQ_gt0.1 h),if_neg (mt cmpQ_gt0.1 h)];constructor
  ·rintro⟨h1,h2,h3⟩
   exact .inl ⟨Rat.not_lt.2 h1,h2,h3⟩
  ·rintro(⟨h1,h2,h3⟩|⟨h1,h2,h3⟩)
   ·exact⟨Rat.not_lt.1 h1,h2,h3⟩
   ·exact absurd (show p.1<b.1 by grind) h2
theorem par_bool {Xa Xb Ya Yb DN DP:Prop}{r u A B:Bool}(hr:r=true↔(¬Ya/\Yb/\DP)∨(Ya/\¬Yb/\DN))(hu:u=true↔(¬Xa/\Xb/\DN)∨(Xa/\¬Xb/\DP))(hA:A=true↔Xa/\Ya)(hB:B=true↔Xb/\Yb)(hD:¬(DN/\DP))
 (f1:¬Xa->¬Xb->¬Ya->Yb->¬DP) (f2:¬Xa->¬Xb->Ya->¬Yb->¬DN) (f3:Xa->Xb->¬Ya->Yb->DP) (f4:Xa->Xb->Ya->¬Yb->DN)
 (g1:¬Ya->¬Yb->¬Xa->Xb->¬DN) (g2:¬Ya->¬Yb->Xa->¬Xb->¬DP) (g3:Ya->Yb->¬Xa->Xb->DN) (g4:Ya->Yb->Xa->¬Xb->DP)
 (z1:¬Xa->¬Ya->Xb->Yb->DN∨DP) (z2:Xa->Ya->¬Xb->¬Yb->DN∨DP):sgb r*sgb u=sgb A*sgb B:=by
 by_cases h1:Xa<;>by_cases h2:Xb<;>by_cases h3:Ya<;>by_cases h4:Yb<;>by_cases h5:DN<;>by_cases h6:DP<;>simp only [h1,h2,h3,h4,h5,h6,not_true,not_false_iff,and_true,and_false,or_true,or_false,imp_false,iff_true,iff_false,Bool.not_eq_true,implies_true] at*<;>first|(subst hr hu hA hB;rfl)|(exfalso;assumption)|skip
theorem cmpV_lt {x y:P2}(h:x.1<y.1):cmpV x y<0:=by
 unfold cmpV;rw [cmpQ_lt.2 h,if_neg (by decide)];decide
theorem cmpV_gt {x y:P2}(h:y.1<x.1):0<cmpV x y:=by
 unfold cmpV;rw [cmpQ_gt.2 h,if_neg (by decide)];decide
theorem cmpV_le {x y:P2}(h1:x.1<=y.1)(h2:x.2<=y.2):cmpV x y<=0:=by
 unfold cmpV;split
 ·exact cq_le.2 h2
 ·exact cq_le.2 h1
theorem loV_self (p:P2):loV p p=p:=ite_self _
theorem hiV_self (p:P2):hiV p p=p:=ite_self _
theorem on_seg {a b p:P2}(h:(a.1<=p.1/\a.2<=p.2/\p.1<b.1/\p.2<b.2)∨(b.1<=p.1/\b.2<=p.2/\p.1<a.1/\p.2<a.2))(hD:sdD a b p=0):hasS a b p=true:=by
 unfold hasS ovl;rw [loV_self,hiV_self,sdI_zero.2 hD];rcases h with⟨h1,h2,h3,h4⟩|⟨h1,h2,h3,h4⟩
 ·have hl:loV a b=a:=if_neg (by have:=cmpV_lt (x:=a) (y:=b) (by grind);omega);have hh:hiV a b=b:=if_neg (by have:=cmpV_lt (x:=a) (y:=b) (by grind);omega);rw [hl,hh,dT (cmpV_le h1 h2),dT (cmpV_le (Rat.le_of_lt h3) (Rat.le_of_lt h4))];rfl
 ·have hl:loV a b=b:=if_pos (cmpV_gt (by grind));have hh:hiV a b=a:=if_pos (cmpV_gt (by grind));rw [hl,hh,dT (cmpV_le h1 h2),dT (cmpV_le (Rat.le_of_lt h3) (Rat.le_of_lt h4))];rfl
theorem side_par {a b p:P2}(h:¬hasS a b p=true):sgb (rgt a b p)*sgb (inS a b p)=sgb (quad p a)*sgb (quad p b):=by
 have tri:sdD a b p=0∨(sdD a b p<0∨0<sdD a b p):=by
  rcases sign_cases (sdD a b p)with⟨q,-⟩|⟨q,-⟩|⟨q,-⟩
  ·exact .inr (.inl q)
  ·exact .inl q
  ·exact .inr (.inr q)
 have hA:∀v,quad p v=true↔p.1<v.1/\p.2<v.2:=fun v=>by unfold quad;rw [Bool.and_eq_true,decide_eq_true_eq,decide_eq_true_eq]
 refine par_bool (rgt_form a b p) (inS_form a b p) (hA a) (hA b) (fun q=>by grind) ?_ ?_ ?_ ?_ ?_ ?_ ?_ ?_ ?_ ?_
 ·intro h1 h2 h3 h4 h5;have:=sd_low (x:=a.1 - p.1) (y:=a.2 - p.2) (u:=b.1 - p.1) (v:=b.2 - p.2) (by grind) (by grind) (by grind) (by grind);rw [sdD_form] at h5;grind
 ·intro h1 h2 h3 h4 h5;have:=sd_low (x:=b.1 - p.1) (y:=b.2 - p.2) (u:=a.1 - p.1) (v:=a.2 - p.2) (by grind) (by grind) (by grind) (by grind);rw [sdD_form] at h5;grind
 ·intro h1 h2 h3 h4;have:=sd_high (x:=a.1 - p.1) (y:=a.2 - p.2) (u:=b.1 - p.1) (v:=b.2 - p.2) (by grind) (by grind) (by grind) (by grind);rw [sdD_form];grind
 ·intro h1 h2 h3 h4;have:=sd_high (x:=b.1 - p.1) (y:=b.2 - p.2) (u:=a.1 - p.1) (v:=a.2 - p.2) (by grind) (by grind) (by grind) (by grind);rw [sdD_form];grind
 ·intro h1 h2 h3 h4 h5;have:=sd_low (x:=a.2 - p.2) (y:=a.1 - p.1) (u:=b.2 - p.2) (v:=b.1 - p.1) (by grind) (by grind) (by grind) (by grind);rw [sdD_form] at h5;grind
 ·intro h1 h2 h3 h4 h5;have:=sd_low (x:=b.2 - p.2) (y:=b.1 - p.1) (u:=a.2 - p.2) (v:=a.1 - p.1) (by grind) (by grind) (by grind) (by grind);rw [sdD_form] at h5;grind
 ·intro h1 h2 h3 h4;have:=sd_high (x:=a.2 - p.2) (y:=a.1 - p.1) (u:=b.2 - p.2) (v:=b.1 - p.1) (by grind) (by grind) (by grind) (by grind);rw [sdD_form];grind
 ·intro h1 h2 h3 h4;have:=sd_high (x:=b.2 - p.2) (y:=b.1 - p.1) (u:=a.2 - p.2) (v:=a.1 - p.1) (by grind) (by grind) (by grind) (by grind);rw [sdD_form];grind
 ·intro h1 h2 h3 h4;exact tri.resolve_left fun h0=>h (on_seg (.inl ⟨by grind,by grind,h3,h4⟩) h0)
 ·intro h1 h2 h3 h4;exact tri.resolve_left fun h0=>h (on_seg (.inr ⟨by grind,by grind,h1,h2⟩) h0)
theorem pz_par {f g A:Nat->Bool}:∀n,(∀k,k<n->sgb (f k)*sgb (g k)=sgb (A k)*sgb (A (k+1)))->pzT f n*pzT g n=pzT A n*pzT (fun k=>A (k+1)) n
 |0,_=>rfl
 |n+1,h=>by
  show pzT f n*sgb (f n)*(pzT g n*sgb (g n))=pzT A n*sgb (A n)*(pzT (fun k=>A (k+1)) n*sgb (A (n+1)));have h1:=pz_par n fun k hk=>h k (by omega)
  have h2:=h n (by omega);have e1:pzT f n*sgb (f n)*(pzT g n*sgb (g n))=pzT f n*pzT g n*(sgb (f n)*sgb (g n)):=by grind
  rw [e1,h1,h2]
  grind
theorem pzT_sq (f:Nat->Bool):∀n,pzT f n*pzT f n=1
 |0=>rfl
 |n+1=>by
  show pzT f n*sgb (f n)*(pzT f n*sgb (f n))=1;have h1:=pzT_sq f n;have h2:=sgb_sq (f n);have:pzT f n*sgb (f n)*(pzT f n*sgb (f n))=pzT f n*pzT f n*(sgb (f n)*sgb (f n)):=by grind
  rw [this,h1,h2];rfl
theorem pz_eq {f g A:Nat->Bool}{n:Nat}(h:∀k,k<n->sgb (f k)*sgb (g k)=sgb (A k)*sgb (A (k+1)))(hA:A n=A 0):pzT f n=pzT g n:=by
 have h1:=pz_par n h;have h2:=pzT_front A n;have h3:pzT A (n+1)=pzT A n*sgb (A n):=rfl;rw [h3,hA,Int.mul_comm] at h2
 have h4:pzT A n=pzT (fun k=>A (k+1)) n:=by
  have h5:=congrArg (fun z=>sgb (A 0)*z) h2;simp only [<-Int.mul_assoc,sgb_sq,Int.one_mul] at h5;exact h5
 rw [<-h4,pzT_sq] at h1;have h6:=congrArg (fun z=>z*pzT g n) h1;simp only [Int.mul_assoc,pzT_sq,Int.mul_one,Int.one_mul] at h6;exact h6
theorem whR_pz (vs:List P2)(p:P2):∀n,sgb (whR vs p n)=pzT (inR vs p) n
 |0=>rfl
 |n+1=>by
  rw [whR_succ];show _=pzT (inR vs p) n*sgb (inR vs p n);rw [<-whR_pz vs p n];cases inR vs p n<;>cases whR vs p n<;>rfl
theorem onR_has (vs:List P2)(p:P2)(k:Nat):onR vs p k=hasS (cv vs k) (cv vs (k+1)) p:=by
 unfold onR;rw [meetEq];unfold mts hasS;generalize cv vs k=c;generalize cv vs (k+1)=d;have e1:ovl p p c d=ovl c d p p:=by unfold ovl;exact Bool.and_comm _ _
 have e2:prt p p c d=true:=by
  unfold prt;have:sdI p p c=0:=sdI_zero.2 (by unfold sdD;grind);rw [this];simp
 have e3:prt c d p p=(sdI c d p==0):=by
  unfold prt;rcases (show sdI c d p= -1∨sdI c d p=0∨sdI c d p=1 from cmpI_abs _ _)with h|h|h<;>rw [h]<;>rfl
 rw [e1,e2,e3,Bool.true_and]
theorem hasR_hasI (vs:List P2)(p:P2):hasR vs p=hasI vs p:=by
 unfold hasR hasI;simp only [onR_has];split
 ·rfl
 ·rename_i h
  have h1:∀k,k<vs.length->¬hasS (cv vs k) (cv vs (k+1)) p=true:=fun k hk h2=>h ⟨k,List.mem_range.2 hk,h2⟩
  have h2:=pz_eq (n:=vs.length) (f:=fun k=>rgt (cv vs k) (cv vs (k+1)) p) (g:=inR vs p) (A:=fun k=>quad p (cv vs k)) (fun k hk=>side_par (h1 k hk)) (by show quad p _=quad p _;rw [cv_len]);rw [whr_pz,h2,<-whR_pz];cases whR vs p vs.length<;>rfl

theorem walkHas {w:World}{l m:List Int}{v0 v1:Value}(h0:VI l v0 w)(h1:VI m v1 w):Calls Tryz.prog 3 #[v0,v1] w (RV (Vb true) w):=by
 go_enter Tryz.func3,Tryz.ntmps3
 generalize hA:(⟨_,_⟩:Act)=a0;have st0:St w.heap.size w 33 [] [(0,VI l),(1,VI m)] a0 w:=by subst hA;exact St.begin rfl rfl (Lq.2 ⟨⟨_,rfl,h0⟩,(Lq.2 ⟨⟨_,rfl,h1⟩,L0⟩)⟩)
 clear hA;refine Wn ?_
 refine rH [] [Vb (false)] [] [(0,VI l),(1,VI m),(4,Vb (false))] st0 ⟨ks,trivial⟩ fun a1 w1 st1=>Wn ?_;clear st0
 refine rH [] [VI l,VSv 7 (polyR l),VSv 7 (polyR l)] [] [(0,VI l),(1,VI m),(4,Vb (false)),(5,VSv 7 (polyR l))] st1 ⟨ks,(kd1 fun _ _ _ _ _ X0=>cR6Polygon X0),ks,trivial⟩ ?_;intro a2 w2 st2;clear st1;replace st2:St w.heap.size w 33 [] [(0,VI l),(1,VI m),(4,Vb (false)),(5,VSv 7 (polyR l))] a2 w2:=st2;obtain⟨u1,p1,s1⟩:=st2.sl (1,VI m) (lS_mem rfl);obtain⟨u5,p5,s5⟩:=st2.sl (5,VSv 7 (polyR l)) (lS_mem rfl);refine Wn ?_
 obtain⟨hbN,stB⟩:=st2.base [(1,VI m),(5,VAt w2 (VSv 3 (polyR l)))] (Lq.2 ⟨⟨_,p1,s1⟩,(Lq.2 ⟨⟨_,p5,VSv_three s5 (polyR_Q l) (by omega) (by omega) (by omega)⟩,L0⟩)⟩);clear st2;obtain⟨wO,hren⟩:∃z,z=w:=⟨_,rfl⟩;subst hren;have hbO:=hbN;clear hbN;obtain⟨w,hren⟩:∃z,z=w2:=⟨_,rfl⟩;subst hren;have st2:St w.heap.size w 33 [] [(1,VI m),(5,VAt w (VSv 3 (polyR l)))] a2 w:=stB;clear stB;clear p1 s1 p5 s5;obtain⟨hP3,hP12⟩:=polyR_len l;have hPQ:=polyR_Q l;generalize polyR l=P at st2 hP3 hP12 hPQ;refine Wn ?_
 refine rH [] [VAt w (VSv 3 (P)),VI m,VSv 3 (spL m P P.length),VSv 3 (spL m P P.length)] [] [(1,VI m),(5,VAt w (VSv 3 (P))),(6,VSv 3 (spL m P P.length))] st2 ⟨ks,ks,(kd2 fun _ _ Y h v0 X0 v1 X1=>cSpots (show VAt Y (VSv 3 P) v0 Y from VSv_later X0 h.k.below) X1 hP3 hP12 hPQ),ks,trivial⟩ ?_;intro a3 w3 st3;clear st2;replace st3:St w.heap.size w 33 [] [(1,VI m),(5,VAt w (VSv 3 (P))),(6,VSv 3 (spL m P P.length))] a3 w3:=st3;obtain⟨u5,p5,s5⟩:=st3.sl (5,VAt w (VSv 3 (P))) (lS_mem rfl);obtain⟨u6,p6,s6⟩:=st3.sl (6,VSv 3 (spL m P P.length)) (lS_mem rfl);have hL:=spL_len m P P.length;generalize spL m P P.length=L at s6 hL;refine Wn ?_
 obtain⟨hbN,stB⟩:=st3.base [(5,VAt w3 (VSv 3 (P))),(6,VAt w3 (VSv 3 (L)))] (Lq.2 ⟨⟨_,p5,VSv_later s5 st3.k.below⟩,(Lq.2 ⟨⟨_,p6,s6⟩,L0⟩)⟩);clear st3;have hbX:=below_tr hbO hbN;clear hbN;clear hbO;have hbO:=hbX;clear hbX;obtain⟨wP,hren⟩:∃z,z=w:=⟨_,rfl⟩;subst hren;obtain⟨w,hren⟩:∃z,z=w3:=⟨_,rfl⟩;subst hren;have st3:St w.heap.size w 33 [] [(5,VAt w (VSv 3 (P))),(6,VAt w (VSv 3 (L)))] a3 w:=stB;clear stB;clear p5 s5 p6 s6;refine Wn ?_
 refine rH [] [Vi (0)] [] [(5,VAt w (VSv 3 (P))),(6,VAt w (VSv 3 (L))),(7,Vi (0))] st3 ⟨ks,trivial⟩ ?_;intro a4 w4 st4;clear st3;replace st4:St w.heap.size w 33 [] [(5,VAt w (VSv 3 (P))),(6,VAt w (VSv 3 (L))),(7,Vi (((0:Nat):Int)))] a4 w4:=st4.cut;refine Wn ?_
 refine wp_loop_ghost (fun m1 aX wX=>∃j:Nat,j+m1=L.length/\St w.heap.size w 33 [] [(5,VAt w (VSv 3 (P))),(6,VAt w (VSv 3 (L))),(7,Vi (((j:Nat):Int)))] aX wX) (L.length) ⟨0,by omega,st4⟩ ?_;clear st4;intro m1 aLj wLj ⟨j,hj,st4⟩;by_cases hlt:j<L.length
 ·
  refine Wn ?_
  refine rH [] [Vi (((j:Nat):Int)),VAt w (VSv 3 (L)),Vi ((L.length:Int)),Vb (true)] [] [(5,VAt w (VSv 3 (P))),(6,VAt w (VSv 3 (L))),(7,Vi (((j:Nat):Int))),(16,Vb (true))] st4 ⟨ks,ks,(kr1 14 fun _ _ _ _ _ x0 X0=>len_SvA rfl rfl x0 X0),(kr2 13 15 fun _ _ _ _ _ x0 X0 _ x1 X1=>⟨_,run_lssi rfl (x0.trans X0) (x1.trans X1),congrArg Value.bool (dT (by omega))⟩),trivial⟩ fun a5 w5 st5=>Wn ?_;clear st4
  refine cT st5 ?_;have hgj:L[j]? =some (cv L j):=cv_gets hlt;refine Wn ?_
  refine rH [] [VAt w (VSv 3 (P)),VAt w (VSv 3 (L)),Vi (((j:Nat):Int)),VAt w (VEp 32 8 (Vv 3 (cv (L) (j)).1 (cv (L) (j)).2)),Vv 3 ((cv (L) (j)).1) ((cv (L) (j)).2),Vi (hasI P (cv L j)),VAt w (VSv 3 (P)),VAt w (VSv 3 (L)),Vi (((j:Nat):Int)),VAt w (VEp 32 8 (Vv 3 (cv (L) (j)).1 (cv (L) (j)).2)),Vv 3 ((cv (L) (j)).1) ((cv (L) (j)).2),Vi (hasI P (cv L j)),Vb (false)] [] [(5,VAt w (VSv 3 (P))),(6,VAt w (VSv 3 (L))),(7,Vi (((j:Nat):Int))),(16,Vb (true)),(31,Vb (false))] st5 ⟨ks,ks,ks,(kr2 20 21 fun _ _ _ _ _ x0 X0 _ x1 X1=>index_SvA (a:=(cv (L) (j))) rfl x0 X0 x1 X1 hgj),(kr1 22 fun _ _ _ h _ x0 X0=>load_EpC (w:=w) (k:=8) (A:=Vv 3 (cv (L) (j)).1 (cv (L) (j)).2) (Stab_Vv _ _ _) rfl x0 X0 h.k.below Tryz.underlying32 rfl size_Vec),(kd2 fun _ _ _ h _ X0 _ X1=>cHas (p:=cv L j) X1 (VSv_later X0 h.k.below)),ks,ks,ks,(kr2 26 27 fun _ _ _ _ _ x0 X0 _ x1 X1=>index_SvA (a:=(cv (L) (j))) rfl x0 X0 x1 X1 hgj),(kr1 28 fun _ _ _ h _ x0 X0=>load_EpC (w:=w) (k:=8) (A:=Vv 3 (cv (L) (j)).1 (cv (L) (j)).2) (Stab_Vv _ _ _) rfl x0 X0 h.k.below Tryz.underlying32 rfl size_Vec),(kd2 fun _ _ Y h v0 X0 v1 X1=>hasR_hasI P (cv L j) ▸ cR6Has (p:=cv L j) (show VEq v0 v0 Y from rfl) X1 (VSv_later X0 h.k.below)),(kr2 24 30 fun _ _ _ _ _ x0 X0 _ x1 X1=>⟨_,run_neqi rfl (x0.trans X0) (x1.trans X1),congrArg Value.bool (bne_self_eq_false _)⟩),trivial⟩ fun a6 w6 st6=>Wn ?_;clear st5
  refine cF st6 ?_;refine Wn ?_
  refine rH [] [Vi (((j:Nat):Int)),Vi (((j+1:Nat):Int)),Vi (((j+1:Nat):Int))] [] [(5,VAt w (VSv 3 (P))),(6,VAt w (VSv 3 (L))),(16,Vb (true)),(31,Vb (false)),(7,Vi (((j+1:Nat):Int)))] st6 ⟨?s0,(kr1 17 fun _ _ _ _ v0 x0 X0=>⟨_,run_addi rfl (x0.trans (show v0= .int .i64 ((j:Nat):Int)from X0)) rfl (wrap_id (by omega) (by omega)),congrArg (Value.int .i64) (by omega)⟩),ks,trivial⟩ ?_
  case s0=>
   refine k_run0 SbB.out (by kernel_rfl) fun listed ac Y h D hnl=>⟨trivial,?_⟩
   obtain⟨v0,x0,X0⟩:=h.out0 hnl (7,Vi (((j:Nat):Int))) (.tail _ (.tail _ (.head _))) 2 (by kernel_rfl) (.inr (by kernel_rfl));exact⟨_,run_move rfl,by rw [x0];exact X0⟩
  intro a7 w7 st7;clear st6;replace st7:St w.heap.size w 33 [] [(5,VAt w (VSv 3 (P))),(6,VAt w (VSv 3 (L))),(16,Vb (true)),(31,Vb (false)),(7,Vi (((j+1:Nat):Int)))] a7 w7:=st7;exact⟨m1 - 1,by omega,j+1,by omega,st7.cut⟩
 ·
  refine Wn ?_
  refine rH [] [Vi (((j:Nat):Int)),VAt w (VSv 3 (L)),Vi ((L.length:Int)),Vb (false)] [] [(5,VAt w (VSv 3 (P))),(6,VAt w (VSv 3 (L))),(7,Vi (((j:Nat):Int))),(16,Vb (false))] st4 ⟨ks,ks,(kr1 14 fun _ _ _ _ _ x0 X0=>len_SvA rfl rfl x0 X0),(kr2 13 15 fun _ _ _ _ _ x0 X0 _ x1 X1=>⟨_,run_lssi rfl (x0.trans X0) (x1.trans X1),congrArg Value.bool (dF (by omega))⟩),trivial⟩ fun a5 w5 st5=>Wn ?_;clear st4
  refine cF st5 ?_;refine Wn ?_
  refine rH [] [Vb (true),Vb (true)] [] [(5,VAt w (VSv 3 (P))),(6,VAt w (VSv 3 (L))),(7,Vi (((j:Nat):Int))),(16,Vb (false)),(4,Vb (true))] st5 ⟨(by refine kc fun _ ac Y h D=>?_;exact⟨#[],by simp [],cL6Lives⟩),ks,trivial⟩ ?_;intro a6 w6 st6;clear st5;refine Wn ?_
  obtain⟨vr,r1,r4⟩:=st6.slot (4,Vb (true)) (.tail _ (.tail _ (.tail _ (.tail _ (.head _)))));exact wp_ret (bodyPost_ret (results_tmp rfl _ _ _) st6.defers ⟨_,congrArg Ending.returned (show _=vr from r1),r4,below_tr hbO st6.k.below⟩)
theorem wf_i64' {n:Int}(h:(Lit.int .i64 n).wf=true): -9223372036854775808<=n/\n<=9223372036854775807:=by
 simp [Lit.wf,IntKind.min,IntKind.max,IntKind.signed,IntKind.bits] at h;omega
theorem add_plain' (b o i:Nat):(⟨b,o,none⟩:Addr).add i=⟨b,o+i,none⟩:=by unfold Addr.add;split<;>simp_all
theorem addr_plain' {w:World}{x:Addr}{u:Value}(h:w.cell? (x.add 0)=some u):x=⟨x.block,x.off,none⟩:=by
 have h0:x.add 0=x:=by simp [Addr.add]
 rw [h0] at h;cases x with
 |mk b o s=>
  cases s with
  |none=>rfl
  |some s=>
   unfold World.cell? at h;split at h
   ·simp at h
   ·cases h
theorem row_Rdi {w:World}{a:Option Addr}{len cap:Nat}{zs:List Int}
 (h:(a=none/\len=0/\cap=0/\zs= [])∨∃x,a=some x/\len<=cap/\cap<=maxLen/\zs.length=cap/\(∀i,i<zs.length->w.cell? (x.add i)=some (.int .i64 (zs.getD i 0)))/\∀n∈zs,(Lit.int .i64 n).wf=true):
 ∃l:List Int,Rdi w a l/\i64s l/\len=l.length/\len<=cap/\cap<=9223372036854775807:=by
 rcases h with⟨rfl,rfl,rfl,rfl⟩|⟨x,rfl,hl,hm,hz,hc,hw⟩
 ·exact⟨[],.inl rfl,fun i hi=>by simp at hi,rfl,Nat.le_refl _,by omega⟩
 ·refine⟨zs.take len,?_,?_,by simp;omega,hl,by unfold maxLen at hm;omega⟩
  ·rcases Nat.eq_zero_or_pos len with h0|h0
   ·subst h0;exact .inl (by simp)
   ·have hx:=addr_plain' (hc 0 (by omega));refine .inr ⟨x.block,x.off,by rw [<-hx],fun i hi=>?_⟩;have hi':i<len:=by simp at hi;omega
    have hi2:i<zs.length:=by omega
    have hadd:x.add i=⟨x.block,x.off+i,none⟩:=(congrArg (fun y:Addr=>y.add i) hx).trans (add_plain' _ _ _);rw [<-hadd,hc i hi2];simp [iat,List.getD_eq_getElem?_getD,hi']
  ·intro i hi;have hi':i<len:=by simp at hi;omega
   have hi2:i<zs.length:=by omega
   have hb:=wf_i64' (hw (zs[i]) (List.getElem_mem hi2));have e:iat (zs.take len) i=zs[i]:=by simp [iat,List.getD_eq_getElem?_getD,hi',hi2]
   rw [e];omega
end Go.Proofs.YteacdbgalloaiaaGreat
