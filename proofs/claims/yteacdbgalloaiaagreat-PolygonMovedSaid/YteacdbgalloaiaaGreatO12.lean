/- Contracts of the packages integer, rat, plane, polygon and their references. -/
import Derived.Deep.LoopGhost
import Derived.Test.YteacdbgalloaiaaGreatO11
import Derived.Test.YteacdbgalloaiaaGreatO9
set_option linter.unusedVariables false
set_option maxRecDepth 100000
set_option maxHeartbeats 6400000
namespace Go.Proofs.YteacdbgalloaiaaGreat
open Go.RowKit
theorem tiny_lt {n:Nat}(h:((digs ((n:Nat):Int).natAbs).length:Int)<=2):n<1000000000000000000:=by
 rw [Int.natAbs_natCast] at h;rcases Nat.lt_or_ge n 1000000000000000000 with h1|h1
 ·exact h1
 ·rw [digs_pos (n:=n) (by omega),digs_pos (n:=n / 1000000000) (by omega),digs_pos (n:=n / 1000000000 / 1000000000) (by omega)] at h;simp only [List.length_cons] at h;omega
theorem cRTinyN {W:World}{N n:Nat}{v:Value}(h:VD N (n:Int) v W)(h2:((digs ((n:Nat):Int).natAbs).length:Int)<=2):Calls Tryz.prog 141 #[v] W (RV (Vi (n:Int)) W):=by
 obtain⟨p,k,c,rfl,hn,hR,hnc,hc,hnN⟩:=h;exact(tiny_any p k c _ W hR hn (Dg_digs _) (by omega)).mono fun e w' ⟨h1,h2⟩=>⟨_,h1,by rw [val_digs,Int.natAbs_natCast];rfl,by rw [h2];exact Below.refl _ _⟩
theorem cROfV {W:World}{n:Int}{v:Value}(h:Vi n v W)(h1: -9223372036854775808<=n:=by omega)(h2:n<=9223372036854775807:=by omega):Calls Tryz.prog 82 #[v] W (RV (Vz 3 n) W):=by
 obtain rfl:=h;exact cROf n h1 h2
theorem run_remN {ρ:Operand->Value}{o:Oper}{W:World}{x y:Operand}{a b:Nat}(ho:o.op= .binOp .rem 3 x y 3)(hx:ρ x= .int .i64 (a:Int))(hy:ρ y= .int .i64 (b:Int))(ha:a<1000000000000000000)(hb:b<1000000000000000000)(h0:0<b):(execOp ρ o).run Tryz.prog W= .ok (.value (.int .i64 ((a % b:Nat):Int))) W:=by
 have e1:Int.tmod (a:Int) (b:Int)=((a % b:Nat):Int):=rfl;have hlt:a % b<b:=Nat.mod_lt _ h0;have hb0:¬b=0:=by omega
 obtain⟨d,op,ty,ps,af,gd⟩:=o;subst ho
 go_simp
theorem cRGcd {w:World}{N:Nat}{x y:Int}{v0 v1:Value}(h0:Vz N x v0 w)(h1:Vz N y v1 w)(h3:3<=N:=by omega)(hN:N<=1000000:=by omega):Calls Tryz.prog 118 #[v0,v1] w (RV (Vz N (Int.gcd x y:Int)) w):=by
 go_enter Tryz.func118,Tryz.ntmps118
 refine Sg 56 [(0,Vz N x),(1,Vz N y)] (Lq.2 ⟨⟨_,rfl,h0⟩,(Lq.2 ⟨⟨_,rfl,h1⟩,L0⟩)⟩) fun a0 st0=>Wn ?_
 refine rH [(28,2,0)] [VT,VT,VT] [⟨2,some 0,some 0,28,2,Vz N x,VT⟩,⟨3,some 1,some 1,28,2,Vz N y,VT⟩,⟨4,some 2,none,28,2,VT,VT⟩] [] st0 ⟨ks,ks,ks,trivial⟩ fun a1 w1 st1=>Wn ?_
 refine rH [(28,2,0)] [Vpt a1 2 1,VD N x,Vz N ((x.natAbs:Nat):Int),VT,VT] [.k 2 28 2 (Vz N x),.k 3 28 2 (Vz N y),.k 4 28 2 VT,⟨5,some 3,some 4,28,2,Vz N ((x.natAbs:Nat):Int),VT⟩] [] st1 ⟨ks,ks,(by refine kc fun _ A Y h D=>?_;obtain⟨v1,x1,X1⟩:=h.dp D 13;exact⟨#[.bool false,v1],by simp [x1,eval_const],cRNormalO (b:=false) (VD_O (show VD N x v1 Y from X1))⟩),ks,ks,trivial⟩ ?_;intro a2 w2 st2;refine Wn ?_
 refine rH [(28,2,0)] [Vpt a2 3 1,VD N y,Vz N ((y.natAbs:Nat):Int),VT,VT] [.k 2 28 2 (Vz N x),.k 3 28 2 (Vz N y),.k 4 28 2 VT,.k 5 28 2 (Vz N ((x.natAbs:Nat):Int)),⟨6,some 3,some 4,28,2,Vz N ((y.natAbs:Nat):Int),VT⟩] [] st2 ⟨ks,ks,(by refine kc fun _ A Y h D=>?_;obtain⟨v1,x1,X1⟩:=h.dp D 16;exact⟨#[.bool false,v1],by simp [x1,eval_const],cRNormalO (b:=false) (VD_O (show VD N y v1 Y from X1))⟩),ks,ks,trivial⟩ ?_;intro a3 w3 st3;refine Wn ?_
 refine wp_loop_ghost (fun pb aX wX=>∃pa:Nat,Nat.gcd pa pb=Nat.gcd x.natAbs y.natAbs/\St w.heap.size w 56 [.k 4 28 2 VT,.k 5 28 2 (Vz N ((pa:Nat):Int)),.k 6 28 2 (Vz N ((pb:Nat):Int))] [] aX wX) y.natAbs ⟨x.natAbs,rfl,st3.cut⟩ ?_;intro pb aL wL ⟨pa,hg,st3⟩;by_cases hn:0<((pb:Nat):Int)
 ·
  refine Wn ?_
  refine rH [(28,2,0)] [Vpt aL 6 1,VD N ((pb:Nat):Int),Vi ((digs ((pb:Nat):Int).natAbs).length:Int),Vb true] [.k 4 28 2 VT,.k 5 28 2 (Vz N ((pa:Nat):Int)),.k 6 28 2 (Vz N ((pb:Nat):Int))] [(21,Vb true)] st3 ⟨ks,ks,(by refine kr fun _ A Y h D=>?_;obtain⟨v0,x0,X0⟩:=h.dp D 19;obtain⟨pp,nn,cc,rfl,hnn,-⟩:=X0;exact⟨_,run_len rfl rfl x0,by rw [hnn];rfl⟩),(by refine kr fun _ A Y h D=>?_;obtain⟨v0,x0,X0⟩:=h.dp D 20;have hV0':v0= .int .i64 ((digs ((pb:Nat):Int).natAbs).length:Int):=X0;exact⟨_,run_gtri rfl (x0.trans hV0') rfl,congrArg Value.bool (by rw [len_gt0 _ (Int.natCast_nonneg _)];exact dT hn)⟩),trivial⟩ ?_;intro a4 w4 st4;refine Wn ?_
  refine cT st4 ?_;by_cases qa:((digs (((pa:Nat):Int)).natAbs).length:Int)<=2
  ·
   by_cases qb:((digs (((pb:Nat):Int)).natAbs).length:Int)<=2
   ·
    refine Wn ?_
    refine rH [(28,2,0)] [Vpt a4 5 1,VD N ((pa:Nat):Int),Vi ((digs ((pa:Nat):Int).natAbs).length:Int),Vb true,Vb true,Vpt a4 6 1,VD N ((pb:Nat):Int),Vi ((digs ((pb:Nat):Int).natAbs).length:Int),Vb true,Vb true] [.k 4 28 2 VT,.k 5 28 2 (Vz N ((pa:Nat):Int)),.k 6 28 2 (Vz N ((pb:Nat):Int))] [(21,Vb true),(31,Vb true)] st4 ⟨ks,ks,(by refine kr fun _ A Y h D=>?_;obtain⟨v0,x0,X0⟩:=h.dp D 23;obtain⟨pp,nn,cc,rfl,hnn,-⟩:=X0;exact⟨_,run_len rfl rfl x0,by rw [hnn];rfl⟩),(kr1 24 fun _ _ _ _ _ x0 X0=>⟨_,run_leqi rfl (x0.trans X0) rfl,congrArg Value.bool (dT qa)⟩),ks,ks,ks,(by refine kr fun _ A Y h D=>?_;obtain⟨v0,x0,X0⟩:=h.dp D 28;obtain⟨pp,nn,cc,rfl,hnn,-⟩:=X0;exact⟨_,run_len rfl rfl x0,by rw [hnn];rfl⟩),(kr1 29 fun _ _ _ _ _ x0 X0=>⟨_,run_leqi rfl (x0.trans X0) rfl,congrArg Value.bool (dT qb)⟩),ks,trivial⟩ ?_;intro a5 w5 st5;refine Wn ?_
    refine cT st5 ?_;refine Wn ?_
    refine rH [(28,2,0)] [Vpt a5 5 1,VD N ((pa:Nat):Int),Vi pa,Vi pa] [.k 4 28 2 VT,.k 5 28 2 (Vz N ((pa:Nat):Int)),.k 6 28 2 (Vz N ((pb:Nat):Int))] [(21,Vb true),(31,Vb true),(7,Vi pa)] st5 ⟨ks,ks,(kd1 fun _ _ Y _ v0 X0=>(cRTinyN (show VD N ((pa:Nat):Int) v0 Y from X0) qa)),ks,trivial⟩ fun a6 w6 st6=>Wn ?_
    refine rH [(28,2,0)] [Vpt a6 6 1,VD N ((pb:Nat):Int),Vi pb,Vi pb] [.k 4 28 2 VT,.k 5 28 2 (Vz N ((pa:Nat):Int)),.k 6 28 2 (Vz N ((pb:Nat):Int))] [(21,Vb true),(31,Vb true),(7,Vi pa),(8,Vi pb)] st6 ⟨ks,ks,(kd1 fun _ _ Y _ v0 X0=>(cRTinyN (show VD N ((pb:Nat):Int) v0 Y from X0) qb)),ks,trivial⟩ fun a7 w7 st7=>Wn ?_
    refine wp_loop_ghost (fun m aX wX=>∃u:Nat,Nat.gcd u m=Nat.gcd x.natAbs y.natAbs/\u<1000000000000000000/\m<1000000000000000000/\St w.heap.size w 56 [.k 4 28 2 VT] [(7,Vi u),(8,Vi m)] aX wX) pb ⟨pa,hg,tiny_lt qa,tiny_lt qb,st7.cut⟩ ?_;intro m aM wM ⟨u,hu,hu1,hm1,st7⟩;by_cases hm:0<((m:Nat):Int)
    ·
     refine Wn ?_
     refine rH [(28,2,0)] [Vi m,Vb true] [.k 4 28 2 VT] [(7,Vi u),(8,Vi m),(39,Vb true)] st7 ⟨ks,(kr1 38 fun _ _ _ _ _ x0 X0=>⟨_,run_gtri rfl (x0.trans X0) rfl,congrArg Value.bool (dT hm)⟩),trivial⟩ fun a8 w8 st8=>Wn ?_
     refine cT st8 ?_;refine Wn ?_
     refine rH [(28,2,0)] [Vi u,Vi m,Vi ((u % m:Nat):Int),Vi ((u % m:Nat):Int)] [.k 4 28 2 VT] [(7,Vi u),(8,Vi m),(39,Vb true),(9,Vi ((u % m:Nat):Int))] st8 ⟨ks,ks,(kr2 40 41 fun _ _ _ _ v0 x0 X0 v1 x1 X1=>⟨_,run_remN rfl (x0.trans (show v0= .int .i64 u from X0)) (x1.trans (show v1= .int .i64 m from X1)) (by omega) (by omega) (by omega),rfl⟩),ks,trivial⟩ fun a9 w9 st9=>Wn ?_
     refine rH [(28,2,0)] [Vi m,Vi m] [.k 4 28 2 VT] [(8,Vi m),(39,Vb true),(9,Vi ((u % m:Nat):Int)),(7,Vi m)] st9 ⟨ks,ks,trivial⟩ fun a10 w10 st10=>Wn ?_
     refine rH [(28,2,0)] [Vi ((u % m:Nat):Int),Vi ((u % m:Nat):Int)] [.k 4 28 2 VT] [(39,Vb true),(7,Vi m),(8,Vi ((u % m:Nat):Int))] st10 ⟨ks,ks,trivial⟩ ?_;intro a11 w11 st11;exact⟨u % m,Nat.mod_lt _ (by omega),m,by rw [Nat.gcd_comm,<-Nat.gcd_rec,Nat.gcd_comm];exact hu,hm1,Nat.lt_trans (Nat.mod_lt _ (by omega)) hm1,st11.cut⟩
    ·
     refine Wn ?_
     refine rH [(28,2,0)] [Vi m,Vb false] [.k 4 28 2 VT] [(7,Vi u),(8,Vi m),(39,Vb false)] st7 ⟨ks,(kr1 38 fun _ _ _ _ _ x0 X0=>⟨_,run_gtri rfl (x0.trans X0) rfl,congrArg Value.bool (dF hm)⟩),trivial⟩ fun a8 w8 st8=>Wn ?_
     refine cF st8 ?_;refine Wn ?_
     refine rH [(28,2,0)] [Vi u,Vz 3 ((u:Nat):Int),VT] [⟨4,none,some 2,28,2,Vz 3 ((u:Nat):Int),VT⟩] [(7,Vi u),(8,Vi m),(39,Vb false)] st8 ⟨ks,(kd1 fun _ _ _ _ _ X0=>(cROfV X0)),ks,trivial⟩ fun a9 w9 st9=>Wn ?_
     exact wp_ret (rC 4 28 (Vz 3 ((u:Nat):Int)) st9 fun cs r4=>(Vz_le (by rw [show(Int.gcd x y:Int)=((u:Nat):Int) by rw [show m=0 by omega,Nat.gcd_zero_right] at hu;rw [hu];rfl];exact r4) h3))
   ·
    refine Wn ?_
    refine rH [(28,2,0)] [Vpt a4 5 1,VD N ((pa:Nat):Int),Vi ((digs ((pa:Nat):Int).natAbs).length:Int),Vb true,Vb true,Vpt a4 6 1,VD N ((pb:Nat):Int),Vi ((digs ((pb:Nat):Int).natAbs).length:Int),Vb false,Vb false] [.k 4 28 2 VT,.k 5 28 2 (Vz N ((pa:Nat):Int)),.k 6 28 2 (Vz N ((pb:Nat):Int))] [(21,Vb true),(31,Vb false)] st4 ⟨ks,ks,(by refine kr fun _ A Y h D=>?_;obtain⟨v0,x0,X0⟩:=h.dp D 23;obtain⟨pp,nn,cc,rfl,hnn,-⟩:=X0;exact⟨_,run_len rfl rfl x0,by rw [hnn];rfl⟩),(kr1 24 fun _ _ _ _ _ x0 X0=>⟨_,run_leqi rfl (x0.trans X0) rfl,congrArg Value.bool (dT qa)⟩),ks,ks,ks,(by refine kr fun _ A Y h D=>?_;obtain⟨v0,x0,X0⟩:=h.dp D 28;obtain⟨pp,nn,cc,rfl,hnn,-⟩:=X0;exact⟨_,run_len rfl rfl x0,by rw [hnn];rfl⟩),(kr1 29 fun _ _ _ _ _ x0 X0=>⟨_,run_leqi rfl (x0.trans X0) rfl,congrArg Value.bool (dF qb)⟩),ks,trivial⟩ ?_;intro a5 w5 st5;refine Wn ?_
    refine cF st5 ?_;refine Wn ?_
    refine rH [(28,2,0)] [Vz N ((pa:Nat):Int),Vz N ((pb:Nat):Int),VTup (Vz (N+1) (dq ((pa:Nat):Int) ((pb:Nat):Int))) (Vz N (dr ((pa:Nat):Int) ((pb:Nat):Int))),VTup (Vz (N+1) (dq ((pa:Nat):Int) ((pb:Nat):Int))) (Vz N (dr ((pa:Nat):Int) ((pb:Nat):Int))),Vz (N+1) (dq ((pa:Nat):Int) ((pb:Nat):Int)),Vz N (dr ((pa:Nat):Int) ((pb:Nat):Int)),VT,VT,VT,VT] [.k 4 28 2 VT,.k 5 28 2 (Vz N ((pa:Nat):Int)),.k 6 28 2 (Vz N ((pb:Nat):Int)),⟨10,some 6,some 8,28,2,Vz (N+1) (dq ((pa:Nat):Int) ((pb:Nat):Int)),VT⟩,⟨11,some 7,some 9,28,2,Vz N (dr ((pa:Nat):Int) ((pb:Nat):Int)),VT⟩] [(21,Vb true),(31,Vb false)] st5 ⟨ks,ks,(kd2 fun _ _ _ _ _ X0 _ X1=>(cRDiv X0 X1)),ks,ks,ks,ks,ks,ks,ks,trivial⟩ fun a6 w6 st6=>Wn ?_
    refine rH [(28,2,0)] [Vz N ((pb:Nat):Int),VT] [.k 4 28 2 VT,⟨5,none,some 1,28,2,Vz N ((pb:Nat):Int),Vz N ((pa:Nat):Int)⟩,.k 6 28 2 (Vz N ((pb:Nat):Int)),.k 10 28 2 (Vz (N+1) (dq ((pa:Nat):Int) ((pb:Nat):Int))),.k 11 28 2 (Vz N (dr ((pa:Nat):Int) ((pb:Nat):Int)))] [(21,Vb true),(31,Vb false)] st6 ⟨ks,ks,trivial⟩ fun a7 w7 st7=>Wn ?_
    refine rH [(28,2,0)] [Vz N (dr ((pa:Nat):Int) ((pb:Nat):Int)),VT] [.k 4 28 2 VT,.k 5 28 2 (Vz N ((pb:Nat):Int)),⟨6,none,some 1,28,2,Vz N (dr ((pa:Nat):Int) ((pb:Nat):Int)),Vz N ((pb:Nat):Int)⟩,.k 10 28 2 (Vz (N+1) (dq ((pa:Nat):Int) ((pb:Nat):Int))),.k 11 28 2 (Vz N (dr ((pa:Nat):Int) ((pb:Nat):Int)))] [(21,Vb true),(31,Vb false)] st7 ⟨ks,ks,trivial⟩ ?_;intro a8 w8 st8;have e6:dr ((pa:Nat):Int) ((pb:Nat):Int)=((pa % pb:Nat):Int):=by unfold dr;rw [if_neg (by omega)];rfl
    refine⟨pa % pb,Nat.mod_lt _ (by omega),pb,by rw [Nat.gcd_comm,<-Nat.gcd_rec,Nat.gcd_comm];exact hg,?_⟩;rw [e6] at st8;exact st8.cut
  ·
   refine Wn ?_
   refine rH [(28,2,0)] [Vpt a4 5 1,VD N ((pa:Nat):Int),Vi ((digs ((pa:Nat):Int).natAbs).length:Int),Vb false,Vb false,VT,VT,VT,VT,Vb false] [.k 4 28 2 VT,.k 5 28 2 (Vz N ((pa:Nat):Int)),.k 6 28 2 (Vz N ((pb:Nat):Int))] [(21,Vb true),(31,Vb false)] st4 ⟨ks,ks,(by refine kr fun _ A Y h D=>?_;obtain⟨v0,x0,X0⟩:=h.dp D 23;obtain⟨pp,nn,cc,rfl,hnn,-⟩:=X0;exact⟨_,run_len rfl rfl x0,by rw [hnn];rfl⟩),(kr1 24 fun _ _ _ _ _ x0 X0=>⟨_,run_leqi rfl (x0.trans X0) rfl,congrArg Value.bool (dF qa)⟩),ks,ks,ks,ks,ks,ks,trivial⟩ ?_;intro a5 w5 st5;refine Wn ?_
   refine cF st5 ?_;refine Wn ?_
   refine rH [(28,2,0)] [Vz N ((pa:Nat):Int),Vz N ((pb:Nat):Int),VTup (Vz (N+1) (dq ((pa:Nat):Int) ((pb:Nat):Int))) (Vz N (dr ((pa:Nat):Int) ((pb:Nat):Int))),VTup (Vz (N+1) (dq ((pa:Nat):Int) ((pb:Nat):Int))) (Vz N (dr ((pa:Nat):Int) ((pb:Nat):Int))),Vz (N+1) (dq ((pa:Nat):Int) ((pb:Nat):Int)),Vz N (dr ((pa:Nat):Int) ((pb:Nat):Int)),VT,VT,VT,VT] [.k 4 28 2 VT,.k 5 28 2 (Vz N ((pa:Nat):Int)),.k 6 28 2 (Vz N ((pb:Nat):Int)),⟨10,some 6,some 8,28,2,Vz (N+1) (dq ((pa:Nat):Int) ((pb:Nat):Int)),VT⟩,⟨11,some 7,some 9,28,2,Vz N (dr ((pa:Nat):Int) ((pb:Nat):Int)),VT⟩] [(21,Vb true),(31,Vb false)] st5 ⟨ks,ks,(kd2 fun _ _ _ _ _ X0 _ X1=>(cRDiv X0 X1)),ks,ks,ks,ks,ks,ks,ks,trivial⟩ fun a6 w6 st6=>Wn ?_
   refine rH [(28,2,0)] [Vz N ((pb:Nat):Int),VT] [.k 4 28 2 VT,⟨5,none,some 1,28,2,Vz N ((pb:Nat):Int),Vz N ((pa:Nat):Int)⟩,.k 6 28 2 (Vz N ((pb:Nat):Int)),.k 10 28 2 (Vz (N+1) (dq ((pa:Nat):Int) ((pb:Nat):Int))),.k 11 28 2 (Vz N (dr ((pa:Nat):Int) ((pb:Nat):Int)))] [(21,Vb true),(31,Vb false)] st6 ⟨ks,ks,trivial⟩ fun a7 w7 st7=>Wn ?_
   refine rH [(28,2,0)] [Vz N (dr ((pa:Nat):Int) ((pb:Nat):Int)),VT] [.k 4 28 2 VT,.k 5 28 2 (Vz N ((pb:Nat):Int)),⟨6,none,some 1,28,2,Vz N (dr ((pa:Nat):Int) ((pb:Nat):Int)),Vz N ((pb:Nat):Int)⟩,.k 10 28 2 (Vz (N+1) (dq ((pa:Nat):Int) ((pb:Nat):Int))),.k 11 28 2 (Vz N (dr ((pa:Nat):Int) ((pb:Nat):Int)))] [(21,Vb true),(31,Vb false)] st7 ⟨ks,ks,trivial⟩ ?_;intro a8 w8 st8;have e6:dr ((pa:Nat):Int) ((pb:Nat):Int)=((pa % pb:Nat):Int):=by unfold dr;rw [if_neg (by omega)];rfl
   refine⟨pa % pb,Nat.mod_lt _ (by omega),pb,by rw [Nat.gcd_comm,<-Nat.gcd_rec,Nat.gcd_comm];exact hg,?_⟩;rw [e6] at st8;exact st8.cut
 ·
  refine Wn ?_
  refine rH [(28,2,0)] [Vpt aL 6 1,VD N ((pb:Nat):Int),Vi ((digs ((pb:Nat):Int).natAbs).length:Int),Vb false] [.k 4 28 2 VT,.k 5 28 2 (Vz N ((pa:Nat):Int)),.k 6 28 2 (Vz N ((pb:Nat):Int))] [(21,Vb false)] st3 ⟨ks,ks,(by refine kr fun _ A Y h D=>?_;obtain⟨v0,x0,X0⟩:=h.dp D 19;obtain⟨pp,nn,cc,rfl,hnn,-⟩:=X0;exact⟨_,run_len rfl rfl x0,by rw [hnn];rfl⟩),(by refine kr fun _ A Y h D=>?_;obtain⟨v0,x0,X0⟩:=h.dp D 20;have hV0':v0= .int .i64 ((digs ((pb:Nat):Int).natAbs).length:Int):=X0;exact⟨_,run_gtri rfl (x0.trans hV0') rfl,congrArg Value.bool (by rw [len_gt0 _ (Int.natCast_nonneg _)];exact dF hn)⟩),trivial⟩ ?_;intro a4 w4 st4;refine Wn ?_
  refine cF st4 ?_;refine Wn ?_
  refine rH [(28,2,0)] [Vz N ((pa:Nat):Int),VT] [⟨4,none,some 1,28,2,Vz N ((pa:Nat):Int),VT⟩,.k 5 28 2 (Vz N ((pa:Nat):Int)),.k 6 28 2 (Vz N ((pb:Nat):Int))] [(21,Vb false)] st4 ⟨ks,ks,trivial⟩ fun a5 w5 st5=>Wn ?_
  exact wp_ret (rC 4 28 (Vz N ((pa:Nat):Int)) st5 fun cs r4=>(by rw [show(Int.gcd x y:Int)=((pa:Nat):Int) by rw [show pb=0 by omega,Nat.gcd_zero_right] at hg;rw [hg];rfl];exact r4))
theorem rone_any (nb:Bool)(p:Option Addr)(n c:Nat)(z:Int)(w:World)(hI:IntAt w nb p n c z):
 Calls Tryz.prog 121 #[.agg #[.bool nb,.slice p n c]] w fun e w'=>e= .returned (.bool (decide (z=1)))/\Below w.heap.size w w':=by
 obtain⟨h1,h2,h3,-⟩:=hI;cases nb with
 |true=>
  have hfin:Hid (false=decide (z=1)):=hIq (dF (by have:=of_decide_eq_true h1.symm;omega)).symm;clear h1 h2 h3
  go_enter Tryz.func121,Tryz.ntmps121
  go_wp2_with fail
  go_ret
  exact⟨by rw [<-hfin.out];rfl,below_new _ _⟩
 |false=>
  have hz:0<=z:=by have:=of_decide_eq_false h1.symm;omega
  by_cases hn:n=1
  ·obtain⟨b,off,rfl,hc⟩:=Rdi_at h3 0 (by omega);obtain⟨d,D⟩:∃d,iat (digs z.natAbs) 0=d:=⟨_,rfl⟩;rw [D] at hc
   have hv:(z.natAbs:Int)=d:=by
    have h4:=val_digs z.natAbs
    match hh:digs z.natAbs,D,h2 with
    | [],D,h2=>simp at h2;omega
    | [x],D,h2=>rw [hh] at h4;simp [val] at h4;simp [iat] at D;omega
    |x::y::t,D,h2=>simp at h2;omega
   subst hn;have hc':w.cell? ⟨b,off,none⟩=some (.int .i64 d):=hc;clear hc h3 D;have hb:b<w.heap.size:=World.block_lt_of_cell? w _ hc'
   have hfin:Hid ((d==1)=decide (z=1)):=hIq (by
    by_cases h:z=1
    ·rw [dT h];simp;omega
    ·rw [dF h];simp;omega)
   clear h1 h2 hv hz
   go_enter Tryz.func121,Tryz.ntmps121
   go_wp2_with fail
   go_ret
   exact⟨by rw [<-hfin.out];rfl,below_new _ _⟩
  ·have hfin:Hid (false=decide (z=1)):=hIq (dF (fun e=>hn (by rw [h2,e];show(digs 1).length=1;rw [digs1];rfl))).symm;have hnb:((n:Int) !=1)=true:=by simp;omega
   clear h1 h2 h3 hn hz
   go_enter Tryz.func121,Tryz.ntmps121
   go_wp2_with fail
   go_ret
   exact⟨by rw [<-hfin.out];rfl,below_new _ _⟩
theorem cR4One {W:World}{N:Nat}{z:Int}{v:Value}(h:Vz N z v W):Calls Tryz.prog 121 #[v] W (RV (Vb (decide (z=1))) W):=by
 obtain⟨nb,p,n,c,rfl,hI,hn⟩:=h;exact(rone_any nb p n c z W hI).mono fun e w' h=>⟨_,h.1,rfl,h.2⟩
theorem Vz_len {N:Nat}{z:Int}{v:Value}{w:World}(h:Vz N z v w):(digs z.natAbs).length<=N:=by
 obtain⟨nb,p,n,c,h1,h2,h3⟩:=h;rw [<-h2.2.1];exact h3
theorem Vz_fit {N M:Nat}{z:Int}{v:Value}{w:World}(h:Vz N z v w)(hM:(digs z.natAbs).length<=M):Vz M z v w:=by
 obtain⟨nb,p,n,c,h1,h2,h3⟩:=h;exact⟨nb,p,n,c,h1,h2,by rw [h2.2.1];exact hM⟩
theorem cRDivG {W:World}{Na Nb:Nat}{x y:Int}{v1 v2:Value}(h1:Vz Na x v1 W)(h2:Vz Nb y v2 W)(hy:y≠0:=by omega)(ha:1<=Na:=by omega)(hb:1<=Nb:=by omega)(hNa:Na<=1000000:=by omega)(hNb:Nb<=1000000:=by omega):
 Calls Tryz.prog 119 #[v1,v2] W (RV (VTup (Vz Na (x / y)) (Vz Nb (dr x y))) W):=
 (cRDiv h1 h2 ha hb hNa hNb).mono fun e w' h=>h.le fun v w ⟨a,c,e1,h3,h4⟩=>⟨a,c,e1,Vz_fit (by rw [show x / y=dq x y from(if_neg hy).symm];exact h3) (Nat.le_trans (digs_len_mono (Int.natAbs_ediv_le_natAbs x y)) (Vz_len h1)),h4⟩
theorem make_neg {p q:Int}(hq:q<0):(Rat.divInt p q).num= -(p / (Int.gcd p q:Int))/\((Rat.divInt p q).den:Int)= -(q / (Int.gcd p q:Int)):=by
 have:=make_low (p:= -p) (q:= -q) (by omega);rw [Rat.neg_divInt_neg,Int.neg_gcd,Int.gcd_neg,Int.neg_ediv_of_dvd (Int.gcd_dvd_left ..),Int.neg_ediv_of_dvd (Int.gcd_dvd_right ..)] at this;exact this
theorem quo_sign {p q:Int}(hz:q≠0):q / (Int.gcd p q:Int)<0↔q<0:=by
 have hg:(0:Int)<Int.gcd p q:=by have:=Int.gcd_pos_of_ne_zero_right p (b:=q) hz;omega
 have d2:(Int.gcd p q:Int)∣q:=Int.gcd_dvd_right ..;have e:=Int.ediv_mul_cancel d2;constructor
 ·intro h;rcases Int.lt_or_le q 0 with h1|h1
  ·exact h1
  ·have:=Int.ediv_nonneg h1 (Int.le_of_lt hg);omega
 ·intro h;rcases Int.lt_or_le (q / (Int.gcd p q:Int)) 0 with h1|h1
  ·exact h1
  ·have:=Int.mul_nonneg h1 (Int.le_of_lt hg);omega
theorem made1 {N:Nat}{r:Rat}{a b:Int}{v:Value}{w:World}(hr:r.num=a/\(r.den:Int)=b)(hb:b=1)(h:VP2 2 2 (Vz N a) (Vz N 0) v w):Vq N r v w:=by
 have e:qd r=0:=if_pos (by have:=hr.2;omega);unfold Vq;rw [hr.1,e];exact h
theorem made2 {N:Nat}{r:Rat}{a b:Int}{v:Value}{w:World}(hr:r.num=a/\(r.den:Int)=b)(hb:¬b=1)(h:VP2 2 2 (Vz N a) (Vz N b) v w):Vq N r v w:=by
 have e:qd r=b:=(by unfold qd;rw [if_neg (by have:=hr.2;omega)];exact hr.2);unfold Vq;rw [hr.1,e];exact h
theorem cR4Den {w:World}{N:Nat}{q:Rat}{v0:Value}(h0:Vq N q v0 w)(hN:3<=N:=by omega):Calls Tryz.prog 96 #[v0] w (RV (Vz N (q.den:Int)) w):=by
 go_enter Tryz.func96,Tryz.ntmps96
 refine Sg 11 [(0,Vq N q)] (Lq.2 ⟨⟨_,rfl,h0⟩,L0⟩) fun a0 st0=>Wn ?_
 refine rH [(28,2,0)] [VT,VT] [⟨1,some 0,some 0,30,4,Vq N q,VT⟩,⟨2,some 1,none,28,2,VT,VT⟩] [] st0 ⟨ks,ks,trivial⟩ fun a1 w1 st1=>Wn ?_
 refine rH [(28,2,0)] [Vpt a1 1 2,Vpt a1 1 3,VD N (qd q),Vi ((digs (qd q).natAbs).length:Int),Vb (decide (q.den=1))] [.k 1 30 4 (Vq N q),.k 2 28 2 VT] [(7,Vb (decide (q.den=1)))] st1 ⟨ks,ks,ks,(by refine kr fun _ A Y h D=>?_;obtain⟨v0,x0,X0⟩:=h.dp D 5;obtain⟨pp,nn,cc,rfl,hnn,-⟩:=X0;exact⟨_,run_len rfl rfl x0,by rw [hnn];rfl⟩),(by refine kr fun _ A Y h D=>?_;obtain⟨v0,x0,X0⟩:=h.dp D 6;have hV0':v0= .int .i64 ((digs (qd q).natAbs).length:Int):=X0;exact⟨_,run_eqi rfl (x0.trans hV0') rfl,congrArg Value.bool (by rw [len_eq0];exact decide_eq_decide.2 (qd0 q))⟩),trivial⟩ ?_;intro a2 w2 st2;refine Wn ?_
 obtain⟨vc,hc1,hc2⟩:=st2.slot (7,Vb (decide (q.den=1))) (.head _);by_cases hcc:q.den=1
 ·refine wp_cond_true (hc1.trans (hc2.trans (congrArg Value.bool (dT hcc)))) ?_;clear hc1 hc2;refine Wn ?_
  refine rH [(28,2,0)] [Vz 3 1,VT] [.k 1 30 4 (Vq N q),⟨2,none,some 1,28,2,Vz 3 1,VT⟩] [(7,Vb (decide (q.den=1)))] st2 ⟨(by refine kc fun _ A Y h D=>?_;exact⟨#[.int .i64 1],by simp [eval_const],cROf 1⟩),ks,trivial⟩ ?_;intro a3 w3 st3;refine Wn ?_
  exact wp_ret (rC 2 28 (Vz 3 1) st3 fun cs r4=>(by rw [show(q.den:Int)=1 by omega];exact Vz_le r4 hN))
 ·refine wp_cond_false (hc1.trans (hc2.trans (congrArg Value.bool (dF hcc)))) ?_;clear hc1 hc2;refine Wn ?_
  refine rH [(28,2,0)] [Vpt a2 1 2,Vz N (qd q),VT] [.k 1 30 4 (Vq N q),⟨2,none,some 2,28,2,Vz N (qd q),VT⟩] [(7,Vb (decide (q.den=1)))] st2 ⟨ks,ks,ks,trivial⟩ fun a3 w3 st3=>Wn ?_
  exact wp_ret (rC 2 28 (Vz N (qd q)) st3 fun cs r4=>(by rw [show(q.den:Int)=qd q from(if_neg hcc).symm];exact r4))
theorem cR4Make {w:World}{N:Nat}{p q:Int}{v0 v1:Value}(h0:Vz N p v0 w)(h1:Vz N q v1 w)(h3:3<=N:=by omega)(hN:N<=1000000:=by omega):Calls Tryz.prog 81 #[v0,v1] w (RV (Vq N (Rat.divInt p q)) w):=by
 go_enter Tryz.func81,Tryz.ntmps81
 refine Sg 49 [(0,Vz N p),(1,Vz N q)] (Lq.2 ⟨⟨_,rfl,h0⟩,(Lq.2 ⟨⟨_,rfl,h1⟩,L0⟩)⟩) fun a0 st0=>Wn ?_
 refine rH [(30,4,0),(28,2,0)] [VT,VT,VT] [⟨2,some 0,some 0,28,2,Vz N p,VT⟩,⟨3,some 1,some 1,28,2,Vz N q,VT⟩,⟨4,some 2,none,30,4,VT,VT⟩] [] st0 ⟨ks,ks,ks,trivial⟩ ?_;intro a1 w1 st1;by_cases hz:q=0
 ·
  refine Wn ?_
  refine rH [(30,4,0),(28,2,0)] [Vpt a1 3 1,VD N q,Vi ((digs q.natAbs).length:Int),Vb true,Vb true,VT,VT,VT,VT,Vb true] [.k 2 28 2 (Vz N p),.k 3 28 2 (Vz N q),.k 4 30 4 VT] [(19,Vb true)] st1 ⟨ks,ks,(by refine kr fun _ A Y h D=>?_;obtain⟨v0,x0,X0⟩:=h.dp D 11;obtain⟨pp,nn,cc,rfl,hnn,-⟩:=X0;exact⟨_,run_len rfl rfl x0,by rw [hnn];rfl⟩),(by refine kr fun _ A Y h D=>?_;obtain⟨v0,x0,X0⟩:=h.dp D 12;have hV0':v0= .int .i64 ((digs q.natAbs).length:Int):=X0;exact⟨_,run_eqi rfl (x0.trans hV0') rfl,congrArg Value.bool (by rw [len_eq0];exact dT hz)⟩),ks,ks,ks,ks,ks,ks,trivial⟩ ?_;intro a2 w2 st2;refine Wn ?_
  refine cT st2 ?_;refine Wn ?_
  refine rH [(30,4,0),(28,2,0)] [Vq 1 0,VT] [.k 2 28 2 (Vz N p),.k 3 28 2 (Vz N q),⟨4,none,some 1,30,4,Vq 1 0,VT⟩] [(19,Vb true)] st2 ⟨(kr fun _ A Y h D=>build_Rat0 rfl),ks,trivial⟩ fun a3 w3 st3=>Wn ?_
  exact wp_ret (rC 4 30 (Vq 1 0) st3 fun cs r4=>(by rw [hz,Rat.divInt_zero];exact Vq_le r4 (by omega)))
 ·
  by_cases hp:p=0
  ·
   refine Wn ?_
   refine rH [(30,4,0),(28,2,0)] [Vpt a1 3 1,VD N q,Vi ((digs q.natAbs).length:Int),Vb false,Vb false,Vpt a1 2 1,VD N p,Vi ((digs p.natAbs).length:Int),Vb true,Vb true] [.k 2 28 2 (Vz N p),.k 3 28 2 (Vz N q),.k 4 30 4 VT] [(19,Vb true)] st1 ⟨ks,ks,(by refine kr fun _ A Y h D=>?_;obtain⟨v0,x0,X0⟩:=h.dp D 11;obtain⟨pp,nn,cc,rfl,hnn,-⟩:=X0;exact⟨_,run_len rfl rfl x0,by rw [hnn];rfl⟩),(by refine kr fun _ A Y h D=>?_;obtain⟨v0,x0,X0⟩:=h.dp D 12;have hV0':v0= .int .i64 ((digs q.natAbs).length:Int):=X0;exact⟨_,run_eqi rfl (x0.trans hV0') rfl,congrArg Value.bool (by rw [len_eq0];exact dF hz)⟩),ks,ks,ks,(by refine kr fun _ A Y h D=>?_;obtain⟨v0,x0,X0⟩:=h.dp D 16;obtain⟨pp,nn,cc,rfl,hnn,-⟩:=X0;exact⟨_,run_len rfl rfl x0,by rw [hnn];rfl⟩),(by refine kr fun _ A Y h D=>?_;obtain⟨v0,x0,X0⟩:=h.dp D 17;have hV0':v0= .int .i64 ((digs p.natAbs).length:Int):=X0;exact⟨_,run_eqi rfl (x0.trans hV0') rfl,congrArg Value.bool (by rw [len_eq0];exact dT hp)⟩),ks,trivial⟩ ?_;intro a2 w2 st2;refine Wn ?_
   refine cT st2 ?_;refine Wn ?_
   refine rH [(30,4,0),(28,2,0)] [Vq 1 0,VT] [.k 2 28 2 (Vz N p),.k 3 28 2 (Vz N q),⟨4,none,some 1,30,4,Vq 1 0,VT⟩] [(19,Vb true)] st2 ⟨(kr fun _ A Y h D=>build_Rat0 rfl),ks,trivial⟩ fun a3 w3 st3=>Wn ?_
   exact wp_ret (rC 4 30 (Vq 1 0) st3 fun cs r4=>(by rw [hp,Rat.zero_divInt];exact Vq_le r4 (by omega)))
  ·
   refine Wn ?_
   refine rH [(30,4,0),(28,2,0)] [Vpt a1 3 1,VD N q,Vi ((digs q.natAbs).length:Int),Vb false,Vb false,Vpt a1 2 1,VD N p,Vi ((digs p.natAbs).length:Int),Vb false,Vb false] [.k 2 28 2 (Vz N p),.k 3 28 2 (Vz N q),.k 4 30 4 VT] [(19,Vb false)] st1 ⟨ks,ks,(by refine kr fun _ A Y h D=>?_;obtain⟨v0,x0,X0⟩:=h.dp D 11;obtain⟨pp,nn,cc,rfl,hnn,-⟩:=X0;exact⟨_,run_len rfl rfl x0,by rw [hnn];rfl⟩),(by refine kr fun _ A Y h D=>?_;obtain⟨v0,x0,X0⟩:=h.dp D 12;have hV0':v0= .int .i64 ((digs q.natAbs).length:Int):=X0;exact⟨_,run_eqi rfl (x0.trans hV0') rfl,congrArg Value.bool (by rw [len_eq0];exact dF hz)⟩),ks,ks,ks,(by refine kr fun _ A Y h D=>?_;obtain⟨v0,x0,X0⟩:=h.dp D 16;obtain⟨pp,nn,cc,rfl,hnn,-⟩:=X0;exact⟨_,run_len rfl rfl x0,by rw [hnn];rfl⟩),(by refine kr fun _ A Y h D=>?_;obtain⟨v0,x0,X0⟩:=h.dp D 17;have hV0':v0= .int .i64 ((digs p.natAbs).length:Int):=X0;exact⟨_,run_eqi rfl (x0.trans hV0') rfl,congrArg Value.bool (by rw [len_eq0];exact dF hp)⟩),ks,trivial⟩ ?_;intro a2 w2 st2;refine Wn ?_
   refine cF st2 ?_;refine Wn ?_
   refine rH [(30,4,0),(28,2,0)] [Vz N p,Vz N q,Vz N (Int.gcd p (q):Int),VT,VT] [.k 2 28 2 (Vz N p),.k 3 28 2 (Vz N q),.k 4 30 4 VT,⟨5,some 3,some 4,28,2,Vz N (Int.gcd p (q):Int),VT⟩] [(19,Vb false)] st2 ⟨ks,ks,(kd2 fun _ _ _ _ _ X0 _ X1=>cRGcd X0 X1),ks,ks,trivial⟩ fun a3 w3 st3=>Wn ?_
   refine rH [(30,4,0),(28,2,0)] [Vz N p,Vz N (Int.gcd p (q):Int),VTup (Vz N ((p) / (Int.gcd p (q):Int))) (Vz N (dr p (Int.gcd p (q):Int))),VTup (Vz N ((p) / (Int.gcd p (q):Int))) (Vz N (dr p (Int.gcd p (q):Int))),Vz N ((p) / (Int.gcd p (q):Int)),Vz N (dr p (Int.gcd p (q):Int)),VT,VT,VT,VT] [.k 2 28 2 (Vz N p),.k 3 28 2 (Vz N q),.k 4 30 4 VT,.k 5 28 2 (Vz N (Int.gcd p (q):Int)),⟨6,some 6,some 8,28,2,Vz N ((p) / (Int.gcd p (q):Int)),VT⟩,⟨7,some 7,some 9,28,2,Vz N (dr p (Int.gcd p (q):Int)),VT⟩] [(19,Vb false)] st3 ⟨ks,ks,(kd2 fun _ _ _ _ _ X0 _ X1=>(cRDivG X0 X1 (gcd_ne_r hz))),ks,ks,ks,ks,ks,ks,ks,trivial⟩ fun a4 w4 st4=>Wn ?_
   refine rH [(30,4,0),(28,2,0)] [Vz N q,Vz N (Int.gcd p (q):Int),VTup (Vz N ((q) / (Int.gcd p (q):Int))) (Vz N (dr q (Int.gcd p (q):Int))),VTup (Vz N ((q) / (Int.gcd p (q):Int))) (Vz N (dr q (Int.gcd p (q):Int))),Vz N ((q) / (Int.gcd p (q):Int)),Vz N (dr q (Int.gcd p (q):Int)),VT,VT,VT,VT] [.k 2 28 2 (Vz N p),.k 3 28 2 (Vz N q),.k 4 30 4 VT,.k 5 28 2 (Vz N (Int.gcd p (q):Int)),.k 6 28 2 (Vz N ((p) / (Int.gcd p (q):Int))),.k 7 28 2 (Vz N (dr p (Int.gcd p (q):Int))),⟨8,some 6,some 8,28,2,Vz N ((q) / (Int.gcd p (q):Int)),VT⟩,⟨9,some 7,some 9,28,2,Vz N (dr q (Int.gcd p (q):Int)),VT⟩] [(19,Vb false)] st4 ⟨ks,ks,(kd2 fun _ _ _ _ _ X0 _ X1=>(cRDivG X0 X1 (gcd_ne_r hz))),ks,ks,ks,ks,ks,ks,ks,trivial⟩ ?_;intro a5 w5 st5;by_cases hl:q<0
   ·
    refine Wn ?_
    refine rH [(30,4,0),(28,2,0)] [Vpt a5 8 0,Vb true] [.k 2 28 2 (Vz N p),.k 3 28 2 (Vz N q),.k 4 30 4 VT,.k 5 28 2 (Vz N (Int.gcd p (q):Int)),.k 6 28 2 (Vz N ((p) / (Int.gcd p (q):Int))),.k 7 28 2 (Vz N (dr p (Int.gcd p (q):Int))),.k 8 28 2 (Vz N ((q) / (Int.gcd p (q):Int))),.k 9 28 2 (Vz N (dr q (Int.gcd p (q):Int)))] [(19,Vb false),(37,Vb true)] st5 ⟨ks,(k_cell (j:=0) (off:=0) SbB.out (by kernel_rfl) (.tail _ (.tail _ (.tail _ (.tail _ (.tail _ (.tail _ (.head _))))))) rfl rfl rfl (by kernel_rfl) (by kernel_rfl) rfl (by kernel_rfl) (fun cs w h=>vz_NT h ((quo_sign hz).2 hl)) Tryz.underlying4 rfl fun listed A Y h D=>⟨trivial,trivial⟩),trivial⟩ fun a6 w6 st6=>Wn ?_
    refine cT st6 ?_;refine Wn ?_
    refine rH [(30,4,0),(28,2,0)] [Vz N ((p) / (Int.gcd p (q):Int)),Vz N (-((p) / (Int.gcd p (q):Int))),VT] [.k 2 28 2 (Vz N p),.k 3 28 2 (Vz N q),.k 4 30 4 VT,.k 5 28 2 (Vz N (Int.gcd p (q):Int)),⟨6,none,some 2,28,2,Vz N (-((p) / (Int.gcd p (q):Int))),Vz N ((p) / (Int.gcd p (q):Int))⟩,.k 7 28 2 (Vz N (dr p (Int.gcd p (q):Int))),.k 8 28 2 (Vz N ((q) / (Int.gcd p (q):Int))),.k 9 28 2 (Vz N (dr q (Int.gcd p (q):Int)))] [(19,Vb false),(37,Vb true)] st6 ⟨ks,(kd1 fun _ _ _ _ _ X0=>cRNeg X0),ks,trivial⟩ fun a7 w7 st7=>Wn ?_
    refine rH [(30,4,0),(28,2,0)] [Vz N ((q) / (Int.gcd p (q):Int)),Vz N (-((q) / (Int.gcd p (q):Int))),VT] [.k 2 28 2 (Vz N p),.k 3 28 2 (Vz N q),.k 4 30 4 VT,.k 5 28 2 (Vz N (Int.gcd p (q):Int)),.k 6 28 2 (Vz N (-((p) / (Int.gcd p (q):Int)))),.k 7 28 2 (Vz N (dr p (Int.gcd p (q):Int))),⟨8,none,some 2,28,2,Vz N (-((q) / (Int.gcd p (q):Int))),Vz N ((q) / (Int.gcd p (q):Int))⟩,.k 9 28 2 (Vz N (dr q (Int.gcd p (q):Int)))] [(19,Vb false),(37,Vb true)] st7 ⟨ks,(kd1 fun _ _ _ _ _ X0=>cRNeg X0),ks,trivial⟩ fun a8 w8 st8=>Wn ?_
    refine rH [(30,4,0),(28,2,0)] [Vz N (-((q) / (Int.gcd p (q):Int))),Vb (decide ((-((q) / (Int.gcd p (q):Int)))=1))] [.k 2 28 2 (Vz N p),.k 3 28 2 (Vz N q),.k 4 30 4 VT,.k 5 28 2 (Vz N (Int.gcd p (q):Int)),.k 6 28 2 (Vz N (-((p) / (Int.gcd p (q):Int)))),.k 7 28 2 (Vz N (dr p (Int.gcd p (q):Int))),.k 8 28 2 (Vz N (-((q) / (Int.gcd p (q):Int)))),.k 9 28 2 (Vz N (dr q (Int.gcd p (q):Int)))] [(19,Vb false),(37,Vb true),(43,Vb (decide ((-((q) / (Int.gcd p (q):Int)))=1)))] st8 ⟨ks,(kd1 fun _ _ _ _ _ X0=>cR4One X0),trivial⟩ fun a9 w9 st9=>Wn ?_
    obtain⟨vc,hc1,hc2⟩:=st9.slot (43,Vb (decide ((-((q) / (Int.gcd p (q):Int)))=1))) (.tail _ (.tail _ (.head _)));by_cases hcc: -((q) / (Int.gcd p (q):Int))=1
    ·refine wp_cond_true (hc1.trans (hc2.trans (congrArg Value.bool (dT hcc)))) ?_;clear hc1 hc2;refine Wn ?_
     refine rH [(30,4,0),(28,2,0)] [Vz N (-((p) / (Int.gcd p (q):Int))),VP2 2 2 (Vz N (-((p) / (Int.gcd p (q):Int)))) (Vz N 0),VT] [.k 2 28 2 (Vz N p),.k 3 28 2 (Vz N q),⟨4,none,some 2,30,4,VP2 2 2 (Vz N (-((p) / (Int.gcd p (q):Int)))) (Vz N 0),VT⟩,.k 5 28 2 (Vz N (Int.gcd p (q):Int)),.k 6 28 2 (Vz N (-((p) / (Int.gcd p (q):Int)))),.k 7 28 2 (Vz N (dr p (Int.gcd p (q):Int))),.k 8 28 2 (Vz N (-((q) / (Int.gcd p (q):Int)))),.k 9 28 2 (Vz N (dr q (Int.gcd p (q):Int)))] [(19,Vb false),(37,Vb true),(43,Vb (decide ((-((q) / (Int.gcd p (q):Int)))=1)))] st9 ⟨ks,(kr1 44 fun _ _ _ _ _ x0 X0=>build_Rat1 N rfl x0 (AggV_Vz _ _) X0),ks,trivial⟩ fun a10 w10 st10=>Wn ?_
     exact wp_ret (rC 4 30 (VP2 2 2 (Vz N (-((p) / (Int.gcd p (q):Int)))) (Vz N 0)) st10 fun cs r4=>(made1 (make_neg hl) hcc r4))
    ·refine wp_cond_false (hc1.trans (hc2.trans (congrArg Value.bool (dF hcc)))) ?_;clear hc1 hc2;refine Wn ?_
     refine rH [(30,4,0),(28,2,0)] [Vz N (-((p) / (Int.gcd p (q):Int))),Vz N (-((q) / (Int.gcd p (q):Int))),VP2 2 2 (Vz N (-((p) / (Int.gcd p (q):Int)))) (Vz N (-((q) / (Int.gcd p (q):Int)))),VT] [.k 2 28 2 (Vz N p),.k 3 28 2 (Vz N q),⟨4,none,some 3,30,4,VP2 2 2 (Vz N (-((p) / (Int.gcd p (q):Int)))) (Vz N (-((q) / (Int.gcd p (q):Int)))),VT⟩,.k 5 28 2 (Vz N (Int.gcd p (q):Int)),.k 6 28 2 (Vz N (-((p) / (Int.gcd p (q):Int)))),.k 7 28 2 (Vz N (dr p (Int.gcd p (q):Int))),.k 8 28 2 (Vz N (-((q) / (Int.gcd p (q):Int)))),.k 9 28 2 (Vz N (dr q (Int.gcd p (q):Int)))] [(19,Vb false),(37,Vb true),(43,Vb (decide ((-((q) / (Int.gcd p (q):Int)))=1)))] st9 ⟨ks,ks,(kr2 46 47 fun _ _ _ _ _ x0 X0 _ x1 X1=>build_Rat rfl x0 x1 (AggV_Vz _ _) (AggV_Vz _ _) X0 X1),ks,trivial⟩ fun a10 w10 st10=>Wn ?_
     exact wp_ret (rC 4 30 (VP2 2 2 (Vz N (-((p) / (Int.gcd p (q):Int)))) (Vz N (-((q) / (Int.gcd p (q):Int))))) st10 fun cs r4=>(made2 (make_neg hl) hcc r4))
   ·
    refine Wn ?_
    refine rH [(30,4,0),(28,2,0)] [Vpt a5 8 0,Vb false] [.k 2 28 2 (Vz N p),.k 3 28 2 (Vz N q),.k 4 30 4 VT,.k 5 28 2 (Vz N (Int.gcd p (q):Int)),.k 6 28 2 (Vz N ((p) / (Int.gcd p (q):Int))),.k 7 28 2 (Vz N (dr p (Int.gcd p (q):Int))),.k 8 28 2 (Vz N ((q) / (Int.gcd p (q):Int))),.k 9 28 2 (Vz N (dr q (Int.gcd p (q):Int)))] [(19,Vb false),(37,Vb false)] st5 ⟨ks,(k_cell (j:=0) (off:=0) SbB.out (by kernel_rfl) (.tail _ (.tail _ (.tail _ (.tail _ (.tail _ (.tail _ (.head _))))))) rfl rfl rfl (by kernel_rfl) (by kernel_rfl) rfl (by kernel_rfl) (fun cs w h=>vz_NF h (fun h=>hl ((quo_sign hz).1 h))) Tryz.underlying4 rfl fun listed A Y h D=>⟨trivial,trivial⟩),trivial⟩ fun a6 w6 st6=>Wn ?_
    refine cF st6 ?_;refine Wn ?_
    refine rH [(30,4,0),(28,2,0)] [Vz N ((q) / (Int.gcd p (q):Int)),Vb (decide (((q) / (Int.gcd p (q):Int))=1))] [.k 2 28 2 (Vz N p),.k 3 28 2 (Vz N q),.k 4 30 4 VT,.k 5 28 2 (Vz N (Int.gcd p (q):Int)),.k 6 28 2 (Vz N ((p) / (Int.gcd p (q):Int))),.k 7 28 2 (Vz N (dr p (Int.gcd p (q):Int))),.k 8 28 2 (Vz N ((q) / (Int.gcd p (q):Int))),.k 9 28 2 (Vz N (dr q (Int.gcd p (q):Int)))] [(19,Vb false),(37,Vb false),(43,Vb (decide (((q) / (Int.gcd p (q):Int))=1)))] st6 ⟨ks,(kd1 fun _ _ _ _ _ X0=>cR4One X0),trivial⟩ fun a7 w7 st7=>Wn ?_
    obtain⟨vc,hc1,hc2⟩:=st7.slot (43,Vb (decide (((q) / (Int.gcd p (q):Int))=1))) (.tail _ (.tail _ (.head _)));by_cases hcc:(q) / (Int.gcd p (q):Int)=1
    ·refine wp_cond_true (hc1.trans (hc2.trans (congrArg Value.bool (dT hcc)))) ?_;clear hc1 hc2;refine Wn ?_
     refine rH [(30,4,0),(28,2,0)] [Vz N ((p) / (Int.gcd p (q):Int)),VP2 2 2 (Vz N ((p) / (Int.gcd p (q):Int))) (Vz N 0),VT] [.k 2 28 2 (Vz N p),.k 3 28 2 (Vz N q),⟨4,none,some 2,30,4,VP2 2 2 (Vz N ((p) / (Int.gcd p (q):Int))) (Vz N 0),VT⟩,.k 5 28 2 (Vz N (Int.gcd p (q):Int)),.k 6 28 2 (Vz N ((p) / (Int.gcd p (q):Int))),.k 7 28 2 (Vz N (dr p (Int.gcd p (q):Int))),.k 8 28 2 (Vz N ((q) / (Int.gcd p (q):Int))),.k 9 28 2 (Vz N (dr q (Int.gcd p (q):Int)))] [(19,Vb false),(37,Vb false),(43,Vb (decide (((q) / (Int.gcd p (q):Int))=1)))] st7 ⟨ks,(kr1 44 fun _ _ _ _ _ x0 X0=>build_Rat1 N rfl x0 (AggV_Vz _ _) X0),ks,trivial⟩ fun a8 w8 st8=>Wn ?_
     exact wp_ret (rC 4 30 (VP2 2 2 (Vz N ((p) / (Int.gcd p (q):Int))) (Vz N 0)) st8 fun cs r4=>(made1 (make_low (by omega)) hcc r4))
    ·refine wp_cond_false (hc1.trans (hc2.trans (congrArg Value.bool (dF hcc)))) ?_;clear hc1 hc2;refine Wn ?_
     refine rH [(30,4,0),(28,2,0)] [Vz N ((p) / (Int.gcd p (q):Int)),Vz N ((q) / (Int.gcd p (q):Int)),VP2 2 2 (Vz N ((p) / (Int.gcd p (q):Int))) (Vz N ((q) / (Int.gcd p (q):Int))),VT] [.k 2 28 2 (Vz N p),.k 3 28 2 (Vz N q),⟨4,none,some 3,30,4,VP2 2 2 (Vz N ((p) / (Int.gcd p (q):Int))) (Vz N ((q) / (Int.gcd p (q):Int))),VT⟩,.k 5 28 2 (Vz N (Int.gcd p (q):Int)),.k 6 28 2 (Vz N ((p) / (Int.gcd p (q):Int))),.k 7 28 2 (Vz N (dr p (Int.gcd p (q):Int))),.k 8 28 2 (Vz N ((q) / (Int.gcd p (q):Int))),.k 9 28 2 (Vz N (dr q (Int.gcd p (q):Int)))] [(19,Vb false),(37,Vb false),(43,Vb (decide (((q) / (Int.gcd p (q):Int))=1)))] st7 ⟨ks,ks,(kr2 46 47 fun _ _ _ _ _ x0 X0 _ x1 X1=>build_Rat rfl x0 x1 (AggV_Vz _ _) (AggV_Vz _ _) X0 X1),ks,trivial⟩ fun a8 w8 st8=>Wn ?_
     exact wp_ret (rC 4 30 (VP2 2 2 (Vz N ((p) / (Int.gcd p (q):Int))) (Vz N ((q) / (Int.gcd p (q):Int)))) st8 fun cs r4=>(made2 (make_low (by omega)) hcc r4))
theorem add_mk (a b:Rat):Rat.divInt (a.num*(b.den:Int)+b.num*(a.den:Int)) ((a.den:Int)*(b.den:Int))=a+b:=by
 have h1:=a.den_pos;have h2:=b.den_pos;have:=Rat.divInt_add_divInt a.num b.num (d₁:=(a.den:Int)) (d₂:=(b.den:Int)) (by omega) (by omega);rw [Rat.num_divInt_den,Rat.num_divInt_den] at this;exact this.symm
theorem mul_mk (a b:Rat):Rat.divInt (a.num*b.num) ((a.den:Int)*(b.den:Int))=a*b:=by
 have:=Rat.divInt_mul_divInt a.num b.num (d₁:=(a.den:Int)) (d₂:=(b.den:Int));rw [Rat.num_divInt_den,Rat.num_divInt_den] at this;exact this.symm
theorem div_mk (a b:Rat):Rat.divInt (a.num*(b.den:Int)) ((a.den:Int)*b.num)=a / b:=by
 have e:b⁻¹=Rat.divInt (b.den:Int) b.num:=by
  have:=Rat.inv_divInt b.num (b.den:Int);rwa [Rat.num_divInt_den] at this
 have:=Rat.divInt_mul_divInt a.num (b.den:Int) (d₁:=(a.den:Int)) (d₂:=b.num);rw [Rat.num_divInt_den,<-e,<-Rat.div_def] at this;exact this.symm
theorem cR4Neg {w:World}{N:Nat}{q:Rat}{v0:Value}(h0:Vq N q v0 w)(hN:N<=1000000:=by omega):Calls Tryz.prog 126 #[v0] w (RV (Vq N (-q)) w):=by
 go_enter Tryz.func126,Tryz.ntmps126
 refine Sg 9 [(0,Vq N q)] (Lq.2 ⟨⟨_,rfl,h0⟩,L0⟩) fun a0 st0=>Wn ?_
 refine rH [(30,4,0)] [VT,VT] [⟨1,some 0,some 0,30,4,Vq N q,VT⟩,⟨2,some 1,none,30,4,VT,VT⟩] [] st0 ⟨ks,ks,trivial⟩ fun a1 w1 st1=>Wn ?_
 refine rH [(30,4,0)] [Vpt a1 1 0,Vz N q.num,Vz N (-(q.num)),Vpt a1 1 2,Vz N (qd q),VP2 2 2 (Vz N (-(q.num))) (Vz N (qd q)),VT] [.k 1 30 4 (Vq N q),⟨2,none,some 6,30,4,VP2 2 2 (Vz N (-(q.num))) (Vz N (qd q)),VT⟩] [] st1 ⟨ks,ks,(kd1 fun _ _ _ _ _ X0=>cRNeg X0),ks,ks,(kr2 5 7 fun _ _ _ _ _ x0 X0 _ x1 X1=>build_Rat rfl x0 x1 (AggV_Vz _ _) (AggV_Vz _ _) X0 X1),ks,trivial⟩ fun a2 w2 st2=>Wn ?_
 exact wp_ret (rC 2 30 (VP2 2 2 (Vz N (-(q.num))) (Vz N (qd q))) st2 fun cs r4=>(show Vq N (-q) _ _ from r4))
theorem cR4Sign {w:World}{N:Nat}{q:Rat}{v0:Value}(h0:Vq N q v0 w)(hN:N<=1000000:=by omega):Calls Tryz.prog 78 #[v0] w (RV (Vi (cmpI q.num 0)) w):=by
 go_enter Tryz.func78,Tryz.ntmps78
 refine Sg 6 [(0,Vq N q)] (Lq.2 ⟨⟨_,rfl,h0⟩,L0⟩) fun a0 st0=>Wn ?_
 refine rH [] [VT,Vi 0] [⟨1,some 0,some 0,30,4,Vq N q,VT⟩] [(2,Vi 0)] st0 ⟨ks,ks,trivial⟩ fun a1 w1 st1=>Wn ?_
 refine rH [] [Vpt a1 1 0,Vz N q.num,Vi (cmpI q.num 0),Vi (cmpI q.num 0)] [.k 1 30 4 (Vq N q)] [(2,Vi (cmpI q.num 0))] st1 ⟨ks,ks,(kd1 fun _ _ _ _ _ X0=>cRSign X0),ks,trivial⟩ fun a2 w2 st2=>Wn ?_
 exact wp_ret (rS 2 (Vi (cmpI q.num 0)) st2 fun vr r4=>r4)
theorem cR4Of {w:World}{p q:Int}{v0 v1:Value}(h0:Vi p v0 w)(h1:Vi q v1 w)(hp0: -9223372036854775808<=p:=by omega)(hp1:p<=9223372036854775807:=by omega)(hq0: -9223372036854775808<=q:=by omega)(hq1:q<=9223372036854775807:=by omega):Calls Tryz.prog 40 #[v0,v1] w (RV (Vq 3 (Rat.divInt p q)) w):=by
 go_enter Tryz.func40,Tryz.ntmps40
 refine Sg 10 [(0,Vi p),(1,Vi q)] (Lq.2 ⟨⟨_,rfl,h0⟩,(Lq.2 ⟨⟨_,rfl,h1⟩,L0⟩)⟩) fun a0 st0=>Wn ?_
 refine rH [(30,4,0)] [VT] [⟨4,some 0,none,30,4,VT,VT⟩] [(0,Vi p),(1,Vi q)] st0 ⟨ks,trivial⟩ fun a1 w1 st1=>Wn ?_
 refine rH [(30,4,0)] [Vi p,Vz 3 p,Vi q,Vz 3 q,Vq 3 (Rat.divInt p q),VT] [⟨4,none,some 5,30,4,Vq 3 (Rat.divInt p q),VT⟩] [] st1 ⟨ks,(kd1 fun _ _ _ _ _ X0=>cROfV X0),ks,(kd1 fun _ _ _ _ _ X0=>cROfV X0),(kd2 fun _ _ _ _ _ X0 _ X1=>cR4Make X0 X1),ks,trivial⟩ fun a2 w2 st2=>Wn ?_
 exact wp_ret (rC 4 30 (Vq 3 (Rat.divInt p q)) st2 fun cs r4=>r4)
theorem cR4Add {w:World}{N:Nat}{a b:Rat}{v0 v1:Value}(h0:Vq N a v0 w)(h1:Vq N b v1 w)(h3:3<=N:=by omega)(hN:N<=100000:=by omega):Calls Tryz.prog 80 #[v0,v1] w (RV (Vq (N+N+1) (a+b)) w):=by
 go_enter Tryz.func80,Tryz.ntmps80
 refine Sg 26 [(0,Vq N a),(1,Vq N b)] (Lq.2 ⟨⟨_,rfl,h0⟩,(Lq.2 ⟨⟨_,rfl,h1⟩,L0⟩)⟩) fun a0 st0=>Wn ?_
 refine rH [(28,2,0),(30,4,0)] [VT,VT,VT] [⟨2,some 0,some 0,30,4,Vq N a,VT⟩,⟨3,some 1,some 1,30,4,Vq N b,VT⟩,⟨4,some 2,none,30,4,VT,VT⟩] [] st0 ⟨ks,ks,ks,trivial⟩ fun a1 w1 st1=>Wn ?_
 refine rH [(28,2,0),(30,4,0)] [Vpt a1 2 0,Vz N a.num,Vq N b,Vz N (b.den:Int),Vz (N+N) ((a.num)*(b.den:Int)),VT,VT] [.k 2 30 4 (Vq N a),.k 3 30 4 (Vq N b),.k 4 30 4 VT,⟨5,some 5,some 6,28,2,Vz (N+N) ((a.num)*(b.den:Int)),VT⟩] [] st1 ⟨ks,ks,ks,(kd1 fun _ _ _ _ _ X0=>cR4Den X0),(kd2 fun _ _ _ _ _ X0 _ X1=>(cRMul X0 X1)),ks,ks,trivial⟩ fun a2 w2 st2=>Wn ?_
 refine rH [(28,2,0),(30,4,0)] [Vpt a2 3 0,Vz N b.num,Vq N a,Vz N (a.den:Int),Vz (N+N) ((b.num)*(a.den:Int)),VT,VT] [.k 2 30 4 (Vq N a),.k 3 30 4 (Vq N b),.k 4 30 4 VT,.k 5 28 2 (Vz (N+N) ((a.num)*(b.den:Int))),⟨6,some 5,some 6,28,2,Vz (N+N) ((b.num)*(a.den:Int)),VT⟩] [] st2 ⟨ks,ks,ks,(kd1 fun _ _ _ _ _ X0=>cR4Den X0),(kd2 fun _ _ _ _ _ X0 _ X1=>(cRMul X0 X1)),ks,ks,trivial⟩ fun a3 w3 st3=>Wn ?_
 refine rH [(28,2,0),(30,4,0)] [Vz (N+N) ((a.num)*(b.den:Int)),Vz (N+N) ((b.num)*(a.den:Int)),Vz (max (N+N) (N+N)+1) (((a.num)*(b.den:Int))+((b.num)*(a.den:Int))),Vq N a,Vz N (a.den:Int),Vq N b,Vz N (b.den:Int),Vz (N+N) ((a.den:Int)*(b.den:Int)),Vq (max (max (N+N) (N+N)+1) (N+N)) (Rat.divInt (((a.num)*(b.den:Int))+((b.num)*(a.den:Int))) ((a.den:Int)*(b.den:Int))),VT] [.k 2 30 4 (Vq N a),.k 3 30 4 (Vq N b),⟨4,none,some 9,30,4,Vq (max (max (N+N) (N+N)+1) (N+N)) (Rat.divInt (((a.num)*(b.den:Int))+((b.num)*(a.den:Int))) ((a.den:Int)*(b.den:Int))),VT⟩,.k 5 28 2 (Vz (N+N) ((a.num)*(b.den:Int))),.k 6 28 2 (Vz (N+N) ((b.num)*(a.den:Int)))] [] st3 ⟨ks,ks,(kd2 fun _ _ _ _ _ X0 _ X1=>(cRAdd X0 X1)),ks,(kd1 fun _ _ _ _ _ X0=>cR4Den X0),ks,(kd1 fun _ _ _ _ _ X0=>cR4Den X0),(kd2 fun _ _ _ _ _ X0 _ X1=>(cRMul X0 X1)),(kd2 fun _ _ _ _ _ X0 _ X1=>cR4Make (Vz_le (M:=(max (max (N+N) (N+N)+1) (N+N))) X0 (by omega)) (Vz_le (M:=(max (max (N+N) (N+N)+1) (N+N))) X1 (by omega))),ks,trivial⟩ fun a4 w4 st4=>Wn ?_
 exact wp_ret (rC 4 30 (Vq (max (max (N+N) (N+N)+1) (N+N)) (Rat.divInt (((a.num)*(b.den:Int))+((b.num)*(a.den:Int))) ((a.den:Int)*(b.den:Int)))) st4 fun cs r4=>(by rw [<-add_mk];exact Vq_le r4 (by omega)))
theorem cR4Sub {w:World}{N:Nat}{a b:Rat}{v0 v1:Value}(h0:Vq N a v0 w)(h1:Vq N b v1 w)(h3:3<=N:=by omega)(hN:N<=100000:=by omega):Calls Tryz.prog 108 #[v0,v1] w (RV (Vq (N+N+1) (a - b)) w):=by
 go_enter Tryz.func108,Tryz.ntmps108
 refine Sg 9 [(0,Vq N a),(1,Vq N b)] (Lq.2 ⟨⟨_,rfl,h0⟩,(Lq.2 ⟨⟨_,rfl,h1⟩,L0⟩)⟩) fun a0 st0=>Wn ?_
 refine rH [(30,4,0)] [VT,VT,VT] [⟨2,some 0,some 0,30,4,Vq N a,VT⟩,⟨3,some 1,some 1,30,4,Vq N b,VT⟩,⟨4,some 2,none,30,4,VT,VT⟩] [] st0 ⟨ks,ks,ks,trivial⟩ fun a1 w1 st1=>Wn ?_
 refine rH [(30,4,0)] [Vq N a,Vq N b,Vq N (-(b)),Vq (N+N+1) ((a)+(-(b))),VT] [.k 2 30 4 (Vq N a),.k 3 30 4 (Vq N b),⟨4,none,some 4,30,4,Vq (N+N+1) ((a)+(-(b))),VT⟩] [] st1 ⟨ks,ks,(kd1 fun _ _ _ _ _ X0=>cR4Neg X0),(kd2 fun _ _ _ _ _ X0 _ X1=>cR4Add X0 X1),ks,trivial⟩ fun a2 w2 st2=>Wn ?_
 exact wp_ret (rC 4 30 (Vq (N+N+1) ((a)+(-(b)))) st2 fun cs r4=>(by rw [Rat.sub_eq_add_neg];exact r4))
theorem cR4Mul {w:World}{N:Nat}{a b:Rat}{v0 v1:Value}(h0:Vq N a v0 w)(h1:Vq N b v1 w)(h3:3<=N:=by omega)(hN:N<=100000:=by omega):Calls Tryz.prog 83 #[v0,v1] w (RV (Vq (N+N) (a*b)) w):=by
 go_enter Tryz.func83,Tryz.ntmps83
 refine Sg 16 [(0,Vq N a),(1,Vq N b)] (Lq.2 ⟨⟨_,rfl,h0⟩,(Lq.2 ⟨⟨_,rfl,h1⟩,L0⟩)⟩) fun a0 st0=>Wn ?_
 refine rH [(30,4,0)] [VT,VT,VT] [⟨2,some 0,some 0,30,4,Vq N a,VT⟩,⟨3,some 1,some 1,30,4,Vq N b,VT⟩,⟨4,some 2,none,30,4,VT,VT⟩] [] st0 ⟨ks,ks,ks,trivial⟩ fun a1 w1 st1=>Wn ?_
 refine rH [(30,4,0)] [Vpt a1 2 0,Vz N a.num,Vpt a1 3 0,Vz N b.num,Vz (N+N) ((a.num)*(b.num)),Vq N a,Vz N (a.den:Int),Vq N b,Vz N (b.den:Int),Vz (N+N) ((a.den:Int)*(b.den:Int)),Vq (N+N) (Rat.divInt ((a.num)*(b.num)) ((a.den:Int)*(b.den:Int))),VT] [.k 2 30 4 (Vq N a),.k 3 30 4 (Vq N b),⟨4,none,some 11,30,4,Vq (N+N) (Rat.divInt ((a.num)*(b.num)) ((a.den:Int)*(b.den:Int))),VT⟩] [] st1 ⟨ks,ks,ks,ks,(kd2 fun _ _ _ _ _ X0 _ X1=>(cRMul X0 X1)),ks,(kd1 fun _ _ _ _ _ X0=>cR4Den X0),ks,(kd1 fun _ _ _ _ _ X0=>cR4Den X0),(kd2 fun _ _ _ _ _ X0 _ X1=>(cRMul X0 X1)),(kd2 fun _ _ _ _ _ X0 _ X1=>cR4Make X0 X1),ks,trivial⟩ fun a2 w2 st2=>Wn ?_
 exact wp_ret (rC 4 30 (Vq (N+N) (Rat.divInt ((a.num)*(b.num)) ((a.den:Int)*(b.den:Int)))) st2 fun cs r4=>(by rw [<-mul_mk];exact Vq_le r4 (by omega)))
theorem cR4Div {w:World}{N:Nat}{a b:Rat}{v0 v1:Value}(h0:Vq N a v0 w)(h1:Vq N b v1 w)(h3:3<=N:=by omega)(hN:N<=100000:=by omega):Calls Tryz.prog 86 #[v0,v1] w (RV (Vq (N+N) (a / b)) w):=by
 go_enter Tryz.func86,Tryz.ntmps86
 refine Sg 16 [(0,Vq N a),(1,Vq N b)] (Lq.2 ⟨⟨_,rfl,h0⟩,(Lq.2 ⟨⟨_,rfl,h1⟩,L0⟩)⟩) fun a0 st0=>Wn ?_
 refine rH [(30,4,0)] [VT,VT,VT] [⟨2,some 0,some 0,30,4,Vq N a,VT⟩,⟨3,some 1,some 1,30,4,Vq N b,VT⟩,⟨4,some 2,none,30,4,VT,VT⟩] [] st0 ⟨ks,ks,ks,trivial⟩ fun a1 w1 st1=>Wn ?_
 refine rH [(30,4,0)] [Vpt a1 2 0,Vz N a.num,Vq N b,Vz N (b.den:Int),Vz (N+N) ((a.num)*(b.den:Int)),Vq N a,Vz N (a.den:Int),Vpt a1 3 0,Vz N b.num,Vz (N+N) ((a.den:Int)*(b.num)),Vq (N+N) (Rat.divInt ((a.num)*(b.den:Int)) ((a.den:Int)*(b.num))),VT] [.k 2 30 4 (Vq N a),.k 3 30 4 (Vq N b),⟨4,none,some 11,30,4,Vq (N+N) (Rat.divInt ((a.num)*(b.den:Int)) ((a.den:Int)*(b.num))),VT⟩] [] st1 ⟨ks,ks,ks,(kd1 fun _ _ _ _ _ X0=>cR4Den X0),(kd2 fun _ _ _ _ _ X0 _ X1=>(cRMul X0 X1)),ks,(kd1 fun _ _ _ _ _ X0=>cR4Den X0),ks,ks,(kd2 fun _ _ _ _ _ X0 _ X1=>(cRMul X0 X1)),(kd2 fun _ _ _ _ _ X0 _ X1=>cR4Make X0 X1),ks,trivial⟩ fun a2 w2 st2=>Wn ?_
 exact wp_ret (rC 4 30 (Vq (N+N) (Rat.divInt ((a.num)*(b.den:Int)) ((a.den:Int)*(b.num)))) st2 fun cs r4=>(by rw [<-div_mk];exact Vq_le r4 (by omega)))
theorem cR4Compare {w:World}{N:Nat}{a b:Rat}{v0 v1:Value}(h0:Vq N a v0 w)(h1:Vq N b v1 w)(h3:3<=N:=by omega)(hN:N<=100000:=by omega):Calls Tryz.prog 47 #[v0,v1] w (RV (Vi (cmpQ a b)) w):=by
 go_enter Tryz.func47,Tryz.ntmps47
 refine Sg 16 [(0,Vq N a),(1,Vq N b)] (Lq.2 ⟨⟨_,rfl,h0⟩,(Lq.2 ⟨⟨_,rfl,h1⟩,L0⟩)⟩) fun a0 st0=>Wn ?_
 refine rH [] [VT,VT,Vi 0] [⟨2,some 0,some 0,30,4,Vq N a,VT⟩,⟨3,some 1,some 1,30,4,Vq N b,VT⟩] [(4,Vi 0)] st0 ⟨ks,ks,ks,trivial⟩ fun a1 w1 st1=>Wn ?_
 refine rH [] [Vpt a1 2 0,Vz N a.num,Vq N b,Vz N (b.den:Int),Vz (N+N) ((a.num)*(b.den:Int)),Vpt a1 3 0,Vz N b.num,Vq N a,Vz N (a.den:Int),Vz (N+N) ((b.num)*(a.den:Int)),Vi (cmpI ((a.num)*(b.den:Int)) ((b.num)*(a.den:Int))),Vi (cmpI ((a.num)*(b.den:Int)) ((b.num)*(a.den:Int)))] [.k 2 30 4 (Vq N a),.k 3 30 4 (Vq N b)] [(4,Vi (cmpI ((a.num)*(b.den:Int)) ((b.num)*(a.den:Int))))] st1 ⟨ks,ks,ks,(kd1 fun _ _ _ _ _ X0=>cR4Den X0),(kd2 fun _ _ _ _ _ X0 _ X1=>(cRMul X0 X1)),ks,ks,ks,(kd1 fun _ _ _ _ _ X0=>cR4Den X0),(kd2 fun _ _ _ _ _ X0 _ X1=>(cRMul X0 X1)),(kd2 fun _ _ _ _ _ X0 _ X1=>(cRCompare X0 X1)),ks,trivial⟩ fun a2 w2 st2=>Wn ?_
 exact wp_ret (rS 4 (Vi (cmpI ((a.num)*(b.den:Int)) ((b.num)*(a.den:Int)))) st2 fun vr r4=>r4)
theorem cR3Same {W:World}{Na Nb:Nat}{x y:Int}{v1 v2:Value}(h1:Vz Na x v1 W)(h2:Vz Nb y v2 W)(hNa:Na<=1000000:=by omega)(hNb:Nb<=1000000:=by omega):Calls Tryz.prog 56 #[v1,v2] W (RV (Vb (decide (x=y))) W):=by
 obtain⟨nb,p,n,c,rfl,hI,hn⟩:=h1;obtain⟨nb2,p2,n2,c2,rfl,hI2,hn2⟩:=h2;exact(Same_any nb nb2 p p2 n c n2 c2 x y W hI hI2 (by omega) (by omega)).mono fun e w' h=>⟨_,h.1,rfl,h.2⟩
theorem cR4Same {w:World}{N:Nat}{a b:Rat}{v0 v1:Value}(h0:Vq N a v0 w)(h1:Vq N b v1 w)(hN:N<=100000:=by omega):Calls Tryz.prog 19 #[v0,v1] w (RV (Vb (decide (a=b))) w):=by
 go_enter Tryz.func19,Tryz.ntmps19
 refine Sg 17 [(0,Vq N a),(1,Vq N b)] (Lq.2 ⟨⟨_,rfl,h0⟩,(Lq.2 ⟨⟨_,rfl,h1⟩,L0⟩)⟩) fun a0 st0=>Wn ?_
 refine rH [] [VT,VT,Vb false] [⟨2,some 0,some 0,30,4,Vq N a,VT⟩,⟨3,some 1,some 1,30,4,Vq N b,VT⟩] [(4,Vb false)] st0 ⟨ks,ks,ks,trivial⟩ ?_;intro a1 w1 st1;by_cases hp:a.num=b.num
 ·
  refine Wn ?_
  refine rH [] [Vpt a1 2 0,Vz N a.num,Vpt a1 3 0,Vz N b.num,Vb true,Vb true,Vpt a1 2 2,Vz N (qd a),Vpt a1 3 2,Vz N (qd b),Vb (decide ((qd a)=(qd b))),Vb (decide ((qd a)=(qd b))),Vb (decide ((qd a)=(qd b)))] [.k 2 30 4 (Vq N a),.k 3 30 4 (Vq N b)] [(4,Vb (decide ((qd a)=(qd b))))] st1 ⟨ks,ks,ks,ks,(kd2 fun _ _ _ h _ X0 _ X1=>(cR3Same X0 X1).mono fun e w h=>h.le fun v w hv=>hv.trans (congrArg Value.bool (dT hp))),ks,ks,ks,ks,ks,(kd2 fun _ _ _ _ _ X0 _ X1=>cR3Same X0 X1),ks,ks,trivial⟩ fun a2 w2 st2=>Wn ?_
  exact wp_ret (rS 4 (Vb (decide ((qd a)=(qd b)))) st2 fun vr r4=>(by rw [show decide (a=b)=decide (qd a=qd b)from decide_eq_decide.2 (qd_inj hp).symm];exact r4))
 ·
  refine Wn ?_
  refine rH [] [Vpt a1 2 0,Vz N a.num,Vpt a1 3 0,Vz N b.num,Vb false,Vb false,VT,VT,VT,VT,VT,Vb false,Vb false] [.k 2 30 4 (Vq N a),.k 3 30 4 (Vq N b)] [(4,Vb false)] st1 ⟨ks,ks,ks,ks,(kd2 fun _ _ _ h _ X0 _ X1=>(cR3Same X0 X1).mono fun e w h=>h.le fun v w hv=>hv.trans (congrArg Value.bool (dF hp))),ks,ks,ks,ks,ks,ks,ks,ks,trivial⟩ fun a2 w2 st2=>Wn ?_
  exact wp_ret (rS 4 (Vb false) st2 fun vr r4=>(by rw [dF (fun e=>hp (by rw [e]))];exact r4))
theorem cR5Add {w:World}{N:Nat}{a b c d:Rat}{v0 v1:Value}(h0:Vv N a b v0 w)(h1:Vv N c d v1 w)(h3:3<=N:=by omega)(hN:N<=10000:=by omega):Calls Tryz.prog 39 #[v0,v1] w (RV (Vv (N+N+1) (a+c) (b+d)) w):=by
 go_enter Tryz.func39,Tryz.ntmps39
 refine Sg 16 [(0,Vv N a b),(1,Vv N c d)] (Lq.2 ⟨⟨_,rfl,h0⟩,(Lq.2 ⟨⟨_,rfl,h1⟩,L0⟩)⟩) fun a0 st0=>Wn ?_
 refine rH [(32,8,0)] [VT,VT,VT] [⟨2,some 0,some 0,32,8,Vv N a b,VT⟩,⟨3,some 1,some 1,32,8,Vv N c d,VT⟩,⟨4,some 2,none,32,8,VT,VT⟩] [] st0 ⟨ks,ks,ks,trivial⟩ fun a1 w1 st1=>Wn ?_
 refine rH [(32,8,0)] [Vpt a1 2 0,Vq N a,Vpt a1 3 0,Vq N c,Vq (N+N+1) ((a)+(c)),Vpt a1 2 4,Vq N b,Vpt a1 3 4,Vq N d,Vq (N+N+1) ((b)+(d)),Vv (N+N+1) ((a)+(c)) ((b)+(d)),VT] [.k 2 32 8 (Vv N a b),.k 3 32 8 (Vv N c d),⟨4,none,some 11,32,8,Vv (N+N+1) ((a)+(c)) ((b)+(d)),VT⟩] [] st1 ⟨ks,ks,ks,ks,(kd2 fun _ _ _ _ _ X0 _ X1=>cR4Add X0 X1),ks,ks,ks,ks,(kd2 fun _ _ _ _ _ X0 _ X1=>cR4Add X0 X1),(kr2 9 14 fun _ _ _ _ _ x0 X0 _ x1 X1=>build_Vec rfl x0 x1 (AggV_Vq _ _) (AggV_Vq _ _) X0 X1),ks,trivial⟩ fun a2 w2 st2=>Wn ?_
 exact wp_ret (rC 4 32 (Vv (N+N+1) ((a)+(c)) ((b)+(d))) st2 fun cs r4=>r4)
theorem cR5Sub {w:World}{N:Nat}{a b c d:Rat}{v0 v1:Value}(h0:Vv N a b v0 w)(h1:Vv N c d v1 w)(h3:3<=N:=by omega)(hN:N<=10000:=by omega):Calls Tryz.prog 85 #[v0,v1] w (RV (Vv (N+N+1) (a - c) (b - d)) w):=by
 go_enter Tryz.func85,Tryz.ntmps85
 refine Sg 16 [(0,Vv N a b),(1,Vv N c d)] (Lq.2 ⟨⟨_,rfl,h0⟩,(Lq.2 ⟨⟨_,rfl,h1⟩,L0⟩)⟩) fun a0 st0=>Wn ?_
 refine rH [(32,8,0)] [VT,VT,VT] [⟨2,some 0,some 0,32,8,Vv N a b,VT⟩,⟨3,some 1,some 1,32,8,Vv N c d,VT⟩,⟨4,some 2,none,32,8,VT,VT⟩] [] st0 ⟨ks,ks,ks,trivial⟩ fun a1 w1 st1=>Wn ?_
 refine rH [(32,8,0)] [Vpt a1 2 0,Vq N a,Vpt a1 3 0,Vq N c,Vq (N+N+1) ((a) - c),Vpt a1 2 4,Vq N b,Vpt a1 3 4,Vq N d,Vq (N+N+1) ((b) - d),Vv (N+N+1) ((a) - c) ((b) - d),VT] [.k 2 32 8 (Vv N a b),.k 3 32 8 (Vv N c d),⟨4,none,some 11,32,8,Vv (N+N+1) ((a) - c) ((b) - d),VT⟩] [] st1 ⟨ks,ks,ks,ks,(kd2 fun _ _ _ _ _ X0 _ X1=>cR4Sub X0 X1),ks,ks,ks,ks,(kd2 fun _ _ _ _ _ X0 _ X1=>cR4Sub X0 X1),(kr2 9 14 fun _ _ _ _ _ x0 X0 _ x1 X1=>build_Vec rfl x0 x1 (AggV_Vq _ _) (AggV_Vq _ _) X0 X1),ks,trivial⟩ fun a2 w2 st2=>Wn ?_
 exact wp_ret (rC 4 32 (Vv (N+N+1) ((a) - c) ((b) - d)) st2 fun cs r4=>r4)
theorem cR5Scale {w:World}{N:Nat}{a b c:Rat}{v0 v1:Value}(h0:Vv N a b v0 w)(h1:Vq N c v1 w)(h3:3<=N:=by omega)(hN:N<=10000:=by omega):Calls Tryz.prog 70 #[v0,v1] w (RV (Vv (N+N) (a*c) (b*c)) w):=by
 go_enter Tryz.func70,Tryz.ntmps70
 refine Sg 14 [(0,Vv N a b),(1,Vq N c)] (Lq.2 ⟨⟨_,rfl,h0⟩,(Lq.2 ⟨⟨_,rfl,h1⟩,L0⟩)⟩) fun a0 st0=>Wn ?_
 refine rH [(32,8,0)] [VT,VT,VT] [⟨2,some 0,some 0,32,8,Vv N a b,VT⟩,⟨3,some 1,some 1,30,4,Vq N c,VT⟩,⟨4,some 2,none,32,8,VT,VT⟩] [] st0 ⟨ks,ks,ks,trivial⟩ fun a1 w1 st1=>Wn ?_
 refine rH [(32,8,0)] [Vpt a1 2 0,Vq N a,Vq N c,Vq (N+N) ((a)*(c)),Vpt a1 2 4,Vq N b,Vq N c,Vq (N+N) ((b)*(c)),Vv (N+N) ((a)*(c)) ((b)*(c)),VT] [.k 2 32 8 (Vv N a b),.k 3 30 4 (Vq N c),⟨4,none,some 9,32,8,Vv (N+N) ((a)*(c)) ((b)*(c)),VT⟩] [] st1 ⟨ks,ks,ks,(kd2 fun _ _ _ _ _ X0 _ X1=>cR4Mul X0 X1),ks,ks,ks,(kd2 fun _ _ _ _ _ X0 _ X1=>cR4Mul X0 X1),(kr2 8 12 fun _ _ _ _ _ x0 X0 _ x1 X1=>build_Vec rfl x0 x1 (AggV_Vq _ _) (AggV_Vq _ _) X0 X1),ks,trivial⟩ fun a2 w2 st2=>Wn ?_
 exact wp_ret (rC 4 32 (Vv (N+N) ((a)*(c)) ((b)*(c))) st2 fun cs r4=>r4)
theorem cR5Dot {w:World}{N:Nat}{a b c d:Rat}{v0 v1:Value}(h0:Vv N a b v0 w)(h1:Vv N c d v1 w)(h3:3<=N:=by omega)(hN:N<=10000:=by omega):Calls Tryz.prog 127 #[v0,v1] w (RV (Vq (4*N+1) (a*c+b*d)) w):=by
 go_enter Tryz.func127,Tryz.ntmps127
 refine Sg 16 [(0,Vv N a b),(1,Vv N c d)] (Lq.2 ⟨⟨_,rfl,h0⟩,(Lq.2 ⟨⟨_,rfl,h1⟩,L0⟩)⟩) fun a0 st0=>Wn ?_
 refine rH [(30,4,0)] [VT,VT,VT] [⟨2,some 0,some 0,32,8,Vv N a b,VT⟩,⟨3,some 1,some 1,32,8,Vv N c d,VT⟩,⟨4,some 2,none,30,4,VT,VT⟩] [] st0 ⟨ks,ks,ks,trivial⟩ fun a1 w1 st1=>Wn ?_
 refine rH [(30,4,0)] [Vpt a1 2 0,Vq N a,Vpt a1 3 0,Vq N c,Vq (N+N) ((a)*(c)),Vpt a1 2 4,Vq N b,Vpt a1 3 4,Vq N d,Vq (N+N) ((b)*(d)),Vq ((N+N)+(N+N)+1) (((a)*(c))+((b)*(d))),VT] [.k 2 32 8 (Vv N a b),.k 3 32 8 (Vv N c d),⟨4,none,some 11,30,4,Vq ((N+N)+(N+N)+1) (((a)*(c))+((b)*(d))),VT⟩] [] st1 ⟨ks,ks,ks,ks,(kd2 fun _ _ _ _ _ X0 _ X1=>cR4Mul X0 X1),ks,ks,ks,ks,(kd2 fun _ _ _ _ _ X0 _ X1=>cR4Mul X0 X1),(kd2 fun _ _ _ _ _ X0 _ X1=>cR4Add X0 X1),ks,trivial⟩ fun a2 w2 st2=>Wn ?_
 exact wp_ret (rC 4 30 (Vq ((N+N)+(N+N)+1) (((a)*(c))+((b)*(d)))) st2 fun cs r4=>(Vq_le r4 (by omega)))
theorem cR5Cross {w:World}{N:Nat}{a b c d:Rat}{v0 v1:Value}(h0:Vv N a b v0 w)(h1:Vv N c d v1 w)(h3:3<=N:=by omega)(hN:N<=10000:=by omega):Calls Tryz.prog 84 #[v0,v1] w (RV (Vq (4*N+1) (a*d - b*c)) w):=by
 go_enter Tryz.func84,Tryz.ntmps84
 refine Sg 16 [(0,Vv N a b),(1,Vv N c d)] (Lq.2 ⟨⟨_,rfl,h0⟩,(Lq.2 ⟨⟨_,rfl,h1⟩,L0⟩)⟩) fun a0 st0=>Wn ?_
 refine rH [(30,4,0)] [VT,VT,VT] [⟨2,some 0,some 0,32,8,Vv N a b,VT⟩,⟨3,some 1,some 1,32,8,Vv N c d,VT⟩,⟨4,some 2,none,30,4,VT,VT⟩] [] st0 ⟨ks,ks,ks,trivial⟩ fun a1 w1 st1=>Wn ?_
 refine rH [(30,4,0)] [Vpt a1 2 0,Vq N a,Vpt a1 3 4,Vq N d,Vq (N+N) ((a)*(d)),Vpt a1 2 4,Vq N b,Vpt a1 3 0,Vq N c,Vq (N+N) ((b)*(c)),Vq ((N+N)+(N+N)+1) (((a)*(d)) - ((b)*(c))),VT] [.k 2 32 8 (Vv N a b),.k 3 32 8 (Vv N c d),⟨4,none,some 11,30,4,Vq ((N+N)+(N+N)+1) (((a)*(d)) - ((b)*(c))),VT⟩] [] st1 ⟨ks,ks,ks,ks,(kd2 fun _ _ _ _ _ X0 _ X1=>cR4Mul X0 X1),ks,ks,ks,ks,(kd2 fun _ _ _ _ _ X0 _ X1=>cR4Mul X0 X1),(kd2 fun _ _ _ _ _ X0 _ X1=>cR4Sub X0 X1),ks,trivial⟩ fun a2 w2 st2=>Wn ?_
 exact wp_ret (rC 4 30 (Vq ((N+N)+(N+N)+1) (((a)*(d)) - ((b)*(c)))) st2 fun cs r4=>(Vq_le r4 (by omega)))
theorem cR5Same {w:World}{N:Nat}{a b c d:Rat}{v0 v1:Value}(h0:Vv N a b v0 w)(h1:Vv N c d v1 w)(h3:3<=N:=by omega)(hN:N<=10000:=by omega):Calls Tryz.prog 18 #[v0,v1] w (RV (Vb (decide (a=c/\b=d))) w):=by
 go_enter Tryz.func18,Tryz.ntmps18
 refine Sg 17 [(0,Vv N a b),(1,Vv N c d)] (Lq.2 ⟨⟨_,rfl,h0⟩,(Lq.2 ⟨⟨_,rfl,h1⟩,L0⟩)⟩) fun a0 st0=>Wn ?_
 refine rH [] [VT,VT,Vb false] [⟨2,some 0,some 0,32,8,Vv N a b,VT⟩,⟨3,some 1,some 1,32,8,Vv N c d,VT⟩] [(4,Vb false)] st0 ⟨ks,ks,ks,trivial⟩ ?_;intro a1 w1 st1;by_cases hp:a=c
 ·
  refine Wn ?_
  refine rH [] [Vpt a1 2 0,Vq N a,Vpt a1 3 0,Vq N c,Vb true,Vb true,Vpt a1 2 4,Vq N b,Vpt a1 3 4,Vq N d,Vb (decide ((b)=(d))),Vb (decide ((b)=(d))),Vb (decide ((b)=(d)))] [.k 2 32 8 (Vv N a b),.k 3 32 8 (Vv N c d)] [(4,Vb (decide ((b)=(d))))] st1 ⟨ks,ks,ks,ks,(kd2 fun _ _ _ h _ X0 _ X1=>(cR4Same X0 X1).mono fun e w h=>h.le fun v w hv=>hv.trans (congrArg Value.bool (dT hp))),ks,ks,ks,ks,ks,(kd2 fun _ _ _ _ _ X0 _ X1=>cR4Same X0 X1),ks,ks,trivial⟩ fun a2 w2 st2=>Wn ?_
  exact wp_ret (rS 4 (Vb (decide ((b)=(d)))) st2 fun vr r4=>(by rw [show decide (a=c/\b=d)=decide (b=d) by simp [hp]];exact r4))
 ·
  refine Wn ?_
  refine rH [] [Vpt a1 2 0,Vq N a,Vpt a1 3 0,Vq N c,Vb false,Vb false,VT,VT,VT,VT,VT,Vb false,Vb false] [.k 2 32 8 (Vv N a b),.k 3 32 8 (Vv N c d)] [(4,Vb false)] st1 ⟨ks,ks,ks,ks,(kd2 fun _ _ _ h _ X0 _ X1=>(cR4Same X0 X1).mono fun e w h=>h.le fun v w hv=>hv.trans (congrArg Value.bool (dF hp))),ks,ks,ks,ks,ks,ks,ks,ks,trivial⟩ fun a2 w2 st2=>Wn ?_
  exact wp_ret (rS 4 (Vb false) st2 fun vr r4=>(by rw [show decide (a=c/\b=d)=false by simp [hp]];exact r4))
theorem cR5Side {w:World}{N:Nat}{a b c d e f:Rat}{v0 v1 v2:Value}(h0:Vv N a b v0 w)(h1:Vv N c d v1 w)(h2:Vv N e f v2 w)(h3:3<=N:=by omega)(hN:N<=1000:=by omega):Calls Tryz.prog 48 #[v0,v1,v2] w (RV (Vi (cmpI ((c - a)*(f - b) - (d - b)*(e - a)).num 0)) w):=by
 go_enter Tryz.func48,Tryz.ntmps48
 refine Sg 15 [(0,Vv N a b),(1,Vv N c d),(2,Vv N e f)] (Lq.2 ⟨⟨_,rfl,h0⟩,(Lq.2 ⟨⟨_,rfl,h1⟩,(Lq.2 ⟨⟨_,rfl,h2⟩,L0⟩)⟩)⟩) fun a0 st0=>Wn ?_
 refine rH [] [VT,VT,VT,Vi 0] [⟨3,some 0,some 0,32,8,Vv N a b,VT⟩,⟨4,some 1,some 1,32,8,Vv N c d,VT⟩,⟨5,some 2,some 2,32,8,Vv N e f,VT⟩] [(6,Vi 0)] st0 ⟨ks,ks,ks,ks,trivial⟩ fun a1 w1 st1=>Wn ?_
 refine rH [] [Vv N c d,Vv N a b,Vv (N+N+1) ((c) - a) ((d) - b),Vv N e f,Vv N a b,Vv (N+N+1) ((e) - a) ((f) - b),Vq (4*(N+N+1)+1) (((c) - a)*((f) - b) - ((d) - b)*((e) - a)),Vi (cmpI (((c) - a)*((f) - b) - ((d) - b)*((e) - a)).num 0),Vi (cmpI (((c) - a)*((f) - b) - ((d) - b)*((e) - a)).num 0)] [.k 3 32 8 (Vv N a b),.k 4 32 8 (Vv N c d),.k 5 32 8 (Vv N e f)] [(6,Vi (cmpI (((c) - a)*((f) - b) - ((d) - b)*((e) - a)).num 0))] st1 ⟨ks,ks,(kd2 fun _ _ _ _ _ X0 _ X1=>cR5Sub X0 X1),ks,ks,(kd2 fun _ _ _ _ _ X0 _ X1=>cR5Sub X0 X1),(kd2 fun _ _ _ _ _ X0 _ X1=>cR5Cross X0 X1),(kd1 fun _ _ _ _ _ X0=>cR4Sign X0),ks,trivial⟩ fun a2 w2 st2=>Wn ?_
 exact wp_ret (rS 6 (Vi (cmpI (((c) - a)*((f) - b) - ((d) - b)*((e) - a)).num 0)) st2 fun vr r4=>r4)
theorem cR5Of {w:World}{p q:Int}{v0 v1:Value}(h0:Vi p v0 w)(h1:Vi q v1 w)(hp0: -9223372036854775808<=p:=by omega)(hp1:p<=9223372036854775807:=by omega)(hq0: -9223372036854775808<=q:=by omega)(hq1:q<=9223372036854775807:=by omega):Calls Tryz.prog 37 #[v0,v1] w (RV (Vv 3 (Rat.divInt p 1) (Rat.divInt q 1)) w):=by
 go_enter Tryz.func37,Tryz.ntmps37
 refine Sg 10 [(0,Vi p),(1,Vi q)] (Lq.2 ⟨⟨_,rfl,h0⟩,(Lq.2 ⟨⟨_,rfl,h1⟩,L0⟩)⟩) fun a0 st0=>Wn ?_
 refine rH [(32,8,0)] [VT] [⟨4,some 0,none,32,8,VT,VT⟩] [(0,Vi p),(1,Vi q)] st0 ⟨ks,trivial⟩ fun a1 w1 st1=>Wn ?_
 refine rH [(32,8,0)] [Vi p,Vq 3 (Rat.divInt p 1),Vi q,Vq 3 (Rat.divInt q 1),Vv 3 (Rat.divInt p 1) (Rat.divInt q 1),VT] [⟨4,none,some 5,32,8,Vv 3 (Rat.divInt p 1) (Rat.divInt q 1),VT⟩] [] st1 ⟨ks,(by refine kc fun _ A Y h D=>?_;obtain⟨v0,x0,X0⟩:=h.dp D 5;exact⟨#[v0,.int .i64 1],by simp [x0,eval_const],cR4Of X0 (show Vi 1 (.int .i64 1) Y from rfl)⟩),ks,(by refine kc fun _ A Y h D=>?_;obtain⟨v0,x0,X0⟩:=h.dp D 7;exact⟨#[v0,.int .i64 1],by simp [x0,eval_const],cR4Of X0 (show Vi 1 (.int .i64 1) Y from rfl)⟩),(kr2 6 8 fun _ _ _ _ _ x0 X0 _ x1 X1=>build_Vec rfl x0 x1 (AggV_Vq _ _) (AggV_Vq _ _) X0 X1),ks,trivial⟩ ?_;intro a2 w2 st2;refine Wn ?_
 exact wp_ret (rC 4 32 (Vv 3 (Rat.divInt p 1) (Rat.divInt q 1)) st2 fun cs r4=>r4)
theorem cR5Rotate {w:World}{N:Nat}{a b c d:Rat}{v0 v1:Value}(h0:Vv N a b v0 w)(h1:Vv N c d v1 w)(h3:3<=N:=by omega)(hN:N<=10000:=by omega):Calls Tryz.prog 65 #[v0,v1] w (RV (Vv (4*N+1) (a*c - b*d) (b*c+a*d)) w):=by
 go_enter Tryz.func65,Tryz.ntmps65
 refine Sg 32 [(0,Vv N a b),(1,Vv N c d)] (Lq.2 ⟨⟨_,rfl,h0⟩,(Lq.2 ⟨⟨_,rfl,h1⟩,L0⟩)⟩) fun a0 st0=>Wn ?_
 refine rH [(30,4,0),(32,8,0)] [VT,VT,VT] [⟨2,some 0,some 0,47,8,Vv N a b,VT⟩,⟨3,some 1,some 1,32,8,Vv N c d,VT⟩,⟨4,some 2,none,32,8,VT,VT⟩] [] st0 ⟨ks,ks,ks,trivial⟩ fun a1 w1 st1=>Wn ?_
 refine rH [(30,4,0),(32,8,0)] [Vpt a1 2 0,Vq N a,Vpt a1 3 0,Vq N c,Vq (N+N) ((a)*(c)),Vpt a1 2 4,Vq N b,Vpt a1 3 4,Vq N d,Vq (N+N) ((b)*(d)),Vq ((N+N)+(N+N)+1) (((a)*(c)) - ((b)*(d))),VT,VT] [.k 2 47 8 (Vv N a b),.k 3 32 8 (Vv N c d),.k 4 32 8 VT,⟨5,some 11,some 12,30,4,Vq ((N+N)+(N+N)+1) (((a)*(c)) - ((b)*(d))),VT⟩] [] st1 ⟨ks,ks,ks,ks,(kd2 fun _ _ _ _ _ X0 _ X1=>cR4Mul X0 X1),ks,ks,ks,ks,(kd2 fun _ _ _ _ _ X0 _ X1=>cR4Mul X0 X1),(kd2 fun _ _ _ _ _ X0 _ X1=>cR4Sub X0 X1),ks,ks,trivial⟩ fun a2 w2 st2=>Wn ?_
 refine rH [(30,4,0),(32,8,0)] [Vpt a2 2 4,Vq N b,Vpt a2 3 0,Vq N c,Vq (N+N) ((b)*(c)),Vpt a2 2 0,Vq N a,Vpt a2 3 4,Vq N d,Vq (N+N) ((a)*(d)),Vq ((N+N)+(N+N)+1) (((b)*(c))+((a)*(d))),VT,VT] [.k 2 47 8 (Vv N a b),.k 3 32 8 (Vv N c d),.k 4 32 8 VT,.k 5 30 4 (Vq ((N+N)+(N+N)+1) (((a)*(c)) - ((b)*(d)))),⟨6,some 11,some 12,30,4,Vq ((N+N)+(N+N)+1) (((b)*(c))+((a)*(d))),VT⟩] [] st2 ⟨ks,ks,ks,ks,(kd2 fun _ _ _ _ _ X0 _ X1=>cR4Mul X0 X1),ks,ks,ks,ks,(kd2 fun _ _ _ _ _ X0 _ X1=>cR4Mul X0 X1),(kd2 fun _ _ _ _ _ X0 _ X1=>cR4Add X0 X1),ks,ks,trivial⟩ fun a3 w3 st3=>Wn ?_
 refine rH [(30,4,0),(32,8,0)] [Vq ((N+N)+(N+N)+1) (((a)*(c)) - ((b)*(d))),Vq ((N+N)+(N+N)+1) (((b)*(c))+((a)*(d))),Vv ((N+N)+(N+N)+1) (((a)*(c)) - ((b)*(d))) (((b)*(c))+((a)*(d))),VT] [.k 2 47 8 (Vv N a b),.k 3 32 8 (Vv N c d),⟨4,none,some 3,32,8,Vv ((N+N)+(N+N)+1) (((a)*(c)) - ((b)*(d))) (((b)*(c))+((a)*(d))),VT⟩,.k 5 30 4 (Vq ((N+N)+(N+N)+1) (((a)*(c)) - ((b)*(d)))),.k 6 30 4 (Vq ((N+N)+(N+N)+1) (((b)*(c))+((a)*(d))))] [] st3 ⟨ks,ks,(kr2 29 30 fun _ _ _ _ _ x0 X0 _ x1 X1=>build_Vec rfl x0 x1 (AggV_Vq _ _) (AggV_Vq _ _) X0 X1),ks,trivial⟩ fun a4 w4 st4=>Wn ?_
 exact wp_ret (rC 4 32 (Vv ((N+N)+(N+N)+1) (((a)*(c)) - ((b)*(d))) (((b)*(c))+((a)*(d)))) st4 fun cs r4=>Vv_le r4 (by omega))

end Go.Proofs.YteacdbgalloaiaaGreat
