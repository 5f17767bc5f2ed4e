/- Contracts of the packages integer, rat, plane, polygon and their references. -/
import Derived.Deep.LoopGhost
import Derived.Test.YtjdkdjobaabdiaaGreatP19
set_option linter.unusedVariables false
set_option maxRecDepth 100000
set_option maxHeartbeats 6400000
namespace Go.Proofs.YtjdkdjobaabdiaaGreat
open Go.RowKit
theorem tiny_lt {n:Nat}(h:((digs ((n:Nat):Int).natAbs).length:Int)<=2):n<1000000000000000000:=by
 rw [Int.natAbs_natCast] at h
 rcases Nat.lt_or_ge n 1000000000000000000 with h1|h1
 ·exact h1
 ·rw [digs_pos (n:=n) (by omega),digs_pos (n:=n / 1000000000) (by omega),digs_pos (n:=n / 1000000000 / 1000000000) (by omega)] at h
  simp only [List.length_cons] at h
  omega
theorem cRTinyN {W:World}{N n:Nat}{v:Value}(h:VD N (n:Int) v W)(h2:((digs ((n:Nat):Int).natAbs).length:Int)<=2):Calls Tryz.prog 144 #[v] W (RV (Vi (n:Int)) W):=by
 obtain⟨p,k,c,rfl,hn,hR,hnc,hc,hnN⟩:=h
 exact(tiny_any p k c _ W hR hn (Dg_digs _) (by omega)).mono fun e w' ⟨h1,h2⟩=>⟨_,h1,by rw [val_digs,Int.natAbs_natCast];rfl,by rw [h2];exact Below.refl _ _⟩
theorem cROfV {W:World}{n:Int}{v:Value}(h:Vi n v W)(h1: -9223372036854775808<=n)(h2:n<=9223372036854775807):Calls Tryz.prog 102 #[v] W (RV (Vz 3 n) W):=by
 obtain rfl:=h
 exact cROf n h1 h2
theorem run_remN {ρ:Operand->Value}{o:Oper}{W:World}{x y:Operand}{a b:Nat}(ho:o.op= .binOp .rem 3 x y 3)(hx:ρ x= .int .i64 (a:Int))(hy:ρ y= .int .i64 (b:Int))(ha:a<1000000000000000000)(hb:b<1000000000000000000)(h0:0<b):(execOp ρ o).run Tryz.prog W= .ok (.value (.int .i64 ((a % b:Nat):Int))) W:=by
 have e1:Int.tmod (a:Int) (b:Int)=((a % b:Nat):Int):=rfl
 have hlt:a % b<b:=Nat.mod_lt _ h0
 have hb0:¬b=0:=by omega
 obtain⟨d,op,ty,ps,af,gd⟩:=o
 subst ho
 go_simp
theorem cRGcd {w:World}{N:Nat}{x y:Int}{v0 v1:Value}(h0:Vz N (x) v0 w)(h1:Vz N (y) v1 w)(h3:3<=N)(hN:N<=1000000):Calls Tryz.prog 110 #[v0,v1] w (RV (Vz N (Int.gcd x y:Int)) w):=by
 go_enter Tryz.func110,Tryz.ntmps110
 generalize hA:(⟨_,_⟩:Act)=a0
 have st0:St w.heap.size w 56 [] [(0,Vz N (x)),(1,Vz N (y))] a0 w:=by subst hA;exact St.begin rfl rfl (Lq.2 ⟨⟨_,rfl,h0⟩,(Lq.2 ⟨⟨_,rfl,h1⟩,(fun _ h=>absurd h (by simp))⟩)⟩)
 clear hA
 repeat first|apply Wq|apply Wb|apply Wk|apply Wx
 refine rH [(31,2,0)] [VT,VT,VT] [⟨2,some 0,some 0,31,2,Vz N (x),VT⟩,⟨3,some 1,some 1,31,2,Vz N (y),VT⟩,⟨4,some 2,none,31,2,VT,VT⟩] [] st0 ⟨ks,ks,ks,trivial⟩ ?_
 intro a1 w1 st1
 clear st0
 repeat first|apply Wq|apply Wb|apply Wk|apply Wx
 refine rH [(31,2,0)] [Vpt a1 2 1,VD N (x),Vz N ((((x).natAbs:Nat):Int)),VT,VT] [⟨2,none,none,31,2,Vz N (x),VT⟩,⟨3,none,none,31,2,Vz N (y),VT⟩,⟨4,none,none,31,2,VT,VT⟩,⟨5,some 3,some 4,31,2,Vz N ((((x).natAbs:Nat):Int)),VT⟩] [] st1 ⟨ks,ks,(by refine kc fun _ A Y h D=>?_;obtain⟨v1,x1,X1⟩:=h.dp D 13;exact⟨#[.bool false,v1],by simp [x1,eval_const],cRNormalO (b:=false) (VD_O (show VD N (x) v1 Y from X1))⟩),ks,ks,trivial⟩ ?_
 intro a2 w2 st2
 clear st1
 repeat first|apply Wq|apply Wb|apply Wk|apply Wx
 refine rH [(31,2,0)] [Vpt a2 3 1,VD N (y),Vz N ((((y).natAbs:Nat):Int)),VT,VT] [⟨2,none,none,31,2,Vz N (x),VT⟩,⟨3,none,none,31,2,Vz N (y),VT⟩,⟨4,none,none,31,2,VT,VT⟩,⟨5,none,none,31,2,Vz N ((((x).natAbs:Nat):Int)),VT⟩,⟨6,some 3,some 4,31,2,Vz N ((((y).natAbs:Nat):Int)),VT⟩] [] st2 ⟨ks,ks,(by refine kc fun _ A Y h D=>?_;obtain⟨v1,x1,X1⟩:=h.dp D 16;exact⟨#[.bool false,v1],by simp [x1,eval_const],cRNormalO (b:=false) (VD_O (show VD N (y) v1 Y from X1))⟩),ks,ks,trivial⟩ ?_
 intro a3 w3 st3
 clear st2
 repeat first|apply Wq|apply Wb|apply Wk|apply Wx
 refine wp_loop_ghost (fun pb aX wX=>∃pa:Nat,Nat.gcd pa pb=Nat.gcd x.natAbs y.natAbs/\St w.heap.size w 56 [⟨4,none,none,31,2,VT,VT⟩,⟨5,none,none,31,2,Vz N (((pa:Nat):Int)),VT⟩,⟨6,none,none,31,2,Vz N (((pb:Nat):Int)),VT⟩] [] aX wX) y.natAbs ⟨x.natAbs,rfl,st3.cut⟩ ?_
 clear st3
 intro pb aL wL ⟨pa,hg,st3⟩
 by_cases hn:0<((pb:Nat):Int)
 ·
  repeat first|apply Wq|apply Wb|apply Wk|apply Wx
  refine rH [(31,2,0)] [Vpt aL 6 1,VD N (((pb:Nat):Int)),Vi (((digs (((pb:Nat):Int)).natAbs).length:Int)),Vb (true)] [⟨4,none,none,31,2,VT,VT⟩,⟨5,none,none,31,2,Vz N (((pa:Nat):Int)),VT⟩,⟨6,none,none,31,2,Vz N (((pb:Nat):Int)),VT⟩] [(21,Vb (true))] st3 ⟨ks,ks,(by refine kr fun _ A Y h D=>?_;obtain⟨v0,x0,X0⟩:=h.dp D 19;obtain⟨pp,nn,cc,rfl,hnn,-⟩:=X0;exact⟨_,run_len rfl rfl x0,by rw [hnn];rfl⟩),(by refine kr fun _ A Y h D=>?_;obtain⟨v0,x0,X0⟩:=h.dp D 20;have hV0':v0= .int .i64 (((digs (((pb:Nat):Int)).natAbs).length:Int)):=X0;exact⟨_,run_gtri rfl (x0.trans hV0') rfl,congrArg Value.bool (by rw [len_gt0 _ (Int.natCast_nonneg _)];exact dT hn)⟩),trivial⟩ ?_
  intro a4 w4 st4
  clear st3
  repeat first|apply Wq|apply Wb|apply Wk|apply Wx
  refine cT st4 ?_
  by_cases qa:((digs (((pa:Nat):Int)).natAbs).length:Int)<=2
  ·
   by_cases qb:((digs (((pb:Nat):Int)).natAbs).length:Int)<=2
   ·
    repeat first|apply Wq|apply Wb|apply Wk|apply Wx
    refine rH [(31,2,0)] [Vpt a4 5 1,VD N (((pa:Nat):Int)),Vi (((digs (((pa:Nat):Int)).natAbs).length:Int)),Vb (true),Vb (true),Vpt a4 6 1,VD N (((pb:Nat):Int)),Vi (((digs (((pb:Nat):Int)).natAbs).length:Int)),Vb (true),Vb (true)] [⟨4,none,none,31,2,VT,VT⟩,⟨5,none,none,31,2,Vz N (((pa:Nat):Int)),VT⟩,⟨6,none,none,31,2,Vz N (((pb:Nat):Int)),VT⟩] [(21,Vb (true)),(31,Vb (true))] st4 ⟨ks,ks,(by refine kr fun _ A Y h D=>?_;obtain⟨v0,x0,X0⟩:=h.dp D 23;obtain⟨pp,nn,cc,rfl,hnn,-⟩:=X0;exact⟨_,run_len rfl rfl x0,by rw [hnn];rfl⟩),(by refine kr fun _ A Y h D=>?_;obtain⟨v0,x0,X0⟩:=h.dp D 24;have hV0':v0= .int .i64 (((digs (((pa:Nat):Int)).natAbs).length:Int)):=X0;exact⟨_,run_leqi rfl (x0.trans hV0') rfl,congrArg Value.bool (dT qa)⟩),ks,ks,ks,(by refine kr fun _ A Y h D=>?_;obtain⟨v0,x0,X0⟩:=h.dp D 28;obtain⟨pp,nn,cc,rfl,hnn,-⟩:=X0;exact⟨_,run_len rfl rfl x0,by rw [hnn];rfl⟩),(by refine kr fun _ A Y h D=>?_;obtain⟨v0,x0,X0⟩:=h.dp D 29;have hV0':v0= .int .i64 (((digs (((pb:Nat):Int)).natAbs).length:Int)):=X0;exact⟨_,run_leqi rfl (x0.trans hV0') rfl,congrArg Value.bool (dT qb)⟩),ks,trivial⟩ ?_
    intro a5 w5 st5
    clear st4
    repeat first|apply Wq|apply Wb|apply Wk|apply Wx
    refine cT st5 ?_
    repeat first|apply Wq|apply Wb|apply Wk|apply Wx
    refine rH [(31,2,0)] [Vpt a5 5 1,VD N (((pa:Nat):Int)),Vi (((pa:Nat):Int)),Vi (((pa:Nat):Int))] [⟨4,none,none,31,2,VT,VT⟩,⟨5,none,none,31,2,Vz N (((pa:Nat):Int)),VT⟩,⟨6,none,none,31,2,Vz N (((pb:Nat):Int)),VT⟩] [(21,Vb (true)),(31,Vb (true)),(7,Vi (((pa:Nat):Int)))] st5 ⟨ks,ks,(kd1 fun _ _ Y _ v0 X0=>(cRTinyN (show VD N (((pa:Nat):Int)) v0 Y from X0) qa)),ks,trivial⟩ ?_
    intro a6 w6 st6
    clear st5
    repeat first|apply Wq|apply Wb|apply Wk|apply Wx
    refine rH [(31,2,0)] [Vpt a6 6 1,VD N (((pb:Nat):Int)),Vi (((pb:Nat):Int)),Vi (((pb:Nat):Int))] [⟨4,none,none,31,2,VT,VT⟩,⟨5,none,none,31,2,Vz N (((pa:Nat):Int)),VT⟩,⟨6,none,none,31,2,Vz N (((pb:Nat):Int)),VT⟩] [(21,Vb (true)),(31,Vb (true)),(7,Vi (((pa:Nat):Int))),(8,Vi (((pb:Nat):Int)))] st6 ⟨ks,ks,(kd1 fun _ _ Y _ v0 X0=>(cRTinyN (show VD N (((pb:Nat):Int)) v0 Y from X0) qb)),ks,trivial⟩ ?_
    intro a7 w7 st7
    clear st6
    repeat first|apply Wq|apply Wb|apply Wk|apply Wx
    refine wp_loop_ghost (fun m aX wX=>∃u:Nat,Nat.gcd u m=Nat.gcd x.natAbs y.natAbs/\u<1000000000000000000/\m<1000000000000000000/\St w.heap.size w 56 [⟨4,none,none,31,2,VT,VT⟩] [(7,Vi (((u:Nat):Int))),(8,Vi (((m:Nat):Int)))] aX wX) pb ⟨pa,hg,tiny_lt qa,tiny_lt qb,st7.cut⟩ ?_
    clear st7
    intro m aM wM ⟨u,hu,hu1,hm1,st7⟩
    by_cases hm:0<((m:Nat):Int)
    ·
     repeat first|apply Wq|apply Wb|apply Wk|apply Wx
     refine rH [(31,2,0)] [Vi (((m:Nat):Int)),Vb (true)] [⟨4,none,none,31,2,VT,VT⟩] [(7,Vi (((u:Nat):Int))),(8,Vi (((m:Nat):Int))),(39,Vb (true))] st7 ⟨ks,(by refine kr fun _ A Y h D=>?_;obtain⟨v0,x0,X0⟩:=h.dp D 38;have hV0':v0= .int .i64 (((m:Nat):Int)):=X0;exact⟨_,run_gtri rfl (x0.trans hV0') rfl,congrArg Value.bool (dT hm)⟩),trivial⟩ ?_
     intro a8 w8 st8
     clear st7
     repeat first|apply Wq|apply Wb|apply Wk|apply Wx
     refine cT st8 ?_
     repeat first|apply Wq|apply Wb|apply Wk|apply Wx
     refine rH [(31,2,0)] [Vi (((u:Nat):Int)),Vi (((m:Nat):Int)),Vi (((u % m:Nat):Int)),Vi (((u % m:Nat):Int))] [⟨4,none,none,31,2,VT,VT⟩] [(7,Vi (((u:Nat):Int))),(8,Vi (((m:Nat):Int))),(39,Vb (true)),(9,Vi (((u % m:Nat):Int)))] st8 ⟨ks,ks,(by refine kr fun _ A Y h D=>?_;obtain⟨v0,x0,X0⟩:=h.dp D 40;obtain⟨v1,x1,X1⟩:=h.dp D 41;exact⟨_,run_remN rfl (x0.trans (show v0= .int .i64 ((u:Nat):Int)from X0)) (x1.trans (show v1= .int .i64 ((m:Nat):Int)from X1)) (by omega) (by omega) (by omega),rfl⟩),ks,trivial⟩ ?_
     intro a9 w9 st9
     clear st8
     repeat first|apply Wq|apply Wb|apply Wk|apply Wx
     refine rH [(31,2,0)] [Vi (((m:Nat):Int)),Vi (((m:Nat):Int))] [⟨4,none,none,31,2,VT,VT⟩] [(8,Vi (((m:Nat):Int))),(39,Vb (true)),(9,Vi (((u % m:Nat):Int))),(7,Vi (((m:Nat):Int)))] st9 ⟨ks,ks,trivial⟩ ?_
     intro a10 w10 st10
     clear st9
     repeat first|apply Wq|apply Wb|apply Wk|apply Wx
     refine rH [(31,2,0)] [Vi (((u % m:Nat):Int)),Vi (((u % m:Nat):Int))] [⟨4,none,none,31,2,VT,VT⟩] [(39,Vb (true)),(7,Vi (((m:Nat):Int))),(8,Vi (((u % m:Nat):Int)))] st10 ⟨ks,ks,trivial⟩ ?_
     intro a11 w11 st11
     clear st10
     exact⟨u % m,Nat.mod_lt _ (by omega),m,by rw [Nat.gcd_comm,<-Nat.gcd_rec,Nat.gcd_comm];exact hu,hm1,Nat.lt_trans (Nat.mod_lt _ (by omega)) hm1,st11.cut⟩
    ·
     repeat first|apply Wq|apply Wb|apply Wk|apply Wx
     refine rH [(31,2,0)] [Vi (((m:Nat):Int)),Vb (false)] [⟨4,none,none,31,2,VT,VT⟩] [(7,Vi (((u:Nat):Int))),(8,Vi (((m:Nat):Int))),(39,Vb (false))] st7 ⟨ks,(by refine kr fun _ A Y h D=>?_;obtain⟨v0,x0,X0⟩:=h.dp D 38;have hV0':v0= .int .i64 (((m:Nat):Int)):=X0;exact⟨_,run_gtri rfl (x0.trans hV0') rfl,congrArg Value.bool (dF hm)⟩),trivial⟩ ?_
     intro a8 w8 st8
     clear st7
     repeat first|apply Wq|apply Wb|apply Wk|apply Wx
     refine cF st8 ?_
     repeat first|apply Wq|apply Wb|apply Wk|apply Wx
     refine rH [(31,2,0)] [Vi (((u:Nat):Int)),Vz 3 (((u:Nat):Int)),VT] [⟨4,none,some 2,31,2,Vz 3 (((u:Nat):Int)),VT⟩] [(7,Vi (((u:Nat):Int))),(8,Vi (((m:Nat):Int))),(39,Vb (false))] st8 ⟨ks,(kd1 fun _ _ _ _ _ X0=>(cROfV X0 (by omega) (by omega))),ks,trivial⟩ ?_
     intro a9 w9 st9
     clear st8
     repeat first|apply Wq|apply Wb|apply Wk|apply Wx
     exact wp_ret (rC 4 31 (Vz 3 (((u:Nat):Int))) st9 fun cs r4=>(Vz_le (by rw [show(Int.gcd x y:Int)=((u:Nat):Int) by rw [show m=0 by omega,Nat.gcd_zero_right] at hu;rw [hu];rfl];exact r4) h3))
   ·
    repeat first|apply Wq|apply Wb|apply Wk|apply Wx
    refine rH [(31,2,0)] [Vpt a4 5 1,VD N (((pa:Nat):Int)),Vi (((digs (((pa:Nat):Int)).natAbs).length:Int)),Vb (true),Vb (true),Vpt a4 6 1,VD N (((pb:Nat):Int)),Vi (((digs (((pb:Nat):Int)).natAbs).length:Int)),Vb (false),Vb (false)] [⟨4,none,none,31,2,VT,VT⟩,⟨5,none,none,31,2,Vz N (((pa:Nat):Int)),VT⟩,⟨6,none,none,31,2,Vz N (((pb:Nat):Int)),VT⟩] [(21,Vb (true)),(31,Vb (false))] st4 ⟨ks,ks,(by refine kr fun _ A Y h D=>?_;obtain⟨v0,x0,X0⟩:=h.dp D 23;obtain⟨pp,nn,cc,rfl,hnn,-⟩:=X0;exact⟨_,run_len rfl rfl x0,by rw [hnn];rfl⟩),(by refine kr fun _ A Y h D=>?_;obtain⟨v0,x0,X0⟩:=h.dp D 24;have hV0':v0= .int .i64 (((digs (((pa:Nat):Int)).natAbs).length:Int)):=X0;exact⟨_,run_leqi rfl (x0.trans hV0') rfl,congrArg Value.bool (dT qa)⟩),ks,ks,ks,(by refine kr fun _ A Y h D=>?_;obtain⟨v0,x0,X0⟩:=h.dp D 28;obtain⟨pp,nn,cc,rfl,hnn,-⟩:=X0;exact⟨_,run_len rfl rfl x0,by rw [hnn];rfl⟩),(by refine kr fun _ A Y h D=>?_;obtain⟨v0,x0,X0⟩:=h.dp D 29;have hV0':v0= .int .i64 (((digs (((pb:Nat):Int)).natAbs).length:Int)):=X0;exact⟨_,run_leqi rfl (x0.trans hV0') rfl,congrArg Value.bool (dF qb)⟩),ks,trivial⟩ ?_
    intro a5 w5 st5
    clear st4
    repeat first|apply Wq|apply Wb|apply Wk|apply Wx
    refine cF st5 ?_
    repeat first|apply Wq|apply Wb|apply Wk|apply Wx
    refine rH [(31,2,0)] [Vz N (((pa:Nat):Int)),Vz N (((pb:Nat):Int)),VTup (Vz (N+1) (dq (((pa:Nat):Int)) (((pb:Nat):Int)))) (Vz N (dr (((pa:Nat):Int)) (((pb:Nat):Int)))),VTup (Vz (N+1) (dq (((pa:Nat):Int)) (((pb:Nat):Int)))) (Vz N (dr (((pa:Nat):Int)) (((pb:Nat):Int)))),Vz (N+1) (dq (((pa:Nat):Int)) (((pb:Nat):Int))),Vz N (dr (((pa:Nat):Int)) (((pb:Nat):Int))),VT,VT,VT,VT] [⟨4,none,none,31,2,VT,VT⟩,⟨5,none,none,31,2,Vz N (((pa:Nat):Int)),VT⟩,⟨6,none,none,31,2,Vz N (((pb:Nat):Int)),VT⟩,⟨10,some 6,some 8,31,2,Vz (N+1) (dq (((pa:Nat):Int)) (((pb:Nat):Int))),VT⟩,⟨11,some 7,some 9,31,2,Vz N (dr (((pa:Nat):Int)) (((pb:Nat):Int))),VT⟩] [(21,Vb (true)),(31,Vb (false))] st5 ⟨ks,ks,(kd2 fun _ _ _ _ _ X0 _ X1=>(cRDiv X0 X1 (by omega) (by omega) (by omega) (by omega))),ks,ks,ks,ks,ks,ks,ks,trivial⟩ ?_
    intro a6 w6 st6
    clear st5
    repeat first|apply Wq|apply Wb|apply Wk|apply Wx
    refine rH [(31,2,0)] [Vz N (((pb:Nat):Int)),VT] [⟨4,none,none,31,2,VT,VT⟩,⟨5,none,some 1,31,2,Vz N (((pb:Nat):Int)),Vz N (((pa:Nat):Int))⟩,⟨6,none,none,31,2,Vz N (((pb:Nat):Int)),VT⟩,⟨10,none,none,31,2,Vz (N+1) (dq (((pa:Nat):Int)) (((pb:Nat):Int))),VT⟩,⟨11,none,none,31,2,Vz N (dr (((pa:Nat):Int)) (((pb:Nat):Int))),VT⟩] [(21,Vb (true)),(31,Vb (false))] st6 ⟨ks,ks,trivial⟩ ?_
    intro a7 w7 st7
    clear st6
    repeat first|apply Wq|apply Wb|apply Wk|apply Wx
    refine rH [(31,2,0)] [Vz N (dr (((pa:Nat):Int)) (((pb:Nat):Int))),VT] [⟨4,none,none,31,2,VT,VT⟩,⟨5,none,none,31,2,Vz N (((pb:Nat):Int)),VT⟩,⟨6,none,some 1,31,2,Vz N (dr (((pa:Nat):Int)) (((pb:Nat):Int))),Vz N (((pb:Nat):Int))⟩,⟨10,none,none,31,2,Vz (N+1) (dq (((pa:Nat):Int)) (((pb:Nat):Int))),VT⟩,⟨11,none,none,31,2,Vz N (dr (((pa:Nat):Int)) (((pb:Nat):Int))),VT⟩] [(21,Vb (true)),(31,Vb (false))] st7 ⟨ks,ks,trivial⟩ ?_
    intro a8 w8 st8
    clear st7
    have e6:dr ((pa:Nat):Int) ((pb:Nat):Int)=((pa % pb:Nat):Int):=by unfold dr;rw [if_neg (by omega)];rfl
    refine⟨pa % pb,Nat.mod_lt _ (by omega),pb,by rw [Nat.gcd_comm,<-Nat.gcd_rec,Nat.gcd_comm];exact hg,?_⟩
    rw [e6] at st8
    exact st8.cut
  ·
   repeat first|apply Wq|apply Wb|apply Wk|apply Wx
   refine rH [(31,2,0)] [Vpt a4 5 1,VD N (((pa:Nat):Int)),Vi (((digs (((pa:Nat):Int)).natAbs).length:Int)),Vb (false),Vb (false),VT,VT,VT,VT,Vb (false)] [⟨4,none,none,31,2,VT,VT⟩,⟨5,none,none,31,2,Vz N (((pa:Nat):Int)),VT⟩,⟨6,none,none,31,2,Vz N (((pb:Nat):Int)),VT⟩] [(21,Vb (true)),(31,Vb (false))] st4 ⟨ks,ks,(by refine kr fun _ A Y h D=>?_;obtain⟨v0,x0,X0⟩:=h.dp D 23;obtain⟨pp,nn,cc,rfl,hnn,-⟩:=X0;exact⟨_,run_len rfl rfl x0,by rw [hnn];rfl⟩),(by refine kr fun _ A Y h D=>?_;obtain⟨v0,x0,X0⟩:=h.dp D 24;have hV0':v0= .int .i64 (((digs (((pa:Nat):Int)).natAbs).length:Int)):=X0;exact⟨_,run_leqi rfl (x0.trans hV0') rfl,congrArg Value.bool (dF qa)⟩),ks,ks,ks,ks,ks,ks,trivial⟩ ?_
   intro a5 w5 st5
   clear st4
   repeat first|apply Wq|apply Wb|apply Wk|apply Wx
   refine cF st5 ?_
   repeat first|apply Wq|apply Wb|apply Wk|apply Wx
   refine rH [(31,2,0)] [Vz N (((pa:Nat):Int)),Vz N (((pb:Nat):Int)),VTup (Vz (N+1) (dq (((pa:Nat):Int)) (((pb:Nat):Int)))) (Vz N (dr (((pa:Nat):Int)) (((pb:Nat):Int)))),VTup (Vz (N+1) (dq (((pa:Nat):Int)) (((pb:Nat):Int)))) (Vz N (dr (((pa:Nat):Int)) (((pb:Nat):Int)))),Vz (N+1) (dq (((pa:Nat):Int)) (((pb:Nat):Int))),Vz N (dr (((pa:Nat):Int)) (((pb:Nat):Int))),VT,VT,VT,VT] [⟨4,none,none,31,2,VT,VT⟩,⟨5,none,none,31,2,Vz N (((pa:Nat):Int)),VT⟩,⟨6,none,none,31,2,Vz N (((pb:Nat):Int)),VT⟩,⟨10,some 6,some 8,31,2,Vz (N+1) (dq (((pa:Nat):Int)) (((pb:Nat):Int))),VT⟩,⟨11,some 7,some 9,31,2,Vz N (dr (((pa:Nat):Int)) (((pb:Nat):Int))),VT⟩] [(21,Vb (true)),(31,Vb (false))] st5 ⟨ks,ks,(kd2 fun _ _ _ _ _ X0 _ X1=>(cRDiv X0 X1 (by omega) (by omega) (by omega) (by omega))),ks,ks,ks,ks,ks,ks,ks,trivial⟩ ?_
   intro a6 w6 st6
   clear st5
   repeat first|apply Wq|apply Wb|apply Wk|apply Wx
   refine rH [(31,2,0)] [Vz N (((pb:Nat):Int)),VT] [⟨4,none,none,31,2,VT,VT⟩,⟨5,none,some 1,31,2,Vz N (((pb:Nat):Int)),Vz N (((pa:Nat):Int))⟩,⟨6,none,none,31,2,Vz N (((pb:Nat):Int)),VT⟩,⟨10,none,none,31,2,Vz (N+1) (dq (((pa:Nat):Int)) (((pb:Nat):Int))),VT⟩,⟨11,none,none,31,2,Vz N (dr (((pa:Nat):Int)) (((pb:Nat):Int))),VT⟩] [(21,Vb (true)),(31,Vb (false))] st6 ⟨ks,ks,trivial⟩ ?_
   intro a7 w7 st7
   clear st6
   repeat first|apply Wq|apply Wb|apply Wk|apply Wx
   refine rH [(31,2,0)] [Vz N (dr (((pa:Nat):Int)) (((pb:Nat):Int))),VT] [⟨4,none,none,31,2,VT,VT⟩,⟨5,none,none,31,2,Vz N (((pb:Nat):Int)),VT⟩,⟨6,none,some 1,31,2,Vz N (dr (((pa:Nat):Int)) (((pb:Nat):Int))),Vz N (((pb:Nat):Int))⟩,⟨10,none,none,31,2,Vz (N+1) (dq (((pa:Nat):Int)) (((pb:Nat):Int))),VT⟩,⟨11,none,none,31,2,Vz N (dr (((pa:Nat):Int)) (((pb:Nat):Int))),VT⟩] [(21,Vb (true)),(31,Vb (false))] st7 ⟨ks,ks,trivial⟩ ?_
   intro a8 w8 st8
   clear st7
   have e6:dr ((pa:Nat):Int) ((pb:Nat):Int)=((pa % pb:Nat):Int):=by unfold dr;rw [if_neg (by omega)];rfl
   refine⟨pa % pb,Nat.mod_lt _ (by omega),pb,by rw [Nat.gcd_comm,<-Nat.gcd_rec,Nat.gcd_comm];exact hg,?_⟩
   rw [e6] at st8
   exact st8.cut
 ·
  repeat first|apply Wq|apply Wb|apply Wk|apply Wx
  refine rH [(31,2,0)] [Vpt aL 6 1,VD N (((pb:Nat):Int)),Vi (((digs (((pb:Nat):Int)).natAbs).length:Int)),Vb (false)] [⟨4,none,none,31,2,VT,VT⟩,⟨5,none,none,31,2,Vz N (((pa:Nat):Int)),VT⟩,⟨6,none,none,31,2,Vz N (((pb:Nat):Int)),VT⟩] [(21,Vb (false))] st3 ⟨ks,ks,(by refine kr fun _ A Y h D=>?_;obtain⟨v0,x0,X0⟩:=h.dp D 19;obtain⟨pp,nn,cc,rfl,hnn,-⟩:=X0;exact⟨_,run_len rfl rfl x0,by rw [hnn];rfl⟩),(by refine kr fun _ A Y h D=>?_;obtain⟨v0,x0,X0⟩:=h.dp D 20;have hV0':v0= .int .i64 (((digs (((pb:Nat):Int)).natAbs).length:Int)):=X0;exact⟨_,run_gtri rfl (x0.trans hV0') rfl,congrArg Value.bool (by rw [len_gt0 _ (Int.natCast_nonneg _)];exact dF hn)⟩),trivial⟩ ?_
  intro a4 w4 st4
  clear st3
  repeat first|apply Wq|apply Wb|apply Wk|apply Wx
  refine cF st4 ?_
  repeat first|apply Wq|apply Wb|apply Wk|apply Wx
  refine rH [(31,2,0)] [Vz N (((pa:Nat):Int)),VT] [⟨4,none,some 1,31,2,Vz N (((pa:Nat):Int)),VT⟩,⟨5,none,none,31,2,Vz N (((pa:Nat):Int)),VT⟩,⟨6,none,none,31,2,Vz N (((pb:Nat):Int)),VT⟩] [(21,Vb (false))] st4 ⟨ks,ks,trivial⟩ ?_
  intro a5 w5 st5
  clear st4
  repeat first|apply Wq|apply Wb|apply Wk|apply Wx
  exact wp_ret (rC 4 31 (Vz N (((pa:Nat):Int))) st5 fun cs r4=>(by rw [show(Int.gcd x y:Int)=((pa:Nat):Int) by rw [show pb=0 by omega,Nat.gcd_zero_right] at hg;rw [hg];rfl];exact r4))
theorem rone_any (nb:Bool)(p:Option Addr)(n c:Nat)(z:Int)(w:World)(hI:IntAt w nb p n c z):
 Calls Tryz.prog 109 #[.agg #[.bool nb,.slice p n c]] w fun e w'=>e= .returned (.bool (decide (z=1)))/\Below w.heap.size w w':=by
 obtain⟨h1,h2,h3,-⟩:=hI
 cases nb with
 |true=>
  have hfin:Hid (false=decide (z=1)):=Lib.hid (dF (by have:=of_decide_eq_true h1.symm;omega)).symm
  clear h1 h2 h3
  go_enter Tryz.func109,Tryz.ntmps109
  go_wp2_with fail
  go_ret
  exact⟨by rw [<-hfin.out];rfl,below_new _ _⟩
 |false=>
  have hz:0<=z:=by have:=of_decide_eq_false h1.symm;omega
  by_cases hn:n=1
  ·obtain⟨b,off,rfl,hc⟩:=Rdi_at h3 0 (by omega)
   obtain⟨d,D⟩:∃d,iat (digs z.natAbs) 0=d:=⟨_,rfl⟩
   rw [D] at hc
   have hv:(z.natAbs:Int)=d:=by
    have h4:=val_digs z.natAbs
    match hh:digs z.natAbs,D,h2 with
    | [],D,h2=>simp at h2;omega
    | [x],D,h2=>rw [hh] at h4;simp [val] at h4;simp [iat] at D;omega
    |x::y::t,D,h2=>simp at h2;omega
   subst hn
   have hc':w.cell? ⟨b,off,none⟩=some (.int .i64 d):=hc
   clear hc h3 D
   have hb:b<w.heap.size:=World.block_lt_of_cell? w _ hc'
   have hfin:Hid ((d==1)=decide (z=1)):=Lib.hid (by
    by_cases h:z=1
    ·rw [dT h];simp;omega
    ·rw [dF h];simp;omega)
   clear h1 h2 hv hz
   go_enter Tryz.func109,Tryz.ntmps109
   go_wp2_with fail
   go_ret
   exact⟨by rw [<-hfin.out];rfl,below_new _ _⟩
  ·have hfin:Hid (false=decide (z=1)):=Lib.hid (dF (fun e=>hn (by rw [h2,e];show(digs 1).length=1;rw [digs1];rfl))).symm
   have hnb:((n:Int) !=1)=true:=by simp;omega
   clear h1 h2 h3 hn hz
   go_enter Tryz.func109,Tryz.ntmps109
   go_wp2_with fail
   go_ret
   exact⟨by rw [<-hfin.out];rfl,below_new _ _⟩
theorem cR4One {W:World}{N:Nat}{z:Int}{v:Value}(h:Vz N z v W):Calls Tryz.prog 109 #[v] W (RV (Vb (decide (z=1))) W):=by
 obtain⟨nb,p,n,c,rfl,hI,hn⟩:=h
 exact(rone_any nb p n c z W hI).mono fun e w' h=>⟨_,h.1,rfl,h.2⟩
end Go.Proofs.YtjdkdjobaabdiaaGreat
