/- Contracts of the packages integer, rat, plane, polygon and their references. -/
import Derived.Test.YteacdbgalloaiaaGreatX11
import Derived.Test.YteacdbgalloaiaaGreatX9
import Derived.Test.YteacdbgalloaiaaGreatX10
set_option linter.unusedVariables false
set_option maxRecDepth 100000
set_option maxHeartbeats 6400000
namespace Go.Proofs.YteacdbgalloaiaaGreat
open Go.RowKit
theorem add_mk (a b:Rat):Rat.divInt (a.num*(b.den:Int)+b.num*(a.den:Int)) ((a.den:Int)*(b.den:Int))=a+b:=by
 have h1:=a.den_pos;have h2:=b.den_pos;have:=Rat.divInt_add_divInt a.num b.num (d₁:=(a.den:Int)) (d₂:=(b.den:Int)) (by omega) (by omega);rw [Rat.num_divInt_den,Rat.num_divInt_den] at this;exact this.symm
theorem mul_mk (a b:Rat):Rat.divInt (a.num*b.num) ((a.den:Int)*(b.den:Int))=a*b:=by
 have:=Rat.divInt_mul_divInt a.num b.num (d₁:=(a.den:Int)) (d₂:=(b.den:Int));rw [Rat.num_divInt_den,Rat.num_divInt_den] at this;exact this.symm
theorem div_mk (a b:Rat):Rat.divInt (a.num*(b.den:Int)) ((a.den:Int)*b.num)=a / b:=by
 have e:b⁻¹=Rat.divInt (b.den:Int) b.num:=by
  have:=Rat.inv_divInt b.num (b.den:Int);rwa [Rat.num_divInt_den] at this
 have:=Rat.divInt_mul_divInt a.num (b.den:Int) (d₁:=(a.den:Int)) (d₂:=b.num);rw [Rat.num_divInt_den,<-e,<-Rat.div_def] at this;exact this.symm
theorem cR4Neg {w:World}{N:Nat}{q:Rat}{v0:Value}(h0:Vq N q v0 w)(hN:N<=1000000:=by omega):Calls Tryz.prog 126 #[v0] w (RV (Vq N (-q)) w):=by
 go_enter Tryz.func126,Tryz.ntmps126
 refine Sg 9 [(0,Vq N q)] (Lq.2 ⟨⟨_,rfl,h0⟩,L0⟩) fun a0 st0=>Wn ?_
 refine rH [(30,4,0)] [VT,VT] [⟨1,some 0,some 0,30,4,Vq N q,VT⟩,⟨2,some 1,none,30,4,VT,VT⟩] [] st0 ⟨ks,ks,trivial⟩ fun a1 w1 st1=>Wn ?_
 refine rH [(30,4,0)] [Vpt a1 1 0,Vz N q.num,Vz N (-(q.num)),Vpt a1 1 2,Vz N (qd q),VP2 2 2 (Vz N (-(q.num))) (Vz N (qd q)),VT] [.k 1 30 4 (Vq N q),⟨2,none,some 6,30,4,VP2 2 2 (Vz N (-(q.num))) (Vz N (qd q)),VT⟩] [] st1 ⟨ks,ks,(kd1 fun _ _ _ _ _ X0=>cRNeg X0),ks,ks,(kr2 5 7 fun _ _ _ _ _ x0 X0 _ x1 X1=>build_Rat rfl x0 x1 (AggV_Vz _ _) (AggV_Vz _ _) X0 X1),ks,trivial⟩ fun a2 w2 st2=>Wn ?_
 exact wp_ret (rC 2 30 (VP2 2 2 (Vz N (-(q.num))) (Vz N (qd q))) st2 fun cs r4=>(show Vq N (-q) _ _ from r4))
theorem cR4Sign {w:World}{N:Nat}{q:Rat}{v0:Value}(h0:Vq N q v0 w)(hN:N<=1000000:=by omega):Calls Tryz.prog 78 #[v0] w (RV (Vi (cmpI q.num 0)) w):=by
 go_enter Tryz.func78,Tryz.ntmps78
 refine Sg 6 [(0,Vq N q)] (Lq.2 ⟨⟨_,rfl,h0⟩,L0⟩) fun a0 st0=>Wn ?_
 refine rH [] [VT,Vi 0] [⟨1,some 0,some 0,30,4,Vq N q,VT⟩] [(2,Vi 0)] st0 ⟨ks,ks,trivial⟩ fun a1 w1 st1=>Wn ?_
 refine rH [] [Vpt a1 1 0,Vz N q.num,Vi (cmpI q.num 0),Vi (cmpI q.num 0)] [.k 1 30 4 (Vq N q)] [(2,Vi (cmpI q.num 0))] st1 ⟨ks,ks,(kd1 fun _ _ _ _ _ X0=>cRSign X0),ks,trivial⟩ fun a2 w2 st2=>Wn ?_
 exact wp_ret (rS 2 (Vi (cmpI q.num 0)) st2 fun vr r4=>r4)
theorem cR4Of {w:World}{p q:Int}{v0 v1:Value}(h0:Vi p v0 w)(h1:Vi q v1 w)(hp0: -9223372036854775808<=p:=by omega)(hp1:p<=9223372036854775807:=by omega)(hq0: -9223372036854775808<=q:=by omega)(hq1:q<=9223372036854775807:=by omega):Calls Tryz.prog 40 #[v0,v1] w (RV (Vq 3 (Rat.divInt p q)) w):=by
 go_enter Tryz.func40,Tryz.ntmps40
 refine Sg 10 [(0,Vi p),(1,Vi q)] (Lq.2 ⟨⟨_,rfl,h0⟩,(Lq.2 ⟨⟨_,rfl,h1⟩,L0⟩)⟩) fun a0 st0=>Wn ?_
 refine rH [(30,4,0)] [VT] [⟨4,some 0,none,30,4,VT,VT⟩] [(0,Vi p),(1,Vi q)] st0 ⟨ks,trivial⟩ fun a1 w1 st1=>Wn ?_
 refine rH [(30,4,0)] [Vi p,Vz 3 p,Vi q,Vz 3 q,Vq 3 (Rat.divInt p q),VT] [⟨4,none,some 5,30,4,Vq 3 (Rat.divInt p q),VT⟩] [] st1 ⟨ks,(kd1 fun _ _ _ _ _ X0=>cROfV X0),ks,(kd1 fun _ _ _ _ _ X0=>cROfV X0),(kd2 fun _ _ _ _ _ X0 _ X1=>cR4Make X0 X1),ks,trivial⟩ fun a2 w2 st2=>Wn ?_
 exact wp_ret (rC 4 30 (Vq 3 (Rat.divInt p q)) st2 fun cs r4=>r4)
theorem cR4Add {w:World}{N:Nat}{a b:Rat}{v0 v1:Value}(h0:Vq N a v0 w)(h1:Vq N b v1 w)(h3:3<=N:=by omega)(hN:N<=100000:=by omega):Calls Tryz.prog 80 #[v0,v1] w (RV (Vq (N+N+1) (a+b)) w):=by
 go_enter Tryz.func80,Tryz.ntmps80
 refine Sg 26 [(0,Vq N a),(1,Vq N b)] (Lq.2 ⟨⟨_,rfl,h0⟩,(Lq.2 ⟨⟨_,rfl,h1⟩,L0⟩)⟩) fun a0 st0=>Wn ?_
 refine rH [(28,2,0),(30,4,0)] [VT,VT,VT] [⟨2,some 0,some 0,30,4,Vq N a,VT⟩,⟨3,some 1,some 1,30,4,Vq N b,VT⟩,⟨4,some 2,none,30,4,VT,VT⟩] [] st0 ⟨ks,ks,ks,trivial⟩ fun a1 w1 st1=>Wn ?_
 refine rH [(28,2,0),(30,4,0)] [Vpt a1 2 0,Vz N a.num,Vq N b,Vz N (b.den:Int),Vz (N+N) ((a.num)*(b.den:Int)),VT,VT] [.k 2 30 4 (Vq N a),.k 3 30 4 (Vq N b),.k 4 30 4 VT,⟨5,some 5,some 6,28,2,Vz (N+N) ((a.num)*(b.den:Int)),VT⟩] [] st1 ⟨ks,ks,ks,(kd1 fun _ _ _ _ _ X0=>cR4Den X0),(kd2 fun _ _ _ _ _ X0 _ X1=>(cRMul X0 X1)),ks,ks,trivial⟩ fun a2 w2 st2=>Wn ?_
 refine rH [(28,2,0),(30,4,0)] [Vpt a2 3 0,Vz N b.num,Vq N a,Vz N (a.den:Int),Vz (N+N) ((b.num)*(a.den:Int)),VT,VT] [.k 2 30 4 (Vq N a),.k 3 30 4 (Vq N b),.k 4 30 4 VT,.k 5 28 2 (Vz (N+N) ((a.num)*(b.den:Int))),⟨6,some 5,some 6,28,2,Vz (N+N) ((b.num)*(a.den:Int)),VT⟩] [] st2 ⟨ks,ks,ks,(kd1 fun _ _ _ _ _ X0=>cR4Den X0),(kd2 fun _ _ _ _ _ X0 _ X1=>(cRMul X0 X1)),ks,ks,trivial⟩ fun a3 w3 st3=>Wn ?_
 refine rH [(28,2,0),(30,4,0)] [Vz (N+N) ((a.num)*(b.den:Int)),Vz (N+N) ((b.num)*(a.den:Int)),Vz (max (N+N) (N+N)+1) (((a.num)*(b.den:Int))+((b.num)*(a.den:Int))),Vq N a,Vz N (a.den:Int),Vq N b,Vz N (b.den:Int),Vz (N+N) ((a.den:Int)*(b.den:Int)),Vq (max (max (N+N) (N+N)+1) (N+N)) (Rat.divInt (((a.num)*(b.den:Int))+((b.num)*(a.den:Int))) ((a.den:Int)*(b.den:Int))),VT] [.k 2 30 4 (Vq N a),.k 3 30 4 (Vq N b),⟨4,none,some 9,30,4,Vq (max (max (N+N) (N+N)+1) (N+N)) (Rat.divInt (((a.num)*(b.den:Int))+((b.num)*(a.den:Int))) ((a.den:Int)*(b.den:Int))),VT⟩,.k 5 28 2 (Vz (N+N) ((a.num)*(b.den:Int))),.k 6 28 2 (Vz (N+N) ((b.num)*(a.den:Int)))] [] st3 ⟨ks,ks,(kd2 fun _ _ _ _ _ X0 _ X1=>(cRAdd X0 X1)),ks,(kd1 fun _ _ _ _ _ X0=>cR4Den X0),ks,(kd1 fun _ _ _ _ _ X0=>cR4Den X0),(kd2 fun _ _ _ _ _ X0 _ X1=>(cRMul X0 X1)),(kd2 fun _ _ _ _ _ X0 _ X1=>cR4Make (Vz_le (M:=(max (max (N+N) (N+N)+1) (N+N))) X0 (by omega)) (Vz_le (M:=(max (max (N+N) (N+N)+1) (N+N))) X1 (by omega))),ks,trivial⟩ fun a4 w4 st4=>Wn ?_
 exact wp_ret (rC 4 30 (Vq (max (max (N+N) (N+N)+1) (N+N)) (Rat.divInt (((a.num)*(b.den:Int))+((b.num)*(a.den:Int))) ((a.den:Int)*(b.den:Int)))) st4 fun cs r4=>(by rw [<-add_mk];exact Vq_le r4 (by omega)))
theorem cR4Sub {w:World}{N:Nat}{a b:Rat}{v0 v1:Value}(h0:Vq N a v0 w)(h1:Vq N b v1 w)(h3:3<=N:=by omega)(hN:N<=100000:=by omega):Calls Tryz.prog 108 #[v0,v1] w (RV (Vq (N+N+1) (a - b)) w):=by
 go_enter Tryz.func108,Tryz.ntmps108
 refine Sg 9 [(0,Vq N a),(1,Vq N b)] (Lq.2 ⟨⟨_,rfl,h0⟩,(Lq.2 ⟨⟨_,rfl,h1⟩,L0⟩)⟩) fun a0 st0=>Wn ?_
 refine rH [(30,4,0)] [VT,VT,VT] [⟨2,some 0,some 0,30,4,Vq N a,VT⟩,⟨3,some 1,some 1,30,4,Vq N b,VT⟩,⟨4,some 2,none,30,4,VT,VT⟩] [] st0 ⟨ks,ks,ks,trivial⟩ fun a1 w1 st1=>Wn ?_
 refine rH [(30,4,0)] [Vq N a,Vq N b,Vq N (-(b)),Vq (N+N+1) ((a)+(-(b))),VT] [.k 2 30 4 (Vq N a),.k 3 30 4 (Vq N b),⟨4,none,some 4,30,4,Vq (N+N+1) ((a)+(-(b))),VT⟩] [] st1 ⟨ks,ks,(kd1 fun _ _ _ _ _ X0=>cR4Neg X0),(kd2 fun _ _ _ _ _ X0 _ X1=>cR4Add X0 X1),ks,trivial⟩ fun a2 w2 st2=>Wn ?_
 exact wp_ret (rC 4 30 (Vq (N+N+1) ((a)+(-(b)))) st2 fun cs r4=>(by rw [Rat.sub_eq_add_neg];exact r4))
theorem cR4Mul {w:World}{N:Nat}{a b:Rat}{v0 v1:Value}(h0:Vq N a v0 w)(h1:Vq N b v1 w)(h3:3<=N:=by omega)(hN:N<=100000:=by omega):Calls Tryz.prog 83 #[v0,v1] w (RV (Vq (N+N) (a*b)) w):=by
 go_enter Tryz.func83,Tryz.ntmps83
 refine Sg 16 [(0,Vq N a),(1,Vq N b)] (Lq.2 ⟨⟨_,rfl,h0⟩,(Lq.2 ⟨⟨_,rfl,h1⟩,L0⟩)⟩) fun a0 st0=>Wn ?_
 refine rH [(30,4,0)] [VT,VT,VT] [⟨2,some 0,some 0,30,4,Vq N a,VT⟩,⟨3,some 1,some 1,30,4,Vq N b,VT⟩,⟨4,some 2,none,30,4,VT,VT⟩] [] st0 ⟨ks,ks,ks,trivial⟩ fun a1 w1 st1=>Wn ?_
 refine rH [(30,4,0)] [Vpt a1 2 0,Vz N a.num,Vpt a1 3 0,Vz N b.num,Vz (N+N) ((a.num)*(b.num)),Vq N a,Vz N (a.den:Int),Vq N b,Vz N (b.den:Int),Vz (N+N) ((a.den:Int)*(b.den:Int)),Vq (N+N) (Rat.divInt ((a.num)*(b.num)) ((a.den:Int)*(b.den:Int))),VT] [.k 2 30 4 (Vq N a),.k 3 30 4 (Vq N b),⟨4,none,some 11,30,4,Vq (N+N) (Rat.divInt ((a.num)*(b.num)) ((a.den:Int)*(b.den:Int))),VT⟩] [] st1 ⟨ks,ks,ks,ks,(kd2 fun _ _ _ _ _ X0 _ X1=>(cRMul X0 X1)),ks,(kd1 fun _ _ _ _ _ X0=>cR4Den X0),ks,(kd1 fun _ _ _ _ _ X0=>cR4Den X0),(kd2 fun _ _ _ _ _ X0 _ X1=>(cRMul X0 X1)),(kd2 fun _ _ _ _ _ X0 _ X1=>cR4Make X0 X1),ks,trivial⟩ fun a2 w2 st2=>Wn ?_
 exact wp_ret (rC 4 30 (Vq (N+N) (Rat.divInt ((a.num)*(b.num)) ((a.den:Int)*(b.den:Int)))) st2 fun cs r4=>(by rw [<-mul_mk];exact Vq_le r4 (by omega)))
theorem cR4Div {w:World}{N:Nat}{a b:Rat}{v0 v1:Value}(h0:Vq N a v0 w)(h1:Vq N b v1 w)(h3:3<=N:=by omega)(hN:N<=100000:=by omega):Calls Tryz.prog 86 #[v0,v1] w (RV (Vq (N+N) (a / b)) w):=by
 go_enter Tryz.func86,Tryz.ntmps86
 refine Sg 16 [(0,Vq N a),(1,Vq N b)] (Lq.2 ⟨⟨_,rfl,h0⟩,(Lq.2 ⟨⟨_,rfl,h1⟩,L0⟩)⟩) fun a0 st0=>Wn ?_
 refine rH [(30,4,0)] [VT,VT,VT] [⟨2,some 0,some 0,30,4,Vq N a,VT⟩,⟨3,some 1,some 1,30,4,Vq N b,VT⟩,⟨4,some 2,none,30,4,VT,VT⟩] [] st0 ⟨ks,ks,ks,trivial⟩ fun a1 w1 st1=>Wn ?_
 refine rH [(30,4,0)] [Vpt a1 2 0,Vz N a.num,Vq N b,Vz N (b.den:Int),Vz (N+N) ((a.num)*(b.den:Int)),Vq N a,Vz N (a.den:Int),Vpt a1 3 0,Vz N b.num,Vz (N+N) ((a.den:Int)*(b.num)),Vq (N+N) (Rat.divInt ((a.num)*(b.den:Int)) ((a.den:Int)*(b.num))),VT] [.k 2 30 4 (Vq N a),.k 3 30 4 (Vq N b),⟨4,none,some 11,30,4,Vq (N+N) (Rat.divInt ((a.num)*(b.den:Int)) ((a.den:Int)*(b.num))),VT⟩] [] st1 ⟨ks,ks,ks,(kd1 fun _ _ _ _ _ X0=>cR4Den X0),(kd2 fun _ _ _ _ _ X0 _ X1=>(cRMul X0 X1)),ks,(kd1 fun _ _ _ _ _ X0=>cR4Den X0),ks,ks,(kd2 fun _ _ _ _ _ X0 _ X1=>(cRMul X0 X1)),(kd2 fun _ _ _ _ _ X0 _ X1=>cR4Make X0 X1),ks,trivial⟩ fun a2 w2 st2=>Wn ?_
 exact wp_ret (rC 4 30 (Vq (N+N) (Rat.divInt ((a.num)*(b.den:Int)) ((a.den:Int)*(b.num)))) st2 fun cs r4=>(by rw [<-div_mk];exact Vq_le r4 (by omega)))
theorem cR4Compare {w:World}{N:Nat}{a b:Rat}{v0 v1:Value}(h0:Vq N a v0 w)(h1:Vq N b v1 w)(h3:3<=N:=by omega)(hN:N<=100000:=by omega):Calls Tryz.prog 47 #[v0,v1] w (RV (Vi (cmpQ a b)) w):=by
 go_enter Tryz.func47,Tryz.ntmps47
 refine Sg 16 [(0,Vq N a),(1,Vq N b)] (Lq.2 ⟨⟨_,rfl,h0⟩,(Lq.2 ⟨⟨_,rfl,h1⟩,L0⟩)⟩) fun a0 st0=>Wn ?_
 refine rH [] [VT,VT,Vi 0] [⟨2,some 0,some 0,30,4,Vq N a,VT⟩,⟨3,some 1,some 1,30,4,Vq N b,VT⟩] [(4,Vi 0)] st0 ⟨ks,ks,ks,trivial⟩ fun a1 w1 st1=>Wn ?_
 refine rH [] [Vpt a1 2 0,Vz N a.num,Vq N b,Vz N (b.den:Int),Vz (N+N) ((a.num)*(b.den:Int)),Vpt a1 3 0,Vz N b.num,Vq N a,Vz N (a.den:Int),Vz (N+N) ((b.num)*(a.den:Int)),Vi (cmpI ((a.num)*(b.den:Int)) ((b.num)*(a.den:Int))),Vi (cmpI ((a.num)*(b.den:Int)) ((b.num)*(a.den:Int)))] [.k 2 30 4 (Vq N a),.k 3 30 4 (Vq N b)] [(4,Vi (cmpI ((a.num)*(b.den:Int)) ((b.num)*(a.den:Int))))] st1 ⟨ks,ks,ks,(kd1 fun _ _ _ _ _ X0=>cR4Den X0),(kd2 fun _ _ _ _ _ X0 _ X1=>(cRMul X0 X1)),ks,ks,ks,(kd1 fun _ _ _ _ _ X0=>cR4Den X0),(kd2 fun _ _ _ _ _ X0 _ X1=>(cRMul X0 X1)),(kd2 fun _ _ _ _ _ X0 _ X1=>(cRCompare X0 X1)),ks,trivial⟩ fun a2 w2 st2=>Wn ?_
 exact wp_ret (rS 4 (Vi (cmpI ((a.num)*(b.den:Int)) ((b.num)*(a.den:Int)))) st2 fun vr r4=>r4)
theorem cR3Same {W:World}{Na Nb:Nat}{x y:Int}{v1 v2:Value}(h1:Vz Na x v1 W)(h2:Vz Nb y v2 W)(hNa:Na<=1000000:=by omega)(hNb:Nb<=1000000:=by omega):Calls Tryz.prog 56 #[v1,v2] W (RV (Vb (decide (x=y))) W):=by
 obtain⟨nb,p,n,c,rfl,hI,hn⟩:=h1;obtain⟨nb2,p2,n2,c2,rfl,hI2,hn2⟩:=h2;exact(Same_any nb nb2 p p2 n c n2 c2 x y W hI hI2 (by omega) (by omega)).mono fun e w' h=>⟨_,h.1,rfl,h.2⟩
theorem cR4Same {w:World}{N:Nat}{a b:Rat}{v0 v1:Value}(h0:Vq N a v0 w)(h1:Vq N b v1 w)(hN:N<=100000:=by omega):Calls Tryz.prog 19 #[v0,v1] w (RV (Vb (decide (a=b))) w):=by
 go_enter Tryz.func19,Tryz.ntmps19
 refine Sg 17 [(0,Vq N a),(1,Vq N b)] (Lq.2 ⟨⟨_,rfl,h0⟩,(Lq.2 ⟨⟨_,rfl,h1⟩,L0⟩)⟩) fun a0 st0=>Wn ?_
 refine rH [] [VT,VT,Vb false] [⟨2,some 0,some 0,30,4,Vq N a,VT⟩,⟨3,some 1,some 1,30,4,Vq N b,VT⟩] [(4,Vb false)] st0 ⟨ks,ks,ks,trivial⟩ ?_;intro a1 w1 st1;by_cases hp:a.num=b.num
 ·
  refine Wn ?_
  refine rH [] [Vpt a1 2 0,Vz N a.num,Vpt a1 3 0,Vz N b.num,Vb true,Vb true,Vpt a1 2 2,Vz N (qd a),Vpt a1 3 2,Vz N (qd b),Vb (decide ((qd a)=(qd b))),Vb (decide ((qd a)=(qd b))),Vb (decide ((qd a)=(qd b)))] [.k 2 30 4 (Vq N a),.k 3 30 4 (Vq N b)] [(4,Vb (decide ((qd a)=(qd b))))] st1 ⟨ks,ks,ks,ks,(kd2 fun _ _ _ h _ X0 _ X1=>(cR3Same X0 X1).mono fun e w h=>h.le fun v w hv=>hv.trans (congrArg Value.bool (dT hp))),ks,ks,ks,ks,ks,(kd2 fun _ _ _ _ _ X0 _ X1=>cR3Same X0 X1),ks,ks,trivial⟩ fun a2 w2 st2=>Wn ?_
  exact wp_ret (rS 4 (Vb (decide ((qd a)=(qd b)))) st2 fun vr r4=>(by rw [show decide (a=b)=decide (qd a=qd b)from decide_eq_decide.2 (qd_inj hp).symm];exact r4))
 ·
  refine Wn ?_
  refine rH [] [Vpt a1 2 0,Vz N a.num,Vpt a1 3 0,Vz N b.num,Vb false,Vb false,VT,VT,VT,VT,VT,Vb false,Vb false] [.k 2 30 4 (Vq N a),.k 3 30 4 (Vq N b)] [(4,Vb false)] st1 ⟨ks,ks,ks,ks,(kd2 fun _ _ _ h _ X0 _ X1=>(cR3Same X0 X1).mono fun e w h=>h.le fun v w hv=>hv.trans (congrArg Value.bool (dF hp))),ks,ks,ks,ks,ks,ks,ks,ks,trivial⟩ fun a2 w2 st2=>Wn ?_
  exact wp_ret (rS 4 (Vb false) st2 fun vr r4=>(by rw [dF (fun e=>hp (by rw [e]))];exact r4))
theorem cR5Add {w:World}{N:Nat}{a b c d:Rat}{v0 v1:Value}(h0:Vv N a b v0 w)(h1:Vv N c d v1 w)(h3:3<=N:=by omega)(hN:N<=10000:=by omega):Calls Tryz.prog 39 #[v0,v1] w (RV (Vv (N+N+1) (a+c) (b+d)) w):=by
 go_enter Tryz.func39,Tryz.ntmps39
 refine Sg 16 [(0,Vv N a b),(1,Vv N c d)] (Lq.2 ⟨⟨_,rfl,h0⟩,(Lq.2 ⟨⟨_,rfl,h1⟩,L0⟩)⟩) fun a0 st0=>Wn ?_
 refine rH [(32,8,0)] [VT,VT,VT] [⟨2,some 0,some 0,32,8,Vv N a b,VT⟩,⟨3,some 1,some 1,32,8,Vv N c d,VT⟩,⟨4,some 2,none,32,8,VT,VT⟩] [] st0 ⟨ks,ks,ks,trivial⟩ fun a1 w1 st1=>Wn ?_
 refine rH [(32,8,0)] [Vpt a1 2 0,Vq N a,Vpt a1 3 0,Vq N c,Vq (N+N+1) ((a)+(c)),Vpt a1 2 4,Vq N b,Vpt a1 3 4,Vq N d,Vq (N+N+1) ((b)+(d)),Vv (N+N+1) ((a)+(c)) ((b)+(d)),VT] [.k 2 32 8 (Vv N a b),.k 3 32 8 (Vv N c d),⟨4,none,some 11,32,8,Vv (N+N+1) ((a)+(c)) ((b)+(d)),VT⟩] [] st1 ⟨ks,ks,ks,ks,(kd2 fun _ _ _ _ _ X0 _ X1=>cR4Add X0 X1),ks,ks,ks,ks,(kd2 fun _ _ _ _ _ X0 _ X1=>cR4Add X0 X1),(kr2 9 14 fun _ _ _ _ _ x0 X0 _ x1 X1=>build_Vec rfl x0 x1 (AggV_Vq _ _) (AggV_Vq _ _) X0 X1),ks,trivial⟩ fun a2 w2 st2=>Wn ?_
 exact wp_ret (rC 4 32 (Vv (N+N+1) ((a)+(c)) ((b)+(d))) st2 fun cs r4=>r4)
theorem cR5Sub {w:World}{N:Nat}{a b c d:Rat}{v0 v1:Value}(h0:Vv N a b v0 w)(h1:Vv N c d v1 w)(h3:3<=N:=by omega)(hN:N<=10000:=by omega):Calls Tryz.prog 85 #[v0,v1] w (RV (Vv (N+N+1) (a - c) (b - d)) w):=by
 go_enter Tryz.func85,Tryz.ntmps85
 refine Sg 16 [(0,Vv N a b),(1,Vv N c d)] (Lq.2 ⟨⟨_,rfl,h0⟩,(Lq.2 ⟨⟨_,rfl,h1⟩,L0⟩)⟩) fun a0 st0=>Wn ?_
 refine rH [(32,8,0)] [VT,VT,VT] [⟨2,some 0,some 0,32,8,Vv N a b,VT⟩,⟨3,some 1,some 1,32,8,Vv N c d,VT⟩,⟨4,some 2,none,32,8,VT,VT⟩] [] st0 ⟨ks,ks,ks,trivial⟩ fun a1 w1 st1=>Wn ?_
 refine rH [(32,8,0)] [Vpt a1 2 0,Vq N a,Vpt a1 3 0,Vq N c,Vq (N+N+1) ((a) - c),Vpt a1 2 4,Vq N b,Vpt a1 3 4,Vq N d,Vq (N+N+1) ((b) - d),Vv (N+N+1) ((a) - c) ((b) - d),VT] [.k 2 32 8 (Vv N a b),.k 3 32 8 (Vv N c d),⟨4,none,some 11,32,8,Vv (N+N+1) ((a) - c) ((b) - d),VT⟩] [] st1 ⟨ks,ks,ks,ks,(kd2 fun _ _ _ _ _ X0 _ X1=>cR4Sub X0 X1),ks,ks,ks,ks,(kd2 fun _ _ _ _ _ X0 _ X1=>cR4Sub X0 X1),(kr2 9 14 fun _ _ _ _ _ x0 X0 _ x1 X1=>build_Vec rfl x0 x1 (AggV_Vq _ _) (AggV_Vq _ _) X0 X1),ks,trivial⟩ fun a2 w2 st2=>Wn ?_
 exact wp_ret (rC 4 32 (Vv (N+N+1) ((a) - c) ((b) - d)) st2 fun cs r4=>r4)
theorem cR5Scale {w:World}{N:Nat}{a b c:Rat}{v0 v1:Value}(h0:Vv N a b v0 w)(h1:Vq N c v1 w)(h3:3<=N:=by omega)(hN:N<=10000:=by omega):Calls Tryz.prog 70 #[v0,v1] w (RV (Vv (N+N) (a*c) (b*c)) w):=by
 go_enter Tryz.func70,Tryz.ntmps70
 refine Sg 14 [(0,Vv N a b),(1,Vq N c)] (Lq.2 ⟨⟨_,rfl,h0⟩,(Lq.2 ⟨⟨_,rfl,h1⟩,L0⟩)⟩) fun a0 st0=>Wn ?_
 refine rH [(32,8,0)] [VT,VT,VT] [⟨2,some 0,some 0,32,8,Vv N a b,VT⟩,⟨3,some 1,some 1,30,4,Vq N c,VT⟩,⟨4,some 2,none,32,8,VT,VT⟩] [] st0 ⟨ks,ks,ks,trivial⟩ fun a1 w1 st1=>Wn ?_
 refine rH [(32,8,0)] [Vpt a1 2 0,Vq N a,Vq N c,Vq (N+N) ((a)*(c)),Vpt a1 2 4,Vq N b,Vq N c,Vq (N+N) ((b)*(c)),Vv (N+N) ((a)*(c)) ((b)*(c)),VT] [.k 2 32 8 (Vv N a b),.k 3 30 4 (Vq N c),⟨4,none,some 9,32,8,Vv (N+N) ((a)*(c)) ((b)*(c)),VT⟩] [] st1 ⟨ks,ks,ks,(kd2 fun _ _ _ _ _ X0 _ X1=>cR4Mul X0 X1),ks,ks,ks,(kd2 fun _ _ _ _ _ X0 _ X1=>cR4Mul X0 X1),(kr2 8 12 fun _ _ _ _ _ x0 X0 _ x1 X1=>build_Vec rfl x0 x1 (AggV_Vq _ _) (AggV_Vq _ _) X0 X1),ks,trivial⟩ fun a2 w2 st2=>Wn ?_
 exact wp_ret (rC 4 32 (Vv (N+N) ((a)*(c)) ((b)*(c))) st2 fun cs r4=>r4)
theorem cR5Dot {w:World}{N:Nat}{a b c d:Rat}{v0 v1:Value}(h0:Vv N a b v0 w)(h1:Vv N c d v1 w)(h3:3<=N:=by omega)(hN:N<=10000:=by omega):Calls Tryz.prog 127 #[v0,v1] w (RV (Vq (4*N+1) (a*c+b*d)) w):=by
 go_enter Tryz.func127,Tryz.ntmps127
 refine Sg 16 [(0,Vv N a b),(1,Vv N c d)] (Lq.2 ⟨⟨_,rfl,h0⟩,(Lq.2 ⟨⟨_,rfl,h1⟩,L0⟩)⟩) fun a0 st0=>Wn ?_
 refine rH [(30,4,0)] [VT,VT,VT] [⟨2,some 0,some 0,32,8,Vv N a b,VT⟩,⟨3,some 1,some 1,32,8,Vv N c d,VT⟩,⟨4,some 2,none,30,4,VT,VT⟩] [] st0 ⟨ks,ks,ks,trivial⟩ fun a1 w1 st1=>Wn ?_
 refine rH [(30,4,0)] [Vpt a1 2 0,Vq N a,Vpt a1 3 0,Vq N c,Vq (N+N) ((a)*(c)),Vpt a1 2 4,Vq N b,Vpt a1 3 4,Vq N d,Vq (N+N) ((b)*(d)),Vq ((N+N)+(N+N)+1) (((a)*(c))+((b)*(d))),VT] [.k 2 32 8 (Vv N a b),.k 3 32 8 (Vv N c d),⟨4,none,some 11,30,4,Vq ((N+N)+(N+N)+1) (((a)*(c))+((b)*(d))),VT⟩] [] st1 ⟨ks,ks,ks,ks,(kd2 fun _ _ _ _ _ X0 _ X1=>cR4Mul X0 X1),ks,ks,ks,ks,(kd2 fun _ _ _ _ _ X0 _ X1=>cR4Mul X0 X1),(kd2 fun _ _ _ _ _ X0 _ X1=>cR4Add X0 X1),ks,trivial⟩ fun a2 w2 st2=>Wn ?_
 exact wp_ret (rC 4 30 (Vq ((N+N)+(N+N)+1) (((a)*(c))+((b)*(d)))) st2 fun cs r4=>(Vq_le r4 (by omega)))
theorem cR5Cross {w:World}{N:Nat}{a b c d:Rat}{v0 v1:Value}(h0:Vv N a b v0 w)(h1:Vv N c d v1 w)(h3:3<=N:=by omega)(hN:N<=10000:=by omega):Calls Tryz.prog 84 #[v0,v1] w (RV (Vq (4*N+1) (a*d - b*c)) w):=by
 go_enter Tryz.func84,Tryz.ntmps84
 refine Sg 16 [(0,Vv N a b),(1,Vv N c d)] (Lq.2 ⟨⟨_,rfl,h0⟩,(Lq.2 ⟨⟨_,rfl,h1⟩,L0⟩)⟩) fun a0 st0=>Wn ?_
 refine rH [(30,4,0)] [VT,VT,VT] [⟨2,some 0,some 0,32,8,Vv N a b,VT⟩,⟨3,some 1,some 1,32,8,Vv N c d,VT⟩,⟨4,some 2,none,30,4,VT,VT⟩] [] st0 ⟨ks,ks,ks,trivial⟩ fun a1 w1 st1=>Wn ?_
 refine rH [(30,4,0)] [Vpt a1 2 0,Vq N a,Vpt a1 3 4,Vq N d,Vq (N+N) ((a)*(d)),Vpt a1 2 4,Vq N b,Vpt a1 3 0,Vq N c,Vq (N+N) ((b)*(c)),Vq ((N+N)+(N+N)+1) (((a)*(d)) - ((b)*(c))),VT] [.k 2 32 8 (Vv N a b),.k 3 32 8 (Vv N c d),⟨4,none,some 11,30,4,Vq ((N+N)+(N+N)+1) (((a)*(d)) - ((b)*(c))),VT⟩] [] st1 ⟨ks,ks,ks,ks,(kd2 fun _ _ _ _ _ X0 _ X1=>cR4Mul X0 X1),ks,ks,ks,ks,(kd2 fun _ _ _ _ _ X0 _ X1=>cR4Mul X0 X1),(kd2 fun _ _ _ _ _ X0 _ X1=>cR4Sub X0 X1),ks,trivial⟩ fun a2 w2 st2=>Wn ?_
 exact wp_ret (rC 4 30 (Vq ((N+N)+(N+N)+1) (((a)*(d)) - ((b)*(c)))) st2 fun cs r4=>(Vq_le r4 (by omega)))
theorem cR5Same {w:World}{N:Nat}{a b c d:Rat}{v0 v1:Value}(h0:Vv N a b v0 w)(h1:Vv N c d v1 w)(h3:3<=N:=by omega)(hN:N<=10000:=by omega):Calls Tryz.prog 18 #[v0,v1] w (RV (Vb (decide (a=c/\b=d))) w):=by
 go_enter Tryz.func18,Tryz.ntmps18
 refine Sg 17 [(0,Vv N a b),(1,Vv N c d)] (Lq.2 ⟨⟨_,rfl,h0⟩,(Lq.2 ⟨⟨_,rfl,h1⟩,L0⟩)⟩) fun a0 st0=>Wn ?_
 refine rH [] [VT,VT,Vb false] [⟨2,some 0,some 0,32,8,Vv N a b,VT⟩,⟨3,some 1,some 1,32,8,Vv N c d,VT⟩] [(4,Vb false)] st0 ⟨ks,ks,ks,trivial⟩ ?_;intro a1 w1 st1;by_cases hp:a=c
 ·
  refine Wn ?_
  refine rH [] [Vpt a1 2 0,Vq N a,Vpt a1 3 0,Vq N c,Vb true,Vb true,Vpt a1 2 4,Vq N b,Vpt a1 3 4,Vq N d,Vb (decide ((b)=(d))),Vb (decide ((b)=(d))),Vb (decide ((b)=(d)))] [.k 2 32 8 (Vv N a b),.k 3 32 8 (Vv N c d)] [(4,Vb (decide ((b)=(d))))] st1 ⟨ks,ks,ks,ks,(kd2 fun _ _ _ h _ X0 _ X1=>(cR4Same X0 X1).mono fun e w h=>h.le fun v w hv=>hv.trans (congrArg Value.bool (dT hp))),ks,ks,ks,ks,ks,(kd2 fun _ _ _ _ _ X0 _ X1=>cR4Same X0 X1),ks,ks,trivial⟩ fun a2 w2 st2=>Wn ?_
  exact wp_ret (rS 4 (Vb (decide ((b)=(d)))) st2 fun vr r4=>(by rw [show decide (a=c/\b=d)=decide (b=d) by simp [hp]];exact r4))
 ·
  refine Wn ?_
  refine rH [] [Vpt a1 2 0,Vq N a,Vpt a1 3 0,Vq N c,Vb false,Vb false,VT,VT,VT,VT,VT,Vb false,Vb false] [.k 2 32 8 (Vv N a b),.k 3 32 8 (Vv N c d)] [(4,Vb false)] st1 ⟨ks,ks,ks,ks,(kd2 fun _ _ _ h _ X0 _ X1=>(cR4Same X0 X1).mono fun e w h=>h.le fun v w hv=>hv.trans (congrArg Value.bool (dF hp))),ks,ks,ks,ks,ks,ks,ks,ks,trivial⟩ fun a2 w2 st2=>Wn ?_
  exact wp_ret (rS 4 (Vb false) st2 fun vr r4=>(by rw [show decide (a=c/\b=d)=false by simp [hp]];exact r4))
theorem cR5Side {w:World}{N:Nat}{a b c d e f:Rat}{v0 v1 v2:Value}(h0:Vv N a b v0 w)(h1:Vv N c d v1 w)(h2:Vv N e f v2 w)(h3:3<=N:=by omega)(hN:N<=1000:=by omega):Calls Tryz.prog 48 #[v0,v1,v2] w (RV (Vi (cmpI ((c - a)*(f - b) - (d - b)*(e - a)).num 0)) w):=by
 go_enter Tryz.func48,Tryz.ntmps48
 refine Sg 15 [(0,Vv N a b),(1,Vv N c d),(2,Vv N e f)] (Lq.2 ⟨⟨_,rfl,h0⟩,(Lq.2 ⟨⟨_,rfl,h1⟩,(Lq.2 ⟨⟨_,rfl,h2⟩,L0⟩)⟩)⟩) fun a0 st0=>Wn ?_
 refine rH [] [VT,VT,VT,Vi 0] [⟨3,some 0,some 0,32,8,Vv N a b,VT⟩,⟨4,some 1,some 1,32,8,Vv N c d,VT⟩,⟨5,some 2,some 2,32,8,Vv N e f,VT⟩] [(6,Vi 0)] st0 ⟨ks,ks,ks,ks,trivial⟩ fun a1 w1 st1=>Wn ?_
 refine rH [] [Vv N c d,Vv N a b,Vv (N+N+1) ((c) - a) ((d) - b),Vv N e f,Vv N a b,Vv (N+N+1) ((e) - a) ((f) - b),Vq (4*(N+N+1)+1) (((c) - a)*((f) - b) - ((d) - b)*((e) - a)),Vi (cmpI (((c) - a)*((f) - b) - ((d) - b)*((e) - a)).num 0),Vi (cmpI (((c) - a)*((f) - b) - ((d) - b)*((e) - a)).num 0)] [.k 3 32 8 (Vv N a b),.k 4 32 8 (Vv N c d),.k 5 32 8 (Vv N e f)] [(6,Vi (cmpI (((c) - a)*((f) - b) - ((d) - b)*((e) - a)).num 0))] st1 ⟨ks,ks,(kd2 fun _ _ _ _ _ X0 _ X1=>cR5Sub X0 X1),ks,ks,(kd2 fun _ _ _ _ _ X0 _ X1=>cR5Sub X0 X1),(kd2 fun _ _ _ _ _ X0 _ X1=>cR5Cross X0 X1),(kd1 fun _ _ _ _ _ X0=>cR4Sign X0),ks,trivial⟩ fun a2 w2 st2=>Wn ?_
 exact wp_ret (rS 6 (Vi (cmpI (((c) - a)*((f) - b) - ((d) - b)*((e) - a)).num 0)) st2 fun vr r4=>r4)
theorem cR5Of {w:World}{p q:Int}{v0 v1:Value}(h0:Vi p v0 w)(h1:Vi q v1 w)(hp0: -9223372036854775808<=p:=by omega)(hp1:p<=9223372036854775807:=by omega)(hq0: -9223372036854775808<=q:=by omega)(hq1:q<=9223372036854775807:=by omega):Calls Tryz.prog 37 #[v0,v1] w (RV (Vv 3 (Rat.divInt p 1) (Rat.divInt q 1)) w):=by
 go_enter Tryz.func37,Tryz.ntmps37
 refine Sg 10 [(0,Vi p),(1,Vi q)] (Lq.2 ⟨⟨_,rfl,h0⟩,(Lq.2 ⟨⟨_,rfl,h1⟩,L0⟩)⟩) fun a0 st0=>Wn ?_
 refine rH [(32,8,0)] [VT] [⟨4,some 0,none,32,8,VT,VT⟩] [(0,Vi p),(1,Vi q)] st0 ⟨ks,trivial⟩ fun a1 w1 st1=>Wn ?_
 refine rH [(32,8,0)] [Vi p,Vq 3 (Rat.divInt p 1),Vi q,Vq 3 (Rat.divInt q 1),Vv 3 (Rat.divInt p 1) (Rat.divInt q 1),VT] [⟨4,none,some 5,32,8,Vv 3 (Rat.divInt p 1) (Rat.divInt q 1),VT⟩] [] st1 ⟨ks,(by refine kc fun _ A Y h D=>?_;obtain⟨v0,x0,X0⟩:=h.dp D 5;exact⟨#[v0,.int .i64 1],by simp [x0,eval_const],cR4Of X0 (show Vi 1 (.int .i64 1) Y from rfl)⟩),ks,(by refine kc fun _ A Y h D=>?_;obtain⟨v0,x0,X0⟩:=h.dp D 7;exact⟨#[v0,.int .i64 1],by simp [x0,eval_const],cR4Of X0 (show Vi 1 (.int .i64 1) Y from rfl)⟩),(kr2 6 8 fun _ _ _ _ _ x0 X0 _ x1 X1=>build_Vec rfl x0 x1 (AggV_Vq _ _) (AggV_Vq _ _) X0 X1),ks,trivial⟩ ?_;intro a2 w2 st2;refine Wn ?_
 exact wp_ret (rC 4 32 (Vv 3 (Rat.divInt p 1) (Rat.divInt q 1)) st2 fun cs r4=>r4)


section
variable {BT:List (TypeId×Nat×Nat)}
section
variable {P:Program}{md:Region.Mode}{ops:Array Oper}{Q:Exit->Act->World->Prop}{a0:Act}{V:Nat->VP}{n0:Nat}{w0:World}{B:List Bd}{SL:List (Nat×VP)}
theorem k_part0 {i:Nat}{o:Oper}{b:Bd}{d:TypeDesc}{T:TypeId}{s j off k kk:Nat}(hBP:∀b∈B,b.stab BT)(hq:quietB B i o.dst=true)(hb:b∈B)(ho:o.op= .load T (.tmp s))(hon:b.ia=none)(hok:b.ik=some kk)(hkk:(match ops[kk]? with|some o=>o.after.any (fun e=>e.on==i && Region.binds md e)|none=>false)=true)(hj:o.after.any (fun e=>e.on==j && Region.binds md e)=true)(hdst:(ops[j]?).bind (·.dst)=some s)(hVj:V j=Vpt a0 b.t off)
 (hbt:ops.all (fun o=>o.dst !=some b.t)=true) (hk:off+k<=b.m) (hV:∀cs w,b.P0 (.agg cs) w->V i (.agg (cs.extract off (off+k))) w)
 (hu:P.underlying T=some d) (hdd:aggT d=true) (hi:(P.info? T).map (·.size)=some k) (H:Ask md ops a0 V n0 w0 B SL o fun _ _ _=>True):KStep BT P md ops Q a0 V n0 w0 B SL i o:=by
 intro listed a w h D _ _ hnl K hK;obtain⟨hg,-⟩:=H listed a w h D;rw [if_pos (wanted_of hg)];obtain⟨g,cs,e1,e2,e3,e4,e5,-,e7⟩:=h.k.ok b hb (by rw [hon];rfl);have hP:=e7 hon (by rw [hok];exact h.not_yet hnl hkk);obtain⟨v,hv,-,hVv⟩:=h.dep D j s hj hdst;rw [hVj] at hVv;obtain⟨g',f1,rfl⟩:=hVv
 have ho1:=h.other b.t fun i o ho=>by
  rw [Array.all_eq_true'] at hbt;have:=hbt o (Array.mem_of_getElem? ho)
  simpa using this
 rw [e1,f1] at ho1;simp at ho1;subst ho1;unfold Oper.wp execOp;simp only [ho,hv,Instr.loadAt,Instr.sureAddr,Sem.run_bind,Sem.run_pure,Result.andThen_ok,run_loadVar_part w g off k b.T T cs (0,0) d e3 (by omega) hu hdd hi];exact hK _ w (h.k.quiet hq hBP h.n (Below.refl _ _)) (RI.refl w) (hV _ _ hP)
end
section
variable {ρ:Operand->Value}{o:Oper}{W:World}{x y:Operand}{va vb:Value}{A B:VP}{a b:Int}
theorem run_eqb {c d:Bool}(ho:o.op= .binOp .eql 4 x y 4)(hx:ρ x= .bool c)(hy:ρ y= .bool d):(execOp ρ o).run Tryz.prog W= .ok (.value (.bool (c==d))) W:=by
 obtain⟨dd,op,ty,ps,af,gd⟩:=o;subst ho;cases c<;>cases d<;>go_simp
theorem build_Vec0 (ho:o.op= .build 32 #[]):∃v,(execOp ρ o).run Tryz.prog W= .ok (.value v) W/\Vv 1 0 0 v W:=by
 have hz:Vq 1 0 (.agg (#[.bool false,.slice none 0 0]++ #[.bool false,.slice none 0 0])) W:=⟨_,_,rfl,rfl,rfl,⟨_,_,_,_,rfl,IntAt_zero _ _ _ (by omega),by omega⟩,⟨_,_,_,_,rfl,IntAt_zero _ _ _ (by omega),by omega⟩⟩;refine⟨.agg ((#[.bool false,.slice none 0 0]++ #[.bool false,.slice none 0 0])++(#[.bool false,.slice none 0 0]++ #[.bool false,.slice none 0 0])),?_,⟨_,_,rfl,rfl,rfl,hz,hz⟩⟩;obtain⟨dd,op,ty,ps,af,gd⟩:=o;subst ho
 go_simp
end
theorem vzz_D3 {N:Nat}{a b:Int}{cs:Array Value}{w:World}(h:VP2 2 2 (Vz N a) (Vz N b) (.agg cs) w):∃v,cs[3]? =some v/\VD N b v w:=by
 obtain⟨x,y,h1,h2,h3,h4,h5⟩:=h;obtain⟨nb,p,n,c,e1,e2,-⟩:=h4;obtain⟨nb2,p2,n2,c2,f1,f2,f3⟩:=h5;cases h3;cases e1;cases f1;exact⟨_,rfl,p2,n2,c2,rfl,f2.2.1,f2.2.2.1,f2.2.2.2.1,f2.2.2.2.2,f3⟩
instance (N:Nat)(a b:Int):CeC (VP2 2 2 (Vz N a) (Vz N b)) 3 (VD N b):=⟨fun _ _ h=>vzz_D3 h⟩
theorem vzz_N2 {N:Nat}{a b:Int}{cs:Array Value}{w:World}(h:VP2 2 2 (Vz N a) (Vz N b) (.agg cs) w):∃v,cs[2]? =some v/\Vb (decide (b<0)) v w:=by
 obtain⟨x,y,h1,h2,h3,h4,h5⟩:=h;obtain⟨nb,p,n,c,e1,e2,-⟩:=h4;obtain⟨nb2,p2,n2,c2,f1,f2,f3⟩:=h5;cases h3;cases e1;cases f1;exact⟨_,rfl,congrArg Value.bool f2.1⟩
theorem vzz_N2T {N:Nat}{a b:Int}{cs:Array Value}{w:World}(h:VP2 2 2 (Vz N a) (Vz N b) (.agg cs) w)(hz:b<0):∃v,cs[2]? =some v/\Vb true v w:=by
 obtain⟨v,h1,h2⟩:=vzz_N2 h;rw [dT hz] at h2;exact⟨v,h1,h2⟩
theorem vzz_N2F {N:Nat}{a b:Int}{cs:Array Value}{w:World}(h:VP2 2 2 (Vz N a) (Vz N b) (.agg cs) w)(hz:¬b<0):∃v,cs[2]? =some v/\Vb false v w:=by
 obtain⟨v,h1,h2⟩:=vzz_N2 h;rw [dF hz] at h2;exact⟨v,h1,h2⟩
theorem cR3Valid {W:World}{N:Nat}{z:Int}{v:Value}(h:Vz N z v W)(hN:N<=1000000:=by omega):Calls Tryz.prog 138 #[v] W (RV (Vb true) W):=by
 obtain⟨nb,p,n,c,rfl,hI,hn⟩:=h;have:=rValid_any nb p n c (digs z.natAbs) W hI.2.2.1 hI.2.1 (by omega);rw [vld_int hI.1] at this;exact this.mono fun e w' h=>⟨_,h.1,rfl,h.2⟩
end
theorem size_segment:(Tryz.prog.info? 73).map (·.size)=some 16:=by kernel_rfl
theorem field_segment0 (g off:Nat)(W:World):(Instr.fieldAt 73 (.pointer (some ⟨g,off,none⟩)) 0).run Tryz.prog W= .ok (.pointer (some ⟨g,off+0,none⟩)) W:=by go_simp
theorem field_segment1 (g off:Nat)(W:World):(Instr.fieldAt 73 (.pointer (some ⟨g,off,none⟩)) 1).run Tryz.prog W= .ok (.pointer (some ⟨g,off+8,none⟩)) W:=by go_simp
theorem alloc_segment (W:World):(Instr.alloc 73 true (.tuple #[])).run Tryz.prog W= .ok (.pointer (some ⟨W.heap.size,0,none⟩)) (W.alloc (.cells #[.bool false,.slice none 0 0,.bool false,.slice none 0 0,.bool false,.slice none 0 0,.bool false,.slice none 0 0,.bool false,.slice none 0 0,.bool false,.slice none 0 0,.bool false,.slice none 0 0,.bool false,.slice none 0 0] 73)):=by go_simp
theorem noint_segment:NoInt #[Value.bool false,.slice none 0 0,.bool false,.slice none 0 0,.bool false,.slice none 0 0,.bool false,.slice none 0 0,.bool false,.slice none 0 0,.bool false,.slice none 0 0,.bool false,.slice none 0 0,.bool false,.slice none 0 0]:=noint_of (by simp)
instance iSzsegment:SzT 73 16:=⟨⟨_,Tryz.underlying73,rfl⟩,size_segment⟩
instance iFdsegment0:FdT 73 0 0:=⟨field_segment0⟩
instance iFdsegment1:FdT 73 1 8:=⟨field_segment1⟩
instance iAlsegment:AlT 73 16:=⟨_,alloc_segment,rfl,noint_segment⟩
theorem build_segment {ρ:Operand->Value}{o:Oper}{W:World}{x y:Operand}{va vb:Value}{A B:VP}(ho:o.op= .build 73 #[(0,x),(1,y)])(hx:ρ x=va)(hy:ρ y=vb)(hA:AggV 8 A)(hB:AggV 8 B)(h1:A va W)(h2:B vb W):∃v,(execOp ρ o).run Tryz.prog W= .ok (.value v) W/\VP2 8 8 A B v W:=by
 obtain⟨cx,rfl,e1,-⟩:=hA _ _ h1;obtain⟨cy,rfl,e2,-⟩:=hB _ _ h2;obtain⟨a0,a1,a2,a3,a4,a5,a6,a7,rfl⟩:=arr8 e1;obtain⟨b0,b1,b2,b3,b4,b5,b6,b7,rfl⟩:=arr8 e2;refine⟨.agg (#[a0,a1,a2,a3,a4,a5,a6,a7]++ #[b0,b1,b2,b3,b4,b5,b6,b7]),?_,⟨_,_,rfl,rfl,rfl,h1,h2⟩⟩;clear h1 h2;obtain⟨dd,op,ty,ps,af,gd⟩:=o;subst ho
 go_simp
abbrev P2:=Rat×Rat
def crs (a b:P2):Rat:=a.1*b.2+ -a.2*b.1
def sdI (a b p:P2):Int:=cmpI ((b.1 - a.1)*(p.2 - a.2)+ -(b.2 - a.2)*(p.1 - a.1)).num 0
def cmpV (a b:P2):Int:=if cmpQ a.1 b.1=0 then cmpQ a.2 b.2 else cmpQ a.1 b.1
def loV (a b:P2):P2:=if 0<cmpV a b then b else a
def hiV (a b:P2):P2:=if 0<cmpV a b then a else b
def ovl (a b c d:P2):Bool:=decide (cmpV (loV a b) (hiV c d)<=0) && decide (cmpV (loV c d) (hiV a b)<=0)
def prt (a b c d:P2):Bool:=decide (sdI a b c*sdI a b d<=0)
def hasS (a b p:P2):Bool:=ovl a b p p && (sdI a b p==0)
def mts (a b c d:P2):Bool:=ovl a b c d && (prt a b c d && prt c d a b)
def abv (a p:P2):Bool:=decide (0<cmpQ a.2 p.2)
def rgt (a b p:P2):Bool:=if abv a p==abv b p then false else if abv b p then decide (0<sdI a b p)else decide (sdI a b p<0)
theorem cmpI_abs (x y:Int):cmpI x y= -1∨cmpI x y=0∨cmpI x y=1:=by
 unfold cmpI;split
 ·simp
 ·split<;>simp
def lsQ (x y:Rat):Rat:=if cmpQ x y<=0 then x else y
def grQ (x y:Rat):Rat:=if 0<=cmpQ x y then x else y
theorem cSgCross {w:World}{N:Nat}{a b:P2}{v0:Value}(h0:Vp N a.1 a.2 b.1 b.2 v0 w)(hN1:1<=N:=by omega)(hN:N<=1000:=by omega):Calls Tryz.prog 63 #[v0] w (RV (Vq (4*N+1) (crs a b)) w):=by
 go_enter Tryz.func63,Tryz.ntmps63
 refine Sg 8 [(0,Vp N a.1 a.2 b.1 b.2)] (Lq.2 ⟨⟨_,rfl,h0⟩,L0⟩) fun a0 st0=>Wn ?_
 refine rH [(30,4,0)] [VT,VT] [⟨1,some 0,some 0,73,16,Vp N a.1 a.2 b.1 b.2,VT⟩,⟨2,some 1,none,30,4,VT,VT⟩] [] st0 ⟨ks,ks,trivial⟩ fun a1 w1 st1=>Wn ?_
 refine rH [(30,4,0)] [Vpt a1 1 0,Vv N a.1 a.2,Vpt a1 1 8,Vv N b.1 b.2,Vq (4*N+1) ((a.1)*(b.2)+ -(a.2)*(b.1)),VT] [.k 1 73 16 (Vp N a.1 a.2 b.1 b.2),⟨2,none,some 5,30,4,Vq (4*N+1) ((a.1)*(b.2)+ -(a.2)*(b.1)),VT⟩] [] st1 ⟨ks,ks,ks,ks,(kd2 fun _ _ _ _ _ X0 _ X1=>cCross X0 X1),ks,trivial⟩ fun a2 w2 st2=>Wn ?_
 exact wp_ret (rC 2 30 (Vq (4*N+1) ((a.1)*(b.2)+ -(a.2)*(b.1))) st2 fun cs r4=>r4)
theorem cSgSide {w:World}{N:Nat}{a b p:P2}{v0 v1:Value}(h0:Vp N a.1 a.2 b.1 b.2 v0 w)(h1:Vv N p.1 p.2 v1 w)(hN1:1<=N:=by omega)(hN:N<=1000:=by omega):Calls Tryz.prog 90 #[v0,v1] w (RV (Vi (sdI a b p)) w):=by
 go_enter Tryz.func90,Tryz.ntmps90
 refine Sg 11 [(0,Vp N a.1 a.2 b.1 b.2),(1,Vv N p.1 p.2)] (Lq.2 ⟨⟨_,rfl,h0⟩,(Lq.2 ⟨⟨_,rfl,h1⟩,L0⟩)⟩) fun a0 st0=>Wn ?_
 refine rH [] [VT,VT,Vi 0] [⟨2,some 0,some 0,73,16,Vp N a.1 a.2 b.1 b.2,VT⟩,⟨3,some 1,some 1,32,8,Vv N p.1 p.2,VT⟩] [(4,Vi 0)] st0 ⟨ks,ks,ks,trivial⟩ fun a1 w1 st1=>Wn ?_
 refine rH [] [Vpt a1 2 0,Vv N a.1 a.2,Vpt a1 2 8,Vv N b.1 b.2,Vv N p.1 p.2,Vi (cmpI (((b.1) - a.1)*((p.2) - a.2)+ -((b.2) - a.2)*((p.1) - a.1)).num 0),Vi (cmpI (((b.1) - a.1)*((p.2) - a.2)+ -((b.2) - a.2)*((p.1) - a.1)).num 0)] [.k 2 73 16 (Vp N a.1 a.2 b.1 b.2),.k 3 32 8 (Vv N p.1 p.2)] [(4,Vi (cmpI (((b.1) - a.1)*((p.2) - a.2)+ -((b.2) - a.2)*((p.1) - a.1)).num 0))] st1 ⟨ks,ks,ks,ks,ks,(by refine kc fun _ A Y h D=>?_;obtain⟨v0,x0,X0⟩:=h.dp D 6;obtain⟨v1,x1,X1⟩:=h.dp D 8;obtain⟨v2,x2,X2⟩:=h.dp D 9;exact⟨#[v0,v1,v2],by simp [x0,x1,x2],cSide X0 X1 X2⟩),ks,trivial⟩ ?_;intro a2 w2 st2;refine Wn ?_
 exact wp_ret (rS 4 (Vi (cmpI (((b.1) - a.1)*((p.2) - a.2)+ -((b.2) - a.2)*((p.1) - a.1)).num 0)) st2 fun vr r4=>r4)
theorem cAbove {w:World}{N:Nat}{a p:P2}{v0 v1:Value}(h0:Vv N a.1 a.2 v0 w)(h1:Vv N p.1 p.2 v1 w)(hN1:1<=N:=by omega)(hN:N<=1000:=by omega):Calls Tryz.prog 91 #[v0,v1] w (RV (Vb (abv a p)) w):=by
 go_enter Tryz.func91,Tryz.ntmps91
 refine Sg 11 [(0,Vv N a.1 a.2),(1,Vv N p.1 p.2)] (Lq.2 ⟨⟨_,rfl,h0⟩,(Lq.2 ⟨⟨_,rfl,h1⟩,L0⟩)⟩) fun a0 st0=>Wn ?_
 refine rH [] [VT,VT,Vb false] [⟨2,some 0,some 0,32,8,Vv N a.1 a.2,VT⟩,⟨3,some 1,some 1,32,8,Vv N p.1 p.2,VT⟩] [(4,Vb false)] st0 ⟨ks,ks,ks,trivial⟩ fun a1 w1 st1=>Wn ?_
 refine rH [] [Vpt a1 2 4,Vq N a.2,Vpt a1 3 4,Vq N p.2,Vi (cmpQ a.2 p.2),Vb (decide ((0)<(cmpQ a.2 p.2))),Vb (decide ((0)<(cmpQ a.2 p.2)))] [.k 2 32 8 (Vv N a.1 a.2),.k 3 32 8 (Vv N p.1 p.2)] [(4,Vb (decide ((0)<(cmpQ a.2 p.2))))] st1 ⟨ks,ks,ks,ks,(kd2 fun _ _ _ _ _ X0 _ X1=>cQCompare X0 X1),(kr1 9 fun _ _ _ _ _ x0 X0=>⟨_,run_gtri rfl (x0.trans X0) rfl,congrArg Value.bool rfl⟩),ks,trivial⟩ fun a2 w2 st2=>Wn ?_
 exact wp_ret (rS 4 (Vb (decide ((0)<(cmpQ a.2 p.2)))) st2 fun vr r4=>r4)
theorem cSgOrdered {w:World}{N:Nat}{a b:P2}{v0:Value}(h0:Vp N a.1 a.2 b.1 b.2 v0 w)(hN1:1<=N:=by omega)(hN:N<=1000:=by omega):Calls Tryz.prog 124 #[v0] w (RV (VTup (Vv N (loV a b).1 (loV a b).2) (Vv N (hiV a b).1 (hiV a b).2)) w):=by
 go_enter Tryz.func124,Tryz.ntmps124
 refine Sg 18 [(0,Vp N a.1 a.2 b.1 b.2)] (Lq.2 ⟨⟨_,rfl,h0⟩,L0⟩) fun a0 st0=>Wn ?_
 refine rH [(32,8,0)] [VT,VT,VT] [⟨1,some 0,some 0,73,16,Vp N a.1 a.2 b.1 b.2,VT⟩,⟨2,some 1,none,32,8,VT,VT⟩,⟨3,some 2,none,32,8,VT,VT⟩] [] st0 ⟨ks,ks,ks,trivial⟩ ?_;intro a1 w1 st1;by_cases hcc:0<cmpV a b
 ·
  refine Wn ?_
  refine rH [(32,8,0)] [Vpt a1 1 0,Vv N a.1 a.2,Vpt a1 1 8,Vv N b.1 b.2,Vi (cmpV a b),Vb true] [.k 1 73 16 (Vp N a.1 a.2 b.1 b.2),.k 2 32 8 VT,.k 3 32 8 VT] [(9,Vb true)] st1 ⟨ks,ks,ks,ks,(kd2 fun _ _ _ _ _ X0 _ X1=>cVCompare X0 X1),(kr1 8 fun _ _ _ _ _ x0 X0=>⟨_,run_gtri rfl (x0.trans X0) rfl,congrArg Value.bool (dT hcc)⟩),trivial⟩ fun a2 w2 st2=>Wn ?_
  refine cT st2 ?_;refine Wn ?_
  refine rH [(32,8,0)] [Vpt a2 1 8,Vv N b.1 b.2,Vpt a2 1 0,Vv N a.1 a.2,VT,VT] [.k 1 73 16 (Vp N a.1 a.2 b.1 b.2),⟨2,none,some 4,32,8,Vv N b.1 b.2,VT⟩,⟨3,none,some 5,32,8,Vv N a.1 a.2,VT⟩] [(9,Vb true)] st2 ⟨ks,ks,ks,ks,ks,ks,trivial⟩ fun a3 w3 st3=>Wn ?_
  obtain⟨g,cs,r1,r2,r3,r4,r5⟩:=st3.res (.k 2 32 8 (Vv N b.1 b.2)) (.tail _ (.head _)) rfl rfl;obtain⟨g2,cs2,p1,p2,p3,p4,p5⟩:=st3.res (.k 3 32 8 (Vv N a.1 a.2)) (.tail _ (.tail _ (.head _))) rfl rfl;exact wp_ret (bodyPost_ret (results_cell2 rfl _ _ g g2 32 cs cs2 (0,0) (0,0) _ r1 p1 r2 p2 Tryz.underlying32 rfl (by rw [r3];exact size_Vec) (by rw [p3];exact size_Vec)) st3.defers ⟨_,rfl,⟨_,_,rfl,(by rw [show loV a b=b from if_pos hcc];exact r4),(by rw [show hiV a b=a from if_pos hcc];exact p4)⟩,r5⟩)
 ·
  refine Wn ?_
  refine rH [(32,8,0)] [Vpt a1 1 0,Vv N a.1 a.2,Vpt a1 1 8,Vv N b.1 b.2,Vi (cmpV a b),Vb false] [.k 1 73 16 (Vp N a.1 a.2 b.1 b.2),.k 2 32 8 VT,.k 3 32 8 VT] [(9,Vb false)] st1 ⟨ks,ks,ks,ks,(kd2 fun _ _ _ _ _ X0 _ X1=>cVCompare X0 X1),(kr1 8 fun _ _ _ _ _ x0 X0=>⟨_,run_gtri rfl (x0.trans X0) rfl,congrArg Value.bool (dF hcc)⟩),trivial⟩ fun a2 w2 st2=>Wn ?_
  refine cF st2 ?_;refine Wn ?_
  refine rH [(32,8,0)] [Vpt a2 1 0,Vv N a.1 a.2,Vpt a2 1 8,Vv N b.1 b.2,VT,VT] [.k 1 73 16 (Vp N a.1 a.2 b.1 b.2),⟨2,none,some 4,32,8,Vv N a.1 a.2,VT⟩,⟨3,none,some 5,32,8,Vv N b.1 b.2,VT⟩] [(9,Vb false)] st2 ⟨ks,ks,ks,ks,ks,ks,trivial⟩ fun a3 w3 st3=>Wn ?_
  obtain⟨g,cs,r1,r2,r3,r4,r5⟩:=st3.res (.k 2 32 8 (Vv N a.1 a.2)) (.tail _ (.head _)) rfl rfl;obtain⟨g2,cs2,p1,p2,p3,p4,p5⟩:=st3.res (.k 3 32 8 (Vv N b.1 b.2)) (.tail _ (.tail _ (.head _))) rfl rfl;exact wp_ret (bodyPost_ret (results_cell2 rfl _ _ g g2 32 cs cs2 (0,0) (0,0) _ r1 p1 r2 p2 Tryz.underlying32 rfl (by rw [r3];exact size_Vec) (by rw [p3];exact size_Vec)) st3.defers ⟨_,rfl,⟨_,_,rfl,(by rw [show loV a b=a from if_neg hcc];exact r4),(by rw [show hiV a b=b from if_neg hcc];exact p4)⟩,r5⟩)
theorem cSgOverlaps {w:World}{N:Nat}{a b c d:P2}{v0 v1:Value}(h0:Vp N a.1 a.2 b.1 b.2 v0 w)(h1:Vp N c.1 c.2 d.1 d.2 v1 w)(hN1:1<=N:=by omega)(hN:N<=1000:=by omega):Calls Tryz.prog 89 #[v0,v1] w (RV (Vb (ovl a b c d)) w):=by
 go_enter Tryz.func89,Tryz.ntmps89
 refine Sg 29 [(0,Vp N a.1 a.2 b.1 b.2),(1,Vp N c.1 c.2 d.1 d.2)] (Lq.2 ⟨⟨_,rfl,h0⟩,(Lq.2 ⟨⟨_,rfl,h1⟩,L0⟩)⟩) fun a0 st0=>Wn ?_
 refine rH [(32,8,0)] [VT,VT,Vb false] [⟨2,some 0,some 0,73,16,Vp N a.1 a.2 b.1 b.2,VT⟩,⟨3,some 1,some 1,73,16,Vp N c.1 c.2 d.1 d.2,VT⟩] [(4,Vb false)] st0 ⟨ks,ks,ks,trivial⟩ fun a1 w1 st1=>Wn ?_
 refine rH [(32,8,0)] [Vp N a.1 a.2 b.1 b.2,VTup (Vv N ((loV a b).1) ((loV a b).2)) (Vv N ((hiV a b).1) ((hiV a b).2)),VTup (Vv N ((loV a b).1) ((loV a b).2)) (Vv N ((hiV a b).1) ((hiV a b).2)),Vv N ((loV a b).1) ((loV a b).2),Vv N ((hiV a b).1) ((hiV a b).2),VT,VT,VT,VT] [.k 2 73 16 (Vp N a.1 a.2 b.1 b.2),.k 3 73 16 (Vp N c.1 c.2 d.1 d.2),⟨5,some 5,some 7,32,8,Vv N ((loV a b).1) ((loV a b).2),VT⟩,⟨6,some 6,some 8,32,8,Vv N ((hiV a b).1) ((hiV a b).2),VT⟩] [(4,Vb false)] st1 ⟨ks,(kd1 fun _ _ _ _ _ X0=>cSgOrdered X0),ks,ks,ks,ks,ks,ks,ks,trivial⟩ fun a2 w2 st2=>Wn ?_
 refine rH [(32,8,0)] [Vp N c.1 c.2 d.1 d.2,VTup (Vv N ((loV c d).1) ((loV c d).2)) (Vv N ((hiV c d).1) ((hiV c d).2)),VTup (Vv N ((loV c d).1) ((loV c d).2)) (Vv N ((hiV c d).1) ((hiV c d).2)),Vv N ((loV c d).1) ((loV c d).2),Vv N ((hiV c d).1) ((hiV c d).2),VT,VT,VT,VT] [.k 2 73 16 (Vp N a.1 a.2 b.1 b.2),.k 3 73 16 (Vp N c.1 c.2 d.1 d.2),.k 5 32 8 (Vv N ((loV a b).1) ((loV a b).2)),.k 6 32 8 (Vv N ((hiV a b).1) ((hiV a b).2)),⟨7,some 5,some 7,32,8,Vv N ((loV c d).1) ((loV c d).2),VT⟩,⟨8,some 6,some 8,32,8,Vv N ((hiV c d).1) ((hiV c d).2),VT⟩] [(4,Vb false)] st2 ⟨ks,(kd1 fun _ _ _ _ _ X0=>cSgOrdered X0),ks,ks,ks,ks,ks,ks,ks,trivial⟩ ?_;intro a3 w3 st3;by_cases h1c:cmpV (loV a b) (hiV c d)<=0
 ·
  by_cases h2c:cmpV (loV c d) (hiV a b)<=0
  ·
   refine Wn ?_
   refine rH [(32,8,0)] [Vv N ((loV a b).1) ((loV a b).2),Vv N ((hiV c d).1) ((hiV c d).2),Vi (cmpV (loV a b) (hiV c d)),Vb true,Vb true,Vv N ((loV c d).1) ((loV c d).2),Vv N ((hiV a b).1) ((hiV a b).2),Vi (cmpV (loV c d) (hiV a b)),Vb true,Vb true,Vb true] [.k 2 73 16 (Vp N a.1 a.2 b.1 b.2),.k 3 73 16 (Vp N c.1 c.2 d.1 d.2),.k 5 32 8 (Vv N ((loV a b).1) ((loV a b).2)),.k 6 32 8 (Vv N ((hiV a b).1) ((hiV a b).2)),.k 7 32 8 (Vv N ((loV c d).1) ((loV c d).2)),.k 8 32 8 (Vv N ((hiV c d).1) ((hiV c d).2))] [(4,Vb true)] st3 ⟨ks,ks,(kd2 fun _ _ _ _ _ X0 _ X1=>cVCompare X0 X1),(kr1 21 fun _ _ _ _ _ x0 X0=>⟨_,run_leqi rfl (x0.trans X0) rfl,congrArg Value.bool (dT h1c)⟩),ks,ks,ks,(kd2 fun _ _ _ _ _ X0 _ X1=>cVCompare X0 X1),(kr1 26 fun _ _ _ _ _ x0 X0=>⟨_,run_leqi rfl (x0.trans X0) rfl,congrArg Value.bool (dT h2c)⟩),ks,ks,trivial⟩ fun a4 w4 st4=>Wn ?_
   exact wp_ret (rS 4 (Vb true) st4 fun vr r4=>(by rw [show ovl a b c d=true from by unfold ovl;simp [h1c,h2c]];exact r4))
  ·
   refine Wn ?_
   refine rH [(32,8,0)] [Vv N ((loV a b).1) ((loV a b).2),Vv N ((hiV c d).1) ((hiV c d).2),Vi (cmpV (loV a b) (hiV c d)),Vb true,Vb true,Vv N ((loV c d).1) ((loV c d).2),Vv N ((hiV a b).1) ((hiV a b).2),Vi (cmpV (loV c d) (hiV a b)),Vb false,Vb false,Vb false] [.k 2 73 16 (Vp N a.1 a.2 b.1 b.2),.k 3 73 16 (Vp N c.1 c.2 d.1 d.2),.k 5 32 8 (Vv N ((loV a b).1) ((loV a b).2)),.k 6 32 8 (Vv N ((hiV a b).1) ((hiV a b).2)),.k 7 32 8 (Vv N ((loV c d).1) ((loV c d).2)),.k 8 32 8 (Vv N ((hiV c d).1) ((hiV c d).2))] [(4,Vb false)] st3 ⟨ks,ks,(kd2 fun _ _ _ _ _ X0 _ X1=>cVCompare X0 X1),(kr1 21 fun _ _ _ _ _ x0 X0=>⟨_,run_leqi rfl (x0.trans X0) rfl,congrArg Value.bool (dT h1c)⟩),ks,ks,ks,(kd2 fun _ _ _ _ _ X0 _ X1=>cVCompare X0 X1),(kr1 26 fun _ _ _ _ _ x0 X0=>⟨_,run_leqi rfl (x0.trans X0) rfl,congrArg Value.bool (dF h2c)⟩),ks,ks,trivial⟩ fun a4 w4 st4=>Wn ?_
   exact wp_ret (rS 4 (Vb false) st4 fun vr r4=>(by rw [show ovl a b c d=false from by unfold ovl;simp [h2c]];exact r4))
 ·
  refine Wn ?_
  refine rH [(32,8,0)] [Vv N ((loV a b).1) ((loV a b).2),Vv N ((hiV c d).1) ((hiV c d).2),Vi (cmpV (loV a b) (hiV c d)),Vb false,Vb false,VT,VT,VT,VT,Vb false,Vb false] [.k 2 73 16 (Vp N a.1 a.2 b.1 b.2),.k 3 73 16 (Vp N c.1 c.2 d.1 d.2),.k 5 32 8 (Vv N ((loV a b).1) ((loV a b).2)),.k 6 32 8 (Vv N ((hiV a b).1) ((hiV a b).2)),.k 7 32 8 (Vv N ((loV c d).1) ((loV c d).2)),.k 8 32 8 (Vv N ((hiV c d).1) ((hiV c d).2))] [(4,Vb false)] st3 ⟨ks,ks,(kd2 fun _ _ _ _ _ X0 _ X1=>cVCompare X0 X1),(kr1 21 fun _ _ _ _ _ x0 X0=>⟨_,run_leqi rfl (x0.trans X0) rfl,congrArg Value.bool (dF h1c)⟩),ks,ks,ks,ks,ks,ks,ks,trivial⟩ fun a4 w4 st4=>Wn ?_
  exact wp_ret (rS 4 (Vb false) st4 fun vr r4=>(by rw [show ovl a b c d=false from by unfold ovl;simp [h1c]];exact r4))
theorem cSgParts {w:World}{N:Nat}{a b c d:P2}{v0 v1:Value}(h0:Vp N a.1 a.2 b.1 b.2 v0 w)(h1:Vp N c.1 c.2 d.1 d.2 v1 w)(hN1:1<=N:=by omega)(hN:N<=1000:=by omega):Calls Tryz.prog 114 #[v0,v1] w (RV (Vb (prt a b c d)) w):=by
 go_enter Tryz.func114,Tryz.ntmps114
 generalize hA:(⟨_,_⟩:Act)=a0;have st0:St w.heap.size w 15 [] [(0,Vp N a.1 a.2 b.1 b.2),(1,Vp N c.1 c.2 d.1 d.2)] a0 w:=by subst hA;exact St.begin rfl rfl (Lq.2 ⟨⟨_,rfl,h0⟩,(Lq.2 ⟨⟨_,rfl,h1⟩,L0⟩)⟩)
 clear hA;have k1:=cmpI_abs (((b.1 - a.1)*(c.2 - a.2)+ -(b.2 - a.2)*(c.1 - a.1)).num) 0;have k2:=cmpI_abs (((b.1 - a.1)*(d.2 - a.2)+ -(b.2 - a.2)*(d.1 - a.1)).num) 0;have k3:sdI a b c= -1∨sdI a b c=0∨sdI a b c=1:=k1;have k4:sdI a b d= -1∨sdI a b d=0∨sdI a b d=1:=k2;clear k1 k2;refine Wn ?_
 refine rH [] [VT,VT,Vb false] [⟨2,some 0,some 0,73,16,Vp N a.1 a.2 b.1 b.2,VT⟩,⟨3,some 1,some 1,73,16,Vp N c.1 c.2 d.1 d.2,VT⟩] [(4,Vb false)] st0 ⟨ks,ks,ks,trivial⟩ fun a1 w1 st1=>Wn ?_
 refine rH [] [Vp N a.1 a.2 b.1 b.2,Vpt a1 3 0,Vv N c.1 c.2,Vi (sdI a b c),Vp N a.1 a.2 b.1 b.2,Vpt a1 3 8,Vv N d.1 d.2,Vi (sdI a b d),Vi ((sdI a b c)*(sdI a b d)),Vb (decide (((sdI a b c)*(sdI a b d))<=(0))),Vb (decide (((sdI a b c)*(sdI a b d))<=(0)))] [.k 2 73 16 (Vp N a.1 a.2 b.1 b.2),.k 3 73 16 (Vp N c.1 c.2 d.1 d.2)] [(4,Vb (decide (((sdI a b c)*(sdI a b d))<=(0))))] st1 ⟨ks,ks,ks,(kd2 fun _ _ _ _ _ X0 _ X1=>cSgSide X0 X1),ks,ks,ks,(kd2 fun _ _ _ _ _ X0 _ X1=>cSgSide X0 X1),(by refine kr fun _ A Y h D=>?_;obtain⟨v0,x0,X0⟩:=h.dp D 8;have hV0':v0= .int .i64 (sdI a b c):=X0;obtain⟨v1,x1,X1⟩:=h.dp D 12;have hV1':v1= .int .i64 (sdI a b d):=X1;exact⟨_,run_muli rfl (x0.trans hV0') (x1.trans hV1') (wrap_id (by rcases k3 with h|h|h<;>rcases k4 with h2|h2|h2<;>rw [h,h2]<;>decide) (by rcases k3 with h|h|h<;>rcases k4 with h2|h2|h2<;>rw [h,h2]<;>decide)),rfl⟩),(kr1 13 fun _ _ _ _ _ x0 X0=>⟨_,run_leqi rfl (x0.trans X0) rfl,congrArg Value.bool rfl⟩),ks,trivial⟩ ?_;intro a2 w2 st2;refine Wn ?_
 exact wp_ret (rS 4 (Vb (decide (((sdI a b c)*(sdI a b d))<=(0)))) st2 fun vr r4=>r4)
theorem cSgHas {w:World}{N:Nat}{a b p:P2}{v0 v1:Value}(h0:Vp N a.1 a.2 b.1 b.2 v0 w)(h1:Vv N p.1 p.2 v1 w)(hN1:1<=N:=by omega)(hN:N<=1000:=by omega):Calls Tryz.prog 44 #[v0,v1] w (RV (Vb (hasS a b p)) w):=by
 go_enter Tryz.func44,Tryz.ntmps44
 refine Sg 16 [(0,Vp N a.1 a.2 b.1 b.2),(1,Vv N p.1 p.2)] (Lq.2 ⟨⟨_,rfl,h0⟩,(Lq.2 ⟨⟨_,rfl,h1⟩,L0⟩)⟩) fun a0 st0=>Wn ?_
 refine rH [] [VT,VT,Vb false] [⟨2,some 0,some 0,73,16,Vp N a.1 a.2 b.1 b.2,VT⟩,⟨3,some 1,some 1,32,8,Vv N p.1 p.2,VT⟩] [(4,Vb false)] st0 ⟨ks,ks,ks,trivial⟩ ?_;intro a1 w1 st1;by_cases hcc:ovl a b p p=true
 ·
  refine Wn ?_
  refine rH [] [Vp N a.1 a.2 b.1 b.2,Vv N p.1 p.2,Vv N p.1 p.2,Vp N p.1 p.2 p.1 p.2,Vb true,Vb true,Vp N a.1 a.2 b.1 b.2,Vv N p.1 p.2,Vi (sdI a b p),Vb ((sdI a b p)==(0)),Vb ((sdI a b p)==(0)),Vb ((sdI a b p)==(0))] [.k 2 73 16 (Vp N a.1 a.2 b.1 b.2),.k 3 32 8 (Vv N p.1 p.2)] [(4,Vb ((sdI a b p)==(0)))] st1 ⟨ks,ks,ks,(kr2 6 7 fun _ _ _ _ _ x0 X0 _ x1 X1=>build_segment rfl x0 x1 (AggV_Vv _ _ _) (AggV_Vv _ _ _) X0 X1),(kd2 fun _ _ _ h _ X0 _ X1=>(cSgOverlaps X0 X1).mono fun e w h=>h.le fun v w hv=>hv.trans (congrArg Value.bool hcc)),ks,ks,ks,(kd2 fun _ _ _ _ _ X0 _ X1=>cSgSide X0 X1),(kr1 13 fun _ _ _ _ _ x0 X0=>⟨_,run_eqi rfl (x0.trans X0) rfl,congrArg Value.bool rfl⟩),ks,ks,trivial⟩ fun a2 w2 st2=>Wn ?_
  exact wp_ret (rS 4 (Vb ((sdI a b p)==(0))) st2 fun vr r4=>(by rw [show hasS a b p=(sdI a b p==0)from by unfold hasS;simp [hcc]];exact r4))
 ·
  refine Wn ?_
  refine rH [] [Vp N a.1 a.2 b.1 b.2,Vv N p.1 p.2,Vv N p.1 p.2,Vp N p.1 p.2 p.1 p.2,Vb false,Vb false,VT,VT,VT,VT,Vb false,Vb false] [.k 2 73 16 (Vp N a.1 a.2 b.1 b.2),.k 3 32 8 (Vv N p.1 p.2)] [(4,Vb false)] st1 ⟨ks,ks,ks,(kr2 6 7 fun _ _ _ _ _ x0 X0 _ x1 X1=>build_segment rfl x0 x1 (AggV_Vv _ _ _) (AggV_Vv _ _ _) X0 X1),(kd2 fun _ _ _ h _ X0 _ X1=>(cSgOverlaps X0 X1).mono fun e w h=>h.le fun v w hv=>hv.trans (congrArg Value.bool (by simpa using hcc))),ks,ks,ks,ks,ks,ks,ks,trivial⟩ fun a2 w2 st2=>Wn ?_
  exact wp_ret (rS 4 (Vb false) st2 fun vr r4=>(by rw [show hasS a b p=false from by unfold hasS;simp [hcc]];exact r4))
theorem cSgMeets {w:World}{N:Nat}{a b c d:P2}{v0 v1:Value}(h0:Vp N a.1 a.2 b.1 b.2 v0 w)(h1:Vp N c.1 c.2 d.1 d.2 v1 w)(hN1:1<=N:=by omega)(hN:N<=1000:=by omega):Calls Tryz.prog 75 #[v0,v1] w (RV (Vb (mts a b c d)) w):=by
 go_enter Tryz.func75,Tryz.ntmps75
 refine Sg 18 [(0,Vp N a.1 a.2 b.1 b.2),(1,Vp N c.1 c.2 d.1 d.2)] (Lq.2 ⟨⟨_,rfl,h0⟩,(Lq.2 ⟨⟨_,rfl,h1⟩,L0⟩)⟩) fun a0 st0=>Wn ?_
 refine rH [] [VT,VT,Vb false] [⟨2,some 0,some 0,73,16,Vp N a.1 a.2 b.1 b.2,VT⟩,⟨3,some 1,some 1,73,16,Vp N c.1 c.2 d.1 d.2,VT⟩] [(4,Vb false)] st0 ⟨ks,ks,ks,trivial⟩ ?_;intro a1 w1 st1;by_cases h1c:ovl a b c d=true
 ·
  by_cases h2c:prt a b c d=true
  ·
   refine Wn ?_
   refine rH [] [Vp N a.1 a.2 b.1 b.2,Vp N c.1 c.2 d.1 d.2,Vb true,Vb true,Vp N a.1 a.2 b.1 b.2,Vp N c.1 c.2 d.1 d.2,Vb true,Vb true,Vb true,Vp N c.1 c.2 d.1 d.2,Vp N a.1 a.2 b.1 b.2,Vb (prt c d a b),Vb (prt c d a b),Vb (prt c d a b)] [.k 2 73 16 (Vp N a.1 a.2 b.1 b.2),.k 3 73 16 (Vp N c.1 c.2 d.1 d.2)] [(4,Vb (prt c d a b))] st1 ⟨ks,ks,(kd2 fun _ _ _ h _ X0 _ X1=>(cSgOverlaps X0 X1).mono fun e w h=>h.le fun v w hv=>hv.trans (congrArg Value.bool h1c)),ks,ks,ks,(kd2 fun _ _ _ h _ X0 _ X1=>(cSgParts X0 X1).mono fun e w h=>h.le fun v w hv=>hv.trans (congrArg Value.bool h2c)),ks,ks,ks,ks,(kd2 fun _ _ _ _ _ X0 _ X1=>cSgParts X0 X1),ks,ks,trivial⟩ fun a2 w2 st2=>Wn ?_
   exact wp_ret (rS 4 (Vb (prt c d a b)) st2 fun vr r4=>(by rw [show mts a b c d=prt c d a b from by unfold mts;simp [h1c,h2c]];exact r4))
  ·
   refine Wn ?_
   refine rH [] [Vp N a.1 a.2 b.1 b.2,Vp N c.1 c.2 d.1 d.2,Vb true,Vb true,Vp N a.1 a.2 b.1 b.2,Vp N c.1 c.2 d.1 d.2,Vb false,Vb false,Vb false,VT,VT,VT,Vb false,Vb false] [.k 2 73 16 (Vp N a.1 a.2 b.1 b.2),.k 3 73 16 (Vp N c.1 c.2 d.1 d.2)] [(4,Vb false)] st1 ⟨ks,ks,(kd2 fun _ _ _ h _ X0 _ X1=>(cSgOverlaps X0 X1).mono fun e w h=>h.le fun v w hv=>hv.trans (congrArg Value.bool h1c)),ks,ks,ks,(kd2 fun _ _ _ h _ X0 _ X1=>(cSgParts X0 X1).mono fun e w h=>h.le fun v w hv=>hv.trans (congrArg Value.bool (by simpa using h2c))),ks,ks,ks,ks,ks,ks,ks,trivial⟩ fun a2 w2 st2=>Wn ?_
   exact wp_ret (rS 4 (Vb false) st2 fun vr r4=>(by rw [show mts a b c d=false from by unfold mts;simp [h2c]];exact r4))
 ·
  refine Wn ?_
  refine rH [] [Vp N a.1 a.2 b.1 b.2,Vp N c.1 c.2 d.1 d.2,Vb false,Vb false,VT,VT,VT,Vb false,Vb false,VT,VT,VT,Vb false,Vb false] [.k 2 73 16 (Vp N a.1 a.2 b.1 b.2),.k 3 73 16 (Vp N c.1 c.2 d.1 d.2)] [(4,Vb false)] st1 ⟨ks,ks,(kd2 fun _ _ _ h _ X0 _ X1=>(cSgOverlaps X0 X1).mono fun e w h=>h.le fun v w hv=>hv.trans (congrArg Value.bool (by simpa using h1c))),ks,ks,ks,ks,ks,ks,ks,ks,ks,ks,ks,trivial⟩ fun a2 w2 st2=>Wn ?_
  exact wp_ret (rS 4 (Vb false) st2 fun vr r4=>(by rw [show mts a b c d=false from by unfold mts;simp [h1c]];exact r4))
theorem cSgRight {w:World}{N:Nat}{a b p:P2}{v0 v1:Value}(h0:Vp N a.1 a.2 b.1 b.2 v0 w)(h1:Vv N p.1 p.2 v1 w)(hN1:1<=N:=by omega)(hN:N<=1000:=by omega):Calls Tryz.prog 45 #[v0,v1] w (RV (Vb (rgt a b p)) w):=by
 go_enter Tryz.func45,Tryz.ntmps45
 refine Sg 29 [(0,Vp N a.1 a.2 b.1 b.2),(1,Vv N p.1 p.2)] (Lq.2 ⟨⟨_,rfl,h0⟩,(Lq.2 ⟨⟨_,rfl,h1⟩,L0⟩)⟩) fun a0 st0=>Wn ?_
 refine rH [] [VT,VT,Vb false] [⟨2,some 0,some 0,73,16,Vp N a.1 a.2 b.1 b.2,VT⟩,⟨3,some 1,some 1,32,8,Vv N p.1 p.2,VT⟩] [(4,Vb false)] st0 ⟨ks,ks,ks,trivial⟩ fun a1 w1 st1=>Wn ?_
 refine rH [] [Vpt a1 2 0,Vv N a.1 a.2,Vv N p.1 p.2,Vb (abv a p),Vpt a1 2 8,Vv N b.1 b.2,Vv N p.1 p.2,Vb (abv b p),Vb (abv a p),Vb (abv b p)] [.k 2 73 16 (Vp N a.1 a.2 b.1 b.2),.k 3 32 8 (Vv N p.1 p.2)] [(4,Vb false),(5,Vb (abv a p)),(6,Vb (abv b p))] st1 ⟨ks,ks,ks,(kd2 fun _ _ _ _ _ X0 _ X1=>cAbove X0 X1),ks,ks,ks,(kd2 fun _ _ _ _ _ X0 _ X1=>cAbove X0 X1),ks,ks,trivial⟩ ?_;intro a2 w2 st2;by_cases hcc:(abv a p==abv b p)=true
 ·
  refine Wn ?_
  refine rH [] [Vb (abv a p),Vb (abv b p),Vb true,Vb true] [.k 2 73 16 (Vp N a.1 a.2 b.1 b.2),.k 3 32 8 (Vv N p.1 p.2)] [(4,Vb false),(6,Vb (abv b p)),(15,Vb true)] st2 ⟨ks,ks,(kr2 16 17 fun _ _ _ _ _ x0 X0 _ x1 X1=>⟨_,run_eqb rfl (x0.trans X0) (x1.trans X1),congrArg Value.bool hcc⟩),ks,trivial⟩ fun a3 w3 st3=>Wn ?_
  refine cT st3 ?_;refine Wn ?_
  refine rH [] [Vb false] [.k 2 73 16 (Vp N a.1 a.2 b.1 b.2),.k 3 32 8 (Vv N p.1 p.2)] [(6,Vb (abv b p)),(15,Vb true),(4,Vb false)] st3 ⟨ks,trivial⟩ fun a4 w4 st4=>Wn ?_
  exact wp_ret (rS 4 (Vb false) st4 fun vr r4=>(by rw [show rgt a b p=false from if_pos hcc];exact r4))
 ·
  refine Wn ?_
  refine rH [] [Vb (abv a p),Vb (abv b p),Vb false,Vb false] [.k 2 73 16 (Vp N a.1 a.2 b.1 b.2),.k 3 32 8 (Vv N p.1 p.2)] [(4,Vb false),(6,Vb (abv b p)),(15,Vb false)] st2 ⟨ks,ks,(kr2 16 17 fun _ _ _ _ _ x0 X0 _ x1 X1=>⟨_,run_eqb rfl (x0.trans X0) (x1.trans X1),congrArg Value.bool (Bool.eq_false_iff.2 hcc)⟩),ks,trivial⟩ fun a3 w3 st3=>Wn ?_
  refine cF st3 ?_;by_cases hb2:abv b p=true
  ·
   replace st3:St w.heap.size w 29 [.k 2 73 16 (Vp N a.1 a.2 b.1 b.2),.k 3 32 8 (Vv N p.1 p.2)] [(4,Vb false),(6,Vb (abv b p)),(15,Vb false)] a3 w3:=st3;rw [hb2] at st3;refine Wn ?_
   refine rH [] [Vb true,Vb true] [.k 2 73 16 (Vp N a.1 a.2 b.1 b.2),.k 3 32 8 (Vv N p.1 p.2)] [(4,Vb false),(6,Vb true),(15,Vb false),(19,Vb true)] st3 ⟨ks,ks,trivial⟩ fun a4 w4 st4=>Wn ?_
   refine cT st4 ?_;refine Wn ?_
   refine rH [] [Vp N a.1 a.2 b.1 b.2,Vv N p.1 p.2,Vi (sdI a b p),Vb (decide ((0)<(sdI a b p))),Vb (decide ((0)<(sdI a b p)))] [.k 2 73 16 (Vp N a.1 a.2 b.1 b.2),.k 3 32 8 (Vv N p.1 p.2)] [(6,Vb true),(15,Vb false),(19,Vb true),(4,Vb (decide ((0)<(sdI a b p))))] st4 ⟨ks,ks,(kd2 fun _ _ _ _ _ X0 _ X1=>cSgSide X0 X1),(kr1 23 fun _ _ _ _ _ x0 X0=>⟨_,run_gtri rfl (x0.trans X0) rfl,congrArg Value.bool rfl⟩),ks,trivial⟩ fun a5 w5 st5=>Wn ?_
   exact wp_ret (rS 4 (Vb (decide ((0)<(sdI a b p)))) st5 fun vr r4=>(by rw [show rgt a b p=decide (0<sdI a b p)from(if_neg hcc).trans (if_pos hb2)];exact r4))
  ·
   have hb3:abv b p=false:=by simpa using hb2
   replace st3:St w.heap.size w 29 [.k 2 73 16 (Vp N a.1 a.2 b.1 b.2),.k 3 32 8 (Vv N p.1 p.2)] [(4,Vb false),(6,Vb (abv b p)),(15,Vb false)] a3 w3:=st3;rw [hb3] at st3;refine Wn ?_
   refine rH [] [Vb false,Vb false] [.k 2 73 16 (Vp N a.1 a.2 b.1 b.2),.k 3 32 8 (Vv N p.1 p.2)] [(4,Vb false),(6,Vb false),(15,Vb false),(19,Vb false)] st3 ⟨ks,ks,trivial⟩ fun a4 w4 st4=>Wn ?_
   refine cF st4 ?_;refine Wn ?_
   refine rH [] [Vp N a.1 a.2 b.1 b.2,Vv N p.1 p.2,Vi (sdI a b p),Vb (decide ((sdI a b p)<(0))),Vb (decide ((sdI a b p)<(0)))] [.k 2 73 16 (Vp N a.1 a.2 b.1 b.2),.k 3 32 8 (Vv N p.1 p.2)] [(6,Vb false),(15,Vb false),(19,Vb false),(4,Vb (decide ((sdI a b p)<(0))))] st4 ⟨ks,ks,(kd2 fun _ _ _ _ _ X0 _ X1=>cSgSide X0 X1),(kr1 27 fun _ _ _ _ _ x0 X0=>⟨_,run_lssi rfl (x0.trans X0) rfl,congrArg Value.bool rfl⟩),ks,trivial⟩ fun a5 w5 st5=>Wn ?_
   exact wp_ret (rS 4 (Vb (decide ((sdI a b p)<(0)))) st5 fun vr r4=>(by rw [show rgt a b p=decide (sdI a b p<0)from(if_neg hcc).trans (if_neg hb2)];exact r4))
theorem cMeets {w:World}{N:Nat}{a b c d:P2}{v0 v1 v2 v3:Value}(h0:Vv N a.1 a.2 v0 w)(h1:Vv N b.1 b.2 v1 w)(h2:Vv N c.1 c.2 v2 w)(h3:Vv N d.1 d.2 v3 w)(hN1:1<=N:=by omega)(hN:N<=1000:=by omega):Calls Tryz.prog 33 #[v0,v1,v2,v3] w (RV (Vb (mts a b c d)) w):=by
 go_enter Tryz.func33,Tryz.ntmps33
 refine Sg 16 [(0,Vv N a.1 a.2),(1,Vv N b.1 b.2),(2,Vv N c.1 c.2),(3,Vv N d.1 d.2)] (Lq.2 ⟨⟨_,rfl,h0⟩,(Lq.2 ⟨⟨_,rfl,h1⟩,(Lq.2 ⟨⟨_,rfl,h2⟩,(Lq.2 ⟨⟨_,rfl,h3⟩,L0⟩)⟩)⟩)⟩) fun a0 st0=>Wn ?_
 refine rH [] [VT,VT,VT,VT,Vb false] [⟨4,some 0,some 0,32,8,Vv N a.1 a.2,VT⟩,⟨5,some 1,some 1,32,8,Vv N b.1 b.2,VT⟩,⟨6,some 2,some 2,32,8,Vv N c.1 c.2,VT⟩,⟨7,some 3,some 3,32,8,Vv N d.1 d.2,VT⟩] [(8,Vb false)] st0 ⟨ks,ks,ks,ks,ks,trivial⟩ fun a1 w1 st1=>Wn ?_
 refine rH [] [Vv N a.1 a.2,Vv N b.1 b.2,Vp N a.1 a.2 b.1 b.2,Vv N c.1 c.2,Vv N d.1 d.2,Vp N c.1 c.2 d.1 d.2,Vb (mts a b c d),Vb (mts a b c d)] [.k 4 32 8 (Vv N a.1 a.2),.k 5 32 8 (Vv N b.1 b.2),.k 6 32 8 (Vv N c.1 c.2),.k 7 32 8 (Vv N d.1 d.2)] [(8,Vb (mts a b c d))] st1 ⟨ks,ks,(kr2 9 10 fun _ _ _ _ _ x0 X0 _ x1 X1=>build_segment rfl x0 x1 (AggV_Vv _ _ _) (AggV_Vv _ _ _) X0 X1),ks,ks,(kr2 12 13 fun _ _ _ _ _ x0 X0 _ x1 X1=>build_segment rfl x0 x1 (AggV_Vv _ _ _) (AggV_Vv _ _ _) X0 X1),(kd2 fun _ _ _ _ _ X0 _ X1=>cSgMeets X0 X1),ks,trivial⟩ fun a2 w2 st2=>Wn ?_
 exact wp_ret (rS 8 (Vb (mts a b c d)) st2 fun vr r4=>r4)
theorem cLesser {w:World}{N:Nat}{x y:Rat}{v0 v1:Value}(h0:Vq N x v0 w)(h1:Vq N y v1 w)(hN1:1<=N:=by omega)(hN:N<=1000:=by omega):Calls Tryz.prog 50 #[v0,v1] w (RV (Vq N (lsQ x y)) w):=by
 go_enter Tryz.func50,Tryz.ntmps50
 refine Sg 11 [(0,Vq N x),(1,Vq N y)] (Lq.2 ⟨⟨_,rfl,h0⟩,(Lq.2 ⟨⟨_,rfl,h1⟩,L0⟩)⟩) fun a0 st0=>Wn ?_
 refine rH [(30,4,0)] [VT,VT,VT] [⟨2,some 0,some 0,30,4,Vq N x,VT⟩,⟨3,some 1,some 1,30,4,Vq N y,VT⟩,⟨4,some 2,none,30,4,VT,VT⟩] [] st0 ⟨ks,ks,ks,trivial⟩ ?_;intro a1 w1 st1;by_cases hcc:cmpQ x y<=0
 ·
  refine Wn ?_
  refine rH [(30,4,0)] [Vq N x,Vq N y,Vi (cmpQ x y),Vb true] [.k 2 30 4 (Vq N x),.k 3 30 4 (Vq N y),.k 4 30 4 VT] [(8,Vb true)] st1 ⟨ks,ks,(kd2 fun _ _ _ _ _ X0 _ X1=>cQCompare X0 X1),(kr1 7 fun _ _ _ _ _ x0 X0=>⟨_,run_leqi rfl (x0.trans X0) rfl,congrArg Value.bool (dT hcc)⟩),trivial⟩ fun a2 w2 st2=>Wn ?_
  refine cT st2 ?_;refine Wn ?_
  refine rH [(30,4,0)] [Vq N x,VT] [.k 2 30 4 (Vq N x),.k 3 30 4 (Vq N y),⟨4,none,some 1,30,4,Vq N x,VT⟩] [(8,Vb true)] st2 ⟨ks,ks,trivial⟩ fun a3 w3 st3=>Wn ?_
  exact wp_ret (rC 4 30 (Vq N x) st3 fun cs r4=>(by rw [show lsQ x y=x from if_pos hcc];exact r4))
 ·
  refine Wn ?_
  refine rH [(30,4,0)] [Vq N x,Vq N y,Vi (cmpQ x y),Vb false] [.k 2 30 4 (Vq N x),.k 3 30 4 (Vq N y),.k 4 30 4 VT] [(8,Vb false)] st1 ⟨ks,ks,(kd2 fun _ _ _ _ _ X0 _ X1=>cQCompare X0 X1),(kr1 7 fun _ _ _ _ _ x0 X0=>⟨_,run_leqi rfl (x0.trans X0) rfl,congrArg Value.bool (dF hcc)⟩),trivial⟩ fun a2 w2 st2=>Wn ?_
  refine cF st2 ?_;refine Wn ?_
  refine rH [(30,4,0)] [Vq N y,VT] [.k 2 30 4 (Vq N x),.k 3 30 4 (Vq N y),⟨4,none,some 1,30,4,Vq N y,VT⟩] [(8,Vb false)] st2 ⟨ks,ks,trivial⟩ fun a3 w3 st3=>Wn ?_
  exact wp_ret (rC 4 30 (Vq N y) st3 fun cs r4=>(by rw [show lsQ x y=y from if_neg hcc];exact r4))
theorem cGreater {w:World}{N:Nat}{x y:Rat}{v0 v1:Value}(h0:Vq N x v0 w)(h1:Vq N y v1 w)(hN1:1<=N:=by omega)(hN:N<=1000:=by omega):Calls Tryz.prog 51 #[v0,v1] w (RV (Vq N (grQ x y)) w):=by
 go_enter Tryz.func51,Tryz.ntmps51
 refine Sg 11 [(0,Vq N x),(1,Vq N y)] (Lq.2 ⟨⟨_,rfl,h0⟩,(Lq.2 ⟨⟨_,rfl,h1⟩,L0⟩)⟩) fun a0 st0=>Wn ?_
 refine rH [(30,4,0)] [VT,VT,VT] [⟨2,some 0,some 0,30,4,Vq N x,VT⟩,⟨3,some 1,some 1,30,4,Vq N y,VT⟩,⟨4,some 2,none,30,4,VT,VT⟩] [] st0 ⟨ks,ks,ks,trivial⟩ ?_;intro a1 w1 st1;by_cases hcc:0<=cmpQ x y
 ·
  refine Wn ?_
  refine rH [(30,4,0)] [Vq N x,Vq N y,Vi (cmpQ x y),Vb true] [.k 2 30 4 (Vq N x),.k 3 30 4 (Vq N y),.k 4 30 4 VT] [(8,Vb true)] st1 ⟨ks,ks,(kd2 fun _ _ _ _ _ X0 _ X1=>cQCompare X0 X1),(kr1 7 fun _ _ _ _ _ x0 X0=>⟨_,run_geqi rfl (x0.trans X0) rfl,congrArg Value.bool (dT hcc)⟩),trivial⟩ fun a2 w2 st2=>Wn ?_
  refine cT st2 ?_;refine Wn ?_
  refine rH [(30,4,0)] [Vq N x,VT] [.k 2 30 4 (Vq N x),.k 3 30 4 (Vq N y),⟨4,none,some 1,30,4,Vq N x,VT⟩] [(8,Vb true)] st2 ⟨ks,ks,trivial⟩ fun a3 w3 st3=>Wn ?_
  exact wp_ret (rC 4 30 (Vq N x) st3 fun cs r4=>(by rw [show grQ x y=x from if_pos hcc];exact r4))
 ·
  refine Wn ?_
  refine rH [(30,4,0)] [Vq N x,Vq N y,Vi (cmpQ x y),Vb false] [.k 2 30 4 (Vq N x),.k 3 30 4 (Vq N y),.k 4 30 4 VT] [(8,Vb false)] st1 ⟨ks,ks,(kd2 fun _ _ _ _ _ X0 _ X1=>cQCompare X0 X1),(kr1 7 fun _ _ _ _ _ x0 X0=>⟨_,run_geqi rfl (x0.trans X0) rfl,congrArg Value.bool (dF hcc)⟩),trivial⟩ fun a2 w2 st2=>Wn ?_
  refine cF st2 ?_;refine Wn ?_
  refine rH [(30,4,0)] [Vq N y,VT] [.k 2 30 4 (Vq N x),.k 3 30 4 (Vq N y),⟨4,none,some 1,30,4,Vq N y,VT⟩] [(8,Vb false)] st2 ⟨ks,ks,trivial⟩ fun a3 w3 st3=>Wn ?_
  exact wp_ret (rC 4 30 (Vq N y) st3 fun cs r4=>(by rw [show grQ x y=y from if_neg hcc];exact r4))
end Go.Proofs.YteacdbgalloaiaaGreat
