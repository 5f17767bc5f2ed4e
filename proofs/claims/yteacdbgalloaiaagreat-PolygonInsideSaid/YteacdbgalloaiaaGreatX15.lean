/- Contracts of the packages integer, rat, plane, polygon and their references. -/
import Derived.Test.YteacdbgalloaiaaGreatX14
set_option linter.unusedVariables false
set_option maxRecDepth 100000
set_option maxHeartbeats 6400000
namespace Go.Proofs.YteacdbgalloaiaaGreat
open Go.RowKit
open Go
theorem VAt_cur {V:VP}(hV:Stab [] V){v:Value}{wb W W':World}(h:VAt wb V v W)(hb:Below wb.heap.size wb W'):V v W':=hV _ _ _ h (RI.of_below hb)
instance (w:World)(V A:VP)(o k:Nat)[h:PtC V o k A]:PtC (VAt w V) o k (VAt w A):=⟨fun cs _ hv=>h.out cs w hv⟩
instance (N:Nat)(vs:List P2)(k:Nat):PtC (VSg N vs k) 0 8 (Vv N (cv vs k).1 (cv vs k).2):=⟨fun _ _ h=>VP2_fst h⟩
instance (N:Nat)(vs:List P2)(k:Nat):PtC (VSg N vs k) 8 8 (Vv N (cv vs (k+1)).1 (cv vs (k+1)).2):=⟨fun _ _ h=>VP2_snd h⟩
def cwX (vs:List P2)(k:Nat):Rat:=((cv vs k).1+(cv vs (k+1)).1)*crK vs k
def cwY (vs:List P2)(k:Nat):Rat:=((cv vs k).2+(cv vs (k+1)).2)*crK vs k
def ctr (vs:List P2):P2:=(sumQ (cwX vs) (List.range vs.length)*(Rat.divInt 1 3 / twQ vs),sumQ (cwY vs) (List.range vs.length)*(Rat.divInt 1 3 / twQ vs))
theorem cVAddN {w:World}{N M:Nat}{a b c d:Rat}{v0 v1:Value}(h0:Vv N a b v0 w)(h1:Vv M c d v1 w)(k1:1<=N:=by omega)(k2:N<=100000:=by omega)(k3:1<=M:=by omega)(k4:M<=100000:=by omega):Calls Tryz.prog 61 #[v0,v1] w (RV (Vv (N+M+1) (a+c) (b+d)) w):=by
 go_enter Tryz.func61,Tryz.ntmps61
 refine Sg 16 [(0,Vv N a b),(1,Vv M c d)] (Lq.2 ⟨⟨_,rfl,h0⟩,(Lq.2 ⟨⟨_,rfl,h1⟩,L0⟩)⟩) fun a0 st0=>Wn ?_
 refine rH [(32,8,0)] [VT,VT,VT] [⟨2,some 0,some 0,32,8,Vv N a b,VT⟩,⟨3,some 1,some 1,32,8,Vv M c d,VT⟩,⟨4,some 2,none,32,8,VT,VT⟩] [] st0 ⟨ks,ks,ks,trivial⟩ fun a1 w1 st1=>Wn ?_
 refine rH [(32,8,0)] [Vpt a1 2 0,Vq N a,Vpt a1 3 0,Vq M c,Vq (N+M+1) ((a)+(c)),Vpt a1 2 4,Vq N b,Vpt a1 3 4,Vq M d,Vq (N+M+1) ((b)+(d)),Vv (N+M+1) ((a)+(c)) ((b)+(d)),VT] [.k 2 32 8 (Vv N a b),.k 3 32 8 (Vv M c d),⟨4,none,some 11,32,8,Vv (N+M+1) ((a)+(c)) ((b)+(d)),VT⟩] [] st1 ⟨ks,ks,ks,ks,(kd2 fun _ _ _ _ _ X0 _ X1=>cQAdd X0 X1),ks,ks,ks,ks,(kd2 fun _ _ _ _ _ X0 _ X1=>cQAdd X0 X1),(kr2 9 14 fun _ _ _ _ _ x0 X0 _ x1 X1=>build_Vec rfl x0 x1 (AggV_Vq _ _) (AggV_Vq _ _) X0 X1),ks,trivial⟩ fun a2 w2 st2=>Wn ?_
 exact wp_ret (rC 4 32 (Vv (N+M+1) ((a)+(c)) ((b)+(d))) st2 fun cs r4=>r4)
theorem cVScaleN {w:World}{N M:Nat}{a b c:Rat}{v0 v1:Value}(h0:Vv N a b v0 w)(h1:Vq M c v1 w)(k1:1<=N:=by omega)(k2:N<=100000:=by omega)(k3:1<=M:=by omega)(k4:M<=100000:=by omega):Calls Tryz.prog 62 #[v0,v1] w (RV (Vv (N+M) (a*c) (b*c)) w):=by
 go_enter Tryz.func62,Tryz.ntmps62
 refine Sg 14 [(0,Vv N a b),(1,Vq M c)] (Lq.2 ⟨⟨_,rfl,h0⟩,(Lq.2 ⟨⟨_,rfl,h1⟩,L0⟩)⟩) fun a0 st0=>Wn ?_
 refine rH [(32,8,0)] [VT,VT,VT] [⟨2,some 0,some 0,32,8,Vv N a b,VT⟩,⟨3,some 1,some 1,30,4,Vq M c,VT⟩,⟨4,some 2,none,32,8,VT,VT⟩] [] st0 ⟨ks,ks,ks,trivial⟩ fun a1 w1 st1=>Wn ?_
 refine rH [(32,8,0)] [Vpt a1 2 0,Vq N a,Vq M c,Vq (N+M) ((a)*(c)),Vpt a1 2 4,Vq N b,Vq M c,Vq (N+M) ((b)*(c)),Vv (N+M) ((a)*(c)) ((b)*(c)),VT] [.k 2 32 8 (Vv N a b),.k 3 30 4 (Vq M c),⟨4,none,some 9,32,8,Vv (N+M) ((a)*(c)) ((b)*(c)),VT⟩] [] st1 ⟨ks,ks,ks,(kd2 fun _ _ _ _ _ X0 _ X1=>cQMul X0 X1),ks,ks,ks,(kd2 fun _ _ _ _ _ X0 _ X1=>cQMul X0 X1),(kr2 8 12 fun _ _ _ _ _ x0 X0 _ x1 X1=>build_Vec rfl x0 x1 (AggV_Vq _ _) (AggV_Vq _ _) X0 X1),ks,trivial⟩ fun a2 w2 st2=>Wn ?_
 exact wp_ret (rC 4 32 (Vv (N+M) ((a)*(c)) ((b)*(c))) st2 fun cs r4=>r4)
theorem cCenter {w:World}{N:Nat}{vs:List P2}{lv:Value}(hS:VSv N vs lv w)(hN1:1<=N:=by omega)(hbd2:1+vs.length*(6*N+3)<=900:=by omega):Calls Tryz.prog 22 #[lv] w (RV (Vv ((1+vs.length*(6*N+3))+(3+(1+vs.length*(4*N+2)))) (ctr vs).1 (ctr vs).2) w):=by
 have hmax:=VSv_max hS;obtain⟨p,c,hlv⟩:=VSv_slice hS;subst hlv;refine calls_of_marks Tryz.func22 rfl ?_;simp only [Tryz.ntmps22,List.size_toArray,List.length_cons,List.length_nil,Nat.reduceAdd,Nat.reduceSub,Array.replicate_succ,Array.replicate_zero,List.push_toArray,List.append_toArray,List.nil_append,List.cons_append];generalize hA:(⟨_,_⟩:Act)=a0;have st0:St w.heap.size w 27 [] [(0,VEq (.slice p vs.length c))] a0 w:=by subst hA;exact St.begin rfl rfl (Lq.2 ⟨⟨_,rfl,rfl⟩,L0⟩)
 clear hA;have hmm:=Nat.mul_le_mul_left vs.length (show 4*N+2<=6*N+3 by omega);have hbd:1+vs.length*(4*N+2)<=900:=by omega
 refine Wm ?_
 refine rJ [(32,8,0),(73,16,0)] [VT] [⟨2,some 0,none,32,8,VT,VT⟩] [(0,VEq (.slice p vs.length c))] st0 ⟨ks,trivial⟩ fun a1 w1 st1=>Wm ?_
 refine rJ [(32,8,0),(73,16,0)] [Vv 1 0 0,VT,VT] [.k 2 32 8 VT,⟨3,some 1,some 2,32,8,Vv 1 0 0,VT⟩] [(0,VEq (.slice p vs.length c))] st1 ⟨(kr fun _ A Y h hd=>build_Vec0 rfl),ks,ks,trivial⟩ fun a2 w2 st2=>Wm ?_
 have:Sb [(32,8,0),(73,16,0)] (VSd (.slice p vs.length c)):=⟨(Stab_VSd (by simp) (by simp))⟩;refine rJ [(32,8,0),(73,16,0)] [VEq (.slice p vs.length c),VSd (.slice p vs.length c)] [.k 2 32 8 VT,.k 3 32 8 (Vv 1 0 0)] [(0,VEq (.slice p vs.length c)),(8,VSd (.slice p vs.length c))] st2 ⟨ks,(by exact kd1 fun _ _ _ _ v0 X0=>(by obtain rfl:v0=_:=X0;exact cSides)),trivial⟩ ?_;intro a3 w3 st3;replace st3:St w.heap.size w 27 [.k 2 32 8 VT,.k 3 32 8 (Vv 1 0 0)] [(0,VEq (.slice p vs.length c)),(8,VSd (.slice p vs.length c))] a3 w3:=st3;have hsd:=st3.sl (8,VSd (.slice p vs.length c)) (lS_mem rfl);obtain⟨g2,hg2,st3⟩:=st3.ptrB 2 rfl rfl rfl;obtain⟨g3,hg3,st3⟩:=st3.ptrB 3 rfl rfl rfl;replace st3:St w.heap.size w 27 [.k 2 32 8 VT,.k 3 32 8 (Vv 1 0 0)] [(0,VEq (.slice p vs.length c)),(2,VEq (.pointer (some ⟨g2,0,none⟩))),(3,VEq (.pointer (some ⟨g3,0,none⟩)))] a3 w3:=st3.cut;refine Wm ?_
 have hn0:=st3.n;refine range_sides (n:=5) (Nf:=27) (t:=5) (N:=N) (vs:=vs) (lv:= .slice p vs.length c) (BT:=[(32,8,0),(73,16,0)]) (fun xs=>[.k 2 32 8 VT,.k 3 32 8 (Vv (1+xs.length*(6*N+3)) (sumQ (cwX vs) xs) (sumQ (cwY vs) xs))]) (fun _=>[.k 0 30 4 VF]) (fun _ _=>True) (fun _ _=>True) [(0,VEq (.slice p vs.length c)),(2,VEq (.pointer (some ⟨g2,0,none⟩))),(3,VEq (.pointer (some ⟨g3,0,none⟩)))] (by show St _ _ _ [_,⟨3,none,none,_,8,Vv (1+0*(6*N+3)) (0:Rat) (0:Rat),VT⟩] _ _ _;rw [show 1+0*(6*N+3)=1 by omega];exact st3) trivial (fun _=>[]) (fun _=>ownFrom_pure _ _) (fun _=>ownFrom_pure _ _) hsd hS (fun xs=>(Lq.2 ⟨⟨rfl,rfl,_,(.tail _ (.head _))⟩,(Lq.2 ⟨⟨rfl,rfl,_,(.tail _ (.tail _ (.head _)))⟩,L0⟩)⟩)) (fun _=>(Lq.2 ⟨⟨rfl,rfl,_,(.head _)⟩,L0⟩)) (Lq.2 ⟨⟨_,rfl⟩,(Lq.2 ⟨⟨_,rfl⟩,(Lq.2 ⟨⟨_,rfl⟩,L0⟩)⟩)⟩) (by decide) (by decide) (by decide) (Lq.2 ⟨⟨by simp,by simp⟩,(Lq.2 ⟨⟨by simp,by simp⟩,(Lq.2 ⟨⟨by simp,by simp⟩,L0⟩)⟩)⟩) (by decide) (by simp) (by simp) ?assign ?body (fun _ _=>(Lq.2 ⟨⟨_,(.head _),rfl⟩,(Lq.2 ⟨⟨_,(.tail _ (.head _)),rfl⟩,L0⟩)⟩)) (fun _=>(Lq.2 ⟨(by simp),(Lq.2 ⟨(by simp),L0⟩)⟩)) ?done ?stop
 case assign=>
  intro l k a1 W K hnW hbW st1 hK;refine Wm ?_
  refine rJ [(32,8,0),(73,16,0)] [VT,VT] [⟨5,some 0,some 1,73,16,VAt w (VSg N vs k),VT⟩] [(10,VAt w (VSg N vs k)),(9,Vi (k:Int)),(0,VEq (.slice p vs.length c)),(2,VEq (.pointer (some ⟨g2,0,none⟩))),(3,VEq (.pointer (some ⟨g3,0,none⟩)))] st1 ⟨ks,ks,trivial⟩ ?_;intro a2 w2 st2;exact hK _ _ st2.cut
 case body=>
  intro l k xs a1 W hk hlen st1 hEw;replace st1:St w.heap.size w 27 [.k 2 32 8 VT,.k 3 32 8 (Vv (1+xs.length*(6*N+3)) (sumQ (cwX vs) xs) (sumQ (cwY vs) xs)),.k 5 73 16 (VAt w (VSg N vs k))] [(9,VKR w3.heap.size [(32,8,0),(73,16,0)] W),(0,VEq (.slice p vs.length c)),(2,VEq (.pointer (some ⟨g2,0,none⟩))),(3,VEq (.pointer (some ⟨g3,0,none⟩)))] a1 W:=st1;have hmul:=Nat.mul_le_mul_right (6*N+3) (Nat.le_of_lt hlen);have hN9:N<=500:=by rcases Nat.eq_zero_or_pos vs.length with h0|h0;(omega);(have:=Nat.le_mul_of_pos_left (6*N+3) h0;omega)
  refine Wm ?_
  have:Sb [(32,8,0)] (VKR w3.heap.size [(32,8,0),(73,16,0)] W):=⟨(Stab_VKR (by simp) (by simp))⟩;refine rJ [(32,8,0)] [Vv (1+xs.length*(6*N+3)) (sumQ (cwX vs) xs) (sumQ (cwY vs) xs),Vpt a1 5 0,VAt w (Vv N ((cv vs k).1) ((cv vs k).2)),Vpt a1 5 8,VAt w (Vv N ((cv vs (k+1)).1) ((cv vs (k+1)).2)),Vv (N+N+1) (((cv vs k).1)+((cv vs (k+1)).1)) (((cv vs k).2)+((cv vs (k+1)).2)),VAt w (VSg N vs k),Vq (4*N+1) (crK vs k),Vv ((N+N+1)+(4*N+1)) ((((cv vs k).1)+((cv vs (k+1)).1))*(crK vs k)) ((((cv vs k).2)+((cv vs (k+1)).2))*(crK vs k)),Vv ((1+xs.length*(6*N+3))+((N+N+1)+(4*N+1))+1) ((sumQ (cwX vs) xs)+((((cv vs k).1)+((cv vs (k+1)).1))*(crK vs k))) ((sumQ (cwY vs) xs)+((((cv vs k).2)+((cv vs (k+1)).2))*(crK vs k))),VT] [.k 2 32 8 VT,⟨3,none,some 10,32,8,Vv ((1+xs.length*(6*N+3))+((N+N+1)+(4*N+1))+1) ((sumQ (cwX vs) xs)+((((cv vs k).1)+((cv vs (k+1)).1))*(crK vs k))) ((sumQ (cwY vs) xs)+((((cv vs k).2)+((cv vs (k+1)).2))*(crK vs k))),Vv (1+xs.length*(6*N+3)) (sumQ (cwX vs) xs) (sumQ (cwY vs) xs)⟩,.k 5 73 16 (VAt w (VSg N vs k))] [(9,VKR w3.heap.size [(32,8,0),(73,16,0)] W),(0,VEq (.slice p vs.length c)),(2,VEq (.pointer (some ⟨g2,0,none⟩))),(3,VEq (.pointer (some ⟨g3,0,none⟩)))] st1 ⟨ks,ks,ks,ks,ks,(kd2 fun _ _ Y h v0 X0 v1 X1=>cVAddN (VAt_cur (Stab_Vv _ _ _) (show VAt w (Vv N ((cv vs k).1) ((cv vs k).2)) v0 Y from X0) h.k.below) (VAt_cur (Stab_Vv _ _ _) (show VAt w (Vv N ((cv vs (k+1)).1) ((cv vs (k+1)).2)) v1 Y from X1) h.k.below)),ks,(kd1 fun _ _ Y h v0 X0=>(cSgCross (VSg_now (show VAt w (VSg N vs k) v0 Y from X0) h.k.below))),(kd2 fun _ _ _ _ _ X0 _ X1=>cVScaleN X0 X1),(kd2 fun _ _ _ _ _ X0 _ X1=>cVAddN X0 X1),ks,trivial⟩ ?_;intro a2 w2 st2;have eM:1+(xs++ [k]).length*(6*N+3)=(1+xs.length*(6*N+3))+((N+N+1)+(4*N+1))+1:=by rw [List.length_append,List.length_singleton,Nat.succ_mul];omega
  have eS:=sumQ_snoc (cwX vs) xs k;have eT:=sumQ_snoc (cwY vs) xs k;have fin:St w.heap.size w 27 [.k 2 32 8 VT,.k 3 32 8 (Vv (1+(xs++ [k]).length*(6*N+3)) (sumQ (cwX vs) (xs++ [k])) (sumQ (cwY vs) (xs++ [k])))] [(9,VKR w3.heap.size [(32,8,0),(73,16,0)] W),(0,VEq (.slice p vs.length c)),(2,VEq (.pointer (some ⟨g2,0,none⟩))),(3,VEq (.pointer (some ⟨g3,0,none⟩)))] a2 w2:=by rw [eM,eS,eT];exact st2.cut
  exact⟨fin.cut,trivial⟩
 case stop=>
  intro D j W hD hj st1 hEw hK;obtain⟨_,_,_,_,_,_,_,_,hF⟩:=st1.boxAt (b:=⟨0,none,none,30,4,VF,VT⟩) (.head _) rfl rfl;exact hF.elim
 case done=>
  intro D W hD st1 hEw hK;have hds:({a3 with defers:=[{target:= .collected D,args:=#[]}]}:Act).defers= [{target:= .collected D,args:=#[]}]:=rfl;replace st1:=(st1.addS (t:=8) (V:=VOb D) (by decide) (fun _=>hK)).undef;generalize hDa:({a3 with defers:=[{target:= .collected D,args:=#[]}]}:Act)=aD at hds ⊢;replace st1:St w.heap.size w 27 [.k 2 32 8 VT,.k 3 32 8 (Vv (1+(List.range vs.length).length*(6*N+3)) (sumQ (cwX vs) (List.range vs.length)) (sumQ (cwY vs) (List.range vs.length)))] [(8,VOb D),(0,VEq (.slice p vs.length c)),(2,VEq (.pointer (some ⟨g2,0,none⟩))),(3,VEq (.pointer (some ⟨g3,0,none⟩)))] ⟨aD.tmps,[]⟩ W:=by rw [<-hDa];exact st1
  clear hDa;rw [List.length_range] at st1;refine Wm ?_
  have:Sb [(32,8,0)] (VOb D):=⟨(Stab_VOb (by simp))⟩;refine rgD (BT:=[(32,8,0)]) (Vl:=[Vv (1+vs.length*(6*N+3)) (sumQ (cwX vs) (List.range vs.length)) (sumQ (cwY vs) (List.range vs.length)),Vq 3 (Rat.divInt 1 3),VEq (.slice p vs.length c),Vq (1+vs.length*(4*N+2)) (twQ vs),Vq (3+(1+vs.length*(4*N+2))) ((Rat.divInt 1 3) / (twQ vs)),Vv ((1+vs.length*(6*N+3))+(3+(1+vs.length*(4*N+2)))) ((sumQ (cwX vs) (List.range vs.length))*((Rat.divInt 1 3) / (twQ vs))) ((sumQ (cwY vs) (List.range vs.length))*((Rat.divInt 1 3) / (twQ vs))),VT]) (B:=[⟨2,none,some 6,32,8,Vv ((1+vs.length*(6*N+3))+(3+(1+vs.length*(4*N+2)))) ((sumQ (cwX vs) (List.range vs.length))*((Rat.divInt 1 3) / (twQ vs))) ((sumQ (cwY vs) (List.range vs.length))*((Rat.divInt 1 3) / (twQ vs))),VT⟩,.k 3 32 8 (Vv (1+vs.length*(6*N+3)) (sumQ (cwX vs) (List.range vs.length)) (sumQ (cwY vs) (List.range vs.length)))]) (SL':=[(8,VOb D),(0,VEq (.slice p vs.length c)),(2,VEq (.pointer (some ⟨g2,0,none⟩))),(3,VEq (.pointer (some ⟨g3,0,none⟩)))]) hds st1 ⟨ks,?s1,ks,?s3,?s4,?s5,ks,trivial⟩ ?_;case s1=>refine kc fun _ A Y h hd=>?_;exact⟨#[.int .i64 1,.int .i64 3],by simp [eval_const],cQOf (show Vi 1 (.int .i64 1) Y from rfl) (show Vi 3 (.int .i64 3) Y from rfl)⟩
  case s3=>exact kd1 fun _ _ _ h v0 X0=>(by obtain rfl:v0=_:=X0;exact cTwice (VSv_later hS h.k.below) hN1 hbd)
  case s4=>exact kd2 fun _ _ _ _ _ X0 _ X1=>cQDiv X0 X1
  case s5=>exact kd2 fun _ _ _ _ _ X0 _ X1=>cVScaleN X0 X1
  intro a2 w2 hds st2;refine Wm ?_
  obtain⟨vo,ho1,ho2⟩:=st2.sl (8,VOb D) (lS_mem rfl);have stX:=St.grown (st2.cut (L':=[.k 2 32 8 (Vv ((1+vs.length*(6*N+3))+(3+(1+vs.length*(4*N+2)))) ((sumQ (cwX vs) (List.range vs.length))*((Rat.divInt 1 3) / (twQ vs))) ((sumQ (cwY vs) (List.range vs.length))*((Rat.divInt 1 3) / (twQ vs)))),.k 3 32 8 (Vv (1+vs.length*(6*N+3)) (sumQ (cwX vs) (List.range vs.length)) (sumQ (cwY vs) (List.range vs.length)))]) (SL':=[])) (grownBy_putObj' w2 D (.deferred none)) (fun r e=>by cases e;exact⟨Nat.le_trans hn0 hD,_,ho2,rfl⟩);obtain⟨g,cs,r1,r2,r3,r4,r5⟩:=stX.res (.k 2 32 8 (Vv ((1+vs.length*(6*N+3))+(3+(1+vs.length*(4*N+2)))) ((sumQ (cwX vs) (List.range vs.length))*((Rat.divInt 1 3) / (twQ vs))) ((sumQ (cwY vs) (List.range vs.length))*((Rat.divInt 1 3) / (twQ vs))))) (.head _) rfl rfl;exact wpIn_ret (ret_mark hds ho2 (results_cell_row rfl _ _ g 32 cs (0,0) _ r1 r2 Tryz.underlying32 rfl (by rw [r3];exact size_Vec)) ⟨_,rfl,r4,r5⟩)
theorem own_mono {β:Type}{B B':Nat}{J:β->World->Prop}(h:OwnFrom B J)(hb:B<=B'):OwnFrom B' J:=fun s A A' row hs hg hr=>h s A A' row hs hg fun r e=>⟨Nat.le_trans hb (hr r e).1,(hr r e).2⟩
def SeqT {α:Type}(n g:Nat)(lb:Array Value)(encs:α->Array Value)(Kq:World->World->World->Prop)(S Sp:List α->Prop)(N:Nat)(w:World):Prop:=
 ∀(l:Nat) (J Jx:List α->World->Prop) (W:World),Below w.heap.size w W->OwnFrom W.heap.size J->OwnFrom W.heap.size Jx->
  (∀pre x W1,J pre W1->pre.length<N->YieldAt (fW none) (n - 1) Tryz.prog l (encs x) W1 fun e W'=>
   (e= .returned (.bool true)/\J (pre++ [x]) W'/\Kq W W1 W')∨(e= .returned (.bool false)/\Jx (pre++ [x]) W'/\Kq W W1 W'))->
  J [] W->CallsIn (fW none) n Tryz.prog g (#[.func (.yield l) #[] #[]]++lb) W fun e W'=>(∃v,e= .returned v)/\((∃xs,S xs/\J xs W')∨(∃pre,Sp pre/\Jx pre W'))
def ownPostT {α:Type}(B:Nat)(Kq:World->World->Prop)(I:List α->World->Prop)(Ix:Code->List α->World->Prop)(xs:List α)(W:World):Exit->Act->World->Prop
 | .normal,_,W'=>KeepsFrom B W W'/\Kq W W'/\I xs W'
 | .ret,_,W'=>KeepsFrom B W W'/\Kq W W'/\Ix .ret xs W'
 |_,_,_=>False
section
theorem own_put {β:Type}{B:Nat}{I:β->World->Prop}(h:OwnFrom B I){s:β}{W:World}{l:Nat}{o o':Obj}(hs:I s W)(hl:B<=l)(ho:W.heap[l]? =some o)(hc:o.isCells=false):I s (W.putObj l o'):=h.putObj _ hs hl ho hc
end
theorem range_own {α:Type}{n tk:Nat}{ps:Array Tmp}{assign body:Code}{Q:Exit->Act->World->Prop}{a:Act}{w:World}{gf:Nat}{lb:Array Value}{encs:α->Array Value}{Kq:World->World->World->Prop}{S Sp:List α->Prop}{N:Nat}
 (n1:1<=n) (hg:a.eval (.tmp tk)= .func (.func gf) #[] lb) (eg:∀args w,(callFunc gf args).run Tryz.prog w= .ok (.enter gf args) w) (hseq:SeqT (n - 1) gf lb encs Kq S Sp N w)
 (hKt:∀{W A B C:World},Kq W A B->Kq W B C->Kq W A C) (hKb:∀(W A:World) (l:Nat) (o o':Obj),w.heap.size<=l->l<W.heap.size->A.heap[l]? =some o->o.isCells=false->Kq W A (A.putObj l o')) (hps:∀x,(encs x).size=ps.size)
 (I:List α->World->Prop) (Ix:Code->List α->World->Prop) (hI:OwnFrom w.heap.size I) (hIx:∀c,OwnFrom w.heap.size (Ix c)) (h0:I [] w) (Ax:α->Act->World->Prop) (hAx:∀x a',OwnFrom w.heap.size (fun (_:Unit) W=>Ax x a' W))
 (hassign:∀(l:Nat) (pre:List α) (x:α) (W0 W:World) (K:Act->World->Prop),w.heap.size<=W0.heap.size->I pre W->(∀a' W',KeepsFrom w.heap.size W W'->Kq W0 W W'->I pre W'->Ax x a' W'->K a' W')->assign.wpIn (fW (some l)) (n - 1 - 1) Tryz.prog (Exit.then K (fun _ _ _=>False)) {tmps:=(ps.zip (encs x)).foldl (fun t (p,v)=>t.setIfInBounds p v) a.tmps,defers:=[]} W)
 (hbody:∀(l:Nat) (pre:List α) (x:α) (a':Act) (W0 W:World),w.heap.size<=W0.heap.size->I pre W->Ax x a' W->pre.length<N->body.wpIn (fW (some l)) (n - 1 - 1) Tryz.prog (ownPostT w.heap.size (Kq W0) I Ix (pre++ [x]) W) a' W)
 (hdone:∀(D:Nat) (xs:List α) (W:World),w.heap.size<=D->S xs->I xs W->W.heap[D]? =some (.deferred (some []))->Q .normal {a with defers:={target:= .collected D,args:=#[]}::a.defers} W)
 (hstop:∀(D:Nat) (c:Code) (pre:List α) (W:World),w.heap.size<=D->Sp pre->Ix c pre W->W.heap[D]? =some (.deferred (some []))->c.wpIn (fW none) n Tryz.prog Q {a with defers:={target:= .collected D,args:=#[]}::a.defers} W):
 (Code.rangeFunc (.tmp tk) ps assign body).wpIn (fW none) n Tryz.prog Q a w:=by
 refine wpIn_rangeFunc ?_;intro fn hfn;obtain⟨R,hR⟩:∃R:LoopState->Option Code->Loop,∀s p,R s p={state:=s,pending:=p,fn,tmps:=a.tmps,params:=ps,assign,body,defers:=w.heap.size}:=⟨_,fun _ _=>rfl⟩;obtain⟨U,hU⟩:∃U,(w.alloc (.deferred (some []))).alloc (.loop (R .ready none))=U:=⟨_,rfl⟩;have uS:U.heap.size=w.heap.size+2:=by rw [<-hU];simp
 have uL:U.heap[w.heap.size+1]? =some (.loop (R .ready none)):=by
  rw [<-hU];have:=World.alloc_heap_new (w.alloc (.deferred (some []))) (.loop (R .ready none));rwa [World.size_alloc] at this
 have uD:U.heap[w.heap.size]? =some (.deferred (some [])):=by
  rw [<-hU];exact(Below.heap_alloc _ _ _ (by simp)).trans (World.alloc_heap_new w _)
 have uI:I [] U:=by rw [<-hU];exact hI.alloc _ (hI.alloc _ h0)
 have uB:Below w.heap.size w U:=by rw [<-hU];exact((Below.refl _ w).alloc (Nat.le_refl _) _).alloc (by simp) _
 refine⟨w.heap.size+1,[{target:= .collected w.heap.size,args:=#[]}],U,{target:= .fn (.func gf) lb,args:=#[.func (.yield (w.heap.size+1)) #[] #[]]},U,gf,#[.func (.yield (w.heap.size+1)) #[] #[]]++lb,U,?_,?_,fun _ _=>trivial,?_,fun e=>(by cases e),?_⟩
 ·rw [<-hU,hR];exact run_enterLoop_outer _ _ _ _ _
 ·simp only [resolve,hg];simp [go_sem]
 ·simp [invoke,go_sem,eg]
 -- what abides:our own,the record,the block for deferred calls
 have abide:∀{T:List α->World->Prop},OwnFrom w.heap.size T->∀(o:Obj),OwnFrom U.heap.size (fun pre W=>T pre W/\W.heap[w.heap.size+1]? =some o/\W.heap[w.heap.size]? =some (.deferred (some []))):=fun hT o s A B row hs hgr hr=>by
  refine⟨hT s A B row hs.1 hgr fun r e=>⟨by have:=(hr r e).1;omega,(hr r e).2⟩,?_,?_⟩
  ·exact(hgr.block _ (lt_blk hs.2.1) fun e=>by have:=(hr _ e.symm).1;omega).trans hs.2.1
  ·exact(hgr.block _ (lt_blk hs.2.2) fun e=>by have:=(hr _ e.symm).1;omega).trans hs.2.2
 refine(hseq (w.heap.size+1) (fun pre W=>I pre W/\W.heap[w.heap.size+1]? =some (.loop (R .ready none))/\W.heap[w.heap.size]? =some (.deferred (some [])))
  (fun pre W=>∃c,Ix c pre W/\W.heap[w.heap.size+1]? =some (.loop (R .done (some c)))/\W.heap[w.heap.size]? =some (.deferred (some [])))
  U uB (abide hI _) (fun s A B row hs hgr hr=>by obtain⟨c,hc⟩:=hs;exact⟨c,abide (hIx c) _ s A B row hc hgr hr⟩) ?_ ⟨uI,uL,uD⟩).mono ?_
 ·rintro pre x W ⟨hi,hl,hk⟩ hlen
  have hy:=run_yield (P:=Tryz.prog) (args:=encs x) hl (by rw [hR];exact hps x);rw [hR] at hy;refine⟨fn,_,assign,body,hy,roundIn_of_wpIn hfn (hassign _ pre x U W _ (by omega) hi fun a' V hkv hqv hiv hax=>?_)⟩;have vl:=hkv.same _ _ (by omega) hl rfl;have vk:=hkv.same _ _ (Nat.le_refl _) hk rfl;obtain⟨Z,hZ⟩:∃Z,V.putObj (w.heap.size+1) (.loop {R .ready none with state:= .busy})=Z:=⟨_,rfl⟩;refine⟨Z,by rw [<-hZ];exact run_beginRound vl (by rw [hR]),?_⟩;have zl:Z.heap[w.heap.size+1]? =some (.loop {R .ready none with state:= .busy}):=by rw [<-hZ];exact World.putObj_heap_same (lt_blk vl)
  have zk:Z.heap[w.heap.size]? =some (.deferred (some [])):=by rw [<-hZ];exact(World.putObj_heap_other (by omega)).trans vk
  have zi:I pre Z:=by rw [<-hZ];exact own_put hI hiv (by omega) vl rfl
  have za:Ax x a' Z:=by rw [<-hZ];exact own_put (s:=()) (hAx x a') hax (by omega) vl rfl
  have zq:Kq U V Z:=by rw [<-hZ];exact hKb _ _ _ _ _ (by omega) (by omega) vl rfl
  refine wpIn_mono (hbody _ pre x a' U Z (by omega) zi za hlen) ?_
  have fin:∀(jump:Option Code) (Y:World),KeepsFrom w.heap.size Z Y->∃X,(Instr.endRound (w.heap.size+1) jump).run Tryz.prog Y= .ok (.bool jump.isNone) X/\X=Y.putObj (w.heap.size+1) (.loop (R (if jump.isNone then .ready else .done) jump))/\Y.heap[w.heap.size+1]? =some (.loop {R .ready none with state:= .busy})/\X.heap[w.heap.size+1]? =some (.loop (R (if jump.isNone then .ready else .done) jump))/\X.heap[w.heap.size]? =some (.deferred (some [])):=fun jump Y hky=>by
   have yl:=hky.same _ _ (by omega) zl rfl;have yk:=hky.same _ _ (Nat.le_refl _) zk rfl;have hr:=run_endRound (P:=Tryz.prog) jump yl;refine⟨_,?_,rfl,yl,World.putObj_heap_same (lt_blk yl),(World.putObj_heap_other (by omega)).trans yk⟩;rw [hR] at hr ⊢;exact hr
  intro e a3 Y hp;cases e with
  |normal=>
   obtain⟨h1,h2,h3⟩:=hp;obtain⟨X,hx,rfl,yl,xl,xk⟩:=fin none Y h1;exact⟨_,_,hx,.inl ⟨rfl,⟨own_put hI h3 (by omega) yl rfl,xl,xk⟩,hKt hqv (hKt (hKt zq h2) (hKb _ _ _ _ _ (by omega) (by omega) yl rfl))⟩⟩
  |ret=>
   obtain⟨h1,h2,h3⟩:=hp;obtain⟨X,hx,rfl,yl,xl,xk⟩:=fin (some .ret) Y h1;exact⟨_,_,hx,.inr ⟨rfl,⟨.ret,own_put (hIx _) h3 (by omega) yl rfl,xl,xk⟩,hKt hqv (hKt (hKt zq h2) (hKb _ _ _ _ _ (by omega) (by omega) yl rfl))⟩⟩
  |exit id=>exact hp.elim
  |goto t=>exact hp.elim
  |panic ch=>exact hp.elim
  |outgrown=>exact hp.elim
 ·rintro e X ⟨⟨v,rfl⟩,(⟨xs,hS,hi,hl,hk⟩|⟨pre,hSp,c,hi,hl,hk⟩)⟩
  ·have:=run_endLoop (P:=Tryz.prog) hl (by rw [hR];simp);rw [hR] at this;exact⟨none,_,this,hdone _ xs _ (Nat.le_refl _) hS (own_put hI hi (by omega) hl rfl) ((World.putObj_heap_other (by omega)).trans hk)⟩
  ·have:=run_endLoop (P:=Tryz.prog) hl (by rw [hR];simp);rw [hR] at this;exact⟨some c,_,this,hstop _ c pre _ (Nat.le_refl _) hSp (own_put (hIx c) hi (by omega) hl rfl) ((World.putObj_heap_other (by omega)).trans hk)⟩
instance iCeYT:CeT 103:=⟨_,Tryz.underlying103,rfl⟩
def KpT (wb:World)(BT:List (TypeId×Nat×Nat))(W A B:World):Prop:=Kp wb BT A B/\∀(k:Nat) (o:Obj),W.heap.size<=k->A.heap[k]? =some o->NoCl o->B.heap[k]? =some o
theorem KpT.trans {wb:World}{BT:List (TypeId×Nat×Nat)}{W A B C:World}(h:KpT wb BT W A B)(k:KpT wb BT W B C):KpT wb BT W A C:=⟨h.1.trans k.1,fun i o h1 h2 h3=>k.2 i o h1 (h.2 i o h1 h2 h3) h3⟩
def tn (vs:List P2)(k:Nat):Int:=sdI (cv vs k) (cv vs (k+1)) (cv vs (k+2))
instance (l:Nat):O1 (VEq (.func (.yield l) #[] #[])):=⟨fun v w h=>by obtain rfl:v=_:=h;exact⟨rfl,(fun _ e=>by cases e),rfl⟩⟩
theorem St.lowB {n0 N:Nat}{w0:World}{L:List Bd}{SL:List (Nat×VP)}{a:Act}{W w:World}(h:St W.heap.size W N L SL a w)(hB:Below n0 w0 W)(hn:n0<=W.heap.size):St n0 w0 N L SL a w:=
 ⟨⟨hB.trans (h.k.below.mono hn),fun b hb hon=>by
  obtain⟨g,cs,e1,e2,e3⟩:=h.k.ok b hb hon
  exact⟨g,cs,e1,Nat.le_trans hn e2,e3⟩,h.k.ne,h.k.fa⟩,Nat.le_trans hn h.n,h.size,h.defers,h.sl⟩
section
variable {ρ:Operand->Value}{o:Oper}{W:World}{x y:Operand}{vb:Value}
theorem run_yieldV1 {l:Nat}{ats:Array TypeId}{r:Result Next}(ho:o.op= .call {callee:= .value x,args:=#[y],argTypes:=ats})(hx:ρ x= .func (.yield l) #[] #[])(hy:ρ y=vb)(h:(Instr.yield l #[vb]).run Tryz.prog W=r):(execOp ρ o).run Tryz.prog W=r:=by
 unfold execOp;simp only [ho,resolve,invoke,Deferred.ofValue,Sem.run_bind,Sem.run_pure,Result.andThen_ok,List.map_toArray,List.map_cons,List.map_nil,hx,hy];exact h
theorem run_fieldSg {g f off:Nat}(hf:(f=0/\off=0)∨(f=1/\off=8))(ho:o.op= .fieldAddr 73 x f)(hx:ρ x= .pointer (some ⟨g,0,none⟩)):(execOp ρ o).run Tryz.prog W= .ok (.value (.pointer (some ⟨g,off,none⟩))) W:=by
 unfold execOp;rcases hf with⟨rfl,rfl⟩|⟨rfl,rfl⟩
 ·simp only [ho,hx,Sem.run_bind,field_segment0,Sem.run_pure,Result.andThen_ok]
 ·simp only [ho,hx,Sem.run_bind,field_segment1,Sem.run_pure,Result.andThen_ok]
theorem run_loadSg {g off:Nat}{cs:Array Value}(ho:o.op= .load 32 x)(hx:ρ x= .pointer (some ⟨g,off,none⟩))(hg:W.heap[g]? =some (.cells cs 73 (0,0)))(hk:off+8<=cs.size):(execOp ρ o).run Tryz.prog W= .ok (.value (.agg (cs.extract off (off+8)))) W:=by
 unfold execOp;simp only [ho,hx,Instr.loadAt,Instr.sureAddr,Sem.run_bind,Sem.run_pure,Result.andThen_ok,run_loadVar_part W g off 8 73 32 cs (0,0) _ hg hk Tryz.underlying32 rfl size_Vec]
end
theorem end_mark {n:Nat}{P:Program}{fn:Func}{R:Ending->World->Prop}{a:Act}{w:World}{D:Nat}{v:Value}(hd:a.defers= [{target:= .collected D,args:=#[]}])(hK:w.heap[D]? =some (.deferred (some [])))(hr:(results fn a.tmps).run P (w.putObj D (.deferred none))= .ok v (w.putObj D (.deferred none)))(hR:R (.returned v) (w.putObj D (.deferred none))):bodyPostM (fW none) n P fn R .normal a w:=by
 show LeavesInM (fW none) n P fn a.tmps R a.defers .returning w;rw [hd];exact⟨by simp,.inl ⟨_,_,rfl,run_takeDeferred hK,v,hr,hR⟩⟩
theorem turns_it {n:Nat}{wb wL:World}{N:Nat}{vs:List P2}{lv c:Value}{b1 b3:Nat}{BT:List (TypeId×Nat×Nat)}(n1:1<=n)(hN1:1<=N)(hN2:N<=900)(hvs:vs.length<=1000000)(hbt1:∀e∈BT,e.1≠23)(hbt2:∀e∈BT,e.1≠97)(hbt3:∀e∈BT,e.1≠103)(hB:Below wb.heap.size wb wL)(hS:VSv N vs lv wb)(p1:wL.heap[b1]? =some (.cells #[lv] 23 (0,0)))(p3:wL.heap[b3]? =some (.cells #[c] 97 (0,0)))(hc:VCo lv c wL):
 SeqT n 98 #[.pointer (some ⟨b1,0,none⟩),.pointer (some ⟨b3,0,none⟩)] (fun k:Nat=>#[.int .i64 (tn vs k)]) (KpT wb BT) (fun xs=>xs=List.range vs.length) (fun pre=>∃j,j<=vs.length/\pre=List.range j) vs.length wL:=by
 intro l J Jx W hW hJ hJx hY h0;have hBW:Below wb.heap.size wb W:=hB.trans (hW.mono hB.size);replace p1:=(hW.block _ (lt_blk p1)).trans p1;replace p3:=(hW.block _ (lt_blk p3)).trans p3;obtain⟨b5,rfl,p5⟩:=hc;replace p5:=(hW.block _ (lt_blk p5)).trans p5;obtain⟨pp,cc,hlv⟩:=VSv_slice hS;subst hlv;refine callsIn_of_wp_marks Tryz.func98 rfl trivial ?_ rfl;simp only [Tryz.ntmps98,List.size_toArray,List.length_cons,List.length_nil,Nat.reduceAdd,Nat.reduceSub,Array.replicate_succ,Array.replicate_zero,List.push_toArray,List.append_toArray,List.nil_append,List.cons_append];have st0:St W.heap.size W 22 [] [(0,VEq (.func (.yield l) #[] #[])),(1,VPb 23 (.slice pp vs.length cc)),(2,VEq (.pointer (some ⟨b3,0,none⟩)))] _ W:=St.begin (a:=⟨#[.func (.yield l) #[] #[],.pointer (some ⟨b1,0,none⟩),.pointer (some ⟨b3,0,none⟩),undef,undef,undef,undef,undef,undef,undef,undef,undef,undef,undef,undef,undef,undef,undef,undef,undef,undef,undef],[]⟩) rfl rfl (Lq.2 ⟨⟨_,rfl,rfl⟩,Lq.2 ⟨⟨_,rfl,_,rfl,p1⟩,Lq.2 ⟨⟨_,rfl,rfl⟩,L0⟩⟩⟩);generalize(⟨#[.func (.yield l) #[] #[],.pointer (some ⟨b1,0,none⟩),.pointer (some ⟨b3,0,none⟩),undef,undef,undef,undef,undef,undef,undef,undef,undef,undef,undef,undef,undef,undef,undef,undef,undef,undef,undef],[]⟩:Act)=a0 at st0 ⊢;refine Wm ?_
 have:Sb [] (VPb 23 (.slice pp vs.length cc)):=⟨Stab_VPb (by simp)⟩;refine rJ [] [VT] [⟨3,some 0,some 0,103,1,VC1 (VEq (.func (.yield l) #[] #[])),VT⟩] [(1,VPb 23 (.slice pp vs.length cc)),(2,VEq (.pointer (some ⟨b3,0,none⟩)))] st0 ⟨k_box1_ (A:=VEq (.func (.yield l) #[] #[])) rfl rfl rfl rfl rfl rfl rfl rfl rfl (by kernel_rfl) (.inr ⟨rfl,by kernel_rfl⟩) trivial,trivial⟩ fun a1 w1 st1=>Wm ?_
 have:Sb [] (VSd (.slice pp vs.length cc)):=⟨Stab_VSd (by simp) (by simp)⟩;refine rJ [] [VEq (.slice pp vs.length cc),VSd (.slice pp vs.length cc)] [.k 3 103 1 (VC1 (VEq (.func (.yield l) #[] #[])))] [(2,VEq (.pointer (some ⟨b3,0,none⟩))),(7,VSd (.slice pp vs.length cc))] st1 ⟨(by refine kr fun _ ac Y h hd=>?_;obtain⟨v0,hv0,X0⟩:=h.ot 1;exact load_Pb rfl hv0 X0),(by refine kc fun _ ac Y h hd=>?_;obtain⟨v0,hv0,X0⟩:=h.dp hd 6;obtain rfl:v0=_:=X0;exact⟨#[.slice pp vs.length cc],by simp [hv0],cSides⟩),trivial⟩ ?_;intro a2 w2 st2;replace st2:St W.heap.size W 22 [.k 3 103 1 (VC1 (VEq (.func (.yield l) #[] #[])))] [(2,VEq (.pointer (some ⟨b3,0,none⟩))),(7,VSd (.slice pp vs.length cc))] a2 w2:=st2;have hsd:=st2.sl (7,VSd (.slice pp vs.length cc)) (lS_mem rfl);obtain⟨g3,hg3,st2⟩:=st2.ptrB 3 rfl rfl rfl;replace st2:St W.heap.size W 22 [.k 3 103 1 (VC1 (VEq (.func (.yield l) #[] #[])))] [(2,VEq (.pointer (some ⟨b3,0,none⟩))),(3,VEq (.pointer (some ⟨g3,0,none⟩)))] a2 w2:=st2.cut;have hbl:=st2.k.below;have hnW:=st2.n;have j0:=hJ _ _ _ none h0 (grown_of hbl) (fun r e=>by cases e);have q3:=(hbl.block _ (lt_blk p3)).trans p3;have q5:=(hbl.block _ (lt_blk p5)).trans p5;have st3:=st2.lowB hBW hBW.size;refine Wm ?_
 refine range_sides (n:=n) (Nf:=22) (t:=5) (N:=N) (vs:=vs) (lv:= .slice pp vs.length cc) (BT:=BT) (fun _=>[.k 3 103 1 (VC1 (VEq (.func (.yield l) #[] #[])))]) (fun _=>[]) (fun ks A=>J ks A/\A.heap[b3]? =some (.cells #[.func (.func 123) #[] #[.pointer (some ⟨b5,0,none⟩)]] 97 (0,0))/\A.heap[b5]? =some (.cells #[.slice pp vs.length cc] 23 (0,0))) (fun ks A=>Jx ks A) [(2,VEq (.pointer (some ⟨b3,0,none⟩))),(3,VEq (.pointer (some ⟨g3,0,none⟩)))] st3 ⟨j0,q3,q5⟩ (fun k=>[(4,Vi (k:Int))])
  (fun ks s A B row hs hg hr=>⟨own_mono hJ hnW ks _ _ row hs.1 hg hr,(hg.block _ (lt_blk hs.2.1) fun e=>by obtain⟨o,h1,h2⟩:=(hr _ e.symm).2;rw [hs.2.1] at h1;cases h1;cases h2).trans hs.2.1,(hg.block _ (lt_blk hs.2.2) fun e=>by obtain⟨o,h1,h2⟩:=(hr _ e.symm).2;rw [hs.2.2] at h1;cases h1;cases h2).trans hs.2.2⟩)
  (fun ks s A B row hs hg hr=>own_mono hJx hnW ks _ _ row hs hg hr)
  hsd hS (fun _=>(Lq.2 ⟨⟨rfl,rfl,_,(.tail _ (.head _))⟩,L0⟩)) (fun _=>L0) (Lq.2 ⟨⟨_,rfl⟩,(Lq.2 ⟨⟨_,rfl⟩,L0⟩)⟩) (by decide) (by decide) (by decide) (Lq.2 ⟨⟨by simp,by simp⟩,(Lq.2 ⟨⟨by simp,by simp⟩,L0⟩)⟩) n1 hbt1 hbt2 ?assign ?body (fun _ _=>(Lq.2 ⟨⟨_,(.head _),rfl⟩,L0⟩)) (fun _=>(Lq.2 ⟨(by simp),L0⟩)) ?done ?stop
 case assign=>
  intro l2 k a1 W1 K hn1 hb1 st1 hK;refine Wm ?_
  refine rJ [] [Vi (k:Int)] [] [(9,VAt wb (VSg N vs k)),(4,Vi (k:Int)),(2,VEq (.pointer (some ⟨b3,0,none⟩))),(3,VEq (.pointer (some ⟨g3,0,none⟩)))] st1 ⟨ks,trivial⟩ fun a4 w4 st4=>Wm ?_
  refine rJ [(73,16,0)] [VT,VT] [⟨5,some 0,some 1,73,16,VAt wb (VSg N vs k),VT⟩] [(4,Vi (k:Int)),(2,VEq (.pointer (some ⟨b3,0,none⟩))),(3,VEq (.pointer (some ⟨g3,0,none⟩)))] st4 ⟨ks,ks,trivial⟩ ?_;intro a5 w5 st5;exact hK _ _ st5
 case stop=>
  intro D j A hD hj st1 hEx hK;refine wpIn_ret (ret_mark rfl hK (results_none rfl _ _ _) ⟨⟨_,rfl⟩,.inr ⟨_,⟨j,hj,rfl⟩,own_put hJx hEx (Nat.le_trans hnW hD) hK rfl⟩⟩)
 case done=>
  intro D A hD st1 hE hK;exact end_mark rfl hK (results_none rfl _ _ _) ⟨⟨_,rfl⟩,.inl ⟨_,rfl,own_put hJ hE.1 (Nat.le_trans hnW hD) hK rfl⟩⟩
 case body=>
  intro l2 k xs a1 W1 hk hlen st1 hE;obtain⟨hJ1,r3,r5⟩:=hE;have hb1:=st1.k.below;obtain⟨x3,e3,hx3,-,cs3,y3,z3,t3,u3,hc3,hu3⟩:=st1.boxAt (b:=(.k 3 103 1 (VC1 (VEq (.func (.yield l) #[] #[]))))) (.head _) rfl rfl;cases hc3;obtain rfl:u3=_:=hu3;obtain⟨x5,e5,-,-,cs5,y5,z5,t5,P5⟩:=st1.boxAt (b:=(.k 5 73 16 (VAt wb (VSg N vs k)))) (.tail _ (.head _)) rfl rfl;have e3':=st1.val (t:=3) (u:= .pointer (some ⟨g3,0,none⟩)) (by simp);obtain rfl:x3=g3:=by have:=e3.symm.trans e3';simpa using this
  have e2:=st1.val (t:=2) (u:= .pointer (some ⟨b3,0,none⟩)) (by simp);obtain⟨v4,e4,h4⟩:=st1.sl (4,Vi (k:Int)) (by simp);have stW:St W1.heap.size W1 22 [] [(3,VEq (.pointer (some ⟨x3,0,none⟩))),(2,VEq (.pointer (some ⟨b3,0,none⟩))),(5,VEq (.pointer (some ⟨x5,0,none⟩))),(4,Vi (k:Int))] a1 W1:=⟨⟨Below.refl _ _,fun b hb=>absurd hb (by simp),fun b hb=>absurd hb (by simp),fun b hb=>absurd hb (by simp)⟩,Nat.le_refl _,st1.size,st1.defers,(Lq.2 ⟨⟨_,e3,rfl⟩,(Lq.2 ⟨⟨_,e2,rfl⟩,(Lq.2 ⟨⟨_,e5,rfl⟩,(Lq.2 ⟨⟨_,e4,h4⟩,L0⟩)⟩)⟩)⟩)⟩;have s5:cs5.size=16:=z5;refine Wm ?_
  refine rgY (BT:=[]) (k:=10) (Vl:=[VEq (.func (.yield l) #[] #[]),VEq (.pointer (some ⟨x5,0,none⟩)),VAt wb (Vv N (cv vs k).1 (cv vs k).2),VEq (.pointer (some ⟨x5,8,none⟩)),VAt wb (Vv N (cv vs (k+1)).1 (cv vs (k+1)).2),VEq (.func (.func 123) #[] #[.pointer (some ⟨b5,0,none⟩)]),Vi (k:Int),Vi ((k+2:Nat):Int),VAt wb (Vv N (cv vs (k+2)).1 (cv vs (k+2)).2),Vi (tn vs k)]) stW ⟨?s0,?s1,?s2,?s3,?s4,?s5,ks,?s7,?s8,?s9,trivial⟩ rfl rfl rfl rfl rfl (fun _ e=>by cases e) (by kernel_rfl) (by kernel_rfl) ?tail rfl (by kernel_rfl);case s0=>refine kr fun _ ac Y h hd=>?_;obtain⟨v0,hv0,X0⟩:=h.ot 3;obtain rfl:v0=_:=X0;exact load_Pb rfl hv0 ⟨x3,rfl,(h.k.below.block _ (lt_blk y3)).trans y3⟩
  case s1=>refine kr fun _ ac Y h hd=>?_;obtain⟨v0,hv0,X0⟩:=h.ot 5;obtain rfl:v0=_:=X0;exact⟨_,run_fieldSg (.inl ⟨rfl,rfl⟩) rfl hv0,rfl⟩
  case s2=>refine kr fun _ ac Y h hd=>?_;obtain⟨v0,hv0,X0⟩:=h.dp hd 11;obtain rfl:v0=_:=X0;exact⟨_,run_loadSg rfl hv0 ((h.k.below.block _ (lt_blk y5)).trans y5) (by omega),(inferInstance:PtC (VAt wb (VSg N vs k)) 0 8 (VAt wb (Vv N (cv vs k).1 (cv vs k).2))).out _ W1 P5⟩
  case s3=>refine kr fun _ ac Y h hd=>?_;obtain⟨v0,hv0,X0⟩:=h.ot 5;obtain rfl:v0=_:=X0;exact⟨_,run_fieldSg (.inr ⟨rfl,rfl⟩) rfl hv0,rfl⟩
  case s4=>refine kr fun _ ac Y h hd=>?_;obtain⟨v0,hv0,X0⟩:=h.dp hd 13;obtain rfl:v0=_:=X0;exact⟨_,run_loadSg rfl hv0 ((h.k.below.block _ (lt_blk y5)).trans y5) (by omega),(inferInstance:PtC (VAt wb (VSg N vs k)) 8 8 (VAt wb (Vv N (cv vs (k+1)).1 (cv vs (k+1)).2))).out _ W1 P5⟩
  case s5=>refine kr fun _ ac Y h hd=>?_;obtain⟨v0,hv0,X0⟩:=h.ot 2;obtain rfl:v0=_:=X0;exact load_Pb rfl hv0 ⟨b3,rfl,(h.k.below.block _ (lt_blk r3)).trans r3⟩
  case s7=>exact kr1 16 fun _ _ _ _ v0 hv0 X0=>⟨_,run_addi rfl (hv0.trans (show v0= .int .i64 (k:Int)from X0)) rfl wO,congrArg (Value.int .i64) (by omega)⟩
  case s8=>refine ke fun _ ac Y h hd=>?_;obtain⟨v0,hv0,X0⟩:=h.dp hd 15;obtain⟨v1,hv1,X1⟩:=h.dp hd 17;exact⟨_,_,run_enterV rfl (hv0.trans X0) hv1 (fun _ _=>rfl),cCorner (wb:=wb) (k:=k+2) (lv:= .slice pp vs.length cc) X1 ⟨b5,rfl,(h.k.below.block _ (lt_blk r5)).trans r5⟩ (hb1.trans (h.k.below.mono hb1.size)) hS (by omega) (cv_get (k+2) (by omega))⟩
  case s9=>refine kc fun _ ac Y h hd=>?_;have hbd:=hb1.trans (h.k.below.mono hb1.size);obtain⟨v0,hv0,X0⟩:=h.dp hd 12;obtain⟨v1,hv1,X1⟩:=h.dp hd 14;obtain⟨v2,hv2,X2⟩:=h.dp hd 18;exact⟨#[v0,v1,v2],by simp [hv0,hv1,hv2],cSide (VAt_cur (Stab_Vv _ _ _) (show VAt wb (Vv N (cv vs k).1 (cv vs k).2) v0 Y from X0) hbd) (VAt_cur (Stab_Vv _ _ _) (show VAt wb (Vv N (cv vs (k+1)).1 (cv vs (k+1)).2) v1 Y from X1) hbd) (VAt_cur (Stab_Vv _ _ _) (show VAt wb (Vv N (cv vs (k+2)).1 (cv vs (k+2)).2) v2 Y from X2) hbd) hN1⟩
  case tail=>
   intro listed ac Y h hd;obtain⟨v0,hv0,X0⟩:=h.dp hd 10;obtain⟨v1,hv1,X1⟩:=h.dp hd 19;have hV0':v0= .func (.yield l) #[] #[]:=X0;have hV1':v1= .int .i64 (tn vs k):=X1;have hbd:=h.k.below;obtain⟨fn,tmps,assign,body,hy,hR⟩:=hY xs k Y (hJ _ _ _ none hJ1 (grown_of hbd) (fun r e=>by cases e)) hlen;have hBd:Below wb.heap.size wb Y:=hb1.trans (hbd.mono hb1.size);refine⟨fun _ _=>trivial,?_⟩;rw [Oper.semAt_eq _ _ _ (fun _ e=>by cases e),run_yieldV1 (x:= .tmp 10) (y:= .tmp 19) (vb:= .int .i64 (tn vs k)) rfl (hv0.trans hV0') (hv1.trans hV1') hy];refine⟨(by intro e;cases e),(RoundIn.any hR).mono ?_⟩;have hsz:ac.tmps.size=22:=by rw [h.size,stW.size]
   have hdf:ac.defers= []:=by rw [h.defers,stW.defers]
   have o2:ac.tmps[2]? =a1.tmps[2]? :=h.oth 2 (by kernel_rfl);have o3:ac.tmps[3]? =a1.tmps[3]? :=h.oth 3 (by kernel_rfl)
   have key:∀(bb:Bool) (W2:World),KpT wb BT W Y W2->St wb.heap.size wb 22 [.k 3 103 1 (VC1 (VEq (.func (.yield l) #[] #[])))] ((8,VKR w2.heap.size BT W1):: [(2,VEq (.pointer (some ⟨b3,0,none⟩))),(3,VEq (.pointer (some ⟨x3,0,none⟩)))]) ((ac.put (some 20) (.bool bb)).put (some 21) (.bool (!bb))) W2:=fun bb W2 hK=>by
    have y3d:=(hbd.block _ (lt_blk y3)).trans y3;have y32:=(hK.1.2.row _ _ _ y3d hbt3).trans y3d;have g3':((ac.put (some 20) (.bool bb)).put (some 21) (.bool (!bb))).tmps[3]? =some (.pointer (some ⟨x3,0,none⟩)):=(put2_get (t:=3) (by decide) (by decide)).trans (o3.trans e3');have g2':((ac.put (some 20) (.bool bb)).put (some 21) (.bool (!bb))).tmps[2]? =some (.pointer (some ⟨b3,0,none⟩)):=(put2_get (t:=2) (by decide) (by decide)).trans (o2.trans e2);have hz:((ac.put (some 20) (.bool bb)).put (some 21) (.bool (!bb))).tmps.size=22:=by rw [put_size,put_size,hsz]
    have vk:VKR w2.heap.size BT W1 undef W2:=⟨⟨Nat.le_trans hbd.size hK.1.2.size,fun i o h1 h2 h3=>hK.2 i o (Nat.le_trans hnW h1) ((hbd.block i (lt_blk h2)).trans h2) h3⟩,⟨Nat.le_trans hbd.size hK.1.2.size,fun i cs T h1 h2=>by
     have h3:=hbd.block i (lt_blk h1)
     exact(hK.1.2.row _ _ _ (h3.trans h1) h2).trans h3⟩⟩
    refine⟨⟨hK.1.1 hBd,?_,?_,?_⟩,(hK.1.1 hBd).size,hz,by rw [put_defers',put_defers',hdf],Lq.2 ⟨⟨_,by rw [Array.getElem?_eq_getElem (by rw [hz];exact(by decide:8<22))],vk⟩,(Lq.2 ⟨⟨_,g2',rfl⟩,(Lq.2 ⟨⟨_,g3',rfl⟩,L0⟩)⟩)⟩⟩
    ·intro b hb _;obtain rfl:=List.mem_singleton.1 hb;exact⟨x3,_,g3',hx3,y32,rfl,t3,fun _=>⟨_,rfl,rfl⟩,fun _ _=>trivial⟩
    ·intro b hb d hd' hn;obtain rfl:=List.mem_singleton.1 hb;obtain rfl:=List.mem_singleton.1 hd';exact absurd rfl hn
    ·intro b hb hn;obtain rfl:=List.mem_singleton.1 hb;exact absurd rfl hn
   rintro e W2 (⟨rfl,hJ2,hK⟩|⟨rfl,hJ2,hK⟩)
   ·refine⟨_,run_not (x:= .tmp 20) rfl (put_eval (by omega)),?_⟩;have st4:=key true W2 hK;have r3d:=(hbd.block _ (lt_blk r3)).trans r3;have r5d:=(hbd.block _ (lt_blk r5)).trans r5;refine Wm ?_
    refine wpIn_cond_false (put_eval (by rw [put_size];omega)) (Ik ?_);exact⟨st4,hJ2,(hK.1.2.row _ _ _ r3d hbt2).trans r3d,(hK.1.2.row _ _ _ r5d hbt1).trans r5d⟩
   ·refine⟨_,run_not (x:= .tmp 20) rfl (put_eval (by omega)),?_⟩;have st4:=key false W2 hK;refine Wm ?_
    refine wpIn_cond_true (put_eval (by rw [put_size];omega)) (wpIn_ret ?_);exact⟨st4.cut,hJ2⟩
theorem zip1 (a:Act)(D:a.defers= [])(p:Nat)(u:Value):({tmps:=(#[p].zip #[u]).foldl (fun t (p,v)=>t.setIfInBounds p v) a.tmps,defers:=[]}:Act)=a.put (some p) u:=by
 cases a with
 |mk tm df=>
  simp only at D;subst D;simp [Act.put]
theorem KpT.put {wb:World}{BT:List (TypeId×Nat×Nat)}{n0:Nat}(hn:wb.heap.size<=n0)(W A:World)(l:Nat)(o o':Obj)(hl:n0<=l)(hl2:l<W.heap.size)(h:A.heap[l]? =some o)(ho:o.isCells=false):KpT wb BT W A (A.putObj l o'):=
 ⟨⟨fun x=>x.grown (grownBy_putObj' A l o') x.size fun k e=>by cases e;omega,by simp,fun j cs T hj _=>(grownBy_putObj' A l o').block j (lt_blk hj) fun e=>by
  cases e;rw [h] at hj;cases hj
  cases ho⟩,fun k o1 hk h1 _=>(World.putObj_heap_other (by omega)).trans h1⟩
def TnPost (n0:Nat)(wb:World)(Nf:Nat)(L Lx:List Bd)(SL:List (Nat×VP))(p:Nat)(V:VP)(E Ex:Prop):Exit->Act->World->Prop
 | .normal,a,w=>St n0 wb Nf L ((p,V)::SL) a w/\E
 | .ret,a,w=>St n0 wb Nf Lx ((p,V)::SL) a w/\Ex
 |_,_,_=>False
theorem range_turns {n Nf tk p t:Nat}{wb w:World}{N:Nat}{vs:List P2}{lv:Value}{a:Act}{assign body:Code}{Q:Exit->Act->World->Prop}{BT:List (TypeId×Nat×Nat)}(L Lx:List Bd)(F Fx:List Nat->Prop)(SL:List (Nat×VP))
 (st:St wb.heap.size wb Nf L SL a w) (h0:F []) (hk:∃v,a.tmps[tk]? =some v/\VTn lv v w) (hS:VSv N vs lv wb) (hf:Fixed SL L) (hfx:Fixed SL Lx) (he:AllEq SL) (hp:p<Nf) (hp2:∀x∈SL,x.1≠p/\x.1≠t) (n1:2<=n) (hN1:1<=N) (hN2:N<=900) (hvs:vs.length<=1000000)
 (hbt1:∀e∈BT,e.1≠23) (hbt2:∀e∈BT,e.1≠97) (hbt3:∀e∈BT,e.1≠103) [hM:SbB MK L] [hMx:SbB MK Lx] [hMS:SbS MK SL]
 (hassign:∀(l k:Nat) (a1:Act) (W:World) (K:Act->World->Prop),St W.heap.size W Nf [] ((p,Vi (tn vs k))::SL) a1 W->(∀a' W',St W.heap.size W Nf [] ((t,Vi (tn vs k))::SL) a' W'->K a' W')->assign.wpIn (fW (some l)) (n - 1 - 1) Tryz.prog (Exit.then K (fun _ _ _=>False)) a1 W)
 (hbody:∀(l k:Nat) (ks:List Nat) (a1:Act) (W:World),St wb.heap.size wb Nf L ((t,Vi (tn vs k))::(p,VKR w.heap.size BT W)::SL) a1 W->F ks->body.wpIn (fW (some l)) (n - 1 - 1) Tryz.prog (TnPost wb.heap.size wb Nf L Lx SL p (VKR w.heap.size BT W) (F (ks++ [k])) (Fx (ks++ [k]))) a1 W)
 (hdone:∀(D:Nat) (W:World),w.heap.size<=D->St wb.heap.size wb Nf L SL a W->F (List.range vs.length)->W.heap[D]? =some (.deferred (some []))->Q .normal {a with defers:=[{target:= .collected D,args:=#[]}]} W)
 (hstop:∀(D:Nat) (j:Nat) (W:World),w.heap.size<=D->j<=vs.length->St wb.heap.size wb Nf Lx SL a W->Fx (List.range j)->W.heap[D]? =some (.deferred (some []))->Code.ret.wpIn (fW none) n Tryz.prog Q {a with defers:=[{target:= .collected D,args:=#[]}]} W):
 (Code.rangeFunc (.tmp tk) #[p] assign body).wpIn (fW none) n Tryz.prog Q a w:=by
 obtain⟨v,hv,b1,b3,c,rfl,p1,p3,hc⟩:=hk;have hn:wb.heap.size<=w.heap.size:=st.n;have hst:SbS MK ((t,Vi (0:Int))::SL):=⟨Lq.2 ⟨Stab_Vi _,hMS.out⟩⟩;have keep:∀{W0 W W':World} {v:Value},w.heap.size<=W0.heap.size->VKR w.heap.size BT W v W'->Below wb.heap.size wb W'->KeepsFrom w.heap.size W W'/\KpT wb BT W0 W W':=fun h0 h hb=>⟨⟨h.1.1,fun k o hB hk ho=>h.1.2 k o hB hk (noCl_of ho)⟩,⟨⟨fun _=>hb,h.2⟩,fun k o hk h1 h2=>h.1.2 k o (Nat.le_trans h0 hk) h1 h2⟩⟩
 refine range_own (α:=Nat) (n:=n) (Kq:=KpT wb BT) (by omega) (gf:=98) (lb:=#[.pointer (some ⟨b1,0,none⟩),.pointer (some ⟨b3,0,none⟩)]) (by simp [Act.eval,Array.getD_eq_getD_getElem?,hv]) (fun _ _=>rfl)
  (turns_it (n:=n - 1) (N:=N) (vs:=vs) (lv:=lv) (by omega) hN1 hN2 hvs hbt1 hbt2 hbt3 st.k.below hS p1 p3 hc) (fun h k=>KpT.trans h k) (fun W A l o o' hl hl2 h h1=>KpT.put hn W A l o o' hl hl2 h h1) (fun _=>rfl)
  (fun pre W=>St wb.heap.size wb Nf L SL a W/\F pre) (fun c pre W=>c= .ret/\St wb.heap.size wb Nf Lx SL a W/\Fx pre)
  (fun s A B row hs hg hr=>⟨hs.1.grown hg fun r e=>⟨Nat.le_trans hn (hr r e).1,(hr r e).2⟩,hs.2⟩) (fun c s A B row hs hg hr=>⟨hs.1,hs.2.1.grown hg fun r e=>⟨Nat.le_trans hn (hr r e).1,(hr r e).2⟩,hs.2.2⟩) ⟨st,h0⟩
  (fun k a' W=>St wb.heap.size wb Nf [] ((t,Vi (tn vs k))::SL) a' W)
  (fun k a' s A B row hs hg hr=>(have:SbS MK ((t,Vi (tn vs k))::SL):=⟨Lq.2 ⟨Stab_Vi _,hMS.out⟩⟩;hs.grown hg fun r e=>⟨Nat.le_trans hn (hr r e).1,(hr r e).2⟩)) ?assign ?body ?done ?stop
 case assign=>
  intro l pre k W0 W K hW0 ⟨hI,hF⟩ hK
  have hSp:SL.all (fun x=>x.1 !=p)=true:=by
   rw [List.all_eq_true];intro b hb;simp [(hp2 _ hb).1]
  have hW:St W.heap.size W Nf [] SL a W:=⟨⟨Below.refl _ _,fun b hb=>absurd hb (by simp),fun b hb=>absurd hb (by simp),fun b hb=>absurd hb (by simp)⟩,Nat.le_refl _,hI.size,hI.defers,hI.sl⟩;have h2:=hW.put1 p (.int .i64 (tn vs k)) (Vi (tn vs k)) rfl hp rfl hSp;rw [zip1 a st.defers];refine hassign l k _ W K h2 fun a' W' st'=>?_
  have hbl:=st'.k.below;have hbW:=hI.k.below.trans (hbl.mono hI.n);have k1:=keep (v:=undef) hW0 (VKR_below (B:=w.heap.size) (BT:=BT) hbl undef) hbW;refine hK a' W' k1.1 k1.2 ⟨hI.grown (grown_of hbl) (fun r e=>by cases e),hF⟩ ⟨⟨hbW,fun b hb=>absurd hb (by simp),fun b hb=>absurd hb (by simp),fun b hb=>absurd hb (by simp)⟩,Nat.le_trans hI.n hbl.size,st'.size,st'.defers,st'.sl⟩
 case body=>
  rintro l pre k a' W0 W hW0 ⟨hI,hF⟩ hA hlen
  have hA0:=hA.sub (L':=[]) (SL':=SL) (fun b hb=>hb) (fun b hb=>List.mem_cons_of_mem _ hb);have st2:=(hI.act hA0 hf he).addS (t:=p) (V:=VKR w.heap.size BT W) hp fun v=>VKR_refl v
  refine wpIn_mono (hbody l k pre a' W ⟨st2.k,st2.n,st2.size,st2.defers,Lq.2 ⟨hA.sl _ List.mem_cons_self,st2.sl⟩⟩ hF) ?_;intro e a2 W2 hpost;cases e with
  |normal=>
   obtain⟨hpost,hEp⟩:St wb.heap.size wb Nf L ((p,VKR w.heap.size BT W)::SL) a2 W2/\F (pre++ [k]):=hpost;obtain⟨u,-,hu⟩:=hpost.sl (p,VKR w.heap.size BT W) List.mem_cons_self;have k1:=keep (v:=u) hW0 hu hpost.k.below;exact⟨k1.1,k1.2,(hpost.sub (fun b hb=>hb) (fun b hb=>List.mem_cons_of_mem _ hb)).act st hf he,hEp⟩
  |ret=>
   obtain⟨hpost,hEp⟩:St wb.heap.size wb Nf Lx ((p,VKR w.heap.size BT W)::SL) a2 W2/\Fx (pre++ [k]):=hpost;obtain⟨u,-,hu⟩:=hpost.sl (p,VKR w.heap.size BT W) List.mem_cons_self;have k1:=keep (v:=u) hW0 hu hpost.k.below;exact⟨k1.1,k1.2,rfl,(hpost.sub (fun b hb=>hb) (fun b hb=>List.mem_cons_of_mem _ hb)).act st hfx he,hEp⟩
  |exit _=>exact hpost.elim
  |goto _=>exact hpost.elim
  |panic _=>exact hpost.elim
  |outgrown=>exact hpost.elim
 case done=>
  intro D xs W hD hxs hI hK;have hxs:xs=List.range vs.length:=hxs;subst hxs;have:=hdone D W hD hI.1 hI.2 hK;rw [st.defers];exact this
 case stop=>
  rintro D c pre W hD ⟨j,hj,rfl⟩ ⟨rfl,h3⟩ hK
  have:=hstop D j W hD hj h3.1 h3.2 hK;rw [st.defers];exact this
theorem alloc_bool (W:World):(Instr.alloc 4 true (.tuple #[])).run Tryz.prog W= .ok (.pointer (some ⟨W.heap.size,0,none⟩)) (W.alloc (.cells #[.bool false] 4)):=by go_simp
instance iAlbool:AlT 4 1:=⟨_,alloc_bool,rfl,noint_of (by simp)⟩
theorem run_loadVar_one {T t:TypeId}{w:World}{g:Nat}{x:Value}[hc:CeT T](hg:w.heap[g]? =some (.cells #[x] t (0,0))):(loadVar T ⟨g,0,none⟩).run Tryz.prog w= .ok x w:=by
 obtain⟨d,hu,hdd⟩:=hc.und;have hcell:w.cell? ⟨g,0,none⟩=some x:=by simp [World.cell?,hg]
 have hagg:(isAgg T).run Tryz.prog w= .ok false w:=by
  unfold isAgg;rw [Sem.run_bind,run_underlying hu w];cases d<;>simp_all [aggT]
 simp only [loadVar,Sem.run_bind,hagg,Result.andThen_ok,Bool.false_eq_true,if_false,run_load,hcell]
theorem results_cell_one {fn:Func}{p:Tmp}{T:TypeId}(h:fn.results=#[.cell p T])(tmps:Array Value)(w:World)(g:Nat)(t:TypeId)(x:Value)[CeT T](hp:tmps.getD p undef= .pointer (some ⟨g,0,none⟩))(hg:w.heap[g]? =some (.cells #[x] t (0,0))):(results fn tmps).run Tryz.prog w= .ok x w:=by
 have hp':tmps[p]?.getD undef= .pointer (some ⟨g,0,none⟩):=by simpa using hp
 simp [results,h,hp',asAddr,run_loadVar_one hg]
section
variable {md:Region.Mode}{ops:Array Oper}{Q:Exit->Act->World->Prop}{a0:Act}{Vl:List VP}{n0:Nat}{w0:World}{B:List Bd}{SL:List (Nat×VP)}{BT:List (TypeId×Nat×Nat)}{A:VP}
theorem k_storec_ {i t:Nat}{u:Value}{o:Oper}{T:TypeId}{b:Bd}[hB:SbB BT B](ho:o.op= .store T (.tmp t) (.const u))(hds:o.dst=none)(hb:gB B (iB B t)=some b)(hbt:b.t=t)(hT:b.T=T)(hik:b.ik=some i)(hm:b.m=1)(hP:b.P=VC1 A)(o1:u.oneCell'=true)(o2:∀x,u≠ .int .i64 x)(hu:∀w,A u w)(hsz:(Tryz.prog.info? T).map (·.size)=some 1)(hV:GV Vl i=VT)
 (hq:quietB (B.take (iB B t)++B.drop (iB B t+1)) i none=true) (hts:(B.take (iB B t)++B.drop (iB B t+1)).all (fun c=>c.t !=t)=true) (hia:(b.ia !=some i)=true) (hBT:BT.any (fun e=>e.1==T && e.2.1==b.m && e.2.2==0)=true) (hNP:BT.all (fun e=>e.1 !=T||e.2.1 !=0)=true) (hon:b.ia=none∨∃j,b.ia=some j/\o.after.any (fun e=>e.on==j && Region.binds md e)=true) (hg:GOk md ops Vl o):KStep BT Tryz.prog md ops Q a0 (GV Vl) n0 w0 B SL i o:=by
 subst hbt hT;intro listed a w h D _ hil _ K hK;rw [if_pos (wanted_of (hg.get h D))]
 have hon':onb listed b.ia=true:=by
  rcases hon with h1|⟨j,h1,h2⟩
  ·rw [h1];rfl
  ·rw [h1];exact listed_dep D j h2
 obtain⟨g,old,e1,e2,e3,hr,hks⟩:=h.k.store (v:=undef) (gB_split hb) hq hon' (by simpa using hia) hik hil (fun g' _=>Mw_of hBT hNP) hB.out #[u] (by rw [hm];rfl) (noInt1 o2) (by rw [hP];exact⟨u,rfl,hu _⟩) (fun c hc=>by
  rw [List.all_eq_true] at hts
  simpa using hts c hc)
 obtain⟨x,rfl⟩:∃x,old=#[x]:=by
  obtain⟨l⟩:=old
  match l,e3 with
  | [x],_=>exact⟨x,rfl⟩
 have hvp:a.eval (.tmp b.t)= .pointer (some ⟨g,0,none⟩):=by simp [Act.eval,Array.getD_eq_getD_getElem?,e1]
 have hv:a.eval (.const u)=u:=rfl;unfold Oper.wp execOp;simp only [ho,hvp,hv,Instr.storeAt,Instr.sureAddr,Sem.run_bind,Sem.run_pure,Result.andThen_ok,run_storeVar_one w g b.T b.T x _ e2 hsz o1];rw [hds] at hK;show K (a.put o.dst undef) _;rw [hds];exact hK _ _ hks hr (by rw [hV];trivial)
end
theorem size_bool:(Tryz.prog.info? 4).map (·.size)=some 1:=by kernel_rfl
def bentP (vs:List P2):Bool:=decide (∀k∈List.range vs.length,¬tn vs k=0)
theorem bent_f {vs:List P2}{j:Nat}(hj:j<=vs.length)(h:∃k∈List.range j,tn vs k=0):bentP vs=false:=dF fun h2=>by
 obtain⟨k,h3,h4⟩:=h;exact h2 k (List.mem_range.2 (Nat.lt_of_lt_of_le (List.mem_range.1 h3) hj)) h4
theorem cBent {w:World}{N:Nat}{vs:List P2}{lv:Value}(hS:VSv N vs lv w)(hN1:1<=N:=by omega)(hN2:N<=900:=by omega)(hvs:vs.length<=1000000:=by omega):Calls Tryz.prog 53 #[lv] w (RV (Vb (bentP vs)) w):=by
 have hmax:=VSv_max hS;obtain⟨p,c,hlv⟩:=VSv_slice hS;subst hlv;refine calls_of_marks Tryz.func53 rfl ?_;simp only [Tryz.ntmps53,List.size_toArray,List.length_cons,List.length_nil,Nat.reduceAdd,Nat.reduceSub,Array.replicate_succ,Array.replicate_zero,List.push_toArray,List.append_toArray,List.nil_append,List.cons_append];generalize hA:(⟨_,_⟩:Act)=a0;have st0:St w.heap.size w 9 [] [(0,VEq (.slice p vs.length c))] a0 w:=by subst hA;exact St.begin rfl rfl (Lq.2 ⟨⟨_,rfl,rfl⟩,L0⟩)
 clear hA;refine Wm ?_
 refine rJ [(4,1,0)] [VT] [⟨2,some 0,none,4,1,VT,VT⟩] [(0,VEq (.slice p vs.length c))] st0 ⟨ks,trivial⟩ fun a1 w1 st1=>Wm ?_
 have:Sb [(4,1,0)] (VTn (.slice p vs.length c)):=⟨(Stab_VTn (by simp) (by simp))⟩;refine rJ [(4,1,0)] [VEq (.slice p vs.length c),VTn (.slice p vs.length c)] [.k 2 4 1 VT] [(0,VEq (.slice p vs.length c)),(5,VTn (.slice p vs.length c))] st1 ⟨ks,(by exact kd1 fun _ _ _ _ v0 X0=>(by obtain rfl:v0=_:=X0;exact cTurns)),trivial⟩ ?_;intro a2 w2 st2;replace st2:St w.heap.size w 9 [.k 2 4 1 VT] [(0,VEq (.slice p vs.length c)),(5,VTn (.slice p vs.length c))] a2 w2:=st2;have hsd:=st2.sl (5,VTn (.slice p vs.length c)) (.tail _ (.head _));obtain⟨g2,hg2,st2⟩:=st2.ptrB 2 rfl rfl rfl;replace st2:St w.heap.size w 9 [.k 2 4 1 VT] [(0,VEq (.slice p vs.length c)),(2,VEq (.pointer (some ⟨g2,0,none⟩)))] a2 w2:=st2.cut;refine Wm ?_
 have hn0:=st2.n;refine range_turns (n:=5) (Nf:=9) (t:=3) (N:=N) (vs:=vs) (lv:= .slice p vs.length c) (BT:=[(4,1,0)]) [.k 2 4 1 VT] [.k 2 4 1 (VC1 (Vb false))] (fun ks=>∀k∈ks,¬tn vs k=0) (fun ks=>∃k∈ks,tn vs k=0) [(0,VEq (.slice p vs.length c)),(2,VEq (.pointer (some ⟨g2,0,none⟩)))] st2 L0 hsd hS (Lq.2 ⟨⟨rfl,rfl,_,(.tail _ (.head _))⟩,L0⟩) (Lq.2 ⟨⟨rfl,rfl,_,(.tail _ (.head _))⟩,L0⟩) (Lq.2 ⟨⟨_,rfl⟩,(Lq.2 ⟨⟨_,rfl⟩,L0⟩)⟩) (by decide) (Lq.2 ⟨⟨by simp,by simp⟩,(Lq.2 ⟨⟨by simp,by simp⟩,L0⟩)⟩) (by decide) hN1 hN2 hvs (by simp) (by simp) (by simp) ?assign ?body ?done ?stop
 case assign=>
  intro l k a1 W K st1 hK;refine Wm ?_
  refine rJ [(4,1,0)] [Vi (tn vs k)] [] [(0,VEq (.slice p vs.length c)),(2,VEq (.pointer (some ⟨g2,0,none⟩))),(3,Vi (tn vs k))] st1 ⟨ks,trivial⟩ ?_;intro a2 w2 st2;exact hK _ _ st2.cut
 case body=>
  intro l k xs a1 W st11 hF;replace st11:St w.heap.size w 9 [.k 2 4 1 VT] [(3,Vi (tn vs k)),(6,VKR w2.heap.size [(4,1,0)] W),(0,VEq (.slice p vs.length c)),(2,VEq (.pointer (some ⟨g2,0,none⟩)))] a1 W:=st11;by_cases hcc:tn vs k=0
  ·
   refine Wm ?_
   have:Sb [(4,1,0)] (VKR w2.heap.size [(4,1,0)] W):=⟨(Stab_VKR (by simp) (by simp))⟩;refine rJ [(4,1,0)] [Vi (tn vs k),Vb true] [.k 2 4 1 VT] [(3,Vi (tn vs k)),(6,VKR w2.heap.size [(4,1,0)] W),(0,VEq (.slice p vs.length c)),(2,VEq (.pointer (some ⟨g2,0,none⟩))),(8,Vb true)] st11 ⟨ks,(kr1 7 fun _ _ _ _ _ x0 X0=>⟨_,run_eqi rfl (x0.trans X0) rfl,congrArg Value.bool (dT hcc)⟩),trivial⟩ fun a12 w12 st12=>Wm ?_
   refine cTI st12 ?_;refine Wm ?_
   have:Sb [(4,1,0)] (VKR w2.heap.size [(4,1,0)] W):=⟨(Stab_VKR (by simp) (by simp))⟩;refine rJ [(4,1,0)] [VT] [⟨2,none,some 0,4,1,VC1 (Vb false),VT⟩] [(3,Vi (tn vs k)),(6,VKR w2.heap.size [(4,1,0)] W),(0,VEq (.slice p vs.length c)),(2,VEq (.pointer (some ⟨g2,0,none⟩))),(8,Vb true)] st12 ⟨(by refine k_storec_ (A:=Vb false) rfl rfl rfl rfl rfl rfl rfl rfl rfl (fun _ h=>by cases h) (fun _=>rfl) size_bool rfl (by kernel_rfl) (by kernel_rfl) (by kernel_rfl) (by kernel_rfl) (by kernel_rfl) (.inl rfl) trivial),trivial⟩ ?_;intro a13 w13 st13;refine Wm ?_
   have fin:St w.heap.size w 9 [.k 2 4 1 (VC1 (Vb false))] [(6,VKR w2.heap.size [(4,1,0)] W),(0,VEq (.slice p vs.length c)),(2,VEq (.pointer (some ⟨g2,0,none⟩)))] a13 w13:=st13.cut;exact wpIn_ret ⟨fin.cut,⟨k,by simp,hcc⟩⟩
  ·
   refine Wm ?_
   have:Sb [(4,1,0)] (VKR w2.heap.size [(4,1,0)] W):=⟨(Stab_VKR (by simp) (by simp))⟩;refine rJ [(4,1,0)] [Vi (tn vs k),Vb false] [.k 2 4 1 VT] [(3,Vi (tn vs k)),(6,VKR w2.heap.size [(4,1,0)] W),(0,VEq (.slice p vs.length c)),(2,VEq (.pointer (some ⟨g2,0,none⟩))),(8,Vb false)] st11 ⟨ks,(kr1 7 fun _ _ _ _ _ x0 X0=>⟨_,run_eqi rfl (x0.trans X0) rfl,congrArg Value.bool (dF hcc)⟩),trivial⟩ fun a12 w12 st12=>Wm ?_
   refine cFI st12 ?_;refine Wm ?_
   have fin:St w.heap.size w 9 [.k 2 4 1 VT] [(6,VKR w2.heap.size [(4,1,0)] W),(0,VEq (.slice p vs.length c)),(2,VEq (.pointer (some ⟨g2,0,none⟩)))] a12 w12:=st12.cut;refine⟨fin.cut,fun j hj=>?_⟩;rcases List.mem_append.1 hj with hj|hj
   ·exact hF j hj
   ·rw [List.mem_singleton.1 hj];exact hcc
 case stop=>
  intro D j W hD hj st1 hF hK;have hds:({a2 with defers:=[{target:= .collected D,args:=#[]}]}:Act).defers= [{target:= .collected D,args:=#[]}]:=rfl;replace st1:=(st1.addS (t:=5) (V:=VOb D) (by decide) (fun _=>hK)).undef;generalize hDa:({a2 with defers:=[{target:= .collected D,args:=#[]}]}:Act)=aD at hds ⊢;replace st1:St w.heap.size w 9 [.k 2 4 1 (VC1 (Vb false))] [(5,VOb D),(0,VEq (.slice p vs.length c)),(2,VEq (.pointer (some ⟨g2,0,none⟩)))] ⟨aD.tmps,[]⟩ W:=by rw [<-hDa];exact st1
  clear hDa;refine Wm ?_
  obtain⟨vo,ho1,ho2⟩:=st1.sl (5,VOb D) (lS_mem rfl);have stX:=St.grown (st1.cut (L':=[.k 2 4 1 (VC1 (Vb false))]) (SL':=[])) (grownBy_putObj' W D (.deferred none)) (fun r e=>by cases e;exact⟨Nat.le_trans hn0 hD,_,ho2,rfl⟩);obtain⟨g,cs,r1,r2,r3,r4,r5⟩:=stX.res (.k 2 4 1 (VC1 (Vb false))) (.head _) rfl rfl;obtain⟨x,hx,r4⟩:=r4;cases hx;exact wpIn_ret (ret_mark hds ho2 (results_cell_one rfl _ _ g 4 _ r1 r2) ⟨_,rfl,(by rw [bent_f hj hF];exact r4),r5⟩)
 case done=>
  intro D W hD st1 hF hK;have hds:({a2 with defers:=[{target:= .collected D,args:=#[]}]}:Act).defers= [{target:= .collected D,args:=#[]}]:=rfl;replace st1:=(st1.addS (t:=5) (V:=VOb D) (by decide) (fun _=>hK)).undef;generalize hDa:({a2 with defers:=[{target:= .collected D,args:=#[]}]}:Act)=aD at hds ⊢;replace st1:St w.heap.size w 9 [.k 2 4 1 VT] [(5,VOb D),(0,VEq (.slice p vs.length c)),(2,VEq (.pointer (some ⟨g2,0,none⟩)))] ⟨aD.tmps,[]⟩ W:=by rw [<-hDa];exact st1
  clear hDa;refine Wm ?_
  have:Sb [(4,1,0)] (VOb D):=⟨(Stab_VOb (by simp))⟩;refine rgD (BT:=[(4,1,0)]) (Vl:=[VT]) (B:=[⟨2,none,some 0,4,1,VC1 (Vb true),VT⟩]) (SL':=[(5,VOb D),(0,VEq (.slice p vs.length c)),(2,VEq (.pointer (some ⟨g2,0,none⟩)))]) hds st1 ⟨?s0,trivial⟩ ?_;case s0=>refine k_storec_ (A:=Vb true) rfl rfl rfl rfl rfl rfl rfl rfl rfl (fun _ h=>by cases h) (fun _=>rfl) size_bool rfl (by kernel_rfl) (by kernel_rfl) (by kernel_rfl) (by kernel_rfl) (by kernel_rfl) (.inl rfl) trivial
  intro a2 w2 hds st2;refine Wm ?_
  obtain⟨vo,ho1,ho2⟩:=st2.sl (5,VOb D) (lS_mem rfl);have stX:=St.grown (st2.cut (L':=[.k 2 4 1 (VC1 (Vb true))]) (SL':=[])) (grownBy_putObj' w2 D (.deferred none)) (fun r e=>by cases e;exact⟨Nat.le_trans hn0 hD,_,ho2,rfl⟩);obtain⟨g,cs,r1,r2,r3,r4,r5⟩:=stX.res (.k 2 4 1 (VC1 (Vb true))) (.head _) rfl rfl;obtain⟨x,hx,r4⟩:=r4;cases hx;exact wpIn_ret (ret_mark hds ho2 (results_cell_one rfl _ _ g 4 _ r1 r2) ⟨_,rfl,(by rw [show bentP vs=true from dT hF];exact r4),r5⟩)
theorem cNumeric {w:World}{N:Nat}{vs:List P2}{lv:Value}{v0:Value}(h0:VEq lv v0 w)(hS:VSv N vs lv w)(hN3:3<=N:=by omega)(hN:N<=900:=by omega):Calls Tryz.prog 52 #[v0] w (RV (Vb true) w):=by
 go_enter Tryz.func52,Tryz.ntmps52
 generalize hA:(⟨_,_⟩:Act)=a0;have st0:St w.heap.size w 22 [] [(0,VEq lv)] a0 w:=by subst hA;exact St.begin rfl rfl (Lq.2 ⟨⟨_,rfl,h0⟩,L0⟩)
 clear hA;have hmax:=VSv_max hS;refine Wn ?_
 refine rH [(32,8,0)] [Vb false] [] [(0,VEq lv)] st0 ⟨ks,trivial⟩ fun a1 w1 st1=>Wn ?_
 refine rH [(32,8,0)] [VEq lv,Vi (vs.length:Int),Vi 0] [] [(0,VEq lv),(5,VEq lv),(6,Vi (vs.length:Int)),(7,Vi 0)] st1 ⟨ks,(kr1 5 fun _ _ _ _ _ x0 X0=>len_Sv rfl rfl x0 X0 hS),ks,trivial⟩ ?_;intro a2 w2 st2;replace st2:St w.heap.size w 22 [] [(5,VEq lv),(6,Vi (vs.length:Int)),(7,Vi ((0:Nat):Int))] a2 w2:=st2.cut;refine Wn ?_
 refine wp_loop_ghost (fun m aX wX=>∃j:Nat,j+m=vs.length/\St w.heap.size w 22 [] [(5,VEq lv),(6,Vi (vs.length:Int)),(7,Vi j)] aX wX) vs.length ⟨0,by omega,st2⟩ ?_;intro m aL wL ⟨j,hj,st2⟩;by_cases hlt:j<vs.length
 ·
  refine Wn ?_
  refine rH [(32,8,0)] [Vb true] [] [(5,VEq lv),(6,Vi (vs.length:Int)),(7,Vi j),(8,Vb true)] st2 ⟨(by refine kr fun _ ac Y h D=>?_;obtain⟨v0,x0,X0⟩:=h.ot 7;have hV0':v0= .int .i64 j:=X0;obtain⟨v1,x1,X1⟩:=h.ot 6;have hV1':v1= .int .i64 (vs.length:Int):=X1;exact⟨_,run_lssi rfl (x0.trans hV0') (x1.trans hV1'),congrArg Value.bool (dT (by omega))⟩),trivial⟩ ?_;intro a3 w3 st3;refine Wn ?_
  refine cT st3 ?_;have hgd:vs[j]? =some (vs.getD j (0,0)):=by rw [List.getD_eq_getElem?_getD,List.getElem?_eq_getElem (by omega)];rfl
  refine Wn ?_
  refine rH [(32,8,0)] [VAt w (VEp 32 8 (Vv N (vs.getD j (0,0)).1 (vs.getD j (0,0)).2)),VAt w (Vv N (vs.getD j (0,0)).1 (vs.getD j (0,0)).2),VT,VT] [⟨4,some 2,some 3,32,8,VAt w (Vv N (vs.getD j (0,0)).1 (vs.getD j (0,0)).2),VT⟩] [(5,VEq lv),(6,Vi (vs.length:Int)),(7,Vi j),(8,Vb true)] st3 ⟨(by refine kr fun _ ac Y h D=>?_;obtain⟨v0,x0,X0⟩:=h.ot 5;obtain⟨v1,x1,X1⟩:=h.ot 7;exact index_Sv rfl x0 X0 hS x1 X1 hgd),(kr1 9 fun _ _ _ h _ x0 X0=>load_EpV (w:=w) (k:=8) (A:=Vv N (vs.getD j (0,0)).1 (vs.getD j (0,0)).2) rfl x0 X0 h.k.below Tryz.underlying32 rfl size_Vec),ks,ks,trivial⟩ ?_;intro a4 w4 st4;refine Wn ?_
  refine rH [(32,8,0)] [Vpt a4 4 0,VAt w (Vq N ((vs.getD j (0,0)).1)),Vb true,Vb false,Vb false,Vpt a4 4 4,VAt w (Vq N ((vs.getD j (0,0)).2)),Vb true,Vb false,Vb false] [.k 4 32 8 (VAt w (Vv N (vs.getD j (0,0)).1 (vs.getD j (0,0)).2))] [(5,VEq lv),(6,Vi (vs.length:Int)),(7,Vi j),(8,Vb true),(20,Vb false)] st4 ⟨ks,ks,(kd1 fun _ _ Y h v0 X0=>(cQValid (VAt_cur (Stab_Vq _ _) (show VAt w (Vq N ((vs.getD j (0,0)).1)) _ Y from(show VAt w (Vq N ((vs.getD j (0,0)).1)) v0 Y from X0)) h.k.below))),ks,ks,ks,ks,(kd1 fun _ _ Y h v0 X0=>(cQValid (VAt_cur (Stab_Vq _ _) (show VAt w (Vq N ((vs.getD j (0,0)).2)) _ Y from(show VAt w (Vq N ((vs.getD j (0,0)).2)) v0 Y from X0)) h.k.below))),ks,ks,trivial⟩ fun a5 w5 st5=>Wn ?_
  refine cF st5 ?_;refine Wn ?_
  refine rH [(32,8,0)] [Vi ((j+1:Nat):Int),Vi ((j+1:Nat):Int)] [.k 4 32 8 (VAt w (Vv N (vs.getD j (0,0)).1 (vs.getD j (0,0)).2))] [(5,VEq lv),(6,Vi (vs.length:Int)),(8,Vb true),(20,Vb false),(7,Vi ((j+1:Nat):Int))] st5 ⟨?s0,ks,trivial⟩ ?_
  case s0=>
   refine k_run0 SbB.out (by kernel_rfl) fun listed ac Y h D hnl=>⟨trivial,?_⟩
   obtain⟨v0,x0,X0⟩:=h.out0 hnl (7,Vi j) (.tail _ (.tail _ (.head _))) 1 (by kernel_rfl) (.inr (by kernel_rfl));exact⟨_,run_addi rfl (x0.trans (show v0= .int .i64 j from X0)) rfl wO,congrArg (Value.int .i64) (by omega)⟩
  intro a6 w6 st6;replace st6:St w.heap.size w 22 [.k 4 32 8 (VAt w (Vv N (vs.getD j (0,0)).1 (vs.getD j (0,0)).2))] [(5,VEq lv),(6,Vi (vs.length:Int)),(8,Vb true),(20,Vb false),(7,Vi ((j+1:Nat):Int))] a6 w6:=st6;exact⟨m - 1,by omega,j+1,by omega,st6.cut⟩
 ·
  refine Wn ?_
  refine rH [(32,8,0)] [Vb false] [] [(5,VEq lv),(6,Vi (vs.length:Int)),(7,Vi j),(8,Vb false)] st2 ⟨(by refine kr fun _ ac Y h D=>?_;obtain⟨v0,x0,X0⟩:=h.ot 7;have hV0':v0= .int .i64 j:=X0;obtain⟨v1,x1,X1⟩:=h.ot 6;have hV1':v1= .int .i64 (vs.length:Int):=X1;exact⟨_,run_lssi rfl (x0.trans hV0') (x1.trans hV1'),congrArg Value.bool (dF (by omega))⟩),trivial⟩ ?_;intro a3 w3 st3;refine Wn ?_
  refine cF st3 ?_;refine Wn ?_
  refine rH [(32,8,0)] [Vb true] [] [(5,VEq lv),(6,Vi (vs.length:Int)),(7,Vi j),(8,Vb false),(2,Vb true)] st3 ⟨ks,trivial⟩ fun a4 w4 st4=>Wn ?_
  exact wp_ret (rS 2 (Vb true) st4 fun vr r4=>r4)
end Go.Proofs.YteacdbgalloaiaaGreat
