/- Contracts of the packages integer, rat, plane, polygon and their references. -/
import Derived.Test.YtjdkdjobaabdiaaGreatM14
import Derived.Test.YtjdkdjobaabdiaaGreatM5
set_option linter.unusedVariables false
set_option maxRecDepth 100000
set_option maxHeartbeats 6400000
namespace Go.Proofs.YtjdkdjobaabdiaaGreat
open Go.RowKit
section
variable {BT:List (TypeId×Nat×Nat)}
def Vv (N:Nat)(x y:Rat):VP:=VP2 4 4 (Vq N x) (Vq N y)
theorem Stab_Vv (N:Nat)(x y:Rat):Stab BT (Vv N x y):=Stab_VP2 (Stab_Vq _ _) (Stab_Vq _ _)
theorem AggV_Vv (N:Nat)(x y:Rat):AggV 8 (Vv N x y):=AggV_VP2 (AggV_Vq _ _) (AggV_Vq _ _)
def Vp (N:Nat)(c s x y:Rat):VP:=VP2 8 8 (Vv N c s) (Vv N x y)
theorem Stab_Vp (N:Nat)(c s x y:Rat):Stab BT (Vp N c s x y):=Stab_VP2 (Stab_Vv _ _ _) (Stab_Vv _ _ _)
theorem AggV_Vp (N:Nat)(c s x y:Rat):AggV 16 (Vp N c s x y):=AggV_VP2 (AggV_Vv _ _ _) (AggV_Vv _ _ _)
theorem VP2_le {k1 k2:Nat}{A B A' B':VP}{v:Value}{w:World}(h:VP2 k1 k2 A B v w)(hA:∀v,A v w→A' v w)(hB:∀v,B v w→B' v w):VP2 k1 k2 A' B' v w:=by
 obtain⟨x,y,h1,h2,h3,h4,h5⟩:=h
 exact⟨x,y,h1,h2,h3,hA _ h4,hB _ h5⟩
theorem Vv_le {N M:Nat}{x y:Rat}{v:Value}{w:World}(h:Vv N x y v w)(hM:N≤M):Vv M x y v w:=VP2_le h (fun _ h=>Vq_le h hM) (fun _ h=>Vq_le h hM)
theorem size_Vec:(Tryz.prog.info? 35).map (·.size)=some 8:=by kernel_rfl
theorem size_pair:(Tryz.prog.info? 110).map (·.size)=some 8:=by kernel_rfl
theorem field_Vec0 (g off:Nat)(W:World):(Instr.fieldAt 35 (.pointer (some ⟨g,off,none⟩)) 0).run Tryz.prog W= .ok (.pointer (some ⟨g,off+0,none⟩)) W:=by go_simp
theorem field_Vec1 (g off:Nat)(W:World):(Instr.fieldAt 35 (.pointer (some ⟨g,off,none⟩)) 1).run Tryz.prog W= .ok (.pointer (some ⟨g,off+4,none⟩)) W:=by go_simp
theorem field_pair0 (g off:Nat)(W:World):(Instr.fieldAt 110 (.pointer (some ⟨g,off,none⟩)) 0).run Tryz.prog W= .ok (.pointer (some ⟨g,off+0,none⟩)) W:=by go_simp
theorem field_pair1 (g off:Nat)(W:World):(Instr.fieldAt 110 (.pointer (some ⟨g,off,none⟩)) 1).run Tryz.prog W= .ok (.pointer (some ⟨g,off+4,none⟩)) W:=by go_simp
theorem alloc_Vec (W:World):(Instr.alloc 35 true (.tuple #[])).run Tryz.prog W= .ok (.pointer (some ⟨W.heap.size,0,none⟩)) (W.alloc (.cells #[.bool false,.slice none 0 0,.bool false,.slice none 0 0,.bool false,.slice none 0 0,.bool false,.slice none 0 0] 35)):=by go_simp
theorem alloc_pair (W:World):(Instr.alloc 110 true (.tuple #[])).run Tryz.prog W= .ok (.pointer (some ⟨W.heap.size,0,none⟩)) (W.alloc (.cells #[.bool false,.slice none 0 0,.bool false,.slice none 0 0,.bool false,.slice none 0 0,.bool false,.slice none 0 0] 110)):=by go_simp
theorem noint_Vec:NoInt #[Value.bool false,.slice none 0 0,.bool false,.slice none 0 0,.bool false,.slice none 0 0,.bool false,.slice none 0 0]:=noint_of (by simp)
theorem noint_pair:NoInt #[Value.bool false,.slice none 0 0,.bool false,.slice none 0 0,.bool false,.slice none 0 0,.bool false,.slice none 0 0]:=noint_of (by simp)
instance (N:Nat)(x y:Rat):Sb BT (Vv N x y):=⟨Stab_Vv N x y⟩
instance (N:Nat)(c s x y:Rat):Sb BT (Vp N c s x y):=⟨Stab_Vp N c s x y⟩
instance (N:Nat)(x y:Rat):Ag (Vv N x y) 8:=⟨AggV_Vv N x y⟩
instance (N:Nat)(c s x y:Rat):Ag (Vp N c s x y) 16:=⟨AggV_Vp N c s x y⟩
instance iSzVec:SzT 35 8:=⟨⟨_,Tryz.underlying35,rfl⟩,size_Vec⟩
instance iFdVec0:FdT 35 0 0:=⟨field_Vec0⟩
instance iFdVec1:FdT 35 1 4:=⟨field_Vec1⟩
instance iAlVec:AlT 35 8:=⟨_,alloc_Vec,rfl,noint_Vec⟩
instance iSzpair:SzT 110 8:=⟨⟨_,Tryz.underlying110,rfl⟩,size_pair⟩
instance iFdpair0:FdT 110 0 0:=⟨field_pair0⟩
instance iFdpair1:FdT 110 1 4:=⟨field_pair1⟩
instance iAlpair:AlT 110 8:=⟨_,alloc_pair,rfl,noint_pair⟩
theorem ext_ext {cs:Array Value}{o1 k1 o2 k2:Nat}(h:o2+k2≤k1):(cs.extract o1 (o1+k1)).extract o2 (o2+k2)=cs.extract (o1+o2) (o1+o2+k2):=by
 rw [Array.extract_extract,show min (o1+(o2+k2)) (o1+k1)=o1+o2+k2 by omega]
instance (N:Nat)(x y:Rat):PtC (Vv N x y) 0 4 (Vq N x):=⟨fun _ _ h=>VP2_fst h⟩
instance (N:Nat)(x y:Rat):PtC (Vv N x y) 4 4 (Vq N y):=⟨fun _ _ h=>VP2_snd h⟩
instance (N:Nat)(c s x y:Rat):PtC (Vp N c s x y) 0 8 (Vv N c s):=⟨fun _ _ h=>VP2_fst h⟩
instance (N:Nat)(c s x y:Rat):PtC (Vp N c s x y) 8 8 (Vv N x y):=⟨fun _ _ h=>VP2_snd h⟩
section
variable {ρ:Operand→Value}{o:Oper}{W:World}{x y:Operand}{va vb:Value}{A B:VP}
theorem build_Vec (ho:o.op= .build 35 #[(0,x),(1,y)])(hx:ρ x=va)(hy:ρ y=vb)(hA:AggV 4 A)(hB:AggV 4 B)(h1:A va W)(h2:B vb W):∃v,(execOp ρ o).run Tryz.prog W= .ok (.value v) W∧VP2 4 4 A B v W:=by
 obtain⟨cx,rfl,e1,-⟩:=hA _ _ h1
 obtain⟨cy,rfl,e2,-⟩:=hB _ _ h2
 obtain⟨a,b,c,d,rfl⟩:=arr4 e1
 obtain⟨a',b',c',d',rfl⟩:=arr4 e2
 refine⟨.agg (#[a,b,c,d]++ #[a',b',c',d']),?_,⟨_,_,rfl,rfl,rfl,h1,h2⟩⟩
 obtain⟨dd,op,ty,ps,af,gd⟩:=o
 subst ho
 go_simp
theorem build_pair (ho:o.op= .build 110 #[(0,x),(1,y)])(hx:ρ x=va)(hy:ρ y=vb)(hA:AggV 4 A)(hB:AggV 4 B)(h1:A va W)(h2:B vb W):∃v,(execOp ρ o).run Tryz.prog W= .ok (.value v) W∧VP2 4 4 A B v W:=by
 obtain⟨cx,rfl,e1,-⟩:=hA _ _ h1
 obtain⟨cy,rfl,e2,-⟩:=hB _ _ h2
 obtain⟨a,b,c,d,rfl⟩:=arr4 e1
 obtain⟨a',b',c',d',rfl⟩:=arr4 e2
 refine⟨.agg (#[a,b,c,d]++ #[a',b',c',d']),?_,⟨_,_,rfl,rfl,rfl,h1,h2⟩⟩
 obtain⟨dd,op,ty,ps,af,gd⟩:=o
 subst ho
 go_simp
def VR1 (V:VP):VP:=fun v w=>∃h cs,v= .slice (some ⟨h,0,none⟩) 1 1∧w.heap[h]? =some (.cells cs 110 (0,0))∧cs.size=8∧V (.agg cs) w
theorem Stab_VR1 {V:VP}(hV:Stab BT V)(hn:BT.any (fun e=>e.1==110 && e.2.1==8)=false):Stab BT (VR1 V):=fun _ _ _ ⟨h,cs,e1,e2,e3,e4⟩ hr=>
 ⟨h,cs,e1,(hr.row h cs _ e2 (BT_not hn e3)).trans e2,e3,hV _ _ _ e4 hr⟩
theorem bslice_pair (ho:o.op= .buildSlice 122 1 #[(0,x)])(hx:ρ x=va)(hA:AggV 8 A)(hS:Stab [] A)(h1:A va W):∃v w',(execOp ρ o).run Tryz.prog W= .ok (.value v) w'∧Below W.heap.size W w'∧VR1 A v w':=by
 obtain⟨cx,rfl,e1,-⟩:=hA _ _ h1
 match cx,e1 with
 |⟨[a,b,c,d,a',b',c',d']⟩,_=>
  refine⟨.slice (some ⟨W.heap.size,0,none⟩) 1 1,W.alloc (.cells #[a,b,c,d,a',b',c',d'] 110),?_,below_new _ _,⟨_,_,rfl,heap_alloc_new _ _,rfl,hS _ _ _ h1 (RI.of_below (below_new _ _))⟩⟩
  obtain⟨dd,op,ty,ps,af,gd⟩:=o
  subst ho
  go_simp
end
def VAt (w:World)(V:VP):VP:=fun v _=>V v w
theorem Stab_VAt (w:World)(V:VP):Stab BT (VAt w V):=fun _ _ _ h _=>h
instance (w:World)(V:VP):Sb BT (VAt w V):=⟨Stab_VAt w V⟩
def VPtr (V:VP):VP:=fun v w=>∃h cs,v= .pointer (some ⟨h,0,none⟩)∧w.heap[h]? =some (.cells cs 110 (0,0))∧cs.size=8∧V (.agg cs) w
section
variable {ρ:Operand→Value}{o:Oper}{W w:World}{x y:Operand}{va vb:Value}{A:VP}
theorem run_len1 (ho:o.op= .call {callee:= .builtin .len,args:=#[x],argTypes:=#[122]})(hty:o.type=3)(hx:ρ x=va)(h:VAt w (VR1 A) va W):∃v,(execOp ρ o).run Tryz.prog W= .ok (.value v) W∧Vi 1 v W:=by
 obtain⟨h,cs,rfl,-⟩:=h
 refine⟨.int .i64 1,?_,rfl⟩
 obtain⟨dd,op,ty,ps,af,gd⟩:=o
 subst ho
 simp only at hty
 subst hty
 go_simp
theorem index_pair (ho:o.op= .indexAddr 122 x y)(hx:ρ x=va)(h:VAt w (VR1 A) va W)(hy:ρ y=vb)(hb:Vi 0 vb W):∃v,(execOp ρ o).run Tryz.prog W= .ok (.value v) W∧VAt w (VPtr A) v W:=by
 obtain⟨h,cs,rfl,e2,e3,e4⟩:=h
 obtain rfl:=hb
 refine⟨.pointer (some ⟨h,0,none⟩),?_,⟨h,cs,rfl,e2,e3,e4⟩⟩
 obtain⟨dd,op,ty,ps,af,gd⟩:=o
 subst ho
 go_simp
theorem load_pair (ho:o.op= .load 110 x)(hx:ρ x=va)(h:VAt w (VPtr A) va W)(hb:Below w.heap.size w W)(hA:Stab [] A):∃v,(execOp ρ o).run Tryz.prog W= .ok (.value v) W∧A v W:=by
 obtain⟨h,cs,rfl,e2,e3,e4⟩:=h
 refine⟨.agg cs,?_,hA _ _ _ e4 (RI.of_below hb)⟩
 have e5:=(hb.block _ (lt_blk e2)).trans e2
 unfold execOp
 simp only [ho,hx,Instr.loadAt,Instr.sureAddr,Sem.run_bind,Sem.run_pure,Result.andThen_ok,run_loadVar_row W h 110 110 cs (0,0) _ e5 Tryz.underlying110 rfl (by rw [e3];exact size_pair)]
end
end
theorem cSumA {w:World}{N:Nat}{a b c d:Rat}{v0 v1:Value}(h0:Vv N (a) (b) v0 w)(h1:VAt w (VR1 (Vv N c d)) v1 w)(hN1:1≤N)(hN:N≤20000):Calls Tryz.prog 127 #[v0,v1] w (RV (Vq (4*N+1) (a*b+c*d)) w):=by
 go_enter Tryz.func127,Tryz.ntmps127
 have st0:St w.heap.size w 28 [] [(0,Vv N (a) (b)),(1,VAt w (VR1 (Vv N c d)))] _ w:=St.begin (a:=⟨#[v0,v1,undef,undef,undef,undef,undef,undef,undef,undef,undef,undef,undef,undef,undef,undef,undef,undef,undef,undef,undef,undef,undef,undef,undef,undef,undef,undef],[]⟩) rfl rfl (Lq.2 ⟨⟨_,rfl,h0⟩,(Lq.2 ⟨⟨_,rfl,h1⟩,(fun _ h=>absurd h (by simp))⟩)⟩)
 generalize(⟨_,_⟩:Act)=a0 at st0 ⊢
 repeat first|refine Wq ?_|refine Wb ?_|refine Wk ?_|refine Wx ?_
 refine rg (BT:=[(33,4,0),(110,8,0)]) (Vl:=[VT,VT]) (B:=[⟨2,some 0,some 0,110,8,Vv N (a) (b),VT⟩,⟨4,some 1,none,33,4,VT,VT⟩]) (SL':=[(1,VAt w (VR1 (Vv N c d)))]) st0 ⟨ks,ks,trivial⟩ ?_
 intro a1 w1 st1
 clear st0
 repeat first|refine Wq ?_|refine Wb ?_|refine Wk ?_|refine Wx ?_
 refine rg (BT:=[(33,4,0),(110,8,0)]) (Vl:=[Vpt a1 2 0,Vq N (a),Vpt a1 2 4,Vq N (b),Vq (N+N) ((a)*(b)),VT,VT]) (B:=[⟨2,none,none,110,8,Vv N (a) (b),VT⟩,⟨4,none,none,33,4,VT,VT⟩,⟨5,some 5,some 6,33,4,Vq (N+N) ((a)*(b)),VT⟩]) (SL':=[(1,VAt w (VR1 (Vv N c d)))]) st1 ⟨ks,ks,ks,ks,?s4,ks,ks,trivial⟩ ?_
 case s4=>exact kd2 fun _ _ _ _ _ X0 _ X1=>cQMul X0 X1 (by omega) (by omega) (by omega) (by omega)
 intro a2 w2 st2
 clear st1
 repeat first|refine Wq ?_|refine Wb ?_|refine Wk ?_|refine Wx ?_
 refine rg (BT:=[(33,4,0),(110,8,0)]) (Vl:=[VAt w (VR1 (Vv N c d)),Vi (1),Vi (0)]) (B:=[⟨2,none,none,110,8,Vv N (a) (b),VT⟩,⟨4,none,none,33,4,VT,VT⟩,⟨5,none,none,33,4,Vq (N+N) ((a)*(b)),VT⟩]) (SL':=[(13,VAt w (VR1 (Vv N c d))),(14,Vi (1)),(15,Vi (0))]) st2 ⟨ks,?s1,ks,trivial⟩ ?_
 case s1=>refine kr fun _ A Y h D=>?_;obtain⟨v0,x0,X0⟩:=h.dp D 13;exact run_len1 rfl rfl x0 X0
 intro a3 w3 st3
 clear st2
 replace st3:St w.heap.size w 28 [⟨2,none,none,110,8,Vv N (a) (b),VT⟩,⟨4,none,none,33,4,VT,VT⟩,⟨5,none,none,33,4,Vq (N+N) ((a)*(b)),VT⟩] [(13,VAt w (VR1 (Vv N c d))),(14,Vi (1)),(15,Vi (0))] a3 w3:=st3
 repeat first|refine Wq ?_|refine Wb ?_|refine Wk ?_|refine Wx ?_
 refine wp_loop (fun aX wX=>St w.heap.size w 28 [⟨2,none,none,110,8,Vv N (a) (b),VT⟩,⟨4,none,none,33,4,VT,VT⟩,⟨5,none,none,33,4,Vq (N+N) ((a)*(b)),VT⟩] [(13,VAt w (VR1 (Vv N c d))),(14,Vi (1)),(15,Vi (0))] aX wX∨St w.heap.size w 28 [⟨2,none,none,110,8,Vv N (a) (b),VT⟩,⟨4,none,none,33,4,VT,VT⟩,⟨5,none,none,33,4,Vq ((N+N)+(N+N)+1) ((a)*(b)+((c)*(d))),VT⟩,⟨7,none,none,110,8,Vv N (c) (d),VT⟩] [(13,VAt w (VR1 (Vv N c d))),(14,Vi (1)),(15,Vi (1))] aX wX) (fun aX _=>1 - (intOf (aX.eval (.tmp 15))).toNat) (.inl st3) ?_
 clear st3
 intro aL wL hI
 rcases hI with st3|st3
 ·
  have hm0:(intOf (aL.eval (.tmp 15))).toNat=0:=by obtain⟨vv,e1,e2⟩:=st3.slot (15,Vi (0)) (.tail _ (.tail _ (.head _)));rw [e1,e2];rfl
  repeat first|refine Wq ?_|refine Wb ?_|refine Wk ?_|refine Wx ?_
  refine rg (BT:=[(33,4,0),(110,8,0)]) (Vl:=[Vb (true)]) (B:=[⟨2,none,none,110,8,Vv N (a) (b),VT⟩,⟨4,none,none,33,4,VT,VT⟩,⟨5,none,none,33,4,Vq (N+N) ((a)*(b)),VT⟩]) (SL':=[(13,VAt w (VR1 (Vv N c d))),(14,Vi (1)),(15,Vi (0)),(16,Vb (true))]) st3 ⟨?s0,trivial⟩ ?_
  case s0=>
   refine kr fun _ A Y h D=>?_
   obtain⟨v0,x0,X0⟩:=h.ot 15
   have hV0':v0= .int .i64 (0):=X0
   obtain⟨v1,x1,X1⟩:=h.ot 14
   have hV1':v1= .int .i64 (1):=X1
   exact⟨_,run_lssi rfl (x0.trans hV0') (x1.trans hV1'),congrArg Value.bool (by decide)⟩
  intro a4 w4 st4
  clear st3
  repeat first|refine Wq ?_|refine Wb ?_|refine Wk ?_|refine Wx ?_
  obtain⟨vc,hc1,hc2⟩:=st4.slot (16,Vb (true)) (.tail _ (.tail _ (.tail _ (.head _))))
  refine wp_cond_true (hc1.trans hc2) ?_
  clear hc1 hc2
  repeat first|refine Wq ?_|refine Wb ?_|refine Wk ?_|refine Wx ?_
  refine rg (BT:=[(33,4,0),(110,8,0)]) (Vl:=[VAt w (VPtr (Vv N c d)),Vv N (c) (d),VT,VT]) (B:=[⟨2,none,none,110,8,Vv N (a) (b),VT⟩,⟨4,none,none,33,4,VT,VT⟩,⟨5,none,none,33,4,Vq (N+N) ((a)*(b)),VT⟩,⟨7,some 2,some 3,110,8,Vv N (c) (d),VT⟩]) (SL':=[(13,VAt w (VR1 (Vv N c d))),(14,Vi (1)),(15,Vi (0)),(16,Vb (true))]) st4 ⟨?s0,?s1,ks,ks,trivial⟩ ?_
  case s0=>refine kr fun _ A Y h D=>?_;obtain⟨v0,x0,X0⟩:=h.ot 13;obtain⟨v1,x1,X1⟩:=h.ot 15;exact index_pair rfl x0 X0 x1 X1
  case s1=>refine kr fun _ A Y h D=>?_;obtain⟨v0,x0,X0⟩:=h.dp D 17;exact load_pair rfl x0 X0 h.k.below (Stab_Vv _ _ _)
  intro a5 w5 st5
  clear st4
  repeat first|refine Wq ?_|refine Wb ?_|refine Wk ?_|refine Wx ?_
  refine rg (BT:=[(33,4,0),(110,8,0)]) (Vl:=[Vq (N+N) ((a)*(b)),Vpt a5 7 0,Vq N (c),Vpt a5 7 4,Vq N (d),Vq (N+N) ((c)*(d)),Vq ((N+N)+(N+N)+1) (((a)*(b))+((c)*(d))),VT]) (B:=[⟨2,none,none,110,8,Vv N (a) (b),VT⟩,⟨4,none,none,33,4,VT,VT⟩,⟨5,none,some 7,33,4,Vq ((N+N)+(N+N)+1) (((a)*(b))+((c)*(d))),Vq (N+N) ((a)*(b))⟩,⟨7,none,none,110,8,Vv N (c) (d),VT⟩]) (SL':=[(13,VAt w (VR1 (Vv N c d))),(14,Vi (1)),(15,Vi (0)),(16,Vb (true))]) st5 ⟨ks,ks,ks,ks,ks,?s5,?s6,ks,trivial⟩ ?_
  case s5=>exact kd2 fun _ _ _ _ _ X0 _ X1=>cQMul X0 X1 (by omega) (by omega) (by omega) (by omega)
  case s6=>exact kd2 fun _ _ _ _ _ X0 _ X1=>cQAdd X0 X1 (by omega) (by omega) (by omega) (by omega)
  intro a6 w6 st6
  clear st5
  repeat first|refine Wq ?_|refine Wb ?_|refine Wk ?_|refine Wx ?_
  refine rg (BT:=[(33,4,0),(110,8,0)]) (Vl:=[Vi (1),Vi (1)]) (B:=[⟨2,none,none,110,8,Vv N (a) (b),VT⟩,⟨4,none,none,33,4,VT,VT⟩,⟨5,none,none,33,4,Vq ((N+N)+(N+N)+1) (((a)*(b))+((c)*(d))),VT⟩,⟨7,none,none,110,8,Vv N (c) (d),VT⟩]) (SL':=[(13,VAt w (VR1 (Vv N c d))),(14,Vi (1)),(16,Vb (true)),(15,Vi (1))]) st6 ⟨?s0,ks,trivial⟩ ?_
  case s0=>
   refine k_run0 SbB.out (by kernel_rfl) fun listed A Y h D hnl=>⟨trivial,?_⟩
   obtain⟨v0,x0,X0⟩:=h.out0 hnl (15,Vi (0)) (.tail _ (.tail _ (.head _))) 1 (by kernel_rfl) (.inr (by kernel_rfl))
   obtain rfl:v0= .int .i64 0:=X0
   exact⟨.int .i64 1,run_addi rfl x0 rfl rfl,rfl⟩
  intro a7 w7 st7
  clear st6
  refine⟨.inr ?_,?_⟩
  ·exact st7.cut
  ·have hm1:(intOf (a7.eval (.tmp 15))).toNat=1:=(by obtain⟨vv,e1,e2⟩:=st7.slot (15,Vi (1)) (.tail _ (.tail _ (.tail _ (.head _))));rw [e1,e2];rfl)
   show 1 - _<1 - _
   rw [hm0,hm1];omega
 ·
  repeat first|refine Wq ?_|refine Wb ?_|refine Wk ?_|refine Wx ?_
  refine rg (BT:=[(33,4,0),(110,8,0)]) (Vl:=[Vb (false)]) (B:=[⟨2,none,none,110,8,Vv N (a) (b),VT⟩,⟨4,none,none,33,4,VT,VT⟩,⟨5,none,none,33,4,Vq ((N+N)+(N+N)+1) ((a)*(b)+((c)*(d))),VT⟩,⟨7,none,none,110,8,Vv N (c) (d),VT⟩]) (SL':=[(13,VAt w (VR1 (Vv N c d))),(14,Vi (1)),(15,Vi (1)),(16,Vb (false))]) st3 ⟨?s0,trivial⟩ ?_
  case s0=>
   refine kr fun _ A Y h D=>?_
   obtain⟨v0,x0,X0⟩:=h.ot 15
   have hV0':v0= .int .i64 (1):=X0
   obtain⟨v1,x1,X1⟩:=h.ot 14
   have hV1':v1= .int .i64 (1):=X1
   exact⟨_,run_lssi rfl (x0.trans hV0') (x1.trans hV1'),congrArg Value.bool (by decide)⟩
  intro a4 w4 st4
  clear st3
  repeat first|refine Wq ?_|refine Wb ?_|refine Wk ?_|refine Wx ?_
  obtain⟨vc,hc1,hc2⟩:=st4.slot (16,Vb (false)) (.tail _ (.tail _ (.tail _ (.head _))))
  refine wp_cond_false (hc1.trans hc2) ?_
  clear hc1 hc2
  repeat first|refine Wq ?_|refine Wb ?_|refine Wk ?_|refine Wx ?_
  refine rg (BT:=[(33,4,0),(110,8,0)]) (Vl:=[Vq ((N+N)+(N+N)+1) ((a)*(b)+((c)*(d))),VT]) (B:=[⟨2,none,none,110,8,Vv N (a) (b),VT⟩,⟨4,none,some 1,33,4,Vq ((N+N)+(N+N)+1) ((a)*(b)+((c)*(d))),VT⟩,⟨5,none,none,33,4,Vq ((N+N)+(N+N)+1) ((a)*(b)+((c)*(d))),VT⟩,⟨7,none,none,110,8,Vv N (c) (d),VT⟩]) (SL':=[(13,VAt w (VR1 (Vv N c d))),(14,Vi (1)),(15,Vi (1)),(16,Vb (false))]) st4 ⟨ks,ks,trivial⟩ ?_
  intro a5 w5 st5
  clear st4
  repeat first|refine Wq ?_|refine Wb ?_|refine Wk ?_|refine Wx ?_
  obtain⟨g,cs,r1,r2,r3,r4,r5⟩:=st5.res ⟨4,none,none,33,4,Vq ((N+N)+(N+N)+1) ((a)*(b)+((c)*(d))),VT⟩ (.tail _ (.head _)) rfl rfl
  exact wp_ret (bodyPost_ret (results_cell_row rfl _ _ g 33 cs (0,0) _ r1 r2 Tryz.underlying33 rfl (by rw [r3];exact size_Rat)) st5.defers ⟨_,rfl,(Vq_le r4 (by omega)),r5⟩)
theorem cCross {w:World}{N:Nat}{a b c d:Rat}{v0 v1:Value}(h0:Vv N (a) (b) v0 w)(h1:Vv N (c) (d) v1 w)(hN1:1≤N)(hN:N≤4000):Calls Tryz.prog 119 #[v0,v1] w (RV (Vq (4*N+1) (a*d+ -b*c)) w):=by
 go_enter Tryz.func119,Tryz.ntmps119
 have st0:St w.heap.size w 18 [] [(0,Vv N (a) (b)),(1,Vv N (c) (d))] _ w:=St.begin (a:=⟨#[v0,v1,undef,undef,undef,undef,undef,undef,undef,undef,undef,undef,undef,undef,undef,undef,undef,undef],[]⟩) rfl rfl (Lq.2 ⟨⟨_,rfl,h0⟩,(Lq.2 ⟨⟨_,rfl,h1⟩,(fun _ h=>absurd h (by simp))⟩)⟩)
 generalize(⟨_,_⟩:Act)=a0 at st0 ⊢
 repeat first|refine Wq ?_|refine Wb ?_|refine Wk ?_|refine Wx ?_
 refine rg (BT:=[(33,4,0)]) (Vl:=[VT,VT,VT]) (B:=[⟨2,some 0,some 0,35,8,Vv N (a) (b),VT⟩,⟨3,some 1,some 1,35,8,Vv N (c) (d),VT⟩,⟨4,some 2,none,33,4,VT,VT⟩]) (SL':=[]) st0 ⟨ks,ks,ks,trivial⟩ ?_
 intro a1 w1 st1
 clear st0
 repeat first|refine Wq ?_|refine Wb ?_|refine Wk ?_|refine Wx ?_
 have:Sb [(33,4,0)] (VR1 (Vv N (-(b)) (c))):=⟨Stab_VR1 (Stab_Vv _ _ _) (by kernel_rfl)⟩
 refine rg (BT:=[(33,4,0)]) (Vl:=[Vpt a1 2 0,Vq N (a),Vpt a1 3 4,Vq N (d),Vv N (a) (d),Vpt a1 2 4,Vq N (b),Vq N (-(b)),Vpt a1 3 0,Vq N (c),Vv N (-(b)) (c),VR1 (Vv N (-(b)) (c)),Vq (4*N+1) ((a)*(d)+(-(b))*(c)),VT]) (B:=[⟨2,none,none,35,8,Vv N (a) (b),VT⟩,⟨3,none,none,35,8,Vv N (c) (d),VT⟩,⟨4,none,some 13,33,4,Vq (4*N+1) ((a)*(d)+(-(b))*(c)),VT⟩]) (SL':=[]) st1 ⟨ks,ks,ks,ks,?s4,ks,ks,?s7,ks,ks,?s10,?s11,?s12,ks,trivial⟩ ?_
 case s4=>
  refine kr fun _ A Y h D=>?_
  obtain⟨v0,x0,X0⟩:=h.dp D 6
  obtain⟨v1,x1,X1⟩:=h.dp D 8
  exact build_pair rfl x0 x1 (AggV_Vq _ _) (AggV_Vq _ _) X0 X1
 case s7=>exact kd1 fun _ _ _ _ _ X0=>cQNeg X0 (by omega)
 case s10=>
  refine kr fun _ A Y h D=>?_
  obtain⟨v0,x0,X0⟩:=h.dp D 12
  obtain⟨v1,x1,X1⟩:=h.dp D 14
  exact build_pair rfl x0 x1 (AggV_Vq _ _) (AggV_Vq _ _) X0 X1
 case s11=>refine km fun _ A Y h D=>?_;obtain⟨v0,x0,X0⟩:=h.dp D 15;exact bslice_pair rfl x0 (AggV_Vv _ _ _) (Stab_Vv _ _ _) X0
 case s12=>exact kd2 fun _ _ Y _ v0 X0 v1 X1=>cSumA X0 (show VR1 (Vv N (-(b)) (c)) v1 Y from X1) (by omega) (by omega)
 intro a2 w2 st2
 clear st1
 repeat first|refine Wq ?_|refine Wb ?_|refine Wk ?_|refine Wx ?_
 obtain⟨g,cs,r1,r2,r3,r4,r5⟩:=st2.res ⟨4,none,none,33,4,Vq (4*N+1) ((a)*(d)+(-(b))*(c)),VT⟩ (.tail _ (.tail _ (.head _))) rfl rfl
 exact wp_ret (bodyPost_ret (results_cell_row rfl _ _ g 33 cs (0,0) _ r1 r2 Tryz.underlying33 rfl (by rw [r3];exact size_Rat)) st2.defers ⟨_,rfl,r4,r5⟩)
theorem cVAdd {w:World}{N:Nat}{a b c d:Rat}{v0 v1:Value}(h0:Vv N (a) (b) v0 w)(h1:Vv N (c) (d) v1 w)(hN1:1≤N)(hN:N≤4000):Calls Tryz.prog 44 #[v0,v1] w (RV (Vv (N+N+1) (a+c) (b+d)) w):=by
 go_enter Tryz.func44,Tryz.ntmps44
 have st0:St w.heap.size w 16 [] [(0,Vv N (a) (b)),(1,Vv N (c) (d))] _ w:=St.begin (a:=⟨#[v0,v1,undef,undef,undef,undef,undef,undef,undef,undef,undef,undef,undef,undef,undef,undef],[]⟩) rfl rfl (Lq.2 ⟨⟨_,rfl,h0⟩,(Lq.2 ⟨⟨_,rfl,h1⟩,(fun _ h=>absurd h (by simp))⟩)⟩)
 generalize(⟨_,_⟩:Act)=a0 at st0 ⊢
 repeat first|refine Wq ?_|refine Wb ?_|refine Wk ?_|refine Wx ?_
 refine rg (BT:=[(35,8,0)]) (Vl:=[VT,VT,VT]) (B:=[⟨2,some 0,some 0,35,8,Vv N (a) (b),VT⟩,⟨3,some 1,some 1,35,8,Vv N (c) (d),VT⟩,⟨4,some 2,none,35,8,VT,VT⟩]) (SL':=[]) st0 ⟨ks,ks,ks,trivial⟩ ?_
 intro a1 w1 st1
 clear st0
 repeat first|refine Wq ?_|refine Wb ?_|refine Wk ?_|refine Wx ?_
 refine rg (BT:=[(35,8,0)]) (Vl:=[Vpt a1 2 0,Vq N (a),Vpt a1 3 0,Vq N (c),Vq (N+N+1) ((a)+(c)),Vpt a1 2 4,Vq N (b),Vpt a1 3 4,Vq N (d),Vq (N+N+1) ((b)+(d)),Vv (N+N+1) ((a)+(c)) ((b)+(d)),VT]) (B:=[⟨2,none,none,35,8,Vv N (a) (b),VT⟩,⟨3,none,none,35,8,Vv N (c) (d),VT⟩,⟨4,none,some 11,35,8,Vv (N+N+1) ((a)+(c)) ((b)+(d)),VT⟩]) (SL':=[]) st1 ⟨ks,ks,ks,ks,?s4,ks,ks,ks,ks,?s9,?s10,ks,trivial⟩ ?_
 case s4=>exact kd2 fun _ _ _ _ _ X0 _ X1=>cQAdd X0 X1 (by omega) (by omega) (by omega) (by omega)
 case s9=>exact kd2 fun _ _ _ _ _ X0 _ X1=>cQAdd X0 X1 (by omega) (by omega) (by omega) (by omega)
 case s10=>
  refine kr fun _ A Y h D=>?_
  obtain⟨v0,x0,X0⟩:=h.dp D 9
  obtain⟨v1,x1,X1⟩:=h.dp D 14
  exact build_Vec rfl x0 x1 (AggV_Vq _ _) (AggV_Vq _ _) X0 X1
 intro a2 w2 st2
 clear st1
 repeat first|refine Wq ?_|refine Wb ?_|refine Wk ?_|refine Wx ?_
 obtain⟨g,cs,r1,r2,r3,r4,r5⟩:=st2.res ⟨4,none,none,35,8,Vv (N+N+1) ((a)+(c)) ((b)+(d)),VT⟩ (.tail _ (.tail _ (.head _))) rfl rfl
 exact wp_ret (bodyPost_ret (results_cell_row rfl _ _ g 35 cs (0,0) _ r1 r2 Tryz.underlying35 rfl (by rw [r3];exact size_Vec)) st2.defers ⟨_,rfl,r4,r5⟩)
theorem cVSub {w:World}{N:Nat}{a b c d:Rat}{v0 v1:Value}(h0:Vv N (a) (b) v0 w)(h1:Vv N (c) (d) v1 w)(hN1:1≤N)(hN:N≤4000):Calls Tryz.prog 143 #[v0,v1] w (RV (Vv (N+N+1) (a - c) (b - d)) w):=by
 go_enter Tryz.func143,Tryz.ntmps143
 have st0:St w.heap.size w 16 [] [(0,Vv N (a) (b)),(1,Vv N (c) (d))] _ w:=St.begin (a:=⟨#[v0,v1,undef,undef,undef,undef,undef,undef,undef,undef,undef,undef,undef,undef,undef,undef],[]⟩) rfl rfl (Lq.2 ⟨⟨_,rfl,h0⟩,(Lq.2 ⟨⟨_,rfl,h1⟩,(fun _ h=>absurd h (by simp))⟩)⟩)
 generalize(⟨_,_⟩:Act)=a0 at st0 ⊢
 repeat first|refine Wq ?_|refine Wb ?_|refine Wk ?_|refine Wx ?_
 refine rg (BT:=[(35,8,0)]) (Vl:=[VT,VT,VT]) (B:=[⟨2,some 0,some 0,35,8,Vv N (a) (b),VT⟩,⟨3,some 1,some 1,35,8,Vv N (c) (d),VT⟩,⟨4,some 2,none,35,8,VT,VT⟩]) (SL':=[]) st0 ⟨ks,ks,ks,trivial⟩ ?_
 intro a1 w1 st1
 clear st0
 repeat first|refine Wq ?_|refine Wb ?_|refine Wk ?_|refine Wx ?_
 refine rg (BT:=[(35,8,0)]) (Vl:=[Vpt a1 2 0,Vq N (a),Vpt a1 3 0,Vq N (c),Vq (N+N+1) ((a) - (c)),Vpt a1 2 4,Vq N (b),Vpt a1 3 4,Vq N (d),Vq (N+N+1) ((b) - (d)),Vv (N+N+1) ((a) - (c)) ((b) - (d)),VT]) (B:=[⟨2,none,none,35,8,Vv N (a) (b),VT⟩,⟨3,none,none,35,8,Vv N (c) (d),VT⟩,⟨4,none,some 11,35,8,Vv (N+N+1) ((a) - (c)) ((b) - (d)),VT⟩]) (SL':=[]) st1 ⟨ks,ks,ks,ks,?s4,ks,ks,ks,ks,?s9,?s10,ks,trivial⟩ ?_
 case s4=>exact kd2 fun _ _ _ _ _ X0 _ X1=>cQSub X0 X1 (by omega) (by omega) (by omega) (by omega)
 case s9=>exact kd2 fun _ _ _ _ _ X0 _ X1=>cQSub X0 X1 (by omega) (by omega) (by omega) (by omega)
 case s10=>
  refine kr fun _ A Y h D=>?_
  obtain⟨v0,x0,X0⟩:=h.dp D 9
  obtain⟨v1,x1,X1⟩:=h.dp D 14
  exact build_Vec rfl x0 x1 (AggV_Vq _ _) (AggV_Vq _ _) X0 X1
 intro a2 w2 st2
 clear st1
 repeat first|refine Wq ?_|refine Wb ?_|refine Wk ?_|refine Wx ?_
 obtain⟨g,cs,r1,r2,r3,r4,r5⟩:=st2.res ⟨4,none,none,35,8,Vv (N+N+1) ((a) - (c)) ((b) - (d)),VT⟩ (.tail _ (.tail _ (.head _))) rfl rfl
 exact wp_ret (bodyPost_ret (results_cell_row rfl _ _ g 35 cs (0,0) _ r1 r2 Tryz.underlying35 rfl (by rw [r3];exact size_Vec)) st2.defers ⟨_,rfl,r4,r5⟩)
theorem cVCompare {w:World}{N:Nat}{a b c d:Rat}{v0 v1:Value}(h0:Vv N (a) (b) v0 w)(h1:Vv N (c) (d) v1 w)(hN1:1≤N)(hN:N≤4000):Calls Tryz.prog 150 #[v0,v1] w (RV (Vi (if cmpQ a c=0 then cmpQ b d else cmpQ a c)) w):=by
 go_enter Tryz.func150,Tryz.ntmps150
 have st0:St w.heap.size w 19 [] [(0,Vv N (a) (b)),(1,Vv N (c) (d))] _ w:=St.begin (a:=⟨#[v0,v1,undef,undef,undef,undef,undef,undef,undef,undef,undef,undef,undef,undef,undef,undef,undef,undef,undef],[]⟩) rfl rfl (Lq.2 ⟨⟨_,rfl,h0⟩,(Lq.2 ⟨⟨_,rfl,h1⟩,(fun _ h=>absurd h (by simp))⟩)⟩)
 generalize(⟨_,_⟩:Act)=a0 at st0 ⊢
 repeat first|refine Wq ?_|refine Wb ?_|refine Wk ?_|refine Wx ?_
 refine rg (BT:=[]) (Vl:=[VT,VT,Vi (0)]) (B:=[⟨2,some 0,some 0,35,8,Vv N (a) (b),VT⟩,⟨3,some 1,some 1,35,8,Vv N (c) (d),VT⟩]) (SL':=[(4,Vi (0))]) st0 ⟨ks,ks,ks,trivial⟩ ?_
 intro a1 w1 st1
 clear st0
 repeat first|refine Wq ?_|refine Wb ?_|refine Wk ?_|refine Wx ?_
 refine rg (BT:=[]) (Vl:=[Vpt a1 2 0,Vq N (a),Vpt a1 3 0,Vq N (c),Vi (cmpQ (a) (c)),Vi (cmpQ (a) (c))]) (B:=[⟨2,none,none,35,8,Vv N (a) (b),VT⟩,⟨3,none,none,35,8,Vv N (c) (d),VT⟩]) (SL':=[(4,Vi (0)),(5,Vi (cmpQ (a) (c)))]) st1 ⟨ks,ks,ks,ks,?s4,ks,trivial⟩ ?_
 case s4=>exact kd2 fun _ _ _ _ _ X0 _ X1=>cQCompare X0 X1 (by omega) (by omega) (by omega) (by omega)
 intro a2 w2 st2
 clear st1
 by_cases hp:cmpQ a c=0
 ·
  repeat first|refine Wq ?_|refine Wb ?_|refine Wk ?_|refine Wx ?_
  refine rg (BT:=[]) (Vl:=[Vi (cmpQ (a) (c)),Vb (false)]) (B:=[⟨2,none,none,35,8,Vv N (a) (b),VT⟩,⟨3,none,none,35,8,Vv N (c) (d),VT⟩]) (SL':=[(4,Vi (0)),(5,Vi (cmpQ (a) (c))),(12,Vb (false))]) st2 ⟨ks,?s1,trivial⟩ ?_
  case s1=>refine kr fun _ A Y h D=>?_;obtain⟨v0,x0,X0⟩:=h.dp D 11;have hV0':v0= .int .i64 (cmpQ (a) (c)):=X0;exact⟨_,run_neqi rfl (x0.trans hV0') rfl,congrArg Value.bool (by rw [hp];rfl)⟩
  intro a3 w3 st3
  clear st2
  repeat first|refine Wq ?_|refine Wb ?_|refine Wk ?_|refine Wx ?_
  obtain⟨vc,hc1,hc2⟩:=st3.slot (12,Vb (false)) (.tail _ (.tail _ (.head _)))
  refine wp_cond_false (hc1.trans hc2) ?_
  clear hc1 hc2
  repeat first|refine Wq ?_|refine Wb ?_|refine Wk ?_|refine Wx ?_
  refine rg (BT:=[]) (Vl:=[Vpt a3 2 4,Vq N (b),Vpt a3 3 4,Vq N (d),Vi (cmpQ (b) (d)),Vi (cmpQ (b) (d))]) (B:=[⟨2,none,none,35,8,Vv N (a) (b),VT⟩,⟨3,none,none,35,8,Vv N (c) (d),VT⟩]) (SL':=[(5,Vi (cmpQ (a) (c))),(12,Vb (false)),(4,Vi (cmpQ (b) (d)))]) st3 ⟨ks,ks,ks,ks,?s4,ks,trivial⟩ ?_
  case s4=>exact kd2 fun _ _ _ _ _ X0 _ X1=>cQCompare X0 X1 (by omega) (by omega) (by omega) (by omega)
  intro a4 w4 st4
  clear st3
  repeat first|refine Wq ?_|refine Wb ?_|refine Wk ?_|refine Wx ?_
  obtain⟨vr,r1,r4⟩:=st4.slot (4,Vi (cmpQ (b) (d))) (.tail _ (.tail _ (.head _)))
  exact wp_ret (bodyPost_ret (results_tmp rfl _ _ _) st4.defers ⟨_,congrArg Ending.returned (show _=vr from r1),(by rw [if_pos hp];exact r4),st4.k.below⟩)
 ·
  repeat first|refine Wq ?_|refine Wb ?_|refine Wk ?_|refine Wx ?_
  refine rg (BT:=[]) (Vl:=[Vi (cmpQ (a) (c)),Vb (true)]) (B:=[⟨2,none,none,35,8,Vv N (a) (b),VT⟩,⟨3,none,none,35,8,Vv N (c) (d),VT⟩]) (SL':=[(4,Vi (0)),(5,Vi (cmpQ (a) (c))),(12,Vb (true))]) st2 ⟨ks,?s1,trivial⟩ ?_
  case s1=>refine kr fun _ A Y h D=>?_;obtain⟨v0,x0,X0⟩:=h.dp D 11;have hV0':v0= .int .i64 (cmpQ (a) (c)):=X0;exact⟨_,run_neqi rfl (x0.trans hV0') rfl,congrArg Value.bool (bne_iff_ne.2 hp)⟩
  intro a3 w3 st3
  clear st2
  repeat first|refine Wq ?_|refine Wb ?_|refine Wk ?_|refine Wx ?_
  obtain⟨vc,hc1,hc2⟩:=st3.slot (12,Vb (true)) (.tail _ (.tail _ (.head _)))
  refine wp_cond_true (hc1.trans hc2) ?_
  clear hc1 hc2
  repeat first|refine Wq ?_|refine Wb ?_|refine Wk ?_|refine Wx ?_
  refine rg (BT:=[]) (Vl:=[Vi (cmpQ (a) (c)),Vi (cmpQ (a) (c))]) (B:=[⟨2,none,none,35,8,Vv N (a) (b),VT⟩,⟨3,none,none,35,8,Vv N (c) (d),VT⟩]) (SL':=[(5,Vi (cmpQ (a) (c))),(12,Vb (true)),(4,Vi (cmpQ (a) (c)))]) st3 ⟨ks,ks,trivial⟩ ?_
  intro a4 w4 st4
  clear st3
  repeat first|refine Wq ?_|refine Wb ?_|refine Wk ?_|refine Wx ?_
  obtain⟨vr,r1,r4⟩:=st4.slot (4,Vi (cmpQ (a) (c))) (.tail _ (.tail _ (.head _)))
  exact wp_ret (bodyPost_ret (results_tmp rfl _ _ _) st4.defers ⟨_,congrArg Ending.returned (show _=vr from r1),(by rw [if_neg hp];exact r4),st4.k.below⟩)
theorem cSide {w:World}{N:Nat}{a b c d e f:Rat}{v0 v1 v2:Value}(h0:Vv N (a) (b) v0 w)(h1:Vv N (c) (d) v1 w)(h2:Vv N (e) (f) v2 w)(hN1:1≤N)(hN:N≤1000):Calls Tryz.prog 107 #[v0,v1,v2] w (RV (Vi (cmpI ((c - a)*(f - b)+ -(d - b)*(e - a)).num 0)) w):=by
 go_enter Tryz.func107,Tryz.ntmps107
 have st0:St w.heap.size w 15 [] [(0,Vv N (a) (b)),(1,Vv N (c) (d)),(2,Vv N (e) (f))] _ w:=St.begin (a:=⟨#[v0,v1,v2,undef,undef,undef,undef,undef,undef,undef,undef,undef,undef,undef,undef],[]⟩) rfl rfl (Lq.2 ⟨⟨_,rfl,h0⟩,(Lq.2 ⟨⟨_,rfl,h1⟩,(Lq.2 ⟨⟨_,rfl,h2⟩,(fun _ h=>absurd h (by simp))⟩)⟩)⟩)
 generalize(⟨_,_⟩:Act)=a0 at st0 ⊢
 repeat first|refine Wq ?_|refine Wb ?_|refine Wk ?_|refine Wx ?_
 refine rg (BT:=[]) (Vl:=[VT,VT,VT,Vi (0)]) (B:=[⟨3,some 0,some 0,35,8,Vv N (a) (b),VT⟩,⟨4,some 1,some 1,35,8,Vv N (c) (d),VT⟩,⟨5,some 2,some 2,35,8,Vv N (e) (f),VT⟩]) (SL':=[(6,Vi (0))]) st0 ⟨ks,ks,ks,ks,trivial⟩ ?_
 intro a1 w1 st1
 clear st0
 repeat first|refine Wq ?_|refine Wb ?_|refine Wk ?_|refine Wx ?_
 refine rg (BT:=[]) (Vl:=[Vv N (c) (d),Vv N (a) (b),Vv (N+N+1) ((c) - (a)) ((d) - (b)),Vv N (e) (f),Vv N (a) (b),Vv (N+N+1) ((e) - (a)) ((f) - (b)),Vq (4*(N+N+1)+1) (((c) - (a))*((f) - (b))+ -((d) - (b))*((e) - (a))),Vi (cmpI (((c) - (a))*((f) - (b))+ -((d) - (b))*((e) - (a))).num 0),Vi (cmpI (((c) - (a))*((f) - (b))+ -((d) - (b))*((e) - (a))).num 0)]) (B:=[⟨3,none,none,35,8,Vv N (a) (b),VT⟩,⟨4,none,none,35,8,Vv N (c) (d),VT⟩,⟨5,none,none,35,8,Vv N (e) (f),VT⟩]) (SL':=[(6,Vi (cmpI (((c) - (a))*((f) - (b))+ -((d) - (b))*((e) - (a))).num 0))]) st1 ⟨ks,ks,?s2,ks,ks,?s5,?s6,?s7,ks,trivial⟩ ?_
 case s2=>exact kd2 fun _ _ _ _ _ X0 _ X1=>cVSub X0 X1 (by omega) (by omega)
 case s5=>exact kd2 fun _ _ _ _ _ X0 _ X1=>cVSub X0 X1 (by omega) (by omega)
 case s6=>exact kd2 fun _ _ _ _ _ X0 _ X1=>cCross X0 X1 (by omega) (by omega)
 case s7=>exact kd1 fun _ _ _ _ _ X0=>cQSign X0 (by omega)
 intro a2 w2 st2
 clear st1
 repeat first|refine Wq ?_|refine Wb ?_|refine Wk ?_|refine Wx ?_
 obtain⟨vr,r1,r4⟩:=st2.slot (6,Vi (cmpI (((c) - (a))*((f) - (b))+ -((d) - (b))*((e) - (a))).num 0)) (.head _)
 exact wp_ret (bodyPost_ret (results_tmp rfl _ _ _) st2.defers ⟨_,congrArg Ending.returned (show _=vr from r1),r4,st2.k.below⟩)
section
variable {BT:List (TypeId×Nat×Nat)}
theorem arr8 {x:Array Value}(h:x.size=8):∃a b c d e f g h,x=#[a,b,c,d,e,f,g,h]:=by
 match x,h with
 |⟨[a,b,c,d,e,f,g,h]⟩,_=>exact⟨a,b,c,d,e,f,g,h,rfl⟩
end



structure MinI (l m:List Int)(k:Nat)(b:Int)(z:List Int):Prop where
 len:z.length=k
 dg:Dg z
 sum:val z - pw k*b=val (l.take k) - val (m.take k)
 lo:0≤b
 hi:b≤1
theorem MinI.start (l m:List Int):MinI l m 0 0 []:=⟨rfl,Dg_nil,by simp [val],by omega,by omega⟩
theorem MinI.keep {l m z:List Int}{k:Nat}{b:Int}(h:MinI l m k b z)(hl:Dg l)(hm:Dg m)(hv:0≤iat l k - iat m k - b):MinI l m (k+1) 0 (z++ [iat l k - iat m k - b]):=by
 have h1:=hl.all k
 have h2:=hm.all k
 have h3:=h.lo
 have hs:=h.sum
 have hlen:=h.len
 refine⟨by rw [List.length_append,hlen];rfl,Dg_append h.dg (Dg_cons (by omega) (by omega) Dg_nil),?_,by omega,by omega⟩
 rw [val_append,hlen,val_take',val_take']
 show val z+pw k*((iat l k - iat m k - b)+1000000000*0) - 1000000000*pw k*0=_
 grind
theorem MinI.take_ {l m z:List Int}{k:Nat}{b:Int}(h:MinI l m k b z)(hl:Dg l)(hm:Dg m)(hv:iat l k - iat m k - b<0):MinI l m (k+1) 1 (z++ [iat l k - iat m k - b+1000000000]):=by
 have h1:=hl.all k
 have h2:=hm.all k
 have h3:=h.hi
 have hs:=h.sum
 have hlen:=h.len
 refine⟨by rw [List.length_append,hlen];rfl,Dg_append h.dg (Dg_cons (by omega) (by omega) Dg_nil),?_,by omega,by omega⟩
 rw [val_append,hlen,val_take',val_take']
 show val z+pw k*((iat l k - iat m k - b+1000000000)+1000000000*0) - 1000000000*pw k*1=_
 grind
theorem MinI.done {l m z:List Int}{b:Int}(h:MinI l m l.length b z)(hml:m.length≤l.length)(hle:val m≤val l):DifP l m z:=by
 have hs:=h.sum
 rw [List.take_length,List.take_of_length_le hml] at hs
 have h1:=h.dg.hi
 rw [h.len] at h1
 have h2:=h.lo
 have h3:=h.hi
 have hb:b=0:=by
  rcases Int.lt_or_le 0 b with h4|h4
  ·have:b=1:=by omega
   subst this
   omega
  ·omega
 subst hb
 exact⟨h.dg,by simpa using hs,h.len⟩
def MinL (w:World)(l m:List Int)(k:Nat)(b:Int)(v:Value)(wr:World):Prop:=∃z,MinI l m k b z∧GrowI w v z wr
theorem minus_any (a1 a2:Option Addr)(n1 c1 n2 c2:Nat)(l m:List Int)(w:World)(hR1:Rdi w a1 l)(hR2:Rdi w a2 m)(hn1:n1=l.length)(hn2:n2=m.length)(hd1:Dg l)(hd2:Dg m)(hm1:n1≤1099511627775)(hle:n2≤n1)(x0:val m≤val l):
 Calls Tryz.prog 148 #[.slice a1 n1 c1,.slice a2 n2 c2] w (NewS w (DifP l m)):=by
 obtain⟨i0,hi,hz0,hz1,hz2⟩:=info_parts info_i64
 have H1:=Lib.hid hR1
 have H2:=Lib.hid hR2
 have N1:=Lib.hid hn1
 have N2:=Lib.hid hn2
 have D1:=Lib.hid hd1
 have D2:=Lib.hid hd2
 have hv:=Lib.hid x0
 have hI:Hid (MinL w l m 0 0 (.slice none 0 0) w):=Lib.hid ⟨[],MinI.start l m,GrowI.start w⟩
 clear hR1 hR2 hn1 hn2 hd1 hd2 x0
 go_enter Tryz.func148,Tryz.ntmps148
 go_wp2_with fail
 go_loopw [5,6,7] (fun v bv iv wr=>∃(k:Nat) (b:Int),k≤n1∧iv= .int .i64 (k:Int)∧bv= .int .i64 b∧MinL w l m k b v wr) (fun _ _ iv _=>n1 - (intOf iv).toNat)
 case atStart=>exact⟨0,0,by omega,rfl,rfl,hI.out⟩
 case round=>
  obtain⟨k,b,hk,rfl,rfl,z,hP,hG⟩:=hrel
  clear hI
  have hzl:Hid (z.length=k):=Lib.hid hP.len
  by_cases hlt:k<n1
  ·have hB:=hG.2
   have gq:Hid (∀q,Calls Tryz.prog 159 #[.slice a2 n2 c2,.int .i64 (k:Int)] (wr.drewN q) fun e w'=>e= .returned (.int .i64 (iat m k))∧wr.drewN q=w'):=Lib.hid fun q=>digit_any _ _ _ _ _ (wr.drewN q) (Rdi_below (below_drewN hB q) H2.out) N2.out
   obtain⟨b1,o1,rfl,hc1⟩:=Rdi_at H1.out k (by rw [←N1.out];exact hlt)
   have cx:=Below.cell_of' hB hc1
   have hx:=D1.out.all k
   have hy:=D2.out.all k
   have hb0:=hP.lo
   have hb1:=hP.hi
   have hkeep:=Lib.hid (fun h=>hP.keep D1.out D2.out h)
   have htake:=Lib.hid (fun h=>hP.take_ D1.out D2.out h)
   obtain⟨x,hxx⟩:∃x,iat l k=x:=⟨_,rfl⟩
   obtain⟨y,hyy⟩:∃y,iat m k=y:=⟨_,rfl⟩
   rw [hxx] at cx hx hkeep htake
   rw [hyy] at gq hy hkeep htake
   obtain⟨hx1,hx2⟩:=hx
   obtain⟨hy1,hy2⟩:=hy
   have hG':=Lib.hid hG
   have hsz:=hB.size
   have k0:0≤(k:Int):=by omega
   have k1:(k:Int)<(n1:Int):=by omega
   have k2:((k:Int)).toNat=k:=by omega
   have s0: -1000000000<x - y:=by omega
   have s1:x - y<1000000000:=by omega
   have s2: -1000000001<x - y - b:=by omega
   have s3:x - y - b<1000000000:=by omega
   clear hP hG hB hxx hyy hc1
   by_cases hneg:x - y - b<0
   ·have hst:=Lib.hid (htake.out hneg)
    have s4:0≤x - y - b+1000000000:=by omega
    clear hkeep htake
    go_wp2_with fail
    go_quiet ((go_at_call 159;exact q_left (gq.out _)))
    have hGq:=Lib.hid (hG'.out.drewN nq)
    have hsq:w.heap.size≤(wr.drewN nq).heap.size:=hsz
    generalize wr.drewN nq=wq at hGq hsq ⊢
    clear cx hG'
    go_wp2_with (at_builtin;refine wpList_append_own _ rfl _ _ 22 rfl w.heap.size 3 i0 (.int .i64 0) 1 8 Tryz.underlying22 hi hz0 hz1 hz2 rfl (by decide) _ _ _ rfl (hGq.out.1.alloc _) ⟨wq.heap.size,0,none⟩ 1 1 [.int .i64 (x - y - b+1000000000)] rfl rfl (cell_one_new _ _ _) (by intro u hu;simp at hu;subst hu;rfl) (by rw [hzl.out];unfold maxLen;omega) (by rw [hzl.out];omega) (by simp;omega) ?_;intro v2 w2 ho2 hg2 _;have hG2:=Lib.hid (hGq.out.push ho2 hg2);clear ho2 hg2)
    exact⟨⟨k+1,_,by omega,by simp,rfl,_,hst.out,hG2.out⟩,by simp only [intOf];omega⟩
   ·have hst:=Lib.hid (hkeep.out (by omega))
    clear hkeep htake
    go_wp2_with fail
    go_quiet ((go_at_call 159;exact q_left (gq.out _)))
    have hGq:=Lib.hid (hG'.out.drewN nq)
    have hsq:w.heap.size≤(wr.drewN nq).heap.size:=hsz
    generalize wr.drewN nq=wq at hGq hsq ⊢
    clear cx hG'
    go_wp2_with (at_builtin;refine wpList_append_own _ rfl _ _ 22 rfl w.heap.size 3 i0 (.int .i64 0) 1 8 Tryz.underlying22 hi hz0 hz1 hz2 rfl (by decide) _ _ _ rfl (hGq.out.1.alloc _) ⟨wq.heap.size,0,none⟩ 1 1 [.int .i64 (x - y - b)] rfl rfl (cell_one_new _ _ _) (by intro u hu;simp at hu;subst hu;rfl) (by rw [hzl.out];unfold maxLen;omega) (by rw [hzl.out];omega) (by simp;omega) ?_;intro v2 w2 ho2 hg2 _;have hG2:=Lib.hid (hGq.out.push ho2 hg2);clear ho2 hg2)
    exact⟨⟨k+1,_,by omega,by simp,rfl,_,hst.out,hG2.out⟩,by simp only [intOf];omega⟩
  ·have hk':k=n1:=by omega
   subst hk'
   have hf:=Lib.hid (hG.done (MinI.done (by rw [←N1.out];exact hP) (by rw [←N1.out,←N2.out];exact hle) hv.out))
   clear hP hG
   go_wp2_with fail
   go_ret
   exact hf.out
end Go.Proofs.YtjdkdjobaabdiaaGreat
