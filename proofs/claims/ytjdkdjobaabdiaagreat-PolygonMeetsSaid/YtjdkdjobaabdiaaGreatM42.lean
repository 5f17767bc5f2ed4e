/- Contracts of the packages integer, rat, plane, polygon and their references. -/
import Derived.Test.YtjdkdjobaabdiaaGreatM41
import Derived.Test.YtjdkdjobaabdiaaGreatM39
set_option linter.unusedVariables false
set_option maxRecDepth 100000
set_option maxHeartbeats 6400000
namespace Go.Proofs.YtjdkdjobaabdiaaGreat
open Go.RowKit
open Go
section
variable {ρ:Operand→Value}{o:Oper}{w W:World}{x y:Operand}{va vb:Value}{N:Nat}{vs:List P2}
theorem bslice_I8 (ho:o.op= .buildSlice 22 8 #[(0,.const (.int .i64 0)),(1,.const (.int .i64 0)),(2,.const (.int .i64 4)),(3,.const (.int .i64 0)),(4,.const (.int .i64 4)),(5,.const (.int .i64 4)),(6,.const (.int .i64 0)),(7,.const (.int .i64 4))])(hc:∀v,ρ (.const v)=v):∃v w',(execOp ρ o).run Tryz.prog W= .ok (.value v) w'∧Below W.heap.size W w'∧VI [0,0,4,0,4,4,0,4] v w':=by
 have hb:=below_new W (.cells #[.int .i64 0,.int .i64 0,.int .i64 4,.int .i64 0,.int .i64 4,.int .i64 4,.int .i64 0,.int .i64 4] 3)
 have e:=heap_alloc_new W (.cells #[.int .i64 0,.int .i64 0,.int .i64 4,.int .i64 0,.int .i64 4,.int .i64 4,.int .i64 0,.int .i64 4] 3)
 refine⟨.slice (some ⟨W.heap.size,0,none⟩) 8 8,_,?_,hb,⟨_,8,8,rfl,.inr ⟨_,0,rfl,fun i hi=>?_⟩,rfl,fun i hi=>?_⟩⟩
 ·clear hb e
  obtain⟨dd,op,ty,ps,af,gd⟩:=o
  subst ho
  go_simp
 ·simp only [World.cell?,e]
  match i,hi with
  |0,_=>rfl
  |1,_=>rfl
  |2,_=>rfl
  |3,_=>rfl
  |4,_=>rfl
  |5,_=>rfl
  |6,_=>rfl
  |7,_=>rfl
  |i+8,hi=>exact absurd hi (by simp)
 ·match i,hi with
  |0,_=>exact⟨by decide,by decide⟩
  |1,_=>exact⟨by decide,by decide⟩
  |2,_=>exact⟨by decide,by decide⟩
  |3,_=>exact⟨by decide,by decide⟩
  |4,_=>exact⟨by decide,by decide⟩
  |5,_=>exact⟨by decide,by decide⟩
  |6,_=>exact⟨by decide,by decide⟩
  |7,_=>exact⟨by decide,by decide⟩
  |i+8,hi=>exact absurd hi (by simp)
theorem bslice_I12 (ho:o.op= .buildSlice 22 12 #[(0,.const (.int .i64 0)),(1,.const (.int .i64 0)),(2,.const (.int .i64 4)),(3,.const (.int .i64 0)),(4,.const (.int .i64 4)),(5,.const (.int .i64 2)),(6,.const (.int .i64 2)),(7,.const (.int .i64 2)),(8,.const (.int .i64 2)),(9,.const (.int .i64 4)),(10,.const (.int .i64 0)),(11,.const (.int .i64 4))])(hc:∀v,ρ (.const v)=v):∃v w',(execOp ρ o).run Tryz.prog W= .ok (.value v) w'∧Below W.heap.size W w'∧VI [0,0,4,0,4,2,2,2,2,4,0,4] v w':=by
 have hb:=below_new W (.cells #[.int .i64 0,.int .i64 0,.int .i64 4,.int .i64 0,.int .i64 4,.int .i64 2,.int .i64 2,.int .i64 2,.int .i64 2,.int .i64 4,.int .i64 0,.int .i64 4] 3)
 have e:=heap_alloc_new W (.cells #[.int .i64 0,.int .i64 0,.int .i64 4,.int .i64 0,.int .i64 4,.int .i64 2,.int .i64 2,.int .i64 2,.int .i64 2,.int .i64 4,.int .i64 0,.int .i64 4] 3)
 refine⟨.slice (some ⟨W.heap.size,0,none⟩) 12 12,_,?_,hb,⟨_,12,12,rfl,.inr ⟨_,0,rfl,fun i hi=>?_⟩,rfl,fun i hi=>?_⟩⟩
 ·clear hb e
  obtain⟨dd,op,ty,ps,af,gd⟩:=o
  subst ho
  go_simp
 ·simp only [World.cell?,e]
  match i,hi with
  |0,_=>rfl
  |1,_=>rfl
  |2,_=>rfl
  |3,_=>rfl
  |4,_=>rfl
  |5,_=>rfl
  |6,_=>rfl
  |7,_=>rfl
  |8,_=>rfl
  |9,_=>rfl
  |10,_=>rfl
  |11,_=>rfl
  |i+12,hi=>exact absurd hi (by simp)
 ·match i,hi with
  |0,_=>exact⟨by decide,by decide⟩
  |1,_=>exact⟨by decide,by decide⟩
  |2,_=>exact⟨by decide,by decide⟩
  |3,_=>exact⟨by decide,by decide⟩
  |4,_=>exact⟨by decide,by decide⟩
  |5,_=>exact⟨by decide,by decide⟩
  |6,_=>exact⟨by decide,by decide⟩
  |7,_=>exact⟨by decide,by decide⟩
  |8,_=>exact⟨by decide,by decide⟩
  |9,_=>exact⟨by decide,by decide⟩
  |10,_=>exact⟨by decide,by decide⟩
  |11,_=>exact⟨by decide,by decide⟩
  |i+12,hi=>exact absurd hi (by simp)
theorem drop_Sv {n:Nat}(ho:o.op= .slice 23 x (some y) none none)(hx:ρ x=va)(h:VAt w (VSv N vs) va W)(hy:ρ y=vb)(hn:Vi (n:Int) vb W)(hlt:n<vs.length):∃v,(execOp ρ o).run Tryz.prog W= .ok (.value v) W∧VAt w (VSv N (vs.drop n)) v W:=by
 obtain rfl:vb=_:=hn
 rcases h with⟨-,rfl⟩|⟨hh,oo,c,cs,rfl,e2,e3,e4,e5,e6⟩
 ·simp at hlt
 have hl:(vs.drop n).length=vs.length - n:=List.length_drop
 refine⟨.slice (some ⟨hh,oo+8*n,none⟩) (vs.drop n).length (c - n),?_,.inr ⟨hh,oo+8*n,c - n,cs,rfl,by omega,by omega,e4,by omega,fun i z hz=>?_⟩⟩
 ·rw [hl]
  have q1:(n:Int)≤(vs.length:Int):=by omega
  have q2:(n:Int)≤(c:Int):=by omega
  have q3:(vs.length:Int)≤(c:Int):=by omega
  have q4:¬c=n:=by omega
  have q5:n*8=8*n:=Nat.mul_comm _ _
  clear hl e6 e5 e4 e2 e3 hlt
  generalize vs.length=m at*
  obtain⟨dd,op,ty,ps,af,gd⟩:=o
  subst ho
  go_simp
 ·rw [List.getElem?_drop] at hz
  have:=e6 _ _ hz
  rw [Nat.mul_add,←Nat.add_assoc] at this
  exact this
theorem take_Sv {n:Nat}(ho:o.op= .slice 23 x none (some y) none)(hx:ρ x=va)(h:VAt w (VSv N vs) va W)(hy:ρ y=vb)(hn:Vi (n:Int) vb W)(hle:n≤vs.length)(h0:0<vs.length):∃v,(execOp ρ o).run Tryz.prog W= .ok (.value v) W∧VAt w (VSv N (vs.take n)) v W:=by
 obtain rfl:vb=_:=hn
 rcases h with⟨-,rfl⟩|⟨hh,oo,c,cs,rfl,e2,e3,e4,e5,e6⟩
 ·simp at h0
 have hl:(vs.take n).length=n:=by rw [List.length_take];omega
 refine⟨.slice (some ⟨hh,oo,none⟩) (vs.take n).length c,?_,.inr ⟨hh,oo,c,cs,rfl,by omega,by omega,e4,by omega,fun i z hz=>?_⟩⟩
 ·rw [hl]
  have q1:(n:Int)≤(vs.length:Int):=by omega
  have q2:(n:Int)≤(c:Int):=by omega
  have q3:(vs.length:Int)≤(c:Int):=by omega
  have q4:¬c=0:=by omega
  clear hl e6 e5 e4 e2 e3 hle h0
  generalize vs.length=m at*
  obtain⟨dd,op,ty,ps,af,gd⟩:=o
  subst ho
  go_simp
 ·rw [List.getElem?_take] at hz
  split at hz
  ·exact e6 _ _ hz
  ·cases hz
theorem len_SvA (ho:o.op= .call {callee:= .builtin .len,args:=#[x],argTypes:=#[23]})(hty:o.type=3)(hx:ρ x=va)(h:VAt w (VSv N vs) va W):∃v,(execOp ρ o).run Tryz.prog W= .ok (.value v) W∧Vi (vs.length:Int) v W:=len_Sv ho hty hx (show VEq va va W from rfl) h
end
def sqV:List P2:=[(0,0),(4,0),(4,4),(0,4)]
def anV:List P2:=[(0,0),(4,0),(4,2),(2,2),(2,4),(0,4)]
theorem sq_ofL:ofL [0,0,4,0,4,4,0,4] 4=sqV:=by decide+kernel
theorem an_ofL:ofL [0,0,4,0,4,2,2,2,2,4,0,4] 6=anV:=by decide+kernel
theorem sq_convex:convexP sqV=true:=by decide+kernel
theorem an_valid:validP anV=true:=by decide+kernel
theorem an_convex:convexP anV=false:=by decide+kernel
theorem sq_two:validP (sqV.take 2)=false:=by decide+kernel
theorem sq_area:areaQ sqV=Rat.divInt 16 1:=by decide+kernel
theorem an_area:areaQ anV=Rat.divInt 12 1:=by decide+kernel
theorem sq_ctr:ctr sqV=(Rat.divInt 2 1,Rat.divInt 2 1):=by decide+kernel
theorem an_ctr:ctr anV=(Rat.divInt 5 3,Rat.divInt 5 3):=by decide+kernel
theorem an_boxL:bxL anV=(0,0):=by decide+kernel
theorem an_boxH:bxH anV=(Rat.divInt 4 1,Rat.divInt 4 1):=by decide+kernel
theorem sq_mts:mts (0,0) (4,4) (4,0) (0,4)=true:=by decide+kernel
theorem sq_mts2:mts (0,0) (4,0) (4,4) (0,4)=false:=by decide+kernel
theorem sq_has1:hasI sqV (Rat.divInt 2 1,Rat.divInt 2 1)=1:=by decide+kernel
theorem sq_has0:hasI sqV (Rat.divInt 4 1,Rat.divInt 1 1)=0:=by decide+kernel
theorem sq_hasN:hasI sqV (Rat.divInt 5 1,Rat.divInt 1 1)= -1:=by decide+kernel
theorem an_hasN:hasI anV (Rat.divInt 3 1,Rat.divInt 3 1)= -1:=by decide+kernel
theorem VI_64 {l:List Int}{v:Value}{w:World}(h:VI l v w):i64s l:=by
 obtain⟨a,m,c,-,-,-,h⟩:=h
 exact h
section
variable {w:World}{lv v0 v1 v2 v3:Value}{vs:List P2}{N M:Nat}
theorem same4T {a b:Rat}(h0:Vq N a v0 w)(h1:Vq M b v1 w)(hN:N≤9000)(hM:M≤9000)(e:a=b):Calls Tryz.prog 23 #[v0,v1] w (RV (Vb true) w):=
 (cR4Same (Vq_le h0 hN) (Vq_le h1 hM) (by omega)).mono fun _ _ h=>h.le fun _ _ hv=>hv.trans (congrArg Value.bool (dT e))
theorem same5T {a b c d:Rat}(h0:Vv N a b v0 w)(h1:Vv M c d v1 w)(hN:N≤9000)(hM:M≤9000)(e:a=c∧b=d):Calls Tryz.prog 26 #[v0,v1] w (RV (Vb true) w):=
 (cR5Same (Vv_le h0 hN) (Vv_le h1 hM) (by omega) (by omega)).mono fun _ _ h=>h.le fun _ _ hv=>hv.trans (congrArg Value.bool (dT e))
theorem lvArea {q:Rat}(hS:VSv 3 vs lv w)(hn:vs.length≤6)(hq:areaQ vs=q):Calls Tryz.prog 24 #[lv] w (RV (Vq 100 q) w):=by
 subst hq
 exact(cArea (show VEq lv lv w from rfl) hS (by omega) (by omega)).mono fun _ _ h=>h.le fun _ _ h=>Vq_le h (by omega)
theorem lvCtr {q:P2}(hS:VSv 3 vs lv w)(hn:vs.length≤6)(hq:ctr vs=q):Calls Tryz.prog 27 #[lv] w (RV (Vv 300 q.1 q.2) w):=by
 subst hq
 exact(cCenter hS (by omega) (by omega)).mono fun _ _ h=>h.le fun _ _ h=>Vv_le h (by omega)
theorem lvConvex {x:Bool}(hS:VSv 3 vs lv w)(hx:convexP vs=x):Calls Tryz.prog 16 #[lv] w (RV (Vb x) w):=by
 subst hx
 exact cConvex hS (by omega) (by omega)
theorem lvValid {x:Bool}(hS:VSv 3 vs lv w)(hx:validP vs=x):Calls Tryz.prog 14 #[lv] w (RV (Vb x) w):=
 cValidV (show VEq lv lv w from rfl) hS (by omega) (by omega) hx
theorem lvMeets {a b c d:P2}{x:Bool}(h0:Vv N a.1 a.2 v0 w)(h1:Vv N b.1 b.2 v1 w)(h2:Vv N c.1 c.2 v2 w)(h3:Vv N d.1 d.2 v3 w)(hN:1≤N)(hN2:N≤1000)(hx:mts a b c d=x):Calls Tryz.prog 34 #[v0,v1,v2,v3] w (RV (Vb x) w):=by
 subst hx
 exact cMeets h0 h1 h2 h3 hN hN2
theorem lvHas {p:P2}{x:Int}(hS:VSv 3 vs lv w)(h1:Vv 3 p.1 p.2 v1 w)(hx:hasI vs p=x):Calls Tryz.prog 30 #[lv,v1] w (RV (Vi x) w):=by
 subst hx
 exact cHas h1 hS (by omega) (by omega)
theorem lvBox (hS:VSv 3 anV lv w):Calls Tryz.prog 21 #[lv] w (RV (VTup (Vv 3 0 0) (Vv 3 (Rat.divInt 4 1) (Rat.divInt 4 1))) w):=by
 have h:=cBoxCons (show VEq lv lv w from rfl) (show VSv 3 ((0,0):: [(4,0),(4,2),(2,2),(2,4),(0,4)]) lv w from hS) (by omega) (by omega)
 have e1:bxL ((0,0):: [(4,0),(4,2),(2,2),(2,4),(0,4)])=((0,0):P2):=an_boxL
 have e2:bxH ((0,0):: [(4,0),(4,2),(2,2),(2,4),(0,4)])=((Rat.divInt 4 1,Rat.divInt 4 1):P2):=an_boxH
 rw [e1,e2] at h
 exact h
end
theorem cL6Lives {w:World}:Calls Tryz.prog 18 #[] w (RV (Vb true) w):=by
 go_enter Tryz.func18,Tryz.ntmps18
 have st0:St w.heap.size w 124 [] [] _ w:=St.begin (a:=⟨#[undef,undef,undef,undef,undef,undef,undef,undef,undef,undef,undef,undef,undef,undef,undef,undef,undef,undef,undef,undef,undef,undef,undef,undef,undef,undef,undef,undef,undef,undef,undef,undef,undef,undef,undef,undef,undef,undef,undef,undef,undef,undef,undef,undef,undef,undef,undef,undef,undef,undef,undef,undef,undef,undef,undef,undef,undef,undef,undef,undef,undef,undef,undef,undef,undef,undef,undef,undef,undef,undef,undef,undef,undef,undef,undef,undef,undef,undef,undef,undef,undef,undef,undef,undef,undef,undef,undef,undef,undef,undef,undef,undef,undef,undef,undef,undef,undef,undef,undef,undef,undef,undef,undef,undef,undef,undef,undef,undef,undef,undef,undef,undef,undef,undef,undef,undef,undef,undef,undef,undef,undef,undef,undef,undef],[]⟩) rfl rfl (fun _ h=>absurd h (by simp))
 generalize(⟨_,_⟩:Act)=a0 at st0 ⊢
 repeat first|refine Wq ?_|refine Wb ?_|refine Wk ?_|refine Wx ?_
 refine rg (BT:=[(33,4,0),(35,8,0)]) (Vl:=[Vb (false)]) (B:=[]) (SL':=[(0,Vb (false))]) st0 ⟨ks,trivial⟩ ?_
 intro a1 w1 st1
 clear st0
 repeat first|refine Wq ?_|refine Wb ?_|refine Wk ?_|refine Wx ?_
 have:Sb [] (VSv 3 (ofL [0,0,4,0,4,4,0,4] 4)):=⟨Stab_VSvN⟩
 refine rg (BT:=[]) (Vl:=[VI [0,0,4,0,4,4,0,4],VSv 3 (ofL [0,0,4,0,4,4,0,4] 4),VSv 3 (ofL [0,0,4,0,4,4,0,4] 4)]) (B:=[]) (SL':=[(0,Vb (false)),(1,VSv 3 (ofL [0,0,4,0,4,4,0,4] 4))]) st1 ⟨?s0,?s1,ks,trivial⟩ ?_
 case s0=>exact km fun _ ac Y h D=>bslice_I8 rfl (fun _=>rfl)
 case s1=>exact kd1 fun _ _ _ _ _ X0=>cOf6 (n:=4) X0 rfl (by omega) (by omega) (VI_64 X0)
 intro a2 w2 st2
 clear st1
 repeat first|refine Wq ?_|refine Wb ?_|refine Wk ?_|refine Wx ?_
 have:Sb [] (VSv 3 (ofL [0,0,4,0,4,2,2,2,2,4,0,4] 6)):=⟨Stab_VSvN⟩
 have:Sb [] (VSv 3 (ofL [0,0,4,0,4,4,0,4] 4)):=⟨Stab_VSvN⟩
 refine rg (BT:=[]) (Vl:=[VI [0,0,4,0,4,2,2,2,2,4,0,4],VSv 3 (ofL [0,0,4,0,4,2,2,2,2,4,0,4] 6),VSv 3 (ofL [0,0,4,0,4,2,2,2,2,4,0,4] 6)]) (B:=[]) (SL':=[(0,Vb (false)),(1,VSv 3 (ofL [0,0,4,0,4,4,0,4] 4)),(2,VSv 3 (ofL [0,0,4,0,4,2,2,2,2,4,0,4] 6))]) st2 ⟨?s0,?s1,ks,trivial⟩ ?_
 case s0=>exact km fun _ ac Y h D=>bslice_I12 rfl (fun _=>rfl)
 case s1=>exact kd1 fun _ _ _ _ _ X0=>cOf6 (n:=6) X0 rfl (by omega) (by omega) (VI_64 X0)
 intro a3 w3 st3
 clear st2
 replace st3:St w.heap.size w 124 [] [(0,Vb (false)),(1,VSv 3 (ofL [0,0,4,0,4,4,0,4] 4)),(2,VSv 3 (ofL [0,0,4,0,4,2,2,2,2,4,0,4] 6))] a3 w3:=st3
 obtain⟨u1,p1,s1⟩:=st3.sl (1,VSv 3 (ofL [0,0,4,0,4,4,0,4] 4)) (lS_mem rfl)
 obtain⟨u2,p2,s2⟩:=st3.sl (2,VSv 3 (ofL [0,0,4,0,4,2,2,2,2,4,0,4] 6)) (lS_mem rfl)
 rw [sq_ofL] at s1
 rw [an_ofL] at s2
 repeat first|refine Wq ?_|refine Wb ?_|refine Wk ?_|refine Wx ?_
 obtain⟨hbN,stB⟩:=st3.base [(1,VAt w3 (VSv 3 (sqV))),(2,VAt w3 (VSv 3 (anV)))] (Lq.2 ⟨⟨_,p1,s1⟩,(Lq.2 ⟨⟨_,p2,s2⟩,(fun _ h=>absurd h (by simp))⟩)⟩)
 clear st3
 obtain⟨wO,hren⟩:∃z,z=w:=⟨_,rfl⟩
 subst hren
 have hbO:=hbN
 clear hbN
 obtain⟨w,hren⟩:∃z,z=w3:=⟨_,rfl⟩
 subst hren
 have st3:St w.heap.size w 124 [] [(1,VAt w (VSv 3 (sqV))),(2,VAt w (VSv 3 (anV)))] a3 w:=stB
 clear stB
 clear p1 s1 p2 s2
 repeat first|refine Wq ?_|refine Wb ?_|refine Wk ?_|refine Wx ?_
 refine rg (BT:=[(33,4,0),(35,8,0)]) (Vl:=[Vq 3 (Rat.divInt (5) (3)),VT,VT]) (B:=[⟨3,some 1,some 2,33,4,Vq 3 (Rat.divInt (5) (3)),VT⟩]) (SL':=[(1,VAt w (VSv 3 (sqV))),(2,VAt w (VSv 3 (anV)))]) st3 ⟨?s0,ks,ks,trivial⟩ ?_
 case s0=>
  refine kc fun _ ac Y h D=>?_
  exact⟨#[.int .i64 (5),.int .i64 (3)],by simp [eval_const],cR4Of (show Vi 5 (.int .i64 (5)) Y from rfl) (show Vi 3 (.int .i64 (3)) Y from rfl) (by omega) (by omega) (by omega) (by omega)⟩
 intro a4 w4 st4
 clear st3
 repeat first|refine Wq ?_|refine Wb ?_|refine Wk ?_|refine Wx ?_
 refine rg (BT:=[(33,4,0),(35,8,0)]) (Vl:=[VAt w (VSv 3 (sqV)),Vb (true),Vb (false),Vb (false),VAt w (VSv 3 (anV)),Vb (true),Vb (false),Vb (false),Vb (false),VAt w (VSv 3 (anV)),Vb (false),Vb (false),Vb (false),VAt w (VSv 3 (sqV)),VAt w (VSv 3 (sqV.take 2)),Vb (false),Vb (false)]) (B:=[⟨3,none,none,33,4,Vq 3 (Rat.divInt (5) (3)),VT⟩]) (SL':=[(1,VAt w (VSv 3 (sqV))),(2,VAt w (VSv 3 (anV))),(27,Vb (false))]) st4 ⟨ks,?s1,ks,ks,ks,?s5,ks,ks,ks,ks,?s10,ks,ks,ks,?s14,?s15,ks,trivial⟩ ?_
 case s1=>exact kd1 fun _ _ Y h v0 X0=>lvConvex (VSv_later (show VSv 3 (sqV) _ w from(show VAt w (VSv 3 (sqV)) v0 Y from X0)) h.k.below) sq_convex
 case s5=>exact kd1 fun _ _ Y h v0 X0=>lvValid (VSv_later (show VSv 3 (anV) _ w from(show VAt w (VSv 3 (anV)) v0 Y from X0)) h.k.below) an_valid
 case s10=>exact kd1 fun _ _ Y h v0 X0=>lvConvex (VSv_later (show VSv 3 (anV) _ w from(show VAt w (VSv 3 (anV)) v0 Y from X0)) h.k.below) an_convex
 case s14=>refine kr fun _ ac Y h D=>?_;obtain⟨v0,x0,X0⟩:=h.dp D 24;exact take_Sv rfl x0 X0 rfl rfl (by decide) (by decide)
 case s15=>exact kd1 fun _ _ Y h v0 X0=>lvValid (VSv_later (show VSv 3 (sqV.take 2) _ w from(show VAt w (VSv 3 (sqV.take 2)) v0 Y from X0)) h.k.below) sq_two
 intro a5 w5 st5
 clear st4
 repeat first|refine Wq ?_|refine Wb ?_|refine Wk ?_|refine Wx ?_
 obtain⟨vc,hc1,hc2⟩:=st5.slot (27,Vb (false)) (.tail _ (.tail _ (.head _)))
 refine wp_cond_false (hc1.trans hc2) ?_
 clear hc1 hc2
 repeat first|refine Wq ?_|refine Wb ?_|refine Wk ?_|refine Wx ?_
 refine rg (BT:=[(33,4,0),(35,8,0)]) (Vl:=[VAt w (VSv 3 (sqV)),Vq 100 (Rat.divInt 16 1),Vq 3 (Rat.divInt (16) (1)),Vb (true),Vb (false),Vb (false),VAt w (VSv 3 (anV)),Vq 100 (Rat.divInt 12 1),Vq 3 (Rat.divInt (12) (1)),Vb (true),Vb (false),Vb (false),Vb (false),VAt w (VSv 3 (sqV)),Vv 300 (Rat.divInt 2 1) (Rat.divInt 2 1),Vv 3 (Rat.divInt (2) 1) (Rat.divInt (2) 1),Vb (true),Vb (false),Vb (false),Vb (false),VAt w (VSv 3 (anV)),Vv 300 (Rat.divInt 5 3) (Rat.divInt 5 3),Vq 3 (Rat.divInt (5) (3)),Vq 3 (Rat.divInt (5) (3)),Vv 3 (Rat.divInt (5) (3)) (Rat.divInt (5) (3)),Vb (true),Vb (false),Vb (false)]) (B:=[⟨3,none,none,33,4,Vq 3 (Rat.divInt (5) (3)),VT⟩]) (SL':=[(1,VAt w (VSv 3 (sqV))),(2,VAt w (VSv 3 (anV))),(27,Vb (false)),(55,Vb (false))]) st5 ⟨ks,?s1,?s2,?s3,ks,ks,ks,?s7,?s8,?s9,ks,ks,ks,ks,?s14,?s15,?s16,ks,ks,ks,ks,?s21,ks,ks,?s24,?s25,ks,ks,trivial⟩ ?_
 case s1=>exact kd1 fun _ _ Y h v0 X0=>lvArea (VSv_later (show VSv 3 (sqV) _ w from(show VAt w (VSv 3 (sqV)) v0 Y from X0)) h.k.below) (by decide) sq_area
 case s2=>
  refine kc fun _ ac Y h D=>?_
  exact⟨#[.int .i64 (16),.int .i64 (1)],by simp [eval_const],cR4Of (show Vi 16 (.int .i64 (16)) Y from rfl) (show Vi 1 (.int .i64 (1)) Y from rfl) (by omega) (by omega) (by omega) (by omega)⟩
 case s3=>exact kd2 fun _ _ _ _ _ X0 _ X1=>same4T X0 X1 (by omega) (by omega) rfl
 case s7=>exact kd1 fun _ _ Y h v0 X0=>lvArea (VSv_later (show VSv 3 (anV) _ w from(show VAt w (VSv 3 (anV)) v0 Y from X0)) h.k.below) (by decide) an_area
 case s8=>
  refine kc fun _ ac Y h D=>?_
  exact⟨#[.int .i64 (12),.int .i64 (1)],by simp [eval_const],cR4Of (show Vi 12 (.int .i64 (12)) Y from rfl) (show Vi 1 (.int .i64 (1)) Y from rfl) (by omega) (by omega) (by omega) (by omega)⟩
 case s9=>exact kd2 fun _ _ _ _ _ X0 _ X1=>same4T X0 X1 (by omega) (by omega) rfl
 case s14=>exact kd1 fun _ _ Y h v0 X0=>lvCtr (VSv_later (show VSv 3 (sqV) _ w from(show VAt w (VSv 3 (sqV)) v0 Y from X0)) h.k.below) (by decide) sq_ctr
 case s15=>
  refine kc fun _ ac Y h D=>?_
  exact⟨#[.int .i64 (2),.int .i64 (2)],by simp [eval_const],cR5Of (show Vi 2 (.int .i64 (2)) Y from rfl) (show Vi 2 (.int .i64 (2)) Y from rfl) (by omega) (by omega) (by omega) (by omega)⟩
 case s16=>exact kd2 fun _ _ _ _ _ X0 _ X1=>same5T X0 X1 (by omega) (by omega) ⟨rfl,rfl⟩
 case s21=>exact kd1 fun _ _ Y h v0 X0=>lvCtr (VSv_later (show VSv 3 (anV) _ w from(show VAt w (VSv 3 (anV)) v0 Y from X0)) h.k.below) (by decide) an_ctr
 case s24=>refine kr fun _ ac Y h D=>?_;obtain⟨v0,x0,X0⟩:=h.dp D 50;obtain⟨v1,x1,X1⟩:=h.dp D 51;exact build_Vec rfl x0 x1 (AggV_Vq _ _) (AggV_Vq _ _) X0 X1
 case s25=>exact kd2 fun _ _ _ _ _ X0 _ X1=>same5T X0 X1 (by omega) (by omega) ⟨rfl,rfl⟩
 intro a6 w6 st6
 clear st5
 repeat first|refine Wq ?_|refine Wb ?_|refine Wk ?_|refine Wx ?_
 obtain⟨vc,hc1,hc2⟩:=st6.slot (55,Vb (false)) (.tail _ (.tail _ (.tail _ (.head _))))
 refine wp_cond_false (hc1.trans hc2) ?_
 clear hc1 hc2
 repeat first|refine Wq ?_|refine Wb ?_|refine Wk ?_|refine Wx ?_
 refine rg (BT:=[(33,4,0),(35,8,0)]) (Vl:=[VAt w (VSv 3 (anV)),VTup (Vv 3 (0) (0)) (Vv 3 (Rat.divInt 4 1) (Rat.divInt 4 1)),VTup (Vv 3 (0) (0)) (Vv 3 (Rat.divInt 4 1) (Rat.divInt 4 1)),Vv 3 (0) (0),Vv 3 (Rat.divInt 4 1) (Rat.divInt 4 1),VT,VT,VT,VT]) (B:=[⟨3,none,none,33,4,Vq 3 (Rat.divInt (5) (3)),VT⟩,⟨4,some 5,some 7,35,8,Vv 3 (0) (0),VT⟩,⟨5,some 6,some 8,35,8,Vv 3 (Rat.divInt 4 1) (Rat.divInt 4 1),VT⟩]) (SL':=[(1,VAt w (VSv 3 (sqV))),(2,VAt w (VSv 3 (anV))),(27,Vb (false)),(55,Vb (false))]) st6 ⟨ks,?s1,ks,ks,ks,ks,ks,ks,ks,trivial⟩ ?_
 case s1=>exact kd1 fun _ _ Y h v0 X0=>lvBox (VSv_later (show VSv 3 (anV) _ w from(show VAt w (VSv 3 (anV)) v0 Y from X0)) h.k.below)
 intro a7 w7 st7
 clear st6
 repeat first|refine Wq ?_|refine Wb ?_|refine Wk ?_|refine Wx ?_
 refine rg (BT:=[(33,4,0),(35,8,0)]) (Vl:=[Vv 3 (0) (0),Vv 1 (0) (0),Vb (true),Vb (false),Vb (false),Vv 3 (Rat.divInt 4 1) (Rat.divInt 4 1),Vv 3 (Rat.divInt (4) 1) (Rat.divInt (4) 1),Vb (true),Vb (false),Vb (false),Vb (false),VAt w (VSv 3 (sqV)),VAt w (VEp 35 8 (Vv 3 ((0,0):P2).1 ((0,0):P2).2)),Vv 3 (((0,0):P2).1) (((0,0):P2).2),VAt w (VSv 3 (sqV)),VAt w (VEp 35 8 (Vv 3 ((4,4):P2).1 ((4,4):P2).2)),Vv 3 (((4,4):P2).1) (((4,4):P2).2),VAt w (VSv 3 (sqV)),VAt w (VEp 35 8 (Vv 3 ((4,0):P2).1 ((4,0):P2).2)),Vv 3 (((4,0):P2).1) (((4,0):P2).2),VAt w (VSv 3 (sqV)),VAt w (VEp 35 8 (Vv 3 ((0,4):P2).1 ((0,4):P2).2)),Vv 3 (((0,4):P2).1) (((0,4):P2).2),Vb (true),Vb (false),Vb (false),Vb (false),VAt w (VSv 3 (sqV)),VAt w (VEp 35 8 (Vv 3 ((0,0):P2).1 ((0,0):P2).2)),Vv 3 (((0,0):P2).1) (((0,0):P2).2),VAt w (VSv 3 (sqV)),VAt w (VEp 35 8 (Vv 3 ((4,0):P2).1 ((4,0):P2).2)),Vv 3 (((4,0):P2).1) (((4,0):P2).2),VAt w (VSv 3 (sqV)),VAt w (VEp 35 8 (Vv 3 ((4,4):P2).1 ((4,4):P2).2)),Vv 3 (((4,4):P2).1) (((4,4):P2).2),VAt w (VSv 3 (sqV)),VAt w (VEp 35 8 (Vv 3 ((0,4):P2).1 ((0,4):P2).2)),Vv 3 (((0,4):P2).1) (((0,4):P2).2),Vb (false),Vb (false)]) (B:=[⟨3,none,none,33,4,Vq 3 (Rat.divInt (5) (3)),VT⟩,⟨4,none,none,35,8,Vv 3 (0) (0),VT⟩,⟨5,none,none,35,8,Vv 3 (Rat.divInt 4 1) (Rat.divInt 4 1),VT⟩]) (SL':=[(1,VAt w (VSv 3 (sqV))),(2,VAt w (VSv 3 (anV))),(27,Vb (false)),(55,Vb (false)),(101,Vb (false))]) st7 ⟨ks,?s1,?s2,ks,ks,ks,?s6,?s7,ks,ks,ks,ks,?s12,?s13,ks,?s15,?s16,ks,?s18,?s19,ks,?s21,?s22,?s23,ks,ks,ks,ks,?s28,?s29,ks,?s31,?s32,ks,?s34,?s35,ks,?s37,?s38,?s39,ks,trivial⟩ ?_
 case s1=>exact kr fun _ ac Y h D=>build_Vec0 rfl
 case s2=>exact kd2 fun _ _ _ _ _ X0 _ X1=>same5T X0 X1 (by omega) (by omega) ⟨rfl,rfl⟩
 case s6=>
  refine kc fun _ ac Y h D=>?_
  exact⟨#[.int .i64 (4),.int .i64 (4)],by simp [eval_const],cR5Of (show Vi 4 (.int .i64 (4)) Y from rfl) (show Vi 4 (.int .i64 (4)) Y from rfl) (by omega) (by omega) (by omega) (by omega)⟩
 case s7=>exact kd2 fun _ _ _ _ _ X0 _ X1=>same5T X0 X1 (by omega) (by omega) ⟨rfl,rfl⟩
 case s12=>refine kr fun _ ac Y h D=>?_;obtain⟨v0,x0,X0⟩:=h.dp D 72;exact index_Sv (j:=0) (a:=((0,0):P2)) rfl x0 (show VEq v0 v0 Y from rfl) X0 rfl rfl rfl
 case s13=>
  refine kr fun _ ac Y h D=>?_
  obtain⟨v0,x0,X0⟩:=h.dp D 73
  exact load_EpC (w:=w) (k:=8) (A:=Vv 3 ((0,0):P2).1 ((0,0):P2).2) (Stab_Vv _ _ _) rfl x0 X0 h.k.below Tryz.underlying35 rfl size_Vec
 case s15=>refine kr fun _ ac Y h D=>?_;obtain⟨v0,x0,X0⟩:=h.dp D 75;exact index_Sv (j:=2) (a:=((4,4):P2)) rfl x0 (show VEq v0 v0 Y from rfl) X0 rfl rfl rfl
 case s16=>
  refine kr fun _ ac Y h D=>?_
  obtain⟨v0,x0,X0⟩:=h.dp D 76
  exact load_EpC (w:=w) (k:=8) (A:=Vv 3 ((4,4):P2).1 ((4,4):P2).2) (Stab_Vv _ _ _) rfl x0 X0 h.k.below Tryz.underlying35 rfl size_Vec
 case s18=>refine kr fun _ ac Y h D=>?_;obtain⟨v0,x0,X0⟩:=h.dp D 78;exact index_Sv (j:=1) (a:=((4,0):P2)) rfl x0 (show VEq v0 v0 Y from rfl) X0 rfl rfl rfl
 case s19=>
  refine kr fun _ ac Y h D=>?_
  obtain⟨v0,x0,X0⟩:=h.dp D 79
  exact load_EpC (w:=w) (k:=8) (A:=Vv 3 ((4,0):P2).1 ((4,0):P2).2) (Stab_Vv _ _ _) rfl x0 X0 h.k.below Tryz.underlying35 rfl size_Vec
 case s21=>refine kr fun _ ac Y h D=>?_;obtain⟨v0,x0,X0⟩:=h.dp D 81;exact index_Sv (j:=3) (a:=((0,4):P2)) rfl x0 (show VEq v0 v0 Y from rfl) X0 rfl rfl rfl
 case s22=>
  refine kr fun _ ac Y h D=>?_
  obtain⟨v0,x0,X0⟩:=h.dp D 82
  exact load_EpC (w:=w) (k:=8) (A:=Vv 3 ((0,4):P2).1 ((0,4):P2).2) (Stab_Vv _ _ _) rfl x0 X0 h.k.below Tryz.underlying35 rfl size_Vec
 case s23=>
  refine kc fun _ ac Y h D=>?_
  obtain⟨v0,x0,X0⟩:=h.dp D 74
  obtain⟨v1,x1,X1⟩:=h.dp D 77
  obtain⟨v2,x2,X2⟩:=h.dp D 80
  obtain⟨v3,x3,X3⟩:=h.dp D 83
  exact⟨#[v0,v1,v2,v3],by simp [x0,x1,x2,x3],lvMeets X0 X1 X2 X3 (by omega) (by omega) sq_mts⟩
 case s28=>refine kr fun _ ac Y h D=>?_;obtain⟨v0,x0,X0⟩:=h.dp D 88;exact index_Sv (j:=0) (a:=((0,0):P2)) rfl x0 (show VEq v0 v0 Y from rfl) X0 rfl rfl rfl
 case s29=>
  refine kr fun _ ac Y h D=>?_
  obtain⟨v0,x0,X0⟩:=h.dp D 89
  exact load_EpC (w:=w) (k:=8) (A:=Vv 3 ((0,0):P2).1 ((0,0):P2).2) (Stab_Vv _ _ _) rfl x0 X0 h.k.below Tryz.underlying35 rfl size_Vec
 case s31=>refine kr fun _ ac Y h D=>?_;obtain⟨v0,x0,X0⟩:=h.dp D 91;exact index_Sv (j:=1) (a:=((4,0):P2)) rfl x0 (show VEq v0 v0 Y from rfl) X0 rfl rfl rfl
 case s32=>
  refine kr fun _ ac Y h D=>?_
  obtain⟨v0,x0,X0⟩:=h.dp D 92
  exact load_EpC (w:=w) (k:=8) (A:=Vv 3 ((4,0):P2).1 ((4,0):P2).2) (Stab_Vv _ _ _) rfl x0 X0 h.k.below Tryz.underlying35 rfl size_Vec
 case s34=>refine kr fun _ ac Y h D=>?_;obtain⟨v0,x0,X0⟩:=h.dp D 94;exact index_Sv (j:=2) (a:=((4,4):P2)) rfl x0 (show VEq v0 v0 Y from rfl) X0 rfl rfl rfl
 case s35=>
  refine kr fun _ ac Y h D=>?_
  obtain⟨v0,x0,X0⟩:=h.dp D 95
  exact load_EpC (w:=w) (k:=8) (A:=Vv 3 ((4,4):P2).1 ((4,4):P2).2) (Stab_Vv _ _ _) rfl x0 X0 h.k.below Tryz.underlying35 rfl size_Vec
 case s37=>refine kr fun _ ac Y h D=>?_;obtain⟨v0,x0,X0⟩:=h.dp D 97;exact index_Sv (j:=3) (a:=((0,4):P2)) rfl x0 (show VEq v0 v0 Y from rfl) X0 rfl rfl rfl
 case s38=>
  refine kr fun _ ac Y h D=>?_
  obtain⟨v0,x0,X0⟩:=h.dp D 98
  exact load_EpC (w:=w) (k:=8) (A:=Vv 3 ((0,4):P2).1 ((0,4):P2).2) (Stab_Vv _ _ _) rfl x0 X0 h.k.below Tryz.underlying35 rfl size_Vec
 case s39=>
  refine kc fun _ ac Y h D=>?_
  obtain⟨v0,x0,X0⟩:=h.dp D 90
  obtain⟨v1,x1,X1⟩:=h.dp D 93
  obtain⟨v2,x2,X2⟩:=h.dp D 96
  obtain⟨v3,x3,X3⟩:=h.dp D 99
  exact⟨#[v0,v1,v2,v3],by simp [x0,x1,x2,x3],lvMeets X0 X1 X2 X3 (by omega) (by omega) sq_mts2⟩
 intro a8 w8 st8
 clear st7
 repeat first|refine Wq ?_|refine Wb ?_|refine Wk ?_|refine Wx ?_
 obtain⟨vc,hc1,hc2⟩:=st8.slot (101,Vb (false)) (.tail _ (.tail _ (.tail _ (.tail _ (.head _)))))
 refine wp_cond_false (hc1.trans hc2) ?_
 clear hc1 hc2
 repeat first|refine Wq ?_|refine Wb ?_|refine Wk ?_|refine Wx ?_
 refine rg (BT:=[(33,4,0),(35,8,0)]) (Vl:=[VAt w (VSv 3 (sqV)),Vv 3 (Rat.divInt (2) 1) (Rat.divInt (2) 1),Vi (1),Vb (true),Vb (true),VAt w (VSv 3 (sqV)),Vv 3 (Rat.divInt (4) 1) (Rat.divInt (1) 1),Vi (0),Vb (true),Vb (true),Vb (true),VAt w (VSv 3 (sqV)),Vv 3 (Rat.divInt (5) 1) (Rat.divInt (1) 1),Vi (-1),Vb (true),Vb (true),Vb (true),VAt w (VSv 3 (anV)),Vv 3 (Rat.divInt (3) 1) (Rat.divInt (3) 1),Vi (-1),Vb (true),Vb (true),Vb (true)]) (B:=[⟨3,none,none,33,4,Vq 3 (Rat.divInt (5) (3)),VT⟩,⟨4,none,none,35,8,Vv 3 (0) (0),VT⟩,⟨5,none,none,35,8,Vv 3 (Rat.divInt 4 1) (Rat.divInt 4 1),VT⟩]) (SL':=[(1,VAt w (VSv 3 (sqV))),(2,VAt w (VSv 3 (anV))),(27,Vb (false)),(55,Vb (false)),(101,Vb (false)),(0,Vb (true))]) st8 ⟨ks,?s1,?s2,?s3,ks,ks,?s6,?s7,?s8,ks,ks,ks,?s12,?s13,?s14,ks,ks,ks,?s18,?s19,?s20,ks,ks,trivial⟩ ?_
 case s1=>
  refine kc fun _ ac Y h D=>?_
  exact⟨#[.int .i64 (2),.int .i64 (2)],by simp [eval_const],cR5Of (show Vi 2 (.int .i64 (2)) Y from rfl) (show Vi 2 (.int .i64 (2)) Y from rfl) (by omega) (by omega) (by omega) (by omega)⟩
 case s2=>exact kd2 fun _ _ Y h v0 X0 v1 X1=>lvHas (p:=(Rat.divInt (2) 1,Rat.divInt (2) 1)) (VSv_later (show VSv 3 (sqV) _ w from(show VAt w (VSv 3 (sqV)) v0 Y from X0)) h.k.below) X1 sq_has1
 case s3=>refine kr fun _ ac Y h D=>?_;obtain⟨v0,x0,X0⟩:=h.dp D 104;have hV0':v0= .int .i64 (1):=X0;exact⟨_,run_eqi rfl (x0.trans hV0') rfl,congrArg Value.bool (rfl)⟩
 case s6=>
  refine kc fun _ ac Y h D=>?_
  exact⟨#[.int .i64 (4),.int .i64 (1)],by simp [eval_const],cR5Of (show Vi 4 (.int .i64 (4)) Y from rfl) (show Vi 1 (.int .i64 (1)) Y from rfl) (by omega) (by omega) (by omega) (by omega)⟩
 case s7=>exact kd2 fun _ _ Y h v0 X0 v1 X1=>lvHas (p:=(Rat.divInt (4) 1,Rat.divInt (1) 1)) (VSv_later (show VSv 3 (sqV) _ w from(show VAt w (VSv 3 (sqV)) v0 Y from X0)) h.k.below) X1 sq_has0
 case s8=>refine kr fun _ ac Y h D=>?_;obtain⟨v0,x0,X0⟩:=h.dp D 109;have hV0':v0= .int .i64 (0):=X0;exact⟨_,run_eqi rfl (x0.trans hV0') rfl,congrArg Value.bool (rfl)⟩
 case s12=>
  refine kc fun _ ac Y h D=>?_
  exact⟨#[.int .i64 (5),.int .i64 (1)],by simp [eval_const],cR5Of (show Vi 5 (.int .i64 (5)) Y from rfl) (show Vi 1 (.int .i64 (1)) Y from rfl) (by omega) (by omega) (by omega) (by omega)⟩
 case s13=>exact kd2 fun _ _ Y h v0 X0 v1 X1=>lvHas (p:=(Rat.divInt (5) 1,Rat.divInt (1) 1)) (VSv_later (show VSv 3 (sqV) _ w from(show VAt w (VSv 3 (sqV)) v0 Y from X0)) h.k.below) X1 sq_hasN
 case s14=>refine kr fun _ ac Y h D=>?_;obtain⟨v0,x0,X0⟩:=h.dp D 115;have hV0':v0= .int .i64 (-1):=X0;exact⟨_,run_eqi rfl (x0.trans hV0') rfl,congrArg Value.bool (rfl)⟩
 case s18=>
  refine kc fun _ ac Y h D=>?_
  exact⟨#[.int .i64 (3),.int .i64 (3)],by simp [eval_const],cR5Of (show Vi 3 (.int .i64 (3)) Y from rfl) (show Vi 3 (.int .i64 (3)) Y from rfl) (by omega) (by omega) (by omega) (by omega)⟩
 case s19=>exact kd2 fun _ _ Y h v0 X0 v1 X1=>lvHas (p:=(Rat.divInt (3) 1,Rat.divInt (3) 1)) (VSv_later (show VSv 3 (anV) _ w from(show VAt w (VSv 3 (anV)) v0 Y from X0)) h.k.below) X1 an_hasN
 case s20=>refine kr fun _ ac Y h D=>?_;obtain⟨v0,x0,X0⟩:=h.dp D 121;have hV0':v0= .int .i64 (-1):=X0;exact⟨_,run_eqi rfl (x0.trans hV0') rfl,congrArg Value.bool (rfl)⟩
 intro a9 w9 st9
 clear st8
 repeat first|refine Wq ?_|refine Wb ?_|refine Wk ?_|refine Wx ?_
 obtain⟨vr,r1,r4⟩:=st9.slot (0,Vb (true)) (.tail _ (.tail _ (.tail _ (.tail _ (.tail _ (.head _))))))
 exact wp_ret (bodyPost_ret (results_tmp rfl _ _ _) st9.defers ⟨_,congrArg Ending.returned (show _=vr from r1),r4,below_tr hbO st9.k.below⟩)

theorem mts_symm (a b c d:P2):mts a b c d=mts c d a b:=by
 unfold mts ovl
 rw [Bool.and_comm (decide (cmpV (loV a b) (hiV c d)≤0)),Bool.and_comm (prt a b c d)]
def MeetEq:Prop:=∀a b c d,meetsR a b c d=mts a b c d
theorem cmpQ_cases (x y:Rat):cmpQ x y= -1∨cmpQ x y=0∨cmpQ x y=1:=cmpI_abs _ _
theorem ltQ_iff {x y:Rat}:ltQ x y=true↔x<y:=by
 unfold ltQ
 rw [decide_eq_true_eq,←cmpQ_lt]
 rcases cmpQ_cases x y with h|h|h<;>rw [h]<;>decide
theorem gtQ_iff {x y:Rat}:gtQ x y=true↔y<x:=by
 unfold gtQ
 rw [decide_eq_true_eq,←cmpQ_gt]
 rcases cmpQ_cases x y with h|h|h<;>rw [h]<;>decide
theorem btwB_iff {n a b c d:P2}:btwB n a b c d=true↔(dtP n a<dtP n c∧dtP n a<dtP n d∧dtP n b<dtP n c∧dtP n b<dtP n d)∨(dtP n c<dtP n a∧dtP n d<dtP n a∧dtP n c<dtP n b∧dtP n d<dtP n b):=by
 unfold btwB
 simp only [Bool.or_eq_true,Bool.and_eq_true,ltQ_iff,gtQ_iff]
def sdD (a b p:P2):Rat:=(b.1 - a.1)*(p.2 - a.2) - (b.2 - a.2)*(p.1 - a.1)
theorem sdI_sdD (a b p:P2):sdI a b p=cmpI (sdD a b p).num 0:=by
 unfold sdI sdD
 congr 2
 grind
theorem cmpQ_zero (q:Rat):cmpQ q 0=cmpI q.num 0:=by
 unfold cmpQ
 rw [show((0:Rat).den:Int)=1 from rfl,show(0:Rat).num=0 from rfl,Int.mul_one,Int.zero_mul]
theorem sign_cases (q:Rat):(q<0∧cmpI q.num 0= -1)∨(q=0∧cmpI q.num 0=0)∨(0<q∧cmpI q.num 0=1):=by
 rw [←cmpQ_zero]
 rcases cmpQ_cases q 0 with h|h|h
 ·exact .inl ⟨cmpQ_lt.1 h,h⟩
 ·exact .inr (.inl ⟨cmpQ_eq.1 h,h⟩)
 ·exact .inr (.inr ⟨cmpQ_gt.1 h,h⟩)
theorem dt_qt (a b p:P2):dtP (qtP (sbP b a)) p=dtP (qtP (sbP b a)) a+sdD a b p:=by
 unfold dtP qtP sbP sdD
 grind
theorem dt_qt2 (a b:P2):dtP (qtP (sbP b a)) b=dtP (qtP (sbP b a)) a:=by
 unfold dtP qtP sbP
 grind
theorem prt_sep {a b c d:P2}(h:prt a b c d=false):btwB (qtP (sbP b a)) a b c d=true:=by
 rw [btwB_iff,dt_qt2,dt_qt a b c,dt_qt a b d]
 unfold prt at h
 rw [decide_eq_false_iff_not,sdI_sdD,sdI_sdD] at h
 rcases sign_cases (sdD a b c)with⟨h1,h2⟩|⟨h1,h2⟩|⟨h1,h2⟩<;>rcases sign_cases (sdD a b d)with⟨h3,h4⟩|⟨h3,h4⟩|⟨h3,h4⟩<;>rw [h2,h4] at h<;>first
  |(exfalso;revert h;decide)
  |(left;refine⟨?_,?_,?_,?_⟩<;>grind)
  |(right;refine⟨?_,?_,?_,?_⟩<;>grind)
theorem prt_true {a b c d:P2}:prt a b c d=true↔¬(0<sdD a b c∧0<sdD a b d)∧¬(sdD a b c<0∧sdD a b d<0):=by
 unfold prt
 rw [decide_eq_true_eq,sdI_sdD,sdI_sdD]
 rcases sign_cases (sdD a b c)with⟨h1,h2⟩|⟨h1,h2⟩|⟨h1,h2⟩<;>rcases sign_cases (sdD a b d)with⟨h3,h4⟩|⟨h3,h4⟩|⟨h3,h4⟩<;>rw [h2,h4]<;>constructor<;>intro h<;>first
  |(exfalso;revert h;decide)
  |decide
  |(constructor<;>rintro⟨h5,h6⟩<;>grind)
  |(exfalso;obtain⟨h5,h6⟩:=h;first|exact h5 ⟨h1,h3⟩|exact h6 ⟨h1,h3⟩)
def ptS (a b:P2)(s:Rat):P2:=(a.1+s*(b.1 - a.1),a.2+s*(b.2 - a.2))
def common (a b c d:P2):Prop:=∃s t:Rat,0≤s∧s≤1∧0≤t∧t≤1∧ptS a b s=ptS c d t
theorem dt_pt (n a b:P2)(s:Rat):dtP n (ptS a b s)=dtP n a+s*(dtP n b - dtP n a):=by
 unfold dtP ptS
 grind
theorem mul_le' {s x:Rat}(h0:0≤s)(h1:s≤1):(0≤x→0≤s*x∧s*x≤x)∧(x≤0→s*x≤0∧x≤s*x):=by
 refine⟨fun hx=>?_,fun hx=>?_⟩
 ·have a1:=Rat.mul_nonneg h0 hx
  have a2:=Rat.mul_nonneg (show 0≤1 - s by grind) hx
  exact⟨a1,by grind⟩
 ·have a1:=Rat.mul_nonneg h0 (show 0≤ -x by grind)
  have a2:=Rat.mul_nonneg (show 0≤1 - s by grind) (show 0≤ -x by grind)
  exact⟨by grind,by grind⟩
theorem common_sep {a b c d:P2}(h:common a b c d)(n:P2):¬(dtP n a<dtP n c∧dtP n a<dtP n d∧dtP n b<dtP n c∧dtP n b<dtP n d):=by
 rintro⟨h1,h2,h3,h4⟩
 obtain⟨s,t,s0,s1,t0,t1,e⟩:=h
 have e2:=congrArg (dtP n) e
 rw [dt_pt,dt_pt] at e2
 generalize dtP n a=A at*
 generalize dtP n b=B at*
 generalize dtP n c=C at*
 generalize dtP n d=D at*
 have p:=mul_le' (x:=B - A) s0 s1
 have q:=mul_le' (x:=D - C) t0 t1
 rcases Rat.le_total (a:=0) (b:=B - A)with hp|hp<;>rcases Rat.le_total (a:=0) (b:=D - C)with hq|hq
 ·have:=p.1 hp;have:=q.1 hq;grind
 ·have:=p.1 hp;have:=q.2 hq;grind
 ·have:=p.2 hp;have:=q.1 hq;grind
 ·have:=p.2 hp;have:=q.2 hq;grind
theorem common_symm {a b c d:P2}(h:common a b c d):common c d a b:=by
 obtain⟨s,t,s0,s1,t0,t1,e⟩:=h
 exact⟨t,s,t0,t1,s0,s1,e.symm⟩
theorem common_btw {a b c d:P2}(h:common a b c d)(n:P2):btwB n a b c d=false:=by
 rw [←Bool.not_eq_true,btwB_iff]
 rintro(h1|⟨h1,h2,h3,h4⟩)
 ·exact common_sep h n h1
 ·exact common_sep (common_symm h) n ⟨h1,h3,h2,h4⟩
theorem common_meetsR {a b c d:P2}(h:common a b c d):meetsR a b c d=true:=dT fun _ _=>common_btw h _
theorem frac_range {x y t:Rat}(ht:t*(x - y)=x)(hne:x - y≠0)(h1:¬(0<x∧0<y))(h2:¬(x<0∧y<0)):0≤t∧t≤1:=by
 rcases Rat.le_total (a:=0) (b:=x - y)with hs|hs
 ·have hp:0<x - y:=Rat.lt_of_le_of_ne hs (fun e=>hne e.symm)
  refine⟨?_,?_⟩
  ·rcases Rat.le_total (a:=0) (b:=t)with h|h
   ·exact h
   ·have:=Rat.mul_nonneg (show 0≤ -t by grind) hs
    have hx:x≤0:=by grind
    have:¬x<0:=fun hx2=>h2 ⟨hx2,by grind⟩
    have hx0:x=0:=by grind
    rw [hx0] at ht
    rcases Rat.mul_eq_zero.1 ht with h0|h0
    ·rw [h0];exact Rat.le_refl
    ·exact absurd (by rw [hx0];exact h0) hne
  ·rcases Rat.le_total (a:=t) (b:=1)with h|h
   ·exact h
   ·have:=Rat.mul_nonneg (show 0≤t - 1 by grind) hs
    have hy:0≤y:=by grind
    have hx:0<x:=by grind
    have:¬0<y:=fun hy2=>h1 ⟨hx,hy2⟩
    have hy0:y=0:=by grind
    have e:(t - 1)*(x - y)=0:=by grind
    rcases Rat.mul_eq_zero.1 e with h0|h0
    ·have:t=1:=by grind
     rw [this];exact Rat.le_refl
    ·exact absurd h0 hne
 ·have hp:0<y - x:=by
   have:y - x≠0:=fun e=>hne (by grind)
   exact Rat.lt_of_le_of_ne (by grind) (fun e=>this e.symm)
  have hs':0≤y - x:=by grind
  refine⟨?_,?_⟩
  ·rcases Rat.le_total (a:=0) (b:=t)with h|h
   ·exact h
   ·have:=Rat.mul_nonneg (show 0≤ -t by grind) hs'
    have hx:0≤x:=by grind
    have:¬0<x:=fun hx2=>h1 ⟨hx2,by grind⟩
    have hx0:x=0:=by grind
    rw [hx0] at ht
    rcases Rat.mul_eq_zero.1 ht with h0|h0
    ·rw [h0];exact Rat.le_refl
    ·exact absurd (by rw [hx0];exact h0) hne
  ·rcases Rat.le_total (a:=t) (b:=1)with h|h
   ·exact h
   ·have:=Rat.mul_nonneg (show 0≤t - 1 by grind) hs'
    have hy:y≤0:=by grind
    have hx:x<0:=by grind
    have:¬y<0:=fun hy2=>h2 ⟨hx,hy2⟩
    have hy0:y=0:=by grind
    have e:(t - 1)*(x - y)=0:=by grind
    rcases Rat.mul_eq_zero.1 e with h0|h0
    ·have:t=1:=by grind
     rw [this];exact Rat.le_refl
    ·exact absurd h0 hne
theorem div_mul' {x k:Rat}(h:k≠0):x / k*k=x:=Rat.div_mul_cancel h
theorem cross_common {a b c d:P2}(h1:prt a b c d=true)(h2:prt c d a b=true)(hK:sdD a b c - sdD a b d≠0):common a b c d:=by
 rw [prt_true] at h1 h2
 have hE:sdD c d a - sdD c d b= -(sdD a b c - sdD a b d):=by unfold sdD;grind
 have hK2:sdD c d a - sdD c d b≠0:=fun e=>hK (by rw [hE] at e;grind)
 have ht:=div_mul' (x:=sdD a b c) hK
 have hs:=div_mul' (x:=sdD c d a) hK2
 obtain⟨t,et⟩:∃t,sdD a b c / (sdD a b c - sdD a b d)=t:=⟨_,rfl⟩
 obtain⟨s,es⟩:∃s,sdD c d a / (sdD c d a - sdD c d b)=s:=⟨_,rfl⟩
 rw [et] at ht
 rw [es] at hs
 have rt:=frac_range ht hK h1.1 h1.2
 have rs:=frac_range hs hK2 h2.1 h2.2
 refine⟨s,t,rs.1,rs.2,rt.1,rt.2,?_⟩
 rw [hE] at hs
 have e1:(sdD a b c - sdD a b d)*((ptS a b s).1 - (ptS c d t).1)=0:=by
  unfold ptS sdD at*
  grind
 have e2:(sdD a b c - sdD a b d)*((ptS a b s).2 - (ptS c d t).2)=0:=by
  unfold ptS sdD at*
  grind
 have e1':=(Rat.mul_eq_zero.1 e1).resolve_left hK
 have e2':=(Rat.mul_eq_zero.1 e2).resolve_left hK
 exact Prod.ext (by grind) (by grind)
def lexlt (x y:P2):Prop:=x.1<y.1∨(x.1=y.1∧x.2<y.2)
theorem cmpV_pos {x y:P2}:0<cmpV x y↔lexlt y x:=by
 unfold cmpV lexlt
 rcases cmpQ_cases x.1 y.1 with h|h|h
 ·have:=cmpQ_lt.1 h
  rw [h,if_neg (by decide)]
  constructor
  ·intro h2;exact absurd h2 (by decide)
  ·rintro(h2|⟨h2,-⟩)<;>grind
 ·have e:=cmpQ_eq.1 h
  rw [h,if_pos rfl]
  rcases cmpQ_cases x.2 y.2 with k|k|k<;>rw [k]
  ·have:=cmpQ_lt.1 k
   constructor
   ·intro h2;exact absurd h2 (by decide)
   ·rintro(h2|⟨-,h2⟩)<;>grind
  ·have:=cmpQ_eq.1 k
   constructor
   ·intro h2;exact absurd h2 (by decide)
   ·rintro(h2|⟨-,h2⟩)<;>grind
  ·have:=cmpQ_gt.1 k
   exact⟨fun _=> .inr ⟨e.symm,this⟩,fun _=>by decide⟩
 ·have:=cmpQ_gt.1 h
  rw [h,if_neg (by decide)]
  exact⟨fun _=> .inl this,fun _=>by decide⟩
theorem lex_trans {x y z:P2}(h:lexlt x y)(k:lexlt y z):lexlt x z:=by
 unfold lexlt at*
 rcases h with h|⟨h,h'⟩<;>rcases k with k|⟨k,k'⟩
 ·exact .inl (by grind)
 ·exact .inl (by grind)
 ·exact .inl (by grind)
 ·exact .inr ⟨h.trans k,by grind⟩
theorem lex_tri (x y:P2):lexlt x y∨x=y∨lexlt y x:=by
 unfold lexlt
 rcases cmpQ_cases x.1 y.1 with h|h|h
 ·exact .inl (.inl (cmpQ_lt.1 h))
 ·have e:=cmpQ_eq.1 h
  rcases cmpQ_cases x.2 y.2 with k|k|k
  ·exact .inl (.inr ⟨e,cmpQ_lt.1 k⟩)
  ·exact .inr (.inl (Prod.ext e (cmpQ_eq.1 k)))
  ·exact .inr (.inr (.inr ⟨e.symm,cmpQ_gt.1 k⟩))
 ·exact .inr (.inr (.inl (cmpQ_gt.1 h)))
def before (a b c d:P2):Prop:=lexlt a c∧lexlt a d∧lexlt b c∧lexlt b d
theorem hi_lo {a b c d:P2}:lexlt (hiV a b) (loV c d)↔before a b c d:=by
 unfold hiV loV before
 constructor
 ·intro h
  by_cases h1:0<cmpV a b<;>by_cases h2:0<cmpV c d<;>simp only [h1,h2,if_true,if_false] at h
  ·have k1:=cmpV_pos.1 h1;have k2:=cmpV_pos.1 h2
   exact⟨lex_trans h k2,h,lex_trans k1 (lex_trans h k2),lex_trans k1 h⟩
  ·have k1:=cmpV_pos.1 h1
   have k2:=fun k=>h2 (cmpV_pos.2 k)
   rcases lex_tri c d with k|rfl|k
   ·exact⟨h,lex_trans h k,lex_trans k1 h,lex_trans k1 (lex_trans h k)⟩
   ·exact⟨h,h,lex_trans k1 h,lex_trans k1 h⟩
   ·exact absurd k k2
  ·have k2:=cmpV_pos.1 h2
   have k1:=fun k=>h1 (cmpV_pos.2 k)
   rcases lex_tri a b with k|rfl|k
   ·exact⟨lex_trans k (lex_trans h k2),lex_trans k h,lex_trans h k2,h⟩
   ·exact⟨lex_trans h k2,h,lex_trans h k2,h⟩
   ·exact absurd k k1
  ·have k1:=fun k=>h1 (cmpV_pos.2 k)
   have k2:=fun k=>h2 (cmpV_pos.2 k)
   have b1:∀z,lexlt b z→lexlt a z:=fun z hz=>by
    rcases lex_tri a b with k|rfl|k
    ·exact lex_trans k hz
    ·exact hz
    ·exact absurd k k1
   have c1:∀z,lexlt z c→lexlt z d:=fun z hz=>by
    rcases lex_tri c d with k|rfl|k
    ·exact lex_trans hz k
    ·exact hz
    ·exact absurd k k2
   exact⟨b1 _ h,c1 _ (b1 _ h),h,c1 _ h⟩
 ·rintro⟨h1,h2,h3,h4⟩
  split<;>split<;>assumption
theorem ovl_iff {a b c d:P2}:ovl a b c d=true↔¬before c d a b∧¬before a b c d:=by
 unfold ovl
 rw [Bool.and_eq_true,decide_eq_true_eq,decide_eq_true_eq,←hi_lo,←hi_lo,←cmpV_pos,←cmpV_pos]
 constructor
 ·rintro⟨h1,h2⟩
  exact⟨by omega,by omega⟩
 ·rintro⟨h1,h2⟩
  exact⟨by omega,by omega⟩
end Go.Proofs.YtjdkdjobaabdiaaGreat
