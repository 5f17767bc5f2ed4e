/- Contracts of the packages integer, rat, plane, polygon and their references. -/
import Derived.Test.YteacdbgalloaiaaGreatO18
set_option linter.unusedVariables false
set_option maxRecDepth 100000
set_option maxHeartbeats 6400000
namespace Go.Proofs.YteacdbgalloaiaaGreat
open Go.RowKit
open Go
def validP (vs:List P2):Bool:=decide (3<=vs.length) && (decide (vs.length<=12) && (bentP vs && (simpleP vs && decide (0<(areaQ vs).num))))
theorem cmpI_gt (z:Int):0<cmpI z 0↔0<z:=by unfold cmpI;split<;>(try split)<;>omega
theorem cBentV {w:World}{N:Nat}{vs:List P2}{lv v0:Value}{x:Bool}(h0:VEq lv v0 w)(hS:VSv N vs lv w)(hN1:1<=N)(hN2:N<=900)(hvs:vs.length<=1000000)(hx:bentP vs=x):Calls Tryz.prog 53 #[v0] w (RV (Vb x) w):=by
 obtain rfl:v0=lv:=h0;subst hx;exact cBent hS hN1 hN2 hvs
theorem cSimpleV {w:World}{N:Nat}{vs:List P2}{lv v0:Value}{x:Bool}(h0:VEq lv v0 w)(hS:VSv N vs lv w)(hN1:1<=N)(hN2:N<=900)(hx:simpleP vs=x):Calls Tryz.prog 54 #[v0] w (RV (Vb x) w):=by
 obtain rfl:v0=lv:=h0;subst hx;exact cSimple hS hN1 hN2
theorem cValid6 {w:World}{N:Nat}{vs:List P2}{lv:Value}{v0:Value}(h0:VEq lv v0 w)(hS:VSv N vs lv w)(hN3:3<=N:=by omega)(hN:N<=18:=by omega):Calls Tryz.prog 16 #[v0] w (RV (Vb (validP vs)) w):=by
 go_enter Tryz.func16,Tryz.ntmps16
 generalize hA:(⟨_,_⟩:Act)=a0;have st0:St w.heap.size w 27 [] [(0,VEq lv)] a0 w:=by subst hA;exact St.begin rfl rfl (Lq.2 ⟨⟨_,rfl,h0⟩,L0⟩)
 clear hA;have hmax:=VSv_max hS;refine Wn ?_
 refine rH [] [Vb false] [] [(0,VEq lv),(2,Vb false)] st0 ⟨ks,trivial⟩ ?_;intro a1 w1 st1;by_cases hlt:vs.length<3
 ·
  refine Wn ?_
  refine rH [] [VEq lv,Vi (vs.length:Int),Vb true,Vb true,VT,VT,VT,Vb true] [] [(0,VEq lv),(2,Vb false),(10,Vb true)] st1 ⟨ks,(kr1 3 fun _ _ _ _ _ x0 X0=>len_Sv rfl rfl x0 X0 hS),(kr1 4 fun _ _ _ _ _ x0 X0=>⟨_,run_lssi rfl (x0.trans X0) rfl,congrArg Value.bool (dT (by omega))⟩),ks,ks,?s5,ks,ks,trivial⟩ ?_
  case s5=>
   refine k_skip SbB.out (by kernel_rfl) fun listed A Y h D=>⟨?_,trivial⟩
   obtain⟨u,hu,hy,hU⟩:=h.dep D 3 6 (by kernel_rfl) (by kernel_rfl);obtain rfl:u= .bool true:=hU;exact⟨3,false,true,rfl,hy,by decide⟩
  intro a2 w2 st2;refine Wn ?_
  refine cT st2 ?_;refine Wn ?_
  refine rH [] [Vb false] [] [(0,VEq lv),(10,Vb true),(2,Vb false)] st2 ⟨ks,trivial⟩ fun a3 w3 st3=>Wn ?_
  exact wp_ret (rS 2 (Vb false) st3 fun vr r4=>(by rw [show validP vs=false by unfold validP;rw [dF (show ¬3<=vs.length by omega)];simp];exact r4))
 ·
  by_cases hgt:12<vs.length
  ·
   refine Wn ?_
   refine rH [] [VEq lv,Vi (vs.length:Int),Vb false,Vb false,VEq lv,Vi (vs.length:Int),Vb true,Vb true] [] [(0,VEq lv),(2,Vb false),(10,Vb true)] st1 ⟨ks,(kr1 3 fun _ _ _ _ _ x0 X0=>len_Sv rfl rfl x0 X0 hS),(kr1 4 fun _ _ _ _ _ x0 X0=>⟨_,run_lssi rfl (x0.trans X0) rfl,congrArg Value.bool (dF (by omega))⟩),ks,ks,(kr1 7 fun _ _ _ _ _ x0 X0=>len_Sv rfl rfl x0 X0 hS),(kr1 8 fun _ _ _ _ _ x0 X0=>⟨_,run_gtri rfl (x0.trans X0) rfl,congrArg Value.bool (dT (by omega))⟩),ks,trivial⟩ fun a2 w2 st2=>Wn ?_
   refine cT st2 ?_;refine Wn ?_
   refine rH [] [Vb false] [] [(0,VEq lv),(10,Vb true),(2,Vb false)] st2 ⟨ks,trivial⟩ fun a3 w3 st3=>Wn ?_
   exact wp_ret (rS 2 (Vb false) st3 fun vr r4=>(by rw [show validP vs=false by unfold validP;rw [dF (show ¬vs.length<=12 by omega)];simp];exact r4))
  ·
   refine Wn ?_
   refine rH [] [VEq lv,Vi (vs.length:Int),Vb false,Vb false,VEq lv,Vi (vs.length:Int),Vb false,Vb false] [] [(0,VEq lv),(2,Vb false),(10,Vb false)] st1 ⟨ks,(kr1 3 fun _ _ _ _ _ x0 X0=>len_Sv rfl rfl x0 X0 hS),(kr1 4 fun _ _ _ _ _ x0 X0=>⟨_,run_lssi rfl (x0.trans X0) rfl,congrArg Value.bool (dF (by omega))⟩),ks,ks,(kr1 7 fun _ _ _ _ _ x0 X0=>len_Sv rfl rfl x0 X0 hS),(kr1 8 fun _ _ _ _ _ x0 X0=>⟨_,run_gtri rfl (x0.trans X0) rfl,congrArg Value.bool (dF (by omega))⟩),ks,trivial⟩ ?_;intro a2 w2 st2
   have hbd:1+vs.length*(4*N+2)<=900:=by
    have:=Nat.mul_le_mul (show vs.length<=12 by omega) (show 4*N+2<=74 by omega);omega
   have h3:decide (3<=vs.length)=true:=dT (by omega);have h12:decide (vs.length<=12)=true:=dT (by omega);refine Wn ?_
   refine cF st2 ?_;by_cases hbe:bentP vs=true
   ·
    by_cases hsi:simpleP vs=true
    ·
     by_cases har:0<(areaQ vs).num
     ·
      refine Wn ?_
      refine rH [] [VEq lv,Vb true,Vb true,VEq lv,Vb true,Vb true,Vb true,VEq lv,Vb true,Vb true,Vb true,VEq lv,Vq (1+vs.length*(4*N+2)+3) (areaQ vs),Vi (cmpI (areaQ vs).num 0),Vb true,Vb true,Vb true] [] [(0,VEq lv),(10,Vb false),(2,Vb true)] st2 ⟨ks,(kd1 fun _ _ _ h _ X0=>cNumeric X0 (VSv_later hS h.k.below)),ks,ks,(kd1 fun _ _ _ h _ X0=>cBentV X0 (VSv_later hS h.k.below) (by omega) (by omega) (by omega) hbe),ks,ks,ks,(kd1 fun _ _ _ h _ X0=>cSimpleV X0 (VSv_later hS h.k.below) (by omega) (by omega) hsi),ks,ks,ks,(kd1 fun _ _ _ h _ X0=>cArea X0 (VSv_later hS h.k.below) (by omega) hbd),(kd1 fun _ _ _ _ _ X0=>cQSign X0),(kr1 24 fun _ _ _ _ _ x0 X0=>⟨_,run_gtri rfl (x0.trans X0) rfl,congrArg Value.bool (dT ((cmpI_gt _).2 har))⟩),ks,ks,trivial⟩ fun a3 w3 st3=>Wn ?_
      exact wp_ret (rS 2 (Vb true) st3 fun vr r4=>(by rw [show validP vs=true by unfold validP;rw [h3,h12,hbe,hsi,dT har];simp];exact r4))
     ·
      refine Wn ?_
      refine rH [] [VEq lv,Vb true,Vb true,VEq lv,Vb true,Vb true,Vb true,VEq lv,Vb true,Vb true,Vb true,VEq lv,Vq (1+vs.length*(4*N+2)+3) (areaQ vs),Vi (cmpI (areaQ vs).num 0),Vb false,Vb false,Vb false] [] [(0,VEq lv),(10,Vb false),(2,Vb false)] st2 ⟨ks,(kd1 fun _ _ _ h _ X0=>cNumeric X0 (VSv_later hS h.k.below)),ks,ks,(kd1 fun _ _ _ h _ X0=>cBentV X0 (VSv_later hS h.k.below) (by omega) (by omega) (by omega) hbe),ks,ks,ks,(kd1 fun _ _ _ h _ X0=>cSimpleV X0 (VSv_later hS h.k.below) (by omega) (by omega) hsi),ks,ks,ks,(kd1 fun _ _ _ h _ X0=>cArea X0 (VSv_later hS h.k.below) (by omega) hbd),(kd1 fun _ _ _ _ _ X0=>cQSign X0),(kr1 24 fun _ _ _ h _ x0 X0=>⟨_,run_gtri rfl (x0.trans X0) rfl,congrArg Value.bool (dF (fun h=>har ((cmpI_gt _).1 h)))⟩),ks,ks,trivial⟩ fun a3 w3 st3=>Wn ?_
      exact wp_ret (rS 2 (Vb false) st3 fun vr r4=>(by rw [show validP vs=false by unfold validP;rw [h3,h12,hbe,hsi,dF har];simp];exact r4))
    ·
     rw [Bool.not_eq_true] at hsi;refine Wn ?_
     refine rH [] [VEq lv,Vb true,Vb true,VEq lv,Vb true,Vb true,Vb true,VEq lv,Vb false,Vb false,Vb false,VT,VT,VT,VT,Vb false,Vb false] [] [(0,VEq lv),(10,Vb false),(2,Vb false)] st2 ⟨ks,(kd1 fun _ _ _ h _ X0=>cNumeric X0 (VSv_later hS h.k.below)),ks,ks,(kd1 fun _ _ _ h _ X0=>cBentV X0 (VSv_later hS h.k.below) (by omega) (by omega) (by omega) hbe),ks,ks,ks,(kd1 fun _ _ _ h _ X0=>cSimpleV X0 (VSv_later hS h.k.below) (by omega) (by omega) hsi),ks,ks,ks,ks,ks,ks,ks,ks,trivial⟩ fun a3 w3 st3=>Wn ?_
     exact wp_ret (rS 2 (Vb false) st3 fun vr r4=>(by rw [show validP vs=false by unfold validP;rw [h3,h12,hbe,hsi];simp];exact r4))
   ·
    rw [Bool.not_eq_true] at hbe;refine Wn ?_
    refine rH [] [VEq lv,Vb true,Vb true,VEq lv,Vb false,Vb false,Vb false,VT,VT,Vb false,Vb false,VT,VT,VT,VT,Vb false,Vb false] [] [(0,VEq lv),(10,Vb false),(2,Vb false)] st2 ⟨ks,(kd1 fun _ _ _ h _ X0=>cNumeric X0 (VSv_later hS h.k.below)),ks,ks,(kd1 fun _ _ _ h _ X0=>cBentV X0 (VSv_later hS h.k.below) (by omega) (by omega) (by omega) hbe),ks,ks,ks,ks,ks,ks,ks,ks,ks,ks,ks,ks,trivial⟩ fun a3 w3 st3=>Wn ?_
    exact wp_ret (rS 2 (Vb false) st3 fun vr r4=>(by rw [show validP vs=false by unfold validP;rw [h3,h12,hbe];simp];exact r4))
def convexP (vs:List P2):Bool:=validP vs && decide (∀k∈List.range vs.length,¬tn vs k<0)
theorem convex_f {vs:List P2}{j:Nat}(hj:j<=vs.length)(h:∃k∈List.range j,tn vs k<0):convexP vs=false:=by
 unfold convexP
 rw [dF (fun h2=>by
  obtain⟨k,h3,h4⟩:=h
  exact h2 k (List.mem_range.2 (Nat.lt_of_lt_of_le (List.mem_range.1 h3) hj)) h4)]
 simp
theorem convex_t {vs:List P2}(hv:validP vs=true)(h:∀k∈List.range vs.length,¬tn vs k<0):convexP vs=true:=by
 unfold convexP;rw [hv,dT h];rfl
theorem ret_plain {n:Nat}{P:Program}{fn:Func}{R:Ending->World->Prop}{a:Act}{w:World}{v:Value}(D:a.defers= [])(hr:(results fn a.tmps).run P w= .ok v w)(hR:R (.returned v) w):bodyPostM (fW none) n P fn R .ret a w:=by
 show LeavesInM (fW none) n P fn a.tmps R a.defers .returning w;rw [D];exact⟨v,hr,hR⟩
theorem validP_len {vs:List P2}(h:validP vs=true):3<=vs.length/\vs.length<=12:=by
 unfold validP at h;simp only [Bool.and_eq_true,decide_eq_true_eq] at h;exact⟨h.1,h.2.1⟩
theorem cValidV {w:World}{N:Nat}{vs:List P2}{lv v0:Value}{x:Bool}(h0:VEq lv v0 w)(hS:VSv N vs lv w)(hN1:3<=N)(hN2:N<=18)(hx:validP vs=x):Calls Tryz.prog 16 #[v0] w (RV (Vb x) w):=by
 subst hx;exact cValid6 h0 hS hN1 hN2
theorem cConvex {w:World}{N:Nat}{vs:List P2}{lv:Value}(hS:VSv N vs lv w)(hN3:3<=N:=by omega)(hN:N<=18:=by omega):Calls Tryz.prog 17 #[lv] w (RV (Vb (convexP vs)) w):=by
 have hmax:=VSv_max hS;obtain⟨p,c,hlv⟩:=VSv_slice hS;subst hlv;refine calls_of_marks Tryz.func17 rfl ?_;simp only [Tryz.ntmps17,List.size_toArray,List.length_cons,List.length_nil,Nat.reduceAdd,Nat.reduceSub,Array.replicate_succ,Array.replicate_zero,List.push_toArray,List.append_toArray,List.nil_append,List.cons_append];generalize hA:(⟨_,_⟩:Act)=a0;have st0:St w.heap.size w 12 [] [(0,VEq (.slice p vs.length c))] a0 w:=by subst hA;exact St.begin rfl rfl (Lq.2 ⟨⟨_,rfl,rfl⟩,L0⟩)
 clear hA;have hN1:1<=N:=by omega
 have hN2:N<=900:=by omega
 by_cases hva:validP vs=true
 ·
  have hvs:vs.length<=1000000:=by have:=validP_len hva;omega
  refine Wm ?_
  refine rJ [(4,1,0)] [VT] [⟨2,some 0,none,4,1,VT,VT⟩] [(0,VEq (.slice p vs.length c))] st0 ⟨ks,trivial⟩ fun a1 w1 st1=>Wm ?_
  refine rJ [(4,1,0)] [VEq (.slice p vs.length c),Vb true,Vb false] [.k 2 4 1 VT] [(0,VEq (.slice p vs.length c)),(6,Vb false)] st1 ⟨ks,(kd1 fun _ _ _ h _ X0=>cValidV X0 (VSv_later hS h.k.below) (by omega) (by omega) hva),ks,trivial⟩ fun a2 w2 st2=>Wm ?_
  refine cFI st2 ?_;refine Wm ?_
  have:Sb [(4,1,0)] (VTn (.slice p vs.length c)):=⟨(Stab_VTn (by simp) (by simp))⟩;refine rJ [(4,1,0)] [VEq (.slice p vs.length c),VTn (.slice p vs.length c)] [.k 2 4 1 VT] [(0,VEq (.slice p vs.length c)),(6,Vb false),(8,VTn (.slice p vs.length c))] st2 ⟨ks,(by exact kd1 fun _ _ _ _ v0 X0=>(by obtain rfl:v0=_:=X0;exact cTurns)),trivial⟩ ?_;intro a3 w3 st3;replace st3:St w.heap.size w 12 [.k 2 4 1 VT] [(0,VEq (.slice p vs.length c)),(6,Vb false),(8,VTn (.slice p vs.length c))] a3 w3:=st3;have hsd:=st3.sl (8,VTn (.slice p vs.length c)) (.tail _ (.tail _ (.head _)));obtain⟨g2,hg2,st3⟩:=st3.ptrB 2 rfl rfl rfl;replace st3:St w.heap.size w 12 [.k 2 4 1 VT] [(0,VEq (.slice p vs.length c)),(2,VEq (.pointer (some ⟨g2,0,none⟩)))] a3 w3:=st3.cut;refine Wm ?_
  have hn0:=st3.n;refine range_turns (n:=5) (Nf:=12) (t:=3) (N:=N) (vs:=vs) (lv:= .slice p vs.length c) (BT:=[(4,1,0)]) [.k 2 4 1 VT] [.k 2 4 1 (VC1 (Vb false))] (fun ks=>∀k∈ks,¬tn vs k<0) (fun ks=>∃k∈ks,tn vs k<0) [(0,VEq (.slice p vs.length c)),(2,VEq (.pointer (some ⟨g2,0,none⟩)))] st3 L0 hsd hS (Lq.2 ⟨⟨rfl,rfl,_,(.tail _ (.head _))⟩,L0⟩) (Lq.2 ⟨⟨rfl,rfl,_,(.tail _ (.head _))⟩,L0⟩) (Lq.2 ⟨⟨_,rfl⟩,(Lq.2 ⟨⟨_,rfl⟩,L0⟩)⟩) (by decide) (Lq.2 ⟨⟨by simp,by simp⟩,(Lq.2 ⟨⟨by simp,by simp⟩,L0⟩)⟩) (by decide) hN1 hN2 hvs (by simp) (by simp) (by simp) ?assign ?body ?done ?stop
  case assign=>
   intro l k a1 W K st1 hK;refine Wm ?_
   refine rJ [(4,1,0)] [Vi (tn vs k)] [] [(0,VEq (.slice p vs.length c)),(2,VEq (.pointer (some ⟨g2,0,none⟩))),(3,Vi (tn vs k))] st1 ⟨ks,trivial⟩ ?_;intro a2 w2 st2;exact hK _ _ st2.cut
  case body=>
   intro l k xs a1 W st11 hF;replace st11:St w.heap.size w 12 [.k 2 4 1 VT] [(3,Vi (tn vs k)),(9,VKR w3.heap.size [(4,1,0)] W),(0,VEq (.slice p vs.length c)),(2,VEq (.pointer (some ⟨g2,0,none⟩)))] a1 W:=st11;by_cases hcc:tn vs k<0
   ·
    refine Wm ?_
    have:Sb [(4,1,0)] (VKR w3.heap.size [(4,1,0)] W):=⟨(Stab_VKR (by simp) (by simp))⟩;refine rJ [(4,1,0)] [Vi (tn vs k),Vb true] [.k 2 4 1 VT] [(3,Vi (tn vs k)),(9,VKR w3.heap.size [(4,1,0)] W),(0,VEq (.slice p vs.length c)),(2,VEq (.pointer (some ⟨g2,0,none⟩))),(11,Vb true)] st11 ⟨ks,(kr1 10 fun _ _ _ _ _ x0 X0=>⟨_,run_lssi rfl (x0.trans X0) rfl,congrArg Value.bool (dT hcc)⟩),trivial⟩ fun a12 w12 st12=>Wm ?_
    refine cTI st12 ?_;refine Wm ?_
    have:Sb [(4,1,0)] (VKR w3.heap.size [(4,1,0)] W):=⟨(Stab_VKR (by simp) (by simp))⟩;refine rJ [(4,1,0)] [VT] [⟨2,none,some 0,4,1,VC1 (Vb false),VT⟩] [(3,Vi (tn vs k)),(9,VKR w3.heap.size [(4,1,0)] W),(0,VEq (.slice p vs.length c)),(2,VEq (.pointer (some ⟨g2,0,none⟩))),(11,Vb true)] st12 ⟨(by refine k_storec_ (A:=Vb false) rfl rfl rfl rfl rfl rfl rfl rfl rfl (fun _ h=>by cases h) (fun _=>rfl) size_bool rfl (by kernel_rfl) (by kernel_rfl) (by kernel_rfl) (by kernel_rfl) (by kernel_rfl) (.inl rfl) trivial),trivial⟩ ?_;intro a13 w13 st13;refine Wm ?_
    have fin:St w.heap.size w 12 [.k 2 4 1 (VC1 (Vb false))] [(9,VKR w3.heap.size [(4,1,0)] W),(0,VEq (.slice p vs.length c)),(2,VEq (.pointer (some ⟨g2,0,none⟩)))] a13 w13:=st13.cut;exact wpIn_ret ⟨fin.cut,⟨k,by simp,hcc⟩⟩
   ·
    refine Wm ?_
    have:Sb [(4,1,0)] (VKR w3.heap.size [(4,1,0)] W):=⟨(Stab_VKR (by simp) (by simp))⟩;refine rJ [(4,1,0)] [Vi (tn vs k),Vb false] [.k 2 4 1 VT] [(3,Vi (tn vs k)),(9,VKR w3.heap.size [(4,1,0)] W),(0,VEq (.slice p vs.length c)),(2,VEq (.pointer (some ⟨g2,0,none⟩))),(11,Vb false)] st11 ⟨ks,(kr1 10 fun _ _ _ _ _ x0 X0=>⟨_,run_lssi rfl (x0.trans X0) rfl,congrArg Value.bool (dF hcc)⟩),trivial⟩ fun a12 w12 st12=>Wm ?_
    refine cFI st12 ?_;refine Wm ?_
    have fin:St w.heap.size w 12 [.k 2 4 1 VT] [(9,VKR w3.heap.size [(4,1,0)] W),(0,VEq (.slice p vs.length c)),(2,VEq (.pointer (some ⟨g2,0,none⟩)))] a12 w12:=st12.cut;refine⟨fin.cut,fun j hj=>?_⟩;rcases List.mem_append.1 hj with hj|hj
    ·exact hF j hj
    ·rw [List.mem_singleton.1 hj];exact hcc
  case stop=>
   intro D j W hD hj st1 hF hK;have hds:({a3 with defers:=[{target:= .collected D,args:=#[]}]}:Act).defers= [{target:= .collected D,args:=#[]}]:=rfl;replace st1:=(st1.addS (t:=8) (V:=VOb D) (by decide) (fun _=>hK)).undef;generalize hDa:({a3 with defers:=[{target:= .collected D,args:=#[]}]}:Act)=aD at hds ⊢;replace st1:St w.heap.size w 12 [.k 2 4 1 (VC1 (Vb false))] [(8,VOb D),(0,VEq (.slice p vs.length c)),(2,VEq (.pointer (some ⟨g2,0,none⟩)))] ⟨aD.tmps,[]⟩ W:=by rw [<-hDa];exact st1
   clear hDa;refine Wm ?_
   obtain⟨vo,ho1,ho2⟩:=st1.sl (8,VOb D) (lS_mem rfl);have stX:=St.grown (st1.cut (L':=[.k 2 4 1 (VC1 (Vb false))]) (SL':=[])) (grownBy_putObj' W D (.deferred none)) (fun r e=>by cases e;exact⟨Nat.le_trans hn0 hD,_,ho2,rfl⟩);obtain⟨g,cs,r1,r2,r3,r4,r5⟩:=stX.res (.k 2 4 1 (VC1 (Vb false))) (.head _) rfl rfl;obtain⟨x,hx,r4⟩:=r4;cases hx;exact wpIn_ret (ret_mark hds ho2 (results_cell_one rfl _ _ g 4 _ r1 r2) ⟨_,rfl,(by rw [convex_f hj hF];exact r4),r5⟩)
  case done=>
   intro D W hD st1 hF hK;have hds:({a3 with defers:=[{target:= .collected D,args:=#[]}]}:Act).defers= [{target:= .collected D,args:=#[]}]:=rfl;replace st1:=(st1.addS (t:=8) (V:=VOb D) (by decide) (fun _=>hK)).undef;generalize hDa:({a3 with defers:=[{target:= .collected D,args:=#[]}]}:Act)=aD at hds ⊢;replace st1:St w.heap.size w 12 [.k 2 4 1 VT] [(8,VOb D),(0,VEq (.slice p vs.length c)),(2,VEq (.pointer (some ⟨g2,0,none⟩)))] ⟨aD.tmps,[]⟩ W:=by rw [<-hDa];exact st1
   clear hDa;refine Wm ?_
   have:Sb [(4,1,0)] (VOb D):=⟨(Stab_VOb (by simp))⟩;refine rgD (BT:=[(4,1,0)]) (Vl:=[VT]) (B:=[⟨2,none,some 0,4,1,VC1 (Vb true),VT⟩]) (SL':=[(8,VOb D),(0,VEq (.slice p vs.length c)),(2,VEq (.pointer (some ⟨g2,0,none⟩)))]) hds st1 ⟨?s0,trivial⟩ ?_;case s0=>refine k_storec_ (A:=Vb true) rfl rfl rfl rfl rfl rfl rfl rfl rfl (fun _ h=>by cases h) (fun _=>rfl) size_bool rfl (by kernel_rfl) (by kernel_rfl) (by kernel_rfl) (by kernel_rfl) (by kernel_rfl) (.inl rfl) trivial
   intro a2 w2 hds st2;refine Wm ?_
   obtain⟨vo,ho1,ho2⟩:=st2.sl (8,VOb D) (lS_mem rfl);have stX:=St.grown (st2.cut (L':=[.k 2 4 1 (VC1 (Vb true))]) (SL':=[])) (grownBy_putObj' w2 D (.deferred none)) (fun r e=>by cases e;exact⟨Nat.le_trans hn0 hD,_,ho2,rfl⟩);obtain⟨g,cs,r1,r2,r3,r4,r5⟩:=stX.res (.k 2 4 1 (VC1 (Vb true))) (.head _) rfl rfl;obtain⟨x,hx,r4⟩:=r4;cases hx;exact wpIn_ret (ret_mark hds ho2 (results_cell_one rfl _ _ g 4 _ r1 r2) ⟨_,rfl,(by rw [convex_t hva hF];exact r4),r5⟩)
 ·
  rw [Bool.not_eq_true] at hva;refine Wm ?_
  refine rJ [(4,1,0)] [VT] [⟨2,some 0,none,4,1,VT,VT⟩] [(0,VEq (.slice p vs.length c))] st0 ⟨ks,trivial⟩ fun a1 w1 st1=>Wm ?_
  refine rJ [(4,1,0)] [VEq (.slice p vs.length c),Vb false,Vb true] [.k 2 4 1 VT] [(0,VEq (.slice p vs.length c)),(6,Vb true)] st1 ⟨ks,(kd1 fun _ _ _ h _ X0=>cValidV X0 (VSv_later hS h.k.below) (by omega) (by omega) hva),ks,trivial⟩ fun a2 w2 st2=>Wm ?_
  refine cTI st2 ?_;refine Wm ?_
  refine rJ [(4,1,0)] [VT] [⟨2,none,some 0,4,1,VC1 (Vb false),VT⟩] [(0,VEq (.slice p vs.length c)),(6,Vb true)] st2 ⟨(by refine k_storec_ (A:=Vb false) rfl rfl rfl rfl rfl rfl rfl rfl rfl (fun _ h=>by cases h) (fun _=>rfl) size_bool rfl (by kernel_rfl) (by kernel_rfl) (by kernel_rfl) (by kernel_rfl) (by kernel_rfl) (.inl rfl) trivial),trivial⟩ ?_;intro a3 w3 st3;refine Wm ?_
  obtain⟨g,cs,r1,r2,r3,r4,r5⟩:=st3.res (.k 2 4 1 (VC1 (Vb false))) (.head _) rfl rfl;obtain⟨x,hx,r4⟩:=r4;cases hx;exact wpIn_ret (ret_plain st3.defers (results_cell_one rfl _ _ g 4 _ r1 r2) ⟨_,rfl,(by rw [show convexP vs=false by unfold convexP;rw [hva];rfl];exact r4),r5⟩)
def putP (c s x y:Rat)(a:P2):P2:=(c*a.1+ -s*a.2+x,s*a.1+c*a.2+y)
theorem noint_zero8 (n:Nat)(cs:Array Value)(h:cs.toList=(List.replicate n [Value.bool false,.slice none 0 0,.bool false,.slice none 0 0,.bool false,.slice none 0 0,.bool false,.slice none 0 0]).flatten):NoInt cs/\cs.size=8*n:=by
 refine⟨fun i x hi=>?_,?_⟩
 ·have hm:Value.int .i64 x∈cs.toList:=by rw [Array.mem_toList_iff];exact Array.mem_of_getElem? hi
  rw [h] at hm;simp only [List.mem_flatten,List.mem_replicate] at hm;obtain⟨l,⟨-,rfl⟩,hx⟩:=hm;simp at hx
 ·rw [<-Array.length_toList,h];simp [List.length_flatten];omega
def VMkV (n lo:Nat):VP:=fun v w=>∃g,lo<=g/\v= .slice (some ⟨g,0,none⟩) n n/\∃cs,w.heap[g]? =some (.cells cs 32 (0,0))/\cs.size=8*n/\NoInt cs
theorem Stab_VMkV {BT:List (TypeId×Nat×Nat)}{n lo:Nat}(h1:∀e∈BT,e.1≠32):Stab BT (VMkV n lo):=fun _ _ _ ⟨g,e0,e1,cs,e2,e3,e4⟩ hr=>⟨g,e0,e1,cs,(hr.row _ _ _ e2 (.inl fun e he q=>absurd q (h1 e he))).trans e2,e3,e4⟩
instance {n lo:Nat}:Sb [] (VMkV n lo):=⟨Stab_VMkV (by simp)⟩
section
variable {ρ:Operand->Value}{o:Oper}{W:World}{x y:Operand}{va vb:Value}
theorem mk_Vn {n lo:Nat}(hn:n<=13)(ho:o.op= .makeSlice 23 x x)(hx:ρ x=va)(h:Vi (n:Int) va W)(hlo:lo<=W.heap.size):∃v w',(execOp ρ o).run Tryz.prog W= .ok (.value v) w'/\Below W.heap.size W w'/\VMkV n lo v w':=by
 obtain rfl:va=_:=h
 have key:∃cs:Array Value,(Instr.makeSlice 23 (.int .i64 (n:Int)) (.int .i64 (n:Int))).run Tryz.prog W= .ok (.slice (some ⟨W.heap.size,0,none⟩) n n) (W.alloc (.cells cs 32))/\cs.toList=(List.replicate n [Value.bool false,.slice none 0 0,.bool false,.slice none 0 0,.bool false,.slice none 0 0,.bool false,.slice none 0 0]).flatten:=by
  match n,hn with
  |0,_=>exact⟨#[],by kernel_rfl,rfl⟩
  |1,_=>exact⟨#[.bool false,.slice none 0 0,.bool false,.slice none 0 0,.bool false,.slice none 0 0,.bool false,.slice none 0 0],by kernel_rfl,rfl⟩
  |2,_=>exact⟨#[.bool false,.slice none 0 0,.bool false,.slice none 0 0,.bool false,.slice none 0 0,.bool false,.slice none 0 0,.bool false,.slice none 0 0,.bool false,.slice none 0 0,.bool false,.slice none 0 0,.bool false,.slice none 0 0],by kernel_rfl,rfl⟩
  |3,_=>exact⟨#[.bool false,.slice none 0 0,.bool false,.slice none 0 0,.bool false,.slice none 0 0,.bool false,.slice none 0 0,.bool false,.slice none 0 0,.bool false,.slice none 0 0,.bool false,.slice none 0 0,.bool false,.slice none 0 0,.bool false,.slice none 0 0,.bool false,.slice none 0 0,.bool false,.slice none 0 0,.bool false,.slice none 0 0],by kernel_rfl,rfl⟩
  |4,_=>exact⟨#[.bool false,.slice none 0 0,.bool false,.slice none 0 0,.bool false,.slice none 0 0,.bool false,.slice none 0 0,.bool false,.slice none 0 0,.bool false,.slice none 0 0,.bool false,.slice none 0 0,.bool false,.slice none 0 0,.bool false,.slice none 0 0,.bool false,.slice none 0 0,.bool false,.slice none 0 0,.bool false,.slice none 0 0,.bool false,.slice none 0 0,.bool false,.slice none 0 0,.bool false,.slice none 0 0,.bool false,.slice none 0 0],by kernel_rfl,rfl⟩
  |5,_=>exact⟨#[.bool false,.slice none 0 0,.bool false,.slice none 0 0,.bool false,.slice none 0 0,.bool false,.slice none 0 0,.bool false,.slice none 0 0,.bool false,.slice none 0 0,.bool false,.slice none 0 0,.bool false,.slice none 0 0,.bool false,.slice none 0 0,.bool false,.slice none 0 0,.bool false,.slice none 0 0,.bool false,.slice none 0 0,.bool false,.slice none 0 0,.bool false,.slice none 0 0,.bool false,.slice none 0 0,.bool false,.slice none 0 0,.bool false,.slice none 0 0,.bool false,.slice none 0 0,.bool false,.slice none 0 0,.bool false,.slice none 0 0],by kernel_rfl,rfl⟩
  |6,_=>exact⟨#[.bool false,.slice none 0 0,.bool false,.slice none 0 0,.bool false,.slice none 0 0,.bool false,.slice none 0 0,.bool false,.slice none 0 0,.bool false,.slice none 0 0,.bool false,.slice none 0 0,.bool false,.slice none 0 0,.bool false,.slice none 0 0,.bool false,.slice none 0 0,.bool false,.slice none 0 0,.bool false,.slice none 0 0,.bool false,.slice none 0 0,.bool false,.slice none 0 0,.bool false,.slice none 0 0,.bool false,.slice none 0 0,.bool false,.slice none 0 0,.bool false,.slice none 0 0,.bool false,.slice none 0 0,.bool false,.slice none 0 0,.bool false,.slice none 0 0,.bool false,.slice none 0 0,.bool false,.slice none 0 0,.bool false,.slice none 0 0],by kernel_rfl,rfl⟩
  |7,_=>exact⟨#[.bool false,.slice none 0 0,.bool false,.slice none 0 0,.bool false,.slice none 0 0,.bool false,.slice none 0 0,.bool false,.slice none 0 0,.bool false,.slice none 0 0,.bool false,.slice none 0 0,.bool false,.slice none 0 0,.bool false,.slice none 0 0,.bool false,.slice none 0 0,.bool false,.slice none 0 0,.bool false,.slice none 0 0,.bool false,.slice none 0 0,.bool false,.slice none 0 0,.bool false,.slice none 0 0,.bool false,.slice none 0 0,.bool false,.slice none 0 0,.bool false,.slice none 0 0,.bool false,.slice none 0 0,.bool false,.slice none 0 0,.bool false,.slice none 0 0,.bool false,.slice none 0 0,.bool false,.slice none 0 0,.bool false,.slice none 0 0,.bool false,.slice none 0 0,.bool false,.slice none 0 0,.bool false,.slice none 0 0,.bool false,.slice none 0 0],by kernel_rfl,rfl⟩
  |8,_=>exact⟨#[.bool false,.slice none 0 0,.bool false,.slice none 0 0,.bool false,.slice none 0 0,.bool false,.slice none 0 0,.bool false,.slice none 0 0,.bool false,.slice none 0 0,.bool false,.slice none 0 0,.bool false,.slice none 0 0,.bool false,.slice none 0 0,.bool false,.slice none 0 0,.bool false,.slice none 0 0,.bool false,.slice none 0 0,.bool false,.slice none 0 0,.bool false,.slice none 0 0,.bool false,.slice none 0 0,.bool false,.slice none 0 0,.bool false,.slice none 0 0,.bool false,.slice none 0 0,.bool false,.slice none 0 0,.bool false,.slice none 0 0,.bool false,.slice none 0 0,.bool false,.slice none 0 0,.bool false,.slice none 0 0,.bool false,.slice none 0 0,.bool false,.slice none 0 0,.bool false,.slice none 0 0,.bool false,.slice none 0 0,.bool false,.slice none 0 0,.bool false,.slice none 0 0,.bool false,.slice none 0 0,.bool false,.slice none 0 0,.bool false,.slice none 0 0],by kernel_rfl,rfl⟩
  |9,_=>exact⟨#[.bool false,.slice none 0 0,.bool false,.slice none 0 0,.bool false,.slice none 0 0,.bool false,.slice none 0 0,.bool false,.slice none 0 0,.bool false,.slice none 0 0,.bool false,.slice none 0 0,.bool false,.slice none 0 0,.bool false,.slice none 0 0,.bool false,.slice none 0 0,.bool false,.slice none 0 0,.bool false,.slice none 0 0,.bool false,.slice none 0 0,.bool false,.slice none 0 0,.bool false,.slice none 0 0,.bool false,.slice none 0 0,.bool false,.slice none 0 0,.bool false,.slice none 0 0,.bool false,.slice none 0 0,.bool false,.slice none 0 0,.bool false,.slice none 0 0,.bool false,.slice none 0 0,.bool false,.slice none 0 0,.bool false,.slice none 0 0,.bool false,.slice none 0 0,.bool false,.slice none 0 0,.bool false,.slice none 0 0,.bool false,.slice none 0 0,.bool false,.slice none 0 0,.bool false,.slice none 0 0,.bool false,.slice none 0 0,.bool false,.slice none 0 0,.bool false,.slice none 0 0,.bool false,.slice none 0 0,.bool false,.slice none 0 0,.bool false,.slice none 0 0],by kernel_rfl,rfl⟩
  |10,_=>exact⟨#[.bool false,.slice none 0 0,.bool false,.slice none 0 0,.bool false,.slice none 0 0,.bool false,.slice none 0 0,.bool false,.slice none 0 0,.bool false,.slice none 0 0,.bool false,.slice none 0 0,.bool false,.slice none 0 0,.bool false,.slice none 0 0,.bool false,.slice none 0 0,.bool false,.slice none 0 0,.bool false,.slice none 0 0,.bool false,.slice none 0 0,.bool false,.slice none 0 0,.bool false,.slice none 0 0,.bool false,.slice none 0 0,.bool false,.slice none 0 0,.bool false,.slice none 0 0,.bool false,.slice none 0 0,.bool false,.slice none 0 0,.bool false,.slice none 0 0,.bool false,.slice none 0 0,.bool false,.slice none 0 0,.bool false,.slice none 0 0,.bool false,.slice none 0 0,.bool false,.slice none 0 0,.bool false,.slice none 0 0,.bool false,.slice none 0 0,.bool false,.slice none 0 0,.bool false,.slice none 0 0,.bool false,.slice none 0 0,.bool false,.slice none 0 0,.bool false,.slice none 0 0,.bool false,.slice none 0 0,.bool false,.slice none 0 0,.bool false,.slice none 0 0,.bool false,.slice none 0 0,.bool false,.slice none 0 0,.bool false,.slice none 0 0,.bool false,.slice none 0 0],by kernel_rfl,rfl⟩
  |11,_=>exact⟨#[.bool false,.slice none 0 0,.bool false,.slice none 0 0,.bool false,.slice none 0 0,.bool false,.slice none 0 0,.bool false,.slice none 0 0,.bool false,.slice none 0 0,.bool false,.slice none 0 0,.bool false,.slice none 0 0,.bool false,.slice none 0 0,.bool false,.slice none 0 0,.bool false,.slice none 0 0,.bool false,.slice none 0 0,.bool false,.slice none 0 0,.bool false,.slice none 0 0,.bool false,.slice none 0 0,.bool false,.slice none 0 0,.bool false,.slice none 0 0,.bool false,.slice none 0 0,.bool false,.slice none 0 0,.bool false,.slice none 0 0,.bool false,.slice none 0 0,.bool false,.slice none 0 0,.bool false,.slice none 0 0,.bool false,.slice none 0 0,.bool false,.slice none 0 0,.bool false,.slice none 0 0,.bool false,.slice none 0 0,.bool false,.slice none 0 0,.bool false,.slice none 0 0,.bool false,.slice none 0 0,.bool false,.slice none 0 0,.bool false,.slice none 0 0,.bool false,.slice none 0 0,.bool false,.slice none 0 0,.bool false,.slice none 0 0,.bool false,.slice none 0 0,.bool false,.slice none 0 0,.bool false,.slice none 0 0,.bool false,.slice none 0 0,.bool false,.slice none 0 0,.bool false,.slice none 0 0,.bool false,.slice none 0 0,.bool false,.slice none 0 0,.bool false,.slice none 0 0],by kernel_rfl,rfl⟩
  |12,_=>exact⟨#[.bool false,.slice none 0 0,.bool false,.slice none 0 0,.bool false,.slice none 0 0,.bool false,.slice none 0 0,.bool false,.slice none 0 0,.bool false,.slice none 0 0,.bool false,.slice none 0 0,.bool false,.slice none 0 0,.bool false,.slice none 0 0,.bool false,.slice none 0 0,.bool false,.slice none 0 0,.bool false,.slice none 0 0,.bool false,.slice none 0 0,.bool false,.slice none 0 0,.bool false,.slice none 0 0,.bool false,.slice none 0 0,.bool false,.slice none 0 0,.bool false,.slice none 0 0,.bool false,.slice none 0 0,.bool false,.slice none 0 0,.bool false,.slice none 0 0,.bool false,.slice none 0 0,.bool false,.slice none 0 0,.bool false,.slice none 0 0,.bool false,.slice none 0 0,.bool false,.slice none 0 0,.bool false,.slice none 0 0,.bool false,.slice none 0 0,.bool false,.slice none 0 0,.bool false,.slice none 0 0,.bool false,.slice none 0 0,.bool false,.slice none 0 0,.bool false,.slice none 0 0,.bool false,.slice none 0 0,.bool false,.slice none 0 0,.bool false,.slice none 0 0,.bool false,.slice none 0 0,.bool false,.slice none 0 0,.bool false,.slice none 0 0,.bool false,.slice none 0 0,.bool false,.slice none 0 0,.bool false,.slice none 0 0,.bool false,.slice none 0 0,.bool false,.slice none 0 0,.bool false,.slice none 0 0,.bool false,.slice none 0 0,.bool false,.slice none 0 0,.bool false,.slice none 0 0],by kernel_rfl,rfl⟩
  |13,_=>exact⟨#[.bool false,.slice none 0 0,.bool false,.slice none 0 0,.bool false,.slice none 0 0,.bool false,.slice none 0 0,.bool false,.slice none 0 0,.bool false,.slice none 0 0,.bool false,.slice none 0 0,.bool false,.slice none 0 0,.bool false,.slice none 0 0,.bool false,.slice none 0 0,.bool false,.slice none 0 0,.bool false,.slice none 0 0,.bool false,.slice none 0 0,.bool false,.slice none 0 0,.bool false,.slice none 0 0,.bool false,.slice none 0 0,.bool false,.slice none 0 0,.bool false,.slice none 0 0,.bool false,.slice none 0 0,.bool false,.slice none 0 0,.bool false,.slice none 0 0,.bool false,.slice none 0 0,.bool false,.slice none 0 0,.bool false,.slice none 0 0,.bool false,.slice none 0 0,.bool false,.slice none 0 0,.bool false,.slice none 0 0,.bool false,.slice none 0 0,.bool false,.slice none 0 0,.bool false,.slice none 0 0,.bool false,.slice none 0 0,.bool false,.slice none 0 0,.bool false,.slice none 0 0,.bool false,.slice none 0 0,.bool false,.slice none 0 0,.bool false,.slice none 0 0,.bool false,.slice none 0 0,.bool false,.slice none 0 0,.bool false,.slice none 0 0,.bool false,.slice none 0 0,.bool false,.slice none 0 0,.bool false,.slice none 0 0,.bool false,.slice none 0 0,.bool false,.slice none 0 0,.bool false,.slice none 0 0,.bool false,.slice none 0 0,.bool false,.slice none 0 0,.bool false,.slice none 0 0,.bool false,.slice none 0 0,.bool false,.slice none 0 0,.bool false,.slice none 0 0,.bool false,.slice none 0 0],by kernel_rfl,rfl⟩
 obtain⟨cs,hmk,hcs⟩:=key;obtain⟨q1,q2⟩:=noint_zero8 n cs hcs;refine⟨.slice (some ⟨W.heap.size,0,none⟩) n n,W.alloc (.cells cs 32),?_,below_new _ _,⟨_,hlo,rfl,cs,heap_alloc_new _ _,q2,q1⟩⟩;unfold execOp;simp only [ho,hx,Sem.run_bind,hmk,Sem.run_pure,Result.andThen_ok]
theorem index_rnV {n j g:Nat}(ho:o.op= .indexAddr 23 x y)(hx:ρ x=va)(h:VEq (.slice (some ⟨g,0,none⟩) n n) va W)(hy:ρ y=vb)(hb:Vi (j:Int) vb W)(hj:j<n):∃v,(execOp ρ o).run Tryz.prog W= .ok (.value v) W/\VEq (.pointer (some ⟨g,8*j,none⟩)) v W:=by
 obtain rfl:va=_:=h;obtain rfl:vb=_:=hb;refine⟨.pointer (some ⟨g,8*j,none⟩),?_,rfl⟩;have hj2:(j:Int)<(n:Int):=by omega
 have hm:j*8=8*j:=Nat.mul_comm _ _;obtain⟨dd,op,ty,ps,af,gd⟩:=o;subst ho
 go_simp
theorem run_storeV {g off:Nat}{cs z:Array Value}{T T2:TypeId}(ho:o.op= .store T x y)(hx:ρ x= .pointer (some ⟨g,off,none⟩))(hy:ρ y= .agg z)(hg:W.heap[g]? =some (.cells cs T2 (0,0)))(hk:off+z.size<=cs.size)(hi:(Tryz.prog.info? T).map (·.size)=some z.size)(h1:z.all (·.oneCell')=true):(execOp ρ o).run Tryz.prog W= .ok .skip (W.setRow g (updR cs off z.toList)):=by
 have ht:W.there g off z.size:=fun j hj=>⟨by
  have:off+j<cs.size:=by omega
  simp [World.cell?,hg,this],by simp [World.frozen?,hg]⟩
 unfold execOp;simp only [ho,hx,hy,Sem.run_bind,run_storeAt_mid W g off T z ht hi h1,Sem.run_pure,Result.andThen_ok];rw [setCells_upd _ _ _ _ hg]
end
theorem updR_here {cs z:Array Value}{o:Nat}(h:o+z.size<=cs.size):(updR cs o z.toList).extract o (o+z.size)=z:=by
 apply Array.ext_getElem?;intro i;rw [Array.getElem?_extract,updR_get _ _ _ _ (by simpa using h),updR_size];by_cases hi:i<z.size
 ·rw [if_pos (by omega),if_pos (by constructor;omega;simp;omega)];simp
 ·rw [if_neg (by omega),Array.getElem?_eq_none (by omega)]
theorem updR_there {cs:Array Value}{z:List Value}{o p k:Nat}(h:o+z.length<=cs.size)(hp:p+k<=o∨o+z.length<=p):(updR cs o z).extract p (p+k)=cs.extract p (p+k):=by
 apply Array.ext_getElem?;intro i;rw [Array.getElem?_extract,Array.getElem?_extract,updR_get _ _ _ _ h,updR_size];by_cases hi:i<min (p+k) cs.size - p
 ·rw [if_pos hi,if_pos hi,if_neg (by omega)]
 ·rw [if_neg hi,if_neg hi]
theorem noInt_updR {cs z:Array Value}{o:Nat}(h:o+z.size<=cs.size)(h1:NoInt cs)(h2:NoInt z):NoInt (updR cs o z.toList):=fun i x hi=>by
 rw [updR_get _ _ _ _ (by simpa using h)] at hi;split at hi
 ·exact h2 _ _ (by simpa using hi)
 ·exact h1 _ _ hi
theorem cMove {w:World}{N:Nat}{vs:List P2}{c s x y:Rat}{lv v0:Value}(h0:Vp N c s x y v0 w)(hS:VSv N vs lv w)(hN1:1<=N:=by omega)(hN:N<=500:=by omega)(hn:vs.length<=13:=by omega):Calls Tryz.prog 24 #[v0,lv] w (RV (VSv (8*N+3) (vs.map (putP c s x y))) w):=by
 obtain⟨pp,c',hlv⟩:=VSv_slice hS;subst hlv;refine calls_of_marks Tryz.func24 rfl ?_;simp only [Tryz.ntmps24,List.size_toArray,List.length_cons,List.length_nil,Nat.reduceAdd,Nat.reduceSub,Array.replicate_succ,Array.replicate_zero,List.push_toArray,List.append_toArray,List.nil_append,List.cons_append];generalize hA:(⟨_,_⟩:Act)=a0;have st0:St w.heap.size w 26 [] [(0,VAt w (Vp N c s x y)),(1,VEq (.slice pp vs.length c'))] a0 w:=by subst hA;exact St.begin rfl rfl (Lq.2 ⟨⟨_,rfl,h0⟩,(Lq.2 ⟨⟨_,rfl,rfl⟩,L0⟩)⟩)
 clear hA;refine Wm ?_
 refine rJ [] [VT,VEq (.slice none 0 0)] [⟨2,some 0,some 0,49,16,VAt w (Vp N c s x y),VT⟩] [(1,VEq (.slice pp vs.length c'))] st0 ⟨ks,k_mvc (.inr rfl) (fun _=>rfl) (by kernel_rfl) trivial,trivial⟩ ?_;intro a1 w1 st1;obtain⟨g2,e2,hg2,-,cs2,y2,z2,-,u2⟩:=st1.boxAt (b:=(.k 2 49 16 (VAt w (Vp N c s x y)))) (.head _) rfl rfl;have z2':cs2.size=16:=z2;have e1:=st1.val (t:=1) (u:=(.slice pp vs.length c')) (by simp);have hb1:=st1.k.below;have stA:St w1.heap.size w1 26 [] [(1,VEq (.slice pp vs.length c')),(2,VRow g2 cs2 49)] a1 w1:=⟨⟨Below.refl _ _,L0,L0,L0⟩,Nat.le_refl _,st1.size,st1.defers,(Lq.2 ⟨⟨_,e1,rfl⟩,(Lq.2 ⟨⟨_,e2,rfl,y2⟩,L0⟩)⟩)⟩;refine Wm ?_
 refine rJ [] [VEq (.slice pp vs.length c'),Vi (vs.length:Int),VMkV vs.length w1.heap.size,VMkV vs.length w1.heap.size] [] [(1,VEq (.slice pp vs.length c')),(2,VRow g2 cs2 49),(5,VMkV vs.length w1.heap.size)] stA ⟨ks,(kr1 8 fun _ _ _ _ _ x0 X0=>len_Sv rfl rfl x0 X0 hS),(by refine k_mem SbB.out (by kernel_rfl) fun _ ac Y h D=>⟨trivial,?_⟩;obtain⟨v0,x0,X0⟩:=h.dp D 9;exact mk_Vn hn rfl x0 X0 h.n),ks,trivial⟩ ?_;intro a2 w2 st2;obtain⟨_,f5,g,hg,rfl,cs,q5,q6,q7⟩:=st2.sl (5,VMkV vs.length w1.heap.size) (lS_mem rfl);obtain⟨_,f1,rfl⟩:=st2.sl (1,VEq (.slice pp vs.length c')) (lS_mem rfl);obtain⟨_,f2,rfl,q2⟩:=st2.sl (2,VRow g2 cs2 49) (lS_mem rfl);have hbw:Below w.heap.size w w2:=hb1.trans (st2.k.below.mono hb1.size);have hgw:w.heap.size<=g:=Nat.le_trans hb1.size hg;have stB:St w2.heap.size w2 26 [] [(1,VEq (.slice pp vs.length c')),(2,VRow g2 cs2 49),(5,VEq (.slice (some ⟨g,0,none⟩) vs.length vs.length))] a2 w2:=⟨⟨Below.refl _ _,L0,L0,L0⟩,Nat.le_refl _,st2.size,st2.defers,(Lq.2 ⟨⟨_,f1,rfl⟩,(Lq.2 ⟨⟨_,f2,rfl,q2⟩,(Lq.2 ⟨⟨_,f5,rfl⟩,L0⟩)⟩)⟩)⟩;clear st1 stA st2;refine Wm ?_
 refine rJ [] [VEq (.slice pp vs.length c'),Vi (vs.length:Int),Vi 0] [] [(2,VRow g2 cs2 49),(5,VEq (.slice (some ⟨g,0,none⟩) vs.length vs.length)),(11,VEq (.slice pp vs.length c')),(12,Vi (vs.length:Int)),(13,Vi 0)] stB ⟨ks,(kr1 11 fun _ _ _ _ _ x0 X0=>len_Sv rfl rfl x0 X0 hS),ks,trivial⟩ ?_;intro a3 w3 st3;have hb3:=st3.k.below;replace q5:=(hb3.block _ (lt_blk q5)).trans q5;refine Wm ?_
 refine wpIn_loop_ghost (fun m aX wX=>∃j:Nat,j+m=vs.length/\Below w.heap.size w wX/\(fun (j:Nat) (W:World)=>∃cs,W.heap[g]? =some (.cells cs 32 (0,0))/\cs.size=8*vs.length/\NoInt cs/\∀k,k<j->Vv (8*N+3) (putP c s x y (vs.getD k (0,0))).1 (putP c s x y (vs.getD k (0,0))).2 (.agg (cs.extract (8*k) (8*k+8))) W) j wX/\St wX.heap.size wX 26 [] [(2,VRow g2 cs2 49),(5,VEq (.slice (some ⟨g,0,none⟩) vs.length vs.length)),(11,VEq (.slice pp vs.length c')),(12,Vi (vs.length:Int)),(13,Vi j)] aX wX) vs.length ⟨0,by omega,hbw.trans (hb3.mono hbw.size),⟨cs,q5,q6,q7,fun k hk=>absurd hk (by omega)⟩,⟨⟨Below.refl _ _,L0,L0,L0⟩,Nat.le_refl _,st3.size,st3.defers,st3.sl⟩⟩ ?_;clear st3 stB q5 q6 q7 hb3 hbw;intro m aL W1 ⟨j,hj,hbL,⟨cs,q5,q6,q7,q8⟩,st⟩;by_cases hlt:j<vs.length
 ·refine Wm ?_
  refine rJ [] [Vb true] [] [(2,VRow g2 cs2 49),(5,VEq (.slice (some ⟨g,0,none⟩) vs.length vs.length)),(11,VEq (.slice pp vs.length c')),(12,Vi (vs.length:Int)),(13,Vi j),(14,Vb true)] st ⟨(by refine kr fun _ ac Y h D=>?_;obtain⟨v0,x0,X0⟩:=h.ot 13;obtain⟨v1,x1,X1⟩:=h.ot 12;exact⟨_,run_lssi rfl (x0.trans (show v0= .int .i64 j from X0)) (x1.trans (show v1= .int .i64 (vs.length:Int)from X1)),congrArg Value.bool (dT (by omega))⟩),trivial⟩ ?_;intro a4 w4 st4;refine Wm ?_
  refine cTI st4 ?_;refine Wm ?_
  have hgd:vs[j]? =some (vs.getD j (0,0)):=by rw [List.getD_eq_getElem?_getD,List.getElem?_eq_getElem (by omega)];rfl
  have:Sb [(32,8,0)] (VRow g2 cs2 49):=⟨Stab_VRow (by simp)⟩;refine rJ [(32,8,0)] [Vi j,VAt w (VEp 32 8 (Vv N (vs.getD j (0,0)).1 (vs.getD j (0,0)).2)),VAt w (Vv N (vs.getD j (0,0)).1 (vs.getD j (0,0)).2),VT,Vi j,VT] [⟨7,some 3,some 5,32,8,VAt w (Vv N (vs.getD j (0,0)).1 (vs.getD j (0,0)).2),VT⟩] [(2,VRow g2 cs2 49),(5,VEq (.slice (some ⟨g,0,none⟩) vs.length vs.length)),(11,VEq (.slice pp vs.length c')),(12,Vi (vs.length:Int)),(13,Vi j),(6,Vi j)] st4 ⟨ks,(by refine kr fun _ ac Y h D=>?_;obtain⟨v0,x0,X0⟩:=h.ot 11;obtain⟨v1,x1,X1⟩:=h.ot 13;exact index_Sv rfl x0 X0 hS x1 X1 hgd),(kr1 16 fun _ _ _ h _ x0 X0=>load_EpV (w:=w) (k:=8) (A:=Vv N (vs.getD j (0,0)).1 (vs.getD j (0,0)).2) rfl x0 X0 (hbL.trans (h.k.below.mono hbL.size)) Tryz.underlying32 rfl size_Vec),ks,ks,ks,trivial⟩ ?_;intro a5 w5 st5;refine Wm ?_
  refine rgS (BT:=[]) (k:=6) (Vl:=[VEq (.slice (some ⟨g,0,none⟩) vs.length vs.length),Vi j,VAt w (Vp N c s x y),VAt w (Vv N (vs.getD j (0,0)).1 (vs.getD j (0,0)).2),Vv (8*N+3) (putP c s x y (vs.getD j (0,0))).1 (putP c s x y (vs.getD j (0,0))).2,VEq (.pointer (some ⟨g,8*j,none⟩))]) (B:=[.k 7 32 8 (VAt w (Vv N (vs.getD j (0,0)).1 (vs.getD j (0,0)).2))]) (SL':=[(2,VRow g2 cs2 49),(5,VEq (.slice (some ⟨g,0,none⟩) vs.length vs.length)),(11,VEq (.slice pp vs.length c')),(12,Vi (vs.length:Int)),(13,Vi j),(22,Vv (8*N+3) (putP c s x y (vs.getD j (0,0))).1 (putP c s x y (vs.getD j (0,0))).2),(23,VEq (.pointer (some ⟨g,8*j,none⟩)))]) st5.defers st5.undef ⟨ks,ks,?s2,ks,?s4,?s5,trivial⟩ rfl rfl rfl rfl (fun _ e=>by cases e) (by kernel_rfl) rfl ?_ rfl (by kernel_rfl);case s2=>refine kr fun _ ac Y h D=>?_;obtain⟨v0,x0,X0⟩:=h.ot 2;exact load_Row rfl x0 X0 Tryz.underlying49 rfl (by rw [z2'];exact size_Place) u2
  case s4=>refine kc fun _ ac Y h D=>?_;obtain⟨v0,x0,X0⟩:=h.dp D 20;obtain⟨v1,x1,X1⟩:=h.dp D 21;have hbd:=hbL.trans (h.k.below.mono hbL.size);exact⟨#[v0,v1],by simp [x0,x1],cPut (VAt_cur (Stab_Vp _ _ _ _ _) (show VAt w (Vp N c s x y) v0 Y from X0) hbd) (VAt_cur (Stab_Vv _ _ _) (show VAt w (Vv N (vs.getD j (0,0)).1 (vs.getD j (0,0)).2) v1 Y from X1) hbd) hN1 hN⟩
  case s5=>exact kr2 18 19 fun _ _ _ _ _ x0 X0 _ x1 X1=>index_rnV rfl x0 X0 x1 X1 hlt
  intro a6 w6 hd6 st6;obtain⟨v22,p22,V22⟩:=st6.sl (22,Vv (8*N+3) (putP c s x y (vs.getD j (0,0))).1 (putP c s x y (vs.getD j (0,0))).2) (lS_mem rfl);obtain⟨_,p23,rfl⟩:=st6.sl (23,VEq (.pointer (some ⟨g,8*j,none⟩))) (lS_mem rfl);obtain⟨_,p2,rfl,o2⟩:=st6.sl (2,VRow g2 cs2 49) (lS_mem rfl);obtain⟨_,p5,rfl⟩:=st6.sl (5,VEq (.slice (some ⟨g,0,none⟩) vs.length vs.length)) (lS_mem rfl);obtain⟨_,p11,rfl⟩:=st6.sl (11,VEq (.slice pp vs.length c')) (lS_mem rfl);obtain⟨v12,p12,o12⟩:=st6.sl (12,Vi (vs.length:Int)) (lS_mem rfl);obtain⟨v13,p13,o13⟩:=st6.sl (13,Vi j) (lS_mem rfl);obtain⟨z,rfl,hzs,hzn,hz1⟩:=AggV_Vv _ _ _ _ _ V22;have hb6:=st6.k.below;have o5:=(hb6.block _ (lt_blk q5)).trans q5;have hle:8*j+z.size<=cs.size:=by omega
  refine⟨_,run_storeV rfl (ev_tmp p23) (ev_tmp p22) o5 hle (by rw [hzs];exact size_Vec) hz1,?_⟩
  have hri:RI [(32,cs.size,0)] w6 (w6.setRow g (updR cs (8*j) z.toList)):=RI_setRow o5 q7 ⟨⟨_,List.mem_cons_self,rfl,rfl,.inl rfl⟩,fun e he e1 e2=>by
   rcases List.mem_cons.1 he with rfl|he
   ·have e2:cs.size=0:=e2;omega
   ·cases he⟩
  have hne:g2≠g:=by rintro rfl;rw [o2] at o5;cases o5
  have hbF:Below w.heap.size w (w6.setRow g (updR cs (8*j) z.toList)):=below_setRow (hbL.trans (hb6.mono hbL.size)) hgw
  have hEF:(fun (j:Nat) (W:World)=>∃cs,W.heap[g]? =some (.cells cs 32 (0,0))/\cs.size=8*vs.length/\NoInt cs/\∀k,k<j->Vv (8*N+3) (putP c s x y (vs.getD k (0,0))).1 (putP c s x y (vs.getD k (0,0))).2 (.agg (cs.extract (8*k) (8*k+8))) W) (j+1) (w6.setRow g (updR cs (8*j) z.toList)):=⟨_,setRow_heap _ _ _ _ _ _ o5,by rw [updR_size];exact q6,noInt_updR hle q7 hzn,fun k hk=>by
   by_cases hkj:k=j
   ·subst hkj;have:=updR_here hle;rw [hzs] at this;rw [this];exact Stab_Vv _ _ _ _ _ _ V22 hri
   ·rw [updR_there (by simpa using hle) (by simp;omega)]
    exact Stab_Vv _ _ _ _ _ _ (Stab_Vv (BT:=[]) _ _ _ _ _ _ (q8 k (by omega)) (RI.of_below hb6)) hri⟩
  have stF:St (w6.setRow g (updR cs (8*j) z.toList)).heap.size (w6.setRow g (updR cs (8*j) z.toList)) 26 [] [(2,VRow g2 cs2 49),(5,VEq (.slice (some ⟨g,0,none⟩) vs.length vs.length)),(11,VEq (.slice pp vs.length c')),(12,Vi (vs.length:Int)),(13,Vi j)] a6 (w6.setRow g (updR cs (8*j) z.toList)):=St.redo hd6 ⟨⟨Below.refl _ _,L0,L0,L0⟩,Nat.le_refl _,st6.size,rfl,(Lq.2 ⟨⟨_,p2,VRow_set ⟨rfl,o2⟩ hne⟩,(Lq.2 ⟨⟨_,p5,rfl⟩,(Lq.2 ⟨⟨_,p11,rfl⟩,(Lq.2 ⟨⟨v12,p12,o12⟩,(Lq.2 ⟨⟨v13,p13,o13⟩,L0⟩)⟩)⟩)⟩)⟩)⟩;clear st st4 st5 st6 hri;generalize w6.setRow g (updR cs (8*j) z.toList)=W7 at stF hEF hbF ⊢;refine Wm ?_
  refine rJ [] [Vi ((j+1:Nat):Int),Vi ((j+1:Nat):Int)] [] [(2,VRow g2 cs2 49),(5,VEq (.slice (some ⟨g,0,none⟩) vs.length vs.length)),(11,VEq (.slice pp vs.length c')),(12,Vi (vs.length:Int)),(13,Vi ((j+1:Nat):Int))] stF ⟨?s0,ks,trivial⟩ ?_
  case s0=>
   refine k_run0 SbB.out (by kernel_rfl) fun listed ac Y h D hnl=>⟨trivial,?_⟩
   obtain⟨v0,x0,X0⟩:=h.out0 hnl (13,Vi j) (lS_mem rfl) 1 (by kernel_rfl) (.inr (by kernel_rfl));exact⟨_,run_addi rfl (x0.trans (show v0= .int .i64 j from X0)) rfl wO,congrArg (Value.int .i64) (by omega)⟩
  intro a8 w8 st8;obtain⟨ds,d5,d6,d7,d8⟩:=hEF;have hb8:=st8.k.below;exact⟨m - 1,by omega,j+1,by omega,hbF.trans (hb8.mono hbF.size),⟨ds,(hb8.block _ (lt_blk d5)).trans d5,d6,d7,fun k hk=>Stab_Vv (BT:=[]) _ _ _ _ _ _ (d8 k hk) (RI.of_below hb8)⟩,⟨⟨Below.refl _ _,L0,L0,L0⟩,Nat.le_refl _,st8.size,st8.defers,st8.sl⟩⟩
 ·refine Wm ?_
  refine rJ [] [Vb false] [] [(2,VRow g2 cs2 49),(5,VEq (.slice (some ⟨g,0,none⟩) vs.length vs.length)),(11,VEq (.slice pp vs.length c')),(12,Vi (vs.length:Int)),(13,Vi j),(14,Vb false)] st ⟨(by refine kr fun _ ac Y h D=>?_;obtain⟨v0,x0,X0⟩:=h.ot 13;obtain⟨v1,x1,X1⟩:=h.ot 12;exact⟨_,run_lssi rfl (x0.trans (show v0= .int .i64 j from X0)) (x1.trans (show v1= .int .i64 (vs.length:Int)from X1)),congrArg Value.bool (dF (by omega))⟩),trivial⟩ ?_;intro a4 w4 st4;refine Wm ?_
  obtain⟨vc,hc1,hc2⟩:=st4.slot (14,Vb false) (lS_mem rfl);refine wpIn_cond_false (hc1.trans hc2) (Ix ?_);refine Wm ?_
  refine rJ [] [VEq (.slice (some ⟨g,0,none⟩) vs.length vs.length),VEq (.slice (some ⟨g,0,none⟩) vs.length vs.length)] [] [(4,VEq (.slice (some ⟨g,0,none⟩) vs.length vs.length))] st4 ⟨ks,ks,trivial⟩ ?_;intro a5 w5 st5;refine Wm ?_
  have hb5:=st5.k.below;obtain⟨vr,r1,r4⟩:=st5.slot (4,VEq (.slice (some ⟨g,0,none⟩) vs.length vs.length)) (lS_mem rfl);refine wpIn_ret (ret_plain st5.defers (results_tmp rfl _ _ _) ⟨_,congrArg Ending.returned (show _=vr from r1),?_,hbL.trans (hb5.mono hbL.size)⟩);obtain rfl:vr=_:=r4;have hjn:j=vs.length:=by omega
  refine .inr ⟨g,0,vs.length,cs,by rw [List.length_map],by rw [List.length_map];omega,by omega,(hb5.block _ (lt_blk q5)).trans q5,by rw [List.length_map];omega,fun k z hz=>?_⟩;rw [List.getElem?_map] at hz
  have hk:k<vs.length:=by
   rcases Nat.lt_or_ge k vs.length with h'|h'
   ·exact h'
   ·rw [List.getElem?_eq_none h'] at hz;cases hz
  have hz2:z=(putP c s x y (vs.getD k (0,0))):=by
   rw [List.getElem?_eq_getElem hk] at hz;rw [List.getD_eq_getElem?_getD,List.getElem?_eq_getElem hk];exact(Option.some.inj hz).symm
  rw [hz2,Nat.zero_add];exact Stab_Vv (BT:=[]) _ _ _ _ _ _ (q8 k (by omega)) (RI.of_below hb5)
def midQ (a c:Rat):Rat:=(a+c)*Rat.divInt 1 2
theorem cR6Turned {w:World}{N:Nat}{x y:Rat}{v0:Value}(h0:Vv N x y v0 w)(hN3:3<=N:=by omega)(hN:N<=900:=by omega):Calls Tryz.prog 92 #[v0] w (RV (Vv N (-y) x) w):=by
 go_enter Tryz.func92,Tryz.ntmps92
 refine Sg 9 [(0,Vv N x y)] (Lq.2 ⟨⟨_,rfl,h0⟩,L0⟩) fun a0 st0=>Wn ?_
 refine rH [(32,8,0)] [VT,VT] [⟨1,some 0,some 0,32,8,Vv N x y,VT⟩,⟨2,some 1,none,32,8,VT,VT⟩] [] st0 ⟨ks,ks,trivial⟩ fun a1 w1 st1=>Wn ?_
 refine rH [(32,8,0)] [Vpt a1 1 4,Vq N y,Vq N (-(y)),Vpt a1 1 0,Vq N x,Vv N (-(y)) x,VT] [.k 1 32 8 (Vv N x y),⟨2,none,some 6,32,8,Vv N (-(y)) x,VT⟩] [] st1 ⟨ks,ks,(kd1 fun _ _ _ _ _ X0=>cR4Neg X0),ks,ks,(kr2 5 7 fun _ _ _ _ _ x0 X0 _ x1 X1=>build_Vec rfl x0 x1 (AggV_Vq _ _) (AggV_Vq _ _) X0 X1),ks,trivial⟩ fun a2 w2 st2=>Wn ?_
 exact wp_ret (rC 2 32 (Vv N (-(y)) x) st2 fun cs r4=>r4)
theorem cR6Middle {w:World}{N:Nat}{a b c d:Rat}{v0 v1:Value}(h0:Vv N a b v0 w)(h1:Vv N c d v1 w)(hN3:3<=N:=by omega)(hN:N<=900:=by omega):Calls Tryz.prog 30 #[v0,v1] w (RV (Vv (4*N+2) (midQ a c) (midQ b d)) w):=by
 go_enter Tryz.func30,Tryz.ntmps30
 refine Sg 10 [(0,Vv N a b),(1,Vv N c d)] (Lq.2 ⟨⟨_,rfl,h0⟩,(Lq.2 ⟨⟨_,rfl,h1⟩,L0⟩)⟩) fun a0 st0=>Wn ?_
 refine rH [(32,8,0)] [VT,VT,VT] [⟨2,some 0,some 0,32,8,Vv N a b,VT⟩,⟨3,some 1,some 1,32,8,Vv N c d,VT⟩,⟨4,some 2,none,32,8,VT,VT⟩] [] st0 ⟨ks,ks,ks,trivial⟩ fun a1 w1 st1=>Wn ?_
 refine rH [(32,8,0)] [Vv N a b,Vv N c d,Vv (N+N+1) ((a)+(c)) ((b)+(d)),Vq 3 (Rat.divInt 1 2),Vv ((max (N+N+1) 3)+(max (N+N+1) 3)) (((a)+(c))*(Rat.divInt 1 2)) (((b)+(d))*(Rat.divInt 1 2)),VT] [.k 2 32 8 (Vv N a b),.k 3 32 8 (Vv N c d),⟨4,none,some 5,32,8,Vv ((max (N+N+1) 3)+(max (N+N+1) 3)) (((a)+(c))*(Rat.divInt 1 2)) (((b)+(d))*(Rat.divInt 1 2)),VT⟩] [] st1 ⟨ks,ks,(kd2 fun _ _ _ _ _ X0 _ X1=>cR5Add X0 X1),(by refine kc fun _ A Y h D=>?_;exact⟨#[.int .i64 1,.int .i64 2],by simp [eval_const],cR4Of (show Vi 1 (.int .i64 1) Y from rfl) (show Vi 2 (.int .i64 2) Y from rfl)⟩),(kd2 fun _ _ _ _ _ X0 _ X1=>cR5Scale (Vv_le (M:=(max (N+N+1) 3)) X0 (by omega)) (Vq_le (M:=(max (N+N+1) 3)) X1 (by omega))),ks,trivial⟩ ?_;intro a2 w2 st2;refine Wn ?_
 exact wp_ret (rC 4 32 (Vv ((max (N+N+1) 3)+(max (N+N+1) 3)) (((a)+(c))*(Rat.divInt 1 2)) (((b)+(d))*(Rat.divInt 1 2))) st2 fun cs r4=>(Vv_le r4 (by omega)))
theorem cR6Corner {w:World}{N k:Nat}{vs:List P2}{lv:Value}{v0 v1:Value}(h0:VEq lv v0 w)(h1:Vi (k:Int) v1 w)(hS:VSv N vs lv w)(hn:0<vs.length:=by omega):Calls Tryz.prog 77 #[v0,v1] w (RV (Vv N (cv vs k).1 (cv vs k).2) w):=by
 go_enter Tryz.func77,Tryz.ntmps77
 refine Sg 12 [(0,VEq lv),(1,Vi (k:Int))] (Lq.2 ⟨⟨_,rfl,h0⟩,(Lq.2 ⟨⟨_,rfl,h1⟩,L0⟩)⟩) fun a0 st0=>Wn ?_
 refine rH [(32,8,0)] [VT] [⟨4,some 0,none,32,8,VT,VT⟩] [(0,VEq lv),(1,Vi (k:Int))] st0 ⟨ks,trivial⟩ ?_;intro a1 w1 st1;have hmax:=VSv_max hS;refine Wn ?_
 refine rH [(32,8,0)] [VEq lv,Vi (k:Int),VEq lv,Vi (vs.length:Int),Vi ((k % vs.length:Nat):Int),VAt w (VEp 32 8 (Vv N (cv vs k).1 (cv vs k).2)),Vv N ((cv vs k).1) ((cv vs k).2),VT] [⟨4,none,some 7,32,8,Vv N ((cv vs k).1) ((cv vs k).2),VT⟩] [] st1 ⟨ks,ks,ks,(kr1 7 fun _ _ _ _ _ x0 X0=>len_Sv rfl rfl x0 X0 hS),(kr2 6 8 fun _ _ _ _ _ x0 X0 _ x1 X1=>rem_n rfl x0 x1 X0 X1 hn),(kr2 5 9 fun _ _ _ _ _ x0 X0 _ x1 X1=>index_Sv rfl x0 X0 hS x1 X1 (cv_get k hn)),(kr1 10 fun _ _ _ h _ x0 X0=>load_EpC (w:=w) (k:=8) (A:=Vv N (cv vs k).1 (cv vs k).2) (Stab_Vv _ _ _) rfl x0 X0 h.k.below Tryz.underlying32 rfl size_Vec),ks,trivial⟩ fun a2 w2 st2=>Wn ?_
 exact wp_ret (rC 4 32 (Vv N ((cv vs k).1) ((cv vs k).2)) st2 fun cs r4=>r4)
theorem cR6Next {w:World}{N k:Nat}{vs:List P2}{lv:Value}{v0 v1:Value}(h0:VEq lv v0 w)(h1:Vi (k:Int) v1 w)(hS:VSv N vs lv w)(hk:k<vs.length:=by omega):Calls Tryz.prog 31 #[v0,v1] w (RV (Vv N (cv vs (k+1)).1 (cv vs (k+1)).2) w):=by
 go_enter Tryz.func31,Tryz.ntmps31
 refine Sg 18 [(0,VEq lv),(1,Vi (k:Int))] (Lq.2 ⟨⟨_,rfl,h0⟩,(Lq.2 ⟨⟨_,rfl,h1⟩,L0⟩)⟩) fun a0 st0=>Wn ?_
 refine rH [(32,8,0)] [VT] [⟨4,some 0,none,32,8,VT,VT⟩] [(0,VEq lv),(1,Vi (k:Int))] st0 ⟨ks,trivial⟩ ?_;intro a1 w1 st1;have hmax:=VSv_max hS;by_cases hcc:k+1<vs.length
 ·
  refine Wn ?_
  refine rH [(32,8,0)] [Vi (k:Int),Vi ((k:Int)+(1)),VEq lv,Vi (vs.length:Int),Vb true] [.k 4 32 8 VT] [(0,VEq lv),(1,Vi (k:Int)),(9,Vb true)] st1 ⟨ks,(kr1 5 fun _ _ _ _ _ x0 X0=>⟨_,run_addi rfl (x0.trans X0) rfl wO,rfl⟩),ks,(kr1 7 fun _ _ _ _ _ x0 X0=>len_Sv rfl rfl x0 X0 hS),(kr2 6 8 fun _ _ _ _ _ x0 X0 _ x1 X1=>⟨_,run_lssi rfl (x0.trans X0) (x1.trans X1),congrArg Value.bool (dT (by omega))⟩),trivial⟩ fun a2 w2 st2=>Wn ?_
  refine cT st2 ?_;have hg:vs[k+1]? =some (cv vs (k+1)):=by have:=cv_get (vs:=vs) (k+1) (by omega);rwa [Nat.mod_eq_of_lt hcc] at this
  refine Wn ?_
  refine rH [(32,8,0)] [VEq lv,Vi (k:Int),Vi ((k+1:Nat):Int),VAt w (VEp 32 8 (Vv N (cv vs (k+1)).1 (cv vs (k+1)).2)),Vv N ((cv vs (k+1)).1) ((cv vs (k+1)).2),VT] [⟨4,none,some 5,32,8,Vv N ((cv vs (k+1)).1) ((cv vs (k+1)).2),VT⟩] [(0,VEq lv),(1,Vi (k:Int)),(9,Vb true)] st2 ⟨ks,ks,(kr1 11 fun _ _ _ _ v0 x0 X0=>⟨_,run_addi rfl (x0.trans (show v0= .int .i64 (k:Int)from X0)) rfl wO,congrArg (Value.int .i64) (by omega)⟩),(kr2 10 12 fun _ _ _ _ _ x0 X0 _ x1 X1=>index_Sv rfl x0 X0 hS x1 X1 hg),(kr1 13 fun _ _ _ h _ x0 X0=>load_EpC (w:=w) (k:=8) (A:=Vv N (cv vs (k+1)).1 (cv vs (k+1)).2) (Stab_Vv _ _ _) rfl x0 X0 h.k.below Tryz.underlying32 rfl size_Vec),ks,trivial⟩ fun a3 w3 st3=>Wn ?_
  exact wp_ret (rC 4 32 (Vv N ((cv vs (k+1)).1) ((cv vs (k+1)).2)) st3 fun cs r4=>r4)
 ·
  refine Wn ?_
  refine rH [(32,8,0)] [Vi (k:Int),Vi ((k:Int)+(1)),VEq lv,Vi (vs.length:Int),Vb false] [.k 4 32 8 VT] [(0,VEq lv),(1,Vi (k:Int)),(9,Vb false)] st1 ⟨ks,(kr1 5 fun _ _ _ _ _ x0 X0=>⟨_,run_addi rfl (x0.trans X0) rfl wO,rfl⟩),ks,(kr1 7 fun _ _ _ _ _ x0 X0=>len_Sv rfl rfl x0 X0 hS),(kr2 6 8 fun _ _ _ _ _ x0 X0 _ x1 X1=>⟨_,run_lssi rfl (x0.trans X0) (x1.trans X1),congrArg Value.bool (dF (by omega))⟩),trivial⟩ fun a2 w2 st2=>Wn ?_
  refine cF st2 ?_;have hg:vs[0]? =some (cv vs (k+1)):=by have:=cv_get (vs:=vs) (k+1) (by omega);rwa [show k+1=vs.length by omega,Nat.mod_self,show vs.length=k+1 by omega] at this
  refine Wn ?_
  refine rH [(32,8,0)] [VEq lv,VAt w (VEp 32 8 (Vv N (cv vs (k+1)).1 (cv vs (k+1)).2)),Vv N ((cv vs (k+1)).1) ((cv vs (k+1)).2),VT] [⟨4,none,some 3,32,8,Vv N ((cv vs (k+1)).1) ((cv vs (k+1)).2),VT⟩] [(0,VEq lv),(1,Vi (k:Int)),(9,Vb false)] st2 ⟨ks,(kr1 15 fun _ _ _ _ _ x0 X0=>index_Sv (j:=0) rfl x0 X0 hS rfl rfl hg),(kr1 16 fun _ _ _ h _ x0 X0=>load_EpC (w:=w) (k:=8) (A:=Vv N (cv vs (k+1)).1 (cv vs (k+1)).2) (Stab_Vv _ _ _) rfl x0 X0 h.k.below Tryz.underlying32 rfl size_Vec),ks,trivial⟩ fun a3 w3 st3=>Wn ?_
  exact wp_ret (rC 4 32 (Vv N ((cv vs (k+1)).1) ((cv vs (k+1)).2)) st3 fun cs r4=>r4)
end Go.Proofs.YteacdbgalloaiaaGreat
