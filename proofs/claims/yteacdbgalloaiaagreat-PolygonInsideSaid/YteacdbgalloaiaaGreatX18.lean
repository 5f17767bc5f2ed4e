/- Contracts of the packages integer, rat, plane, polygon and their references. -/
import Derived.Test.YteacdbgalloaiaaGreatX17
import Derived.Deep.LoopGhost
import Derived.Test.YteacdbgalloaiaaGreatX12
set_option linter.unusedVariables false
set_option maxRecDepth 100000
set_option maxHeartbeats 6400000
namespace Go.Proofs.YteacdbgalloaiaaGreat
open Go.RowKit
open Go
def validP (vs:List P2):Bool:=decide (3<=vs.length) && (decide (vs.length<=12) && (bentP vs && (simpleP vs && decide (0<(areaQ vs).num))))
theorem cmpI_gt (z:Int):0<cmpI z 0↔0<z:=by unfold cmpI;split<;>(try split)<;>omega
theorem cBentV {w:World}{N:Nat}{vs:List P2}{lv v0:Value}{x:Bool}(h0:VEq lv v0 w)(hS:VSv N vs lv w)(hN1:1<=N)(hN2:N<=900)(hvs:vs.length<=1000000)(hx:bentP vs=x):Calls Tryz.prog 53 #[v0] w (RV (Vb x) w):=by
 obtain rfl:v0=lv:=h0;subst hx;exact cBent hS hN1 hN2 hvs
theorem cSimpleV {w:World}{N:Nat}{vs:List P2}{lv v0:Value}{x:Bool}(h0:VEq lv v0 w)(hS:VSv N vs lv w)(hN1:1<=N)(hN2:N<=900)(hx:simpleP vs=x):Calls Tryz.prog 54 #[v0] w (RV (Vb x) w):=by
 obtain rfl:v0=lv:=h0;subst hx;exact cSimple hS hN1 hN2
theorem cValid6 {w:World}{N:Nat}{vs:List P2}{lv:Value}{v0:Value}(h0:VEq lv v0 w)(hS:VSv N vs lv w)(hN3:3<=N:=by omega)(hN:N<=18:=by omega):Calls Tryz.prog 16 #[v0] w (RV (Vb (validP vs)) w):=by
 go_enter Tryz.func16,Tryz.ntmps16
 generalize hA:(⟨_,_⟩:Act)=a0;have st0:St w.heap.size w 27 [] [(0,VEq lv)] a0 w:=by subst hA;exact St.begin rfl rfl (Lq.2 ⟨⟨_,rfl,h0⟩,L0⟩)
 clear hA;have hmax:=VSv_max hS;refine Wn ?_
 refine rH [] [Vb false] [] [(0,VEq lv),(2,Vb false)] st0 ⟨ks,trivial⟩ ?_;intro a1 w1 st1;by_cases hlt:vs.length<3
 ·
  refine Wn ?_
  refine rH [] [VEq lv,Vi (vs.length:Int),Vb true,Vb true,VT,VT,VT,Vb true] [] [(0,VEq lv),(2,Vb false),(10,Vb true)] st1 ⟨ks,(kr1 3 fun _ _ _ _ _ x0 X0=>len_Sv rfl rfl x0 X0 hS),(kr1 4 fun _ _ _ _ _ x0 X0=>⟨_,run_lssi rfl (x0.trans X0) rfl,congrArg Value.bool (dT (by omega))⟩),ks,ks,?s5,ks,ks,trivial⟩ ?_
  case s5=>
   refine k_skip SbB.out (by kernel_rfl) fun listed A Y h D=>⟨?_,trivial⟩
   obtain⟨u,hu,hy,hU⟩:=h.dep D 3 6 (by kernel_rfl) (by kernel_rfl);obtain rfl:u= .bool true:=hU;exact⟨3,false,true,rfl,hy,by decide⟩
  intro a2 w2 st2;refine Wn ?_
  refine cT st2 ?_;refine Wn ?_
  refine rH [] [Vb false] [] [(0,VEq lv),(10,Vb true),(2,Vb false)] st2 ⟨ks,trivial⟩ fun a3 w3 st3=>Wn ?_
  exact wp_ret (rS 2 (Vb false) st3 fun vr r4=>(by rw [show validP vs=false by unfold validP;rw [dF (show ¬3<=vs.length by omega)];simp];exact r4))
 ·
  by_cases hgt:12<vs.length
  ·
   refine Wn ?_
   refine rH [] [VEq lv,Vi (vs.length:Int),Vb false,Vb false,VEq lv,Vi (vs.length:Int),Vb true,Vb true] [] [(0,VEq lv),(2,Vb false),(10,Vb true)] st1 ⟨ks,(kr1 3 fun _ _ _ _ _ x0 X0=>len_Sv rfl rfl x0 X0 hS),(kr1 4 fun _ _ _ _ _ x0 X0=>⟨_,run_lssi rfl (x0.trans X0) rfl,congrArg Value.bool (dF (by omega))⟩),ks,ks,(kr1 7 fun _ _ _ _ _ x0 X0=>len_Sv rfl rfl x0 X0 hS),(kr1 8 fun _ _ _ _ _ x0 X0=>⟨_,run_gtri rfl (x0.trans X0) rfl,congrArg Value.bool (dT (by omega))⟩),ks,trivial⟩ fun a2 w2 st2=>Wn ?_
   refine cT st2 ?_;refine Wn ?_
   refine rH [] [Vb false] [] [(0,VEq lv),(10,Vb true),(2,Vb false)] st2 ⟨ks,trivial⟩ fun a3 w3 st3=>Wn ?_
   exact wp_ret (rS 2 (Vb false) st3 fun vr r4=>(by rw [show validP vs=false by unfold validP;rw [dF (show ¬vs.length<=12 by omega)];simp];exact r4))
  ·
   refine Wn ?_
   refine rH [] [VEq lv,Vi (vs.length:Int),Vb false,Vb false,VEq lv,Vi (vs.length:Int),Vb false,Vb false] [] [(0,VEq lv),(2,Vb false),(10,Vb false)] st1 ⟨ks,(kr1 3 fun _ _ _ _ _ x0 X0=>len_Sv rfl rfl x0 X0 hS),(kr1 4 fun _ _ _ _ _ x0 X0=>⟨_,run_lssi rfl (x0.trans X0) rfl,congrArg Value.bool (dF (by omega))⟩),ks,ks,(kr1 7 fun _ _ _ _ _ x0 X0=>len_Sv rfl rfl x0 X0 hS),(kr1 8 fun _ _ _ _ _ x0 X0=>⟨_,run_gtri rfl (x0.trans X0) rfl,congrArg Value.bool (dF (by omega))⟩),ks,trivial⟩ ?_;intro a2 w2 st2
   have hbd:1+vs.length*(4*N+2)<=900:=by
    have:=Nat.mul_le_mul (show vs.length<=12 by omega) (show 4*N+2<=74 by omega);omega
   have h3:decide (3<=vs.length)=true:=dT (by omega);have h12:decide (vs.length<=12)=true:=dT (by omega);refine Wn ?_
   refine cF st2 ?_;by_cases hbe:bentP vs=true
   ·
    by_cases hsi:simpleP vs=true
    ·
     by_cases har:0<(areaQ vs).num
     ·
      refine Wn ?_
      refine rH [] [VEq lv,Vb true,Vb true,VEq lv,Vb true,Vb true,Vb true,VEq lv,Vb true,Vb true,Vb true,VEq lv,Vq (1+vs.length*(4*N+2)+3) (areaQ vs),Vi (cmpI (areaQ vs).num 0),Vb true,Vb true,Vb true] [] [(0,VEq lv),(10,Vb false),(2,Vb true)] st2 ⟨ks,(kd1 fun _ _ _ h _ X0=>cNumeric X0 (VSv_later hS h.k.below)),ks,ks,(kd1 fun _ _ _ h _ X0=>cBentV X0 (VSv_later hS h.k.below) (by omega) (by omega) (by omega) hbe),ks,ks,ks,(kd1 fun _ _ _ h _ X0=>cSimpleV X0 (VSv_later hS h.k.below) (by omega) (by omega) hsi),ks,ks,ks,(kd1 fun _ _ _ h _ X0=>cArea X0 (VSv_later hS h.k.below) (by omega) hbd),(kd1 fun _ _ _ _ _ X0=>cQSign X0),(kr1 24 fun _ _ _ _ _ x0 X0=>⟨_,run_gtri rfl (x0.trans X0) rfl,congrArg Value.bool (dT ((cmpI_gt _).2 har))⟩),ks,ks,trivial⟩ fun a3 w3 st3=>Wn ?_
      exact wp_ret (rS 2 (Vb true) st3 fun vr r4=>(by rw [show validP vs=true by unfold validP;rw [h3,h12,hbe,hsi,dT har];simp];exact r4))
     ·
      refine Wn ?_
      refine rH [] [VEq lv,Vb true,Vb true,VEq lv,Vb true,Vb true,Vb true,VEq lv,Vb true,Vb true,Vb true,VEq lv,Vq (1+vs.length*(4*N+2)+3) (areaQ vs),Vi (cmpI (areaQ vs).num 0),Vb false,Vb false,Vb false] [] [(0,VEq lv),(10,Vb false),(2,Vb false)] st2 ⟨ks,(kd1 fun _ _ _ h _ X0=>cNumeric X0 (VSv_later hS h.k.below)),ks,ks,(kd1 fun _ _ _ h _ X0=>cBentV X0 (VSv_later hS h.k.below) (by omega) (by omega) (by omega) hbe),ks,ks,ks,(kd1 fun _ _ _ h _ X0=>cSimpleV X0 (VSv_later hS h.k.below) (by omega) (by omega) hsi),ks,ks,ks,(kd1 fun _ _ _ h _ X0=>cArea X0 (VSv_later hS h.k.below) (by omega) hbd),(kd1 fun _ _ _ _ _ X0=>cQSign X0),(kr1 24 fun _ _ _ h _ x0 X0=>⟨_,run_gtri rfl (x0.trans X0) rfl,congrArg Value.bool (dF (fun h=>har ((cmpI_gt _).1 h)))⟩),ks,ks,trivial⟩ fun a3 w3 st3=>Wn ?_
      exact wp_ret (rS 2 (Vb false) st3 fun vr r4=>(by rw [show validP vs=false by unfold validP;rw [h3,h12,hbe,hsi,dF har];simp];exact r4))
    ·
     rw [Bool.not_eq_true] at hsi;refine Wn ?_
     refine rH [] [VEq lv,Vb true,Vb true,VEq lv,Vb true,Vb true,Vb true,VEq lv,Vb false,Vb false,Vb false,VT,VT,VT,VT,Vb false,Vb false] [] [(0,VEq lv),(10,Vb false),(2,Vb false)] st2 ⟨ks,(kd1 fun _ _ _ h _ X0=>cNumeric X0 (VSv_later hS h.k.below)),ks,ks,(kd1 fun _ _ _ h _ X0=>cBentV X0 (VSv_later hS h.k.below) (by omega) (by omega) (by omega) hbe),ks,ks,ks,(kd1 fun _ _ _ h _ X0=>cSimpleV X0 (VSv_later hS h.k.below) (by omega) (by omega) hsi),ks,ks,ks,ks,ks,ks,ks,ks,trivial⟩ fun a3 w3 st3=>Wn ?_
     exact wp_ret (rS 2 (Vb false) st3 fun vr r4=>(by rw [show validP vs=false by unfold validP;rw [h3,h12,hbe,hsi];simp];exact r4))
   ·
    rw [Bool.not_eq_true] at hbe;refine Wn ?_
    refine rH [] [VEq lv,Vb true,Vb true,VEq lv,Vb false,Vb false,Vb false,VT,VT,Vb false,Vb false,VT,VT,VT,VT,Vb false,Vb false] [] [(0,VEq lv),(10,Vb false),(2,Vb false)] st2 ⟨ks,(kd1 fun _ _ _ h _ X0=>cNumeric X0 (VSv_later hS h.k.below)),ks,ks,(kd1 fun _ _ _ h _ X0=>cBentV X0 (VSv_later hS h.k.below) (by omega) (by omega) (by omega) hbe),ks,ks,ks,ks,ks,ks,ks,ks,ks,ks,ks,ks,trivial⟩ fun a3 w3 st3=>Wn ?_
    exact wp_ret (rS 2 (Vb false) st3 fun vr r4=>(by rw [show validP vs=false by unfold validP;rw [h3,h12,hbe];simp];exact r4))
def convexP (vs:List P2):Bool:=validP vs && decide (∀k∈List.range vs.length,¬tn vs k<0)
theorem convex_f {vs:List P2}{j:Nat}(hj:j<=vs.length)(h:∃k∈List.range j,tn vs k<0):convexP vs=false:=by
 unfold convexP
 rw [dF (fun h2=>by
  obtain⟨k,h3,h4⟩:=h
  exact h2 k (List.mem_range.2 (Nat.lt_of_lt_of_le (List.mem_range.1 h3) hj)) h4)]
 simp
theorem convex_t {vs:List P2}(hv:validP vs=true)(h:∀k∈List.range vs.length,¬tn vs k<0):convexP vs=true:=by
 unfold convexP;rw [hv,dT h];rfl
theorem ret_plain {n:Nat}{P:Program}{fn:Func}{R:Ending->World->Prop}{a:Act}{w:World}{v:Value}(D:a.defers= [])(hr:(results fn a.tmps).run P w= .ok v w)(hR:R (.returned v) w):bodyPostM (fW none) n P fn R .ret a w:=by
 show LeavesInM (fW none) n P fn a.tmps R a.defers .returning w;rw [D];exact⟨v,hr,hR⟩
theorem validP_len {vs:List P2}(h:validP vs=true):3<=vs.length/\vs.length<=12:=by
 unfold validP at h;simp only [Bool.and_eq_true,decide_eq_true_eq] at h;exact⟨h.1,h.2.1⟩
theorem cValidV {w:World}{N:Nat}{vs:List P2}{lv v0:Value}{x:Bool}(h0:VEq lv v0 w)(hS:VSv N vs lv w)(hN1:3<=N)(hN2:N<=18)(hx:validP vs=x):Calls Tryz.prog 16 #[v0] w (RV (Vb x) w):=by
 subst hx;exact cValid6 h0 hS hN1 hN2
theorem cConvex {w:World}{N:Nat}{vs:List P2}{lv:Value}(hS:VSv N vs lv w)(hN3:3<=N:=by omega)(hN:N<=18:=by omega):Calls Tryz.prog 17 #[lv] w (RV (Vb (convexP vs)) w):=by
 have hmax:=VSv_max hS;obtain⟨p,c,hlv⟩:=VSv_slice hS;subst hlv;refine calls_of_marks Tryz.func17 rfl ?_;simp only [Tryz.ntmps17,List.size_toArray,List.length_cons,List.length_nil,Nat.reduceAdd,Nat.reduceSub,Array.replicate_succ,Array.replicate_zero,List.push_toArray,List.append_toArray,List.nil_append,List.cons_append];generalize hA:(⟨_,_⟩:Act)=a0;have st0:St w.heap.size w 12 [] [(0,VEq (.slice p vs.length c))] a0 w:=by subst hA;exact St.begin rfl rfl (Lq.2 ⟨⟨_,rfl,rfl⟩,L0⟩)
 clear hA;have hN1:1<=N:=by omega
 have hN2:N<=900:=by omega
 by_cases hva:validP vs=true
 ·
  have hvs:vs.length<=1000000:=by have:=validP_len hva;omega
  refine Wm ?_
  refine rJ [(4,1,0)] [VT] [⟨2,some 0,none,4,1,VT,VT⟩] [(0,VEq (.slice p vs.length c))] st0 ⟨ks,trivial⟩ fun a1 w1 st1=>Wm ?_
  refine rJ [(4,1,0)] [VEq (.slice p vs.length c),Vb true,Vb false] [.k 2 4 1 VT] [(0,VEq (.slice p vs.length c)),(6,Vb false)] st1 ⟨ks,(kd1 fun _ _ _ h _ X0=>cValidV X0 (VSv_later hS h.k.below) (by omega) (by omega) hva),ks,trivial⟩ fun a2 w2 st2=>Wm ?_
  refine cFI st2 ?_;refine Wm ?_
  have:Sb [(4,1,0)] (VTn (.slice p vs.length c)):=⟨(Stab_VTn (by simp) (by simp))⟩;refine rJ [(4,1,0)] [VEq (.slice p vs.length c),VTn (.slice p vs.length c)] [.k 2 4 1 VT] [(0,VEq (.slice p vs.length c)),(6,Vb false),(8,VTn (.slice p vs.length c))] st2 ⟨ks,(by exact kd1 fun _ _ _ _ v0 X0=>(by obtain rfl:v0=_:=X0;exact cTurns)),trivial⟩ ?_;intro a3 w3 st3;replace st3:St w.heap.size w 12 [.k 2 4 1 VT] [(0,VEq (.slice p vs.length c)),(6,Vb false),(8,VTn (.slice p vs.length c))] a3 w3:=st3;have hsd:=st3.sl (8,VTn (.slice p vs.length c)) (.tail _ (.tail _ (.head _)));obtain⟨g2,hg2,st3⟩:=st3.ptrB 2 rfl rfl rfl;replace st3:St w.heap.size w 12 [.k 2 4 1 VT] [(0,VEq (.slice p vs.length c)),(2,VEq (.pointer (some ⟨g2,0,none⟩)))] a3 w3:=st3.cut;refine Wm ?_
  have hn0:=st3.n;refine range_turns (n:=5) (Nf:=12) (t:=3) (N:=N) (vs:=vs) (lv:= .slice p vs.length c) (BT:=[(4,1,0)]) [.k 2 4 1 VT] [.k 2 4 1 (VC1 (Vb false))] (fun ks=>∀k∈ks,¬tn vs k<0) (fun ks=>∃k∈ks,tn vs k<0) [(0,VEq (.slice p vs.length c)),(2,VEq (.pointer (some ⟨g2,0,none⟩)))] st3 L0 hsd hS (Lq.2 ⟨⟨rfl,rfl,_,(.tail _ (.head _))⟩,L0⟩) (Lq.2 ⟨⟨rfl,rfl,_,(.tail _ (.head _))⟩,L0⟩) (Lq.2 ⟨⟨_,rfl⟩,(Lq.2 ⟨⟨_,rfl⟩,L0⟩)⟩) (by decide) (Lq.2 ⟨⟨by simp,by simp⟩,(Lq.2 ⟨⟨by simp,by simp⟩,L0⟩)⟩) (by decide) hN1 hN2 hvs (by simp) (by simp) (by simp) ?assign ?body ?done ?stop
  case assign=>
   intro l k a1 W K st1 hK;refine Wm ?_
   refine rJ [(4,1,0)] [Vi (tn vs k)] [] [(0,VEq (.slice p vs.length c)),(2,VEq (.pointer (some ⟨g2,0,none⟩))),(3,Vi (tn vs k))] st1 ⟨ks,trivial⟩ ?_;intro a2 w2 st2;exact hK _ _ st2.cut
  case body=>
   intro l k xs a1 W st11 hF;replace st11:St w.heap.size w 12 [.k 2 4 1 VT] [(3,Vi (tn vs k)),(9,VKR w3.heap.size [(4,1,0)] W),(0,VEq (.slice p vs.length c)),(2,VEq (.pointer (some ⟨g2,0,none⟩)))] a1 W:=st11;by_cases hcc:tn vs k<0
   ·
    refine Wm ?_
    have:Sb [(4,1,0)] (VKR w3.heap.size [(4,1,0)] W):=⟨(Stab_VKR (by simp) (by simp))⟩;refine rJ [(4,1,0)] [Vi (tn vs k),Vb true] [.k 2 4 1 VT] [(3,Vi (tn vs k)),(9,VKR w3.heap.size [(4,1,0)] W),(0,VEq (.slice p vs.length c)),(2,VEq (.pointer (some ⟨g2,0,none⟩))),(11,Vb true)] st11 ⟨ks,(kr1 10 fun _ _ _ _ _ x0 X0=>⟨_,run_lssi rfl (x0.trans X0) rfl,congrArg Value.bool (dT hcc)⟩),trivial⟩ fun a12 w12 st12=>Wm ?_
    refine cTI st12 ?_;refine Wm ?_
    have:Sb [(4,1,0)] (VKR w3.heap.size [(4,1,0)] W):=⟨(Stab_VKR (by simp) (by simp))⟩;refine rJ [(4,1,0)] [VT] [⟨2,none,some 0,4,1,VC1 (Vb false),VT⟩] [(3,Vi (tn vs k)),(9,VKR w3.heap.size [(4,1,0)] W),(0,VEq (.slice p vs.length c)),(2,VEq (.pointer (some ⟨g2,0,none⟩))),(11,Vb true)] st12 ⟨(by refine k_storec_ (A:=Vb false) rfl rfl rfl rfl rfl rfl rfl rfl rfl (fun _ h=>by cases h) (fun _=>rfl) size_bool rfl (by kernel_rfl) (by kernel_rfl) (by kernel_rfl) (by kernel_rfl) (by kernel_rfl) (.inl rfl) trivial),trivial⟩ ?_;intro a13 w13 st13;refine Wm ?_
    have fin:St w.heap.size w 12 [.k 2 4 1 (VC1 (Vb false))] [(9,VKR w3.heap.size [(4,1,0)] W),(0,VEq (.slice p vs.length c)),(2,VEq (.pointer (some ⟨g2,0,none⟩)))] a13 w13:=st13.cut;exact wpIn_ret ⟨fin.cut,⟨k,by simp,hcc⟩⟩
   ·
    refine Wm ?_
    have:Sb [(4,1,0)] (VKR w3.heap.size [(4,1,0)] W):=⟨(Stab_VKR (by simp) (by simp))⟩;refine rJ [(4,1,0)] [Vi (tn vs k),Vb false] [.k 2 4 1 VT] [(3,Vi (tn vs k)),(9,VKR w3.heap.size [(4,1,0)] W),(0,VEq (.slice p vs.length c)),(2,VEq (.pointer (some ⟨g2,0,none⟩))),(11,Vb false)] st11 ⟨ks,(kr1 10 fun _ _ _ _ _ x0 X0=>⟨_,run_lssi rfl (x0.trans X0) rfl,congrArg Value.bool (dF hcc)⟩),trivial⟩ fun a12 w12 st12=>Wm ?_
    refine cFI st12 ?_;refine Wm ?_
    have fin:St w.heap.size w 12 [.k 2 4 1 VT] [(9,VKR w3.heap.size [(4,1,0)] W),(0,VEq (.slice p vs.length c)),(2,VEq (.pointer (some ⟨g2,0,none⟩)))] a12 w12:=st12.cut;refine⟨fin.cut,fun j hj=>?_⟩;rcases List.mem_append.1 hj with hj|hj
    ·exact hF j hj
    ·rw [List.mem_singleton.1 hj];exact hcc
  case stop=>
   intro D j W hD hj st1 hF hK;have hds:({a3 with defers:=[{target:= .collected D,args:=#[]}]}:Act).defers= [{target:= .collected D,args:=#[]}]:=rfl;replace st1:=(st1.addS (t:=8) (V:=VOb D) (by decide) (fun _=>hK)).undef;generalize hDa:({a3 with defers:=[{target:= .collected D,args:=#[]}]}:Act)=aD at hds ⊢;replace st1:St w.heap.size w 12 [.k 2 4 1 (VC1 (Vb false))] [(8,VOb D),(0,VEq (.slice p vs.length c)),(2,VEq (.pointer (some ⟨g2,0,none⟩)))] ⟨aD.tmps,[]⟩ W:=by rw [<-hDa];exact st1
   clear hDa;refine Wm ?_
   obtain⟨vo,ho1,ho2⟩:=st1.sl (8,VOb D) (lS_mem rfl);have stX:=St.grown (st1.cut (L':=[.k 2 4 1 (VC1 (Vb false))]) (SL':=[])) (grownBy_putObj' W D (.deferred none)) (fun r e=>by cases e;exact⟨Nat.le_trans hn0 hD,_,ho2,rfl⟩);obtain⟨g,cs,r1,r2,r3,r4,r5⟩:=stX.res (.k 2 4 1 (VC1 (Vb false))) (.head _) rfl rfl;obtain⟨x,hx,r4⟩:=r4;cases hx;exact wpIn_ret (ret_mark hds ho2 (results_cell_one rfl _ _ g 4 _ r1 r2) ⟨_,rfl,(by rw [convex_f hj hF];exact r4),r5⟩)
  case done=>
   intro D W hD st1 hF hK;have hds:({a3 with defers:=[{target:= .collected D,args:=#[]}]}:Act).defers= [{target:= .collected D,args:=#[]}]:=rfl;replace st1:=(st1.addS (t:=8) (V:=VOb D) (by decide) (fun _=>hK)).undef;generalize hDa:({a3 with defers:=[{target:= .collected D,args:=#[]}]}:Act)=aD at hds ⊢;replace st1:St w.heap.size w 12 [.k 2 4 1 VT] [(8,VOb D),(0,VEq (.slice p vs.length c)),(2,VEq (.pointer (some ⟨g2,0,none⟩)))] ⟨aD.tmps,[]⟩ W:=by rw [<-hDa];exact st1
   clear hDa;refine Wm ?_
   have:Sb [(4,1,0)] (VOb D):=⟨(Stab_VOb (by simp))⟩;refine rgD (BT:=[(4,1,0)]) (Vl:=[VT]) (B:=[⟨2,none,some 0,4,1,VC1 (Vb true),VT⟩]) (SL':=[(8,VOb D),(0,VEq (.slice p vs.length c)),(2,VEq (.pointer (some ⟨g2,0,none⟩)))]) hds st1 ⟨?s0,trivial⟩ ?_;case s0=>refine k_storec_ (A:=Vb true) rfl rfl rfl rfl rfl rfl rfl rfl rfl (fun _ h=>by cases h) (fun _=>rfl) size_bool rfl (by kernel_rfl) (by kernel_rfl) (by kernel_rfl) (by kernel_rfl) (by kernel_rfl) (.inl rfl) trivial
   intro a2 w2 hds st2;refine Wm ?_
   obtain⟨vo,ho1,ho2⟩:=st2.sl (8,VOb D) (lS_mem rfl);have stX:=St.grown (st2.cut (L':=[.k 2 4 1 (VC1 (Vb true))]) (SL':=[])) (grownBy_putObj' w2 D (.deferred none)) (fun r e=>by cases e;exact⟨Nat.le_trans hn0 hD,_,ho2,rfl⟩);obtain⟨g,cs,r1,r2,r3,r4,r5⟩:=stX.res (.k 2 4 1 (VC1 (Vb true))) (.head _) rfl rfl;obtain⟨x,hx,r4⟩:=r4;cases hx;exact wpIn_ret (ret_mark hds ho2 (results_cell_one rfl _ _ g 4 _ r1 r2) ⟨_,rfl,(by rw [convex_t hva hF];exact r4),r5⟩)
 ·
  rw [Bool.not_eq_true] at hva;refine Wm ?_
  refine rJ [(4,1,0)] [VT] [⟨2,some 0,none,4,1,VT,VT⟩] [(0,VEq (.slice p vs.length c))] st0 ⟨ks,trivial⟩ fun a1 w1 st1=>Wm ?_
  refine rJ [(4,1,0)] [VEq (.slice p vs.length c),Vb false,Vb true] [.k 2 4 1 VT] [(0,VEq (.slice p vs.length c)),(6,Vb true)] st1 ⟨ks,(kd1 fun _ _ _ h _ X0=>cValidV X0 (VSv_later hS h.k.below) (by omega) (by omega) hva),ks,trivial⟩ fun a2 w2 st2=>Wm ?_
  refine cTI st2 ?_;refine Wm ?_
  refine rJ [(4,1,0)] [VT] [⟨2,none,some 0,4,1,VC1 (Vb false),VT⟩] [(0,VEq (.slice p vs.length c)),(6,Vb true)] st2 ⟨(by refine k_storec_ (A:=Vb false) rfl rfl rfl rfl rfl rfl rfl rfl rfl (fun _ h=>by cases h) (fun _=>rfl) size_bool rfl (by kernel_rfl) (by kernel_rfl) (by kernel_rfl) (by kernel_rfl) (by kernel_rfl) (.inl rfl) trivial),trivial⟩ ?_;intro a3 w3 st3;refine Wm ?_
  obtain⟨g,cs,r1,r2,r3,r4,r5⟩:=st3.res (.k 2 4 1 (VC1 (Vb false))) (.head _) rfl rfl;obtain⟨x,hx,r4⟩:=r4;cases hx;exact wpIn_ret (ret_plain st3.defers (results_cell_one rfl _ _ g 4 _ r1 r2) ⟨_,rfl,(by rw [show convexP vs=false by unfold convexP;rw [hva];rfl];exact r4),r5⟩)
def putP (c s x y:Rat)(a:P2):P2:=(c*a.1+ -s*a.2+x,s*a.1+c*a.2+y)
def midQ (a c:Rat):Rat:=(a+c)*Rat.divInt 1 2
theorem cR6Turned {w:World}{N:Nat}{x y:Rat}{v0:Value}(h0:Vv N x y v0 w)(hN3:3<=N:=by omega)(hN:N<=900:=by omega):Calls Tryz.prog 92 #[v0] w (RV (Vv N (-y) x) w):=by
 go_enter Tryz.func92,Tryz.ntmps92
 refine Sg 9 [(0,Vv N x y)] (Lq.2 ⟨⟨_,rfl,h0⟩,L0⟩) fun a0 st0=>Wn ?_
 refine rH [(32,8,0)] [VT,VT] [⟨1,some 0,some 0,32,8,Vv N x y,VT⟩,⟨2,some 1,none,32,8,VT,VT⟩] [] st0 ⟨ks,ks,trivial⟩ fun a1 w1 st1=>Wn ?_
 refine rH [(32,8,0)] [Vpt a1 1 4,Vq N y,Vq N (-(y)),Vpt a1 1 0,Vq N x,Vv N (-(y)) x,VT] [.k 1 32 8 (Vv N x y),⟨2,none,some 6,32,8,Vv N (-(y)) x,VT⟩] [] st1 ⟨ks,ks,(kd1 fun _ _ _ _ _ X0=>cR4Neg X0),ks,ks,(kr2 5 7 fun _ _ _ _ _ x0 X0 _ x1 X1=>build_Vec rfl x0 x1 (AggV_Vq _ _) (AggV_Vq _ _) X0 X1),ks,trivial⟩ fun a2 w2 st2=>Wn ?_
 exact wp_ret (rC 2 32 (Vv N (-(y)) x) st2 fun cs r4=>r4)
theorem cR6Middle {w:World}{N:Nat}{a b c d:Rat}{v0 v1:Value}(h0:Vv N a b v0 w)(h1:Vv N c d v1 w)(hN3:3<=N:=by omega)(hN:N<=900:=by omega):Calls Tryz.prog 30 #[v0,v1] w (RV (Vv (4*N+2) (midQ a c) (midQ b d)) w):=by
 go_enter Tryz.func30,Tryz.ntmps30
 refine Sg 10 [(0,Vv N a b),(1,Vv N c d)] (Lq.2 ⟨⟨_,rfl,h0⟩,(Lq.2 ⟨⟨_,rfl,h1⟩,L0⟩)⟩) fun a0 st0=>Wn ?_
 refine rH [(32,8,0)] [VT,VT,VT] [⟨2,some 0,some 0,32,8,Vv N a b,VT⟩,⟨3,some 1,some 1,32,8,Vv N c d,VT⟩,⟨4,some 2,none,32,8,VT,VT⟩] [] st0 ⟨ks,ks,ks,trivial⟩ fun a1 w1 st1=>Wn ?_
 refine rH [(32,8,0)] [Vv N a b,Vv N c d,Vv (N+N+1) ((a)+(c)) ((b)+(d)),Vq 3 (Rat.divInt 1 2),Vv ((max (N+N+1) 3)+(max (N+N+1) 3)) (((a)+(c))*(Rat.divInt 1 2)) (((b)+(d))*(Rat.divInt 1 2)),VT] [.k 2 32 8 (Vv N a b),.k 3 32 8 (Vv N c d),⟨4,none,some 5,32,8,Vv ((max (N+N+1) 3)+(max (N+N+1) 3)) (((a)+(c))*(Rat.divInt 1 2)) (((b)+(d))*(Rat.divInt 1 2)),VT⟩] [] st1 ⟨ks,ks,(kd2 fun _ _ _ _ _ X0 _ X1=>cR5Add X0 X1),(by refine kc fun _ A Y h D=>?_;exact⟨#[.int .i64 1,.int .i64 2],by simp [eval_const],cR4Of (show Vi 1 (.int .i64 1) Y from rfl) (show Vi 2 (.int .i64 2) Y from rfl)⟩),(kd2 fun _ _ _ _ _ X0 _ X1=>cR5Scale (Vv_le (M:=(max (N+N+1) 3)) X0 (by omega)) (Vq_le (M:=(max (N+N+1) 3)) X1 (by omega))),ks,trivial⟩ ?_;intro a2 w2 st2;refine Wn ?_
 exact wp_ret (rC 4 32 (Vv ((max (N+N+1) 3)+(max (N+N+1) 3)) (((a)+(c))*(Rat.divInt 1 2)) (((b)+(d))*(Rat.divInt 1 2))) st2 fun cs r4=>(Vv_le r4 (by omega)))
theorem cR6Corner {w:World}{N k:Nat}{vs:List P2}{lv:Value}{v0 v1:Value}(h0:VEq lv v0 w)(h1:Vi (k:Int) v1 w)(hS:VSv N vs lv w)(hn:0<vs.length:=by omega):Calls Tryz.prog 77 #[v0,v1] w (RV (Vv N (cv vs k).1 (cv vs k).2) w):=by
 go_enter Tryz.func77,Tryz.ntmps77
 refine Sg 12 [(0,VEq lv),(1,Vi (k:Int))] (Lq.2 ⟨⟨_,rfl,h0⟩,(Lq.2 ⟨⟨_,rfl,h1⟩,L0⟩)⟩) fun a0 st0=>Wn ?_
 refine rH [(32,8,0)] [VT] [⟨4,some 0,none,32,8,VT,VT⟩] [(0,VEq lv),(1,Vi (k:Int))] st0 ⟨ks,trivial⟩ ?_;intro a1 w1 st1;have hmax:=VSv_max hS;refine Wn ?_
 refine rH [(32,8,0)] [VEq lv,Vi (k:Int),VEq lv,Vi (vs.length:Int),Vi ((k % vs.length:Nat):Int),VAt w (VEp 32 8 (Vv N (cv vs k).1 (cv vs k).2)),Vv N ((cv vs k).1) ((cv vs k).2),VT] [⟨4,none,some 7,32,8,Vv N ((cv vs k).1) ((cv vs k).2),VT⟩] [] st1 ⟨ks,ks,ks,(kr1 7 fun _ _ _ _ _ x0 X0=>len_Sv rfl rfl x0 X0 hS),(kr2 6 8 fun _ _ _ _ _ x0 X0 _ x1 X1=>rem_n rfl x0 x1 X0 X1 hn),(kr2 5 9 fun _ _ _ _ _ x0 X0 _ x1 X1=>index_Sv rfl x0 X0 hS x1 X1 (cv_get k hn)),(kr1 10 fun _ _ _ h _ x0 X0=>load_EpC (w:=w) (k:=8) (A:=Vv N (cv vs k).1 (cv vs k).2) (Stab_Vv _ _ _) rfl x0 X0 h.k.below Tryz.underlying32 rfl size_Vec),ks,trivial⟩ fun a2 w2 st2=>Wn ?_
 exact wp_ret (rC 4 32 (Vv N ((cv vs k).1) ((cv vs k).2)) st2 fun cs r4=>r4)
theorem cR6Next {w:World}{N k:Nat}{vs:List P2}{lv:Value}{v0 v1:Value}(h0:VEq lv v0 w)(h1:Vi (k:Int) v1 w)(hS:VSv N vs lv w)(hk:k<vs.length:=by omega):Calls Tryz.prog 31 #[v0,v1] w (RV (Vv N (cv vs (k+1)).1 (cv vs (k+1)).2) w):=by
 go_enter Tryz.func31,Tryz.ntmps31
 refine Sg 18 [(0,VEq lv),(1,Vi (k:Int))] (Lq.2 ⟨⟨_,rfl,h0⟩,(Lq.2 ⟨⟨_,rfl,h1⟩,L0⟩)⟩) fun a0 st0=>Wn ?_
 refine rH [(32,8,0)] [VT] [⟨4,some 0,none,32,8,VT,VT⟩] [(0,VEq lv),(1,Vi (k:Int))] st0 ⟨ks,trivial⟩ ?_;intro a1 w1 st1;have hmax:=VSv_max hS;by_cases hcc:k+1<vs.length
 ·
  refine Wn ?_
  refine rH [(32,8,0)] [Vi (k:Int),Vi ((k:Int)+(1)),VEq lv,Vi (vs.length:Int),Vb true] [.k 4 32 8 VT] [(0,VEq lv),(1,Vi (k:Int)),(9,Vb true)] st1 ⟨ks,(kr1 5 fun _ _ _ _ _ x0 X0=>⟨_,run_addi rfl (x0.trans X0) rfl wO,rfl⟩),ks,(kr1 7 fun _ _ _ _ _ x0 X0=>len_Sv rfl rfl x0 X0 hS),(kr2 6 8 fun _ _ _ _ _ x0 X0 _ x1 X1=>⟨_,run_lssi rfl (x0.trans X0) (x1.trans X1),congrArg Value.bool (dT (by omega))⟩),trivial⟩ fun a2 w2 st2=>Wn ?_
  refine cT st2 ?_;have hg:vs[k+1]? =some (cv vs (k+1)):=by have:=cv_get (vs:=vs) (k+1) (by omega);rwa [Nat.mod_eq_of_lt hcc] at this
  refine Wn ?_
  refine rH [(32,8,0)] [VEq lv,Vi (k:Int),Vi ((k+1:Nat):Int),VAt w (VEp 32 8 (Vv N (cv vs (k+1)).1 (cv vs (k+1)).2)),Vv N ((cv vs (k+1)).1) ((cv vs (k+1)).2),VT] [⟨4,none,some 5,32,8,Vv N ((cv vs (k+1)).1) ((cv vs (k+1)).2),VT⟩] [(0,VEq lv),(1,Vi (k:Int)),(9,Vb true)] st2 ⟨ks,ks,(kr1 11 fun _ _ _ _ v0 x0 X0=>⟨_,run_addi rfl (x0.trans (show v0= .int .i64 (k:Int)from X0)) rfl wO,congrArg (Value.int .i64) (by omega)⟩),(kr2 10 12 fun _ _ _ _ _ x0 X0 _ x1 X1=>index_Sv rfl x0 X0 hS x1 X1 hg),(kr1 13 fun _ _ _ h _ x0 X0=>load_EpC (w:=w) (k:=8) (A:=Vv N (cv vs (k+1)).1 (cv vs (k+1)).2) (Stab_Vv _ _ _) rfl x0 X0 h.k.below Tryz.underlying32 rfl size_Vec),ks,trivial⟩ fun a3 w3 st3=>Wn ?_
  exact wp_ret (rC 4 32 (Vv N ((cv vs (k+1)).1) ((cv vs (k+1)).2)) st3 fun cs r4=>r4)
 ·
  refine Wn ?_
  refine rH [(32,8,0)] [Vi (k:Int),Vi ((k:Int)+(1)),VEq lv,Vi (vs.length:Int),Vb false] [.k 4 32 8 VT] [(0,VEq lv),(1,Vi (k:Int)),(9,Vb false)] st1 ⟨ks,(kr1 5 fun _ _ _ _ _ x0 X0=>⟨_,run_addi rfl (x0.trans X0) rfl wO,rfl⟩),ks,(kr1 7 fun _ _ _ _ _ x0 X0=>len_Sv rfl rfl x0 X0 hS),(kr2 6 8 fun _ _ _ _ _ x0 X0 _ x1 X1=>⟨_,run_lssi rfl (x0.trans X0) (x1.trans X1),congrArg Value.bool (dF (by omega))⟩),trivial⟩ fun a2 w2 st2=>Wn ?_
  refine cF st2 ?_;have hg:vs[0]? =some (cv vs (k+1)):=by have:=cv_get (vs:=vs) (k+1) (by omega);rwa [show k+1=vs.length by omega,Nat.mod_self,show vs.length=k+1 by omega] at this
  refine Wn ?_
  refine rH [(32,8,0)] [VEq lv,VAt w (VEp 32 8 (Vv N (cv vs (k+1)).1 (cv vs (k+1)).2)),Vv N ((cv vs (k+1)).1) ((cv vs (k+1)).2),VT] [⟨4,none,some 3,32,8,Vv N ((cv vs (k+1)).1) ((cv vs (k+1)).2),VT⟩] [(0,VEq lv),(1,Vi (k:Int)),(9,Vb false)] st2 ⟨ks,(kr1 15 fun _ _ _ _ _ x0 X0=>index_Sv (j:=0) rfl x0 X0 hS rfl rfl hg),(kr1 16 fun _ _ _ h _ x0 X0=>load_EpC (w:=w) (k:=8) (A:=Vv N (cv vs (k+1)).1 (cv vs (k+1)).2) (Stab_Vv _ _ _) rfl x0 X0 h.k.below Tryz.underlying32 rfl size_Vec),ks,trivial⟩ fun a3 w3 st3=>Wn ?_
  exact wp_ret (rC 4 32 (Vv N ((cv vs (k+1)).1) ((cv vs (k+1)).2)) st3 fun cs r4=>r4)
def dtP (a b:P2):Rat:=a.1*b.1+a.2*b.2
def ltQ (a b:Rat):Bool:=decide (cmpQ a b<0)
def gtQ (a b:Rat):Bool:=decide (0<cmpQ a b)
def btwB (n a b c d:P2):Bool:=(ltQ (dtP n a) (dtP n c) && (ltQ (dtP n a) (dtP n d) && (ltQ (dtP n b) (dtP n c) && ltQ (dtP n b) (dtP n d))))||(gtQ (dtP n a) (dtP n c) && (gtQ (dtP n a) (dtP n d) && (gtQ (dtP n b) (dtP n c) && gtQ (dtP n b) (dtP n d))))
theorem wp_mono' {P:Program}{Q Q':Exit->Act->World->Prop}{c:Code}{a:Act}{w:World}(h:c.wp P Q a w)(hq:∀e a w,Q e a w->Q' e a w):c.wp P Q' a w:=wp_mono h hq
theorem cR6Between {w:World}{N:Nat}{n a b c d:P2}{v0 v1 v2 v3 v4:Value}(h0:Vv N n.1 n.2 v0 w)(h1:Vv N a.1 a.2 v1 w)(h2:Vv N b.1 b.2 v2 w)(h3:Vv N c.1 c.2 v3 w)(h4:Vv N d.1 d.2 v4 w)(hN3:3<=N:=by omega)(hN:N<=900:=by omega):Calls Tryz.prog 93 #[v0,v1,v2,v3,v4] w (RV (Vb (btwB n a b c d)) w):=by
 go_enter Tryz.func93,Tryz.ntmps93
 generalize hA:(⟨_,_⟩:Act)=a0;have st0:St w.heap.size w 77 [] [(0,Vv N n.1 n.2),(1,Vv N a.1 a.2),(2,Vv N b.1 b.2),(3,Vv N c.1 c.2),(4,Vv N d.1 d.2)] a0 w:=by subst hA;exact St.begin rfl rfl (Lq.2 ⟨⟨_,rfl,h0⟩,(Lq.2 ⟨⟨_,rfl,h1⟩,(Lq.2 ⟨⟨_,rfl,h2⟩,(Lq.2 ⟨⟨_,rfl,h3⟩,(Lq.2 ⟨⟨_,rfl,h4⟩,L0⟩)⟩)⟩)⟩)⟩)
 clear hA;have hB:btwB n a b c d=((ltQ (dtP n a) (dtP n c) && (ltQ (dtP n a) (dtP n d) && (ltQ (dtP n b) (dtP n c) && ltQ (dtP n b) (dtP n d))))||(gtQ (dtP n a) (dtP n c) && (gtQ (dtP n a) (dtP n d) && (gtQ (dtP n b) (dtP n c) && gtQ (dtP n b) (dtP n d))))):=rfl;refine Wn ?_
 refine rH [(30,4,0)] [VT,VT,VT,VT,VT,Vb false] [⟨5,some 0,some 0,32,8,Vv N n.1 n.2,VT⟩,⟨6,some 1,some 1,32,8,Vv N a.1 a.2,VT⟩,⟨7,some 2,some 2,32,8,Vv N b.1 b.2,VT⟩,⟨8,some 3,some 3,32,8,Vv N c.1 c.2,VT⟩,⟨9,some 4,some 4,32,8,Vv N d.1 d.2,VT⟩] [(10,Vb false)] st0 ⟨ks,ks,ks,ks,ks,ks,trivial⟩ fun a1 w1 st1=>Wn ?_
 refine rH [(30,4,0)] [Vv N n.1 n.2,Vv N a.1 a.2,Vq (4*N+1) ((n.1)*(a.1)+(n.2)*(a.2)),VT,VT] [.k 5 32 8 (Vv N n.1 n.2),.k 6 32 8 (Vv N a.1 a.2),.k 7 32 8 (Vv N b.1 b.2),.k 8 32 8 (Vv N c.1 c.2),.k 9 32 8 (Vv N d.1 d.2),⟨11,some 3,some 4,30,4,Vq (4*N+1) ((n.1)*(a.1)+(n.2)*(a.2)),VT⟩] [(10,Vb false)] st1 ⟨ks,ks,(kd2 fun _ _ _ _ _ X0 _ X1=>cR5Dot X0 X1),ks,ks,trivial⟩ fun a2 w2 st2=>Wn ?_
 refine rH [(30,4,0)] [Vv N n.1 n.2,Vv N b.1 b.2,Vq (4*N+1) ((n.1)*(b.1)+(n.2)*(b.2)),VT,VT] [.k 5 32 8 (Vv N n.1 n.2),.k 6 32 8 (Vv N a.1 a.2),.k 7 32 8 (Vv N b.1 b.2),.k 8 32 8 (Vv N c.1 c.2),.k 9 32 8 (Vv N d.1 d.2),.k 11 30 4 (Vq (4*N+1) ((n.1)*(a.1)+(n.2)*(a.2))),⟨12,some 3,some 4,30,4,Vq (4*N+1) ((n.1)*(b.1)+(n.2)*(b.2)),VT⟩] [(10,Vb false)] st2 ⟨ks,ks,(kd2 fun _ _ _ _ _ X0 _ X1=>cR5Dot X0 X1),ks,ks,trivial⟩ fun a3 w3 st3=>Wn ?_
 refine rH [(30,4,0)] [Vv N n.1 n.2,Vv N c.1 c.2,Vq (4*N+1) ((n.1)*(c.1)+(n.2)*(c.2)),VT,VT] [.k 5 32 8 (Vv N n.1 n.2),.k 6 32 8 (Vv N a.1 a.2),.k 7 32 8 (Vv N b.1 b.2),.k 8 32 8 (Vv N c.1 c.2),.k 9 32 8 (Vv N d.1 d.2),.k 11 30 4 (Vq (4*N+1) ((n.1)*(a.1)+(n.2)*(a.2))),.k 12 30 4 (Vq (4*N+1) ((n.1)*(b.1)+(n.2)*(b.2))),⟨13,some 3,some 4,30,4,Vq (4*N+1) ((n.1)*(c.1)+(n.2)*(c.2)),VT⟩] [(10,Vb false)] st3 ⟨ks,ks,(kd2 fun _ _ _ _ _ X0 _ X1=>cR5Dot X0 X1),ks,ks,trivial⟩ fun a4 w4 st4=>Wn ?_
 refine rH [(30,4,0)] [Vv N n.1 n.2,Vv N d.1 d.2,Vq (4*N+1) ((n.1)*(d.1)+(n.2)*(d.2)),VT,VT] [.k 5 32 8 (Vv N n.1 n.2),.k 6 32 8 (Vv N a.1 a.2),.k 7 32 8 (Vv N b.1 b.2),.k 8 32 8 (Vv N c.1 c.2),.k 9 32 8 (Vv N d.1 d.2),.k 11 30 4 (Vq (4*N+1) ((n.1)*(a.1)+(n.2)*(a.2))),.k 12 30 4 (Vq (4*N+1) ((n.1)*(b.1)+(n.2)*(b.2))),.k 13 30 4 (Vq (4*N+1) ((n.1)*(c.1)+(n.2)*(c.2))),⟨14,some 3,some 4,30,4,Vq (4*N+1) ((n.1)*(d.1)+(n.2)*(d.2)),VT⟩] [(10,Vb false)] st4 ⟨ks,ks,(kd2 fun _ _ _ _ _ X0 _ X1=>cR5Dot X0 X1),ks,ks,trivial⟩ ?_;intro a5 w5 st5;replace st5:St w.heap.size w 77 [.k 11 30 4 (Vq (4*N+1) (dtP n a)),.k 12 30 4 (Vq (4*N+1) (dtP n b)),.k 13 30 4 (Vq (4*N+1) (dtP n c)),.k 14 30 4 (Vq (4*N+1) (dtP n d))] [] a5 w5:=st5.cut;generalize dtP n a=pA at*
 generalize dtP n b=pB at*
 generalize dtP n c=pC at*
 generalize dtP n d=pD at*
 refine Wn ?_
 refine wp_mono' (Q:=fun e aX wX=>e= .normal/\St w.heap.size w 77 [.k 11 30 4 (Vq (4*N+1) pA),.k 12 30 4 (Vq (4*N+1) pB),.k 13 30 4 (Vq (4*N+1) pC),.k 14 30 4 (Vq (4*N+1) pD)] [(15,Vb (ltQ pA pC && (ltQ pA pD && (ltQ pB pC && (ltQ pB pD)))))] aX wX) ?r5 ?_
 case r5=>
  by_cases hc0:cmpQ pA pC<0
  ·
   by_cases hc1:cmpQ pA pD<0
   ·
    by_cases hc2:cmpQ pB pC<0
    ·
     by_cases hc3:cmpQ pB pD<0
     ·
      refine Wn ?_
      refine rH [(30,4,0)] [Vq (4*N+1) pA,Vq (4*N+1) pC,Vi (cmpQ pA pC),Vb true,Vb true,Vq (4*N+1) pA,Vq (4*N+1) pD,Vi (cmpQ pA pD),Vb true,Vb true,Vb true,Vq (4*N+1) pB,Vq (4*N+1) pC,Vi (cmpQ pB pC),Vb true,Vb true,Vb true,Vq (4*N+1) pB,Vq (4*N+1) pD,Vi (cmpQ pB pD),Vb true,Vb true,Vb true] [.k 11 30 4 (Vq (4*N+1) pA),.k 12 30 4 (Vq (4*N+1) pB),.k 13 30 4 (Vq (4*N+1) pC),.k 14 30 4 (Vq (4*N+1) pD)] [(15,Vb true)] st5 ⟨ks,ks,(kd2 fun _ _ _ _ _ X0 _ X1=>cR4Compare X0 X1),(kr1 31 fun _ _ _ _ _ x0 X0=>⟨_,run_lssi rfl (x0.trans X0) rfl,congrArg Value.bool (dT hc0)⟩),ks,ks,ks,(kd2 fun _ _ _ _ _ X0 _ X1=>cR4Compare X0 X1),(kr1 36 fun _ _ _ _ _ x0 X0=>⟨_,run_lssi rfl (x0.trans X0) rfl,congrArg Value.bool (dT hc1)⟩),ks,ks,ks,ks,(kd2 fun _ _ _ _ _ X0 _ X1=>cR4Compare X0 X1),(kr1 42 fun _ _ _ _ _ x0 X0=>⟨_,run_lssi rfl (x0.trans X0) rfl,congrArg Value.bool (dT hc2)⟩),ks,ks,ks,ks,(kd2 fun _ _ _ _ _ X0 _ X1=>cR4Compare X0 X1),(kr1 48 fun _ _ _ _ _ x0 X0=>⟨_,run_lssi rfl (x0.trans X0) rfl,congrArg Value.bool (dT hc3)⟩),ks,ks,trivial⟩ ?_;intro a6 w6 st6;have hv:(ltQ pA pC && (ltQ pA pD && (ltQ pB pC && (ltQ pB pD))))=true:=by rw [show ltQ pA pC=true from dT hc0,show ltQ pA pD=true from dT hc1,show ltQ pB pC=true from dT hc2,show ltQ pB pD=true from dT hc3];simp
      exact⟨rfl,by rw [hv];exact st6.cut⟩
     ·
      refine Wn ?_
      refine rH [(30,4,0)] [Vq (4*N+1) pA,Vq (4*N+1) pC,Vi (cmpQ pA pC),Vb true,Vb true,Vq (4*N+1) pA,Vq (4*N+1) pD,Vi (cmpQ pA pD),Vb true,Vb true,Vb true,Vq (4*N+1) pB,Vq (4*N+1) pC,Vi (cmpQ pB pC),Vb true,Vb true,Vb true,Vq (4*N+1) pB,Vq (4*N+1) pD,Vi (cmpQ pB pD),Vb false,Vb false,Vb false] [.k 11 30 4 (Vq (4*N+1) pA),.k 12 30 4 (Vq (4*N+1) pB),.k 13 30 4 (Vq (4*N+1) pC),.k 14 30 4 (Vq (4*N+1) pD)] [(15,Vb false)] st5 ⟨ks,ks,(kd2 fun _ _ _ _ _ X0 _ X1=>cR4Compare X0 X1),(kr1 31 fun _ _ _ _ _ x0 X0=>⟨_,run_lssi rfl (x0.trans X0) rfl,congrArg Value.bool (dT hc0)⟩),ks,ks,ks,(kd2 fun _ _ _ _ _ X0 _ X1=>cR4Compare X0 X1),(kr1 36 fun _ _ _ _ _ x0 X0=>⟨_,run_lssi rfl (x0.trans X0) rfl,congrArg Value.bool (dT hc1)⟩),ks,ks,ks,ks,(kd2 fun _ _ _ _ _ X0 _ X1=>cR4Compare X0 X1),(kr1 42 fun _ _ _ _ _ x0 X0=>⟨_,run_lssi rfl (x0.trans X0) rfl,congrArg Value.bool (dT hc2)⟩),ks,ks,ks,ks,(kd2 fun _ _ _ _ _ X0 _ X1=>cR4Compare X0 X1),(kr1 48 fun _ _ _ _ _ x0 X0=>⟨_,run_lssi rfl (x0.trans X0) rfl,congrArg Value.bool (dF hc3)⟩),ks,ks,trivial⟩ ?_;intro a6 w6 st6;have hv:(ltQ pA pC && (ltQ pA pD && (ltQ pB pC && (ltQ pB pD))))=false:=by rw [show ltQ pA pC=true from dT hc0,show ltQ pA pD=true from dT hc1,show ltQ pB pC=true from dT hc2,show ltQ pB pD=false from dF hc3];simp
      exact⟨rfl,by rw [hv];exact st6.cut⟩
    ·
     refine Wn ?_
     refine rH [(30,4,0)] [Vq (4*N+1) pA,Vq (4*N+1) pC,Vi (cmpQ pA pC),Vb true,Vb true,Vq (4*N+1) pA,Vq (4*N+1) pD,Vi (cmpQ pA pD),Vb true,Vb true,Vb true,Vq (4*N+1) pB,Vq (4*N+1) pC,Vi (cmpQ pB pC),Vb false,Vb false,Vb false,VT,VT,VT,VT,Vb false,Vb false] [.k 11 30 4 (Vq (4*N+1) pA),.k 12 30 4 (Vq (4*N+1) pB),.k 13 30 4 (Vq (4*N+1) pC),.k 14 30 4 (Vq (4*N+1) pD)] [(15,Vb false)] st5 ⟨ks,ks,(kd2 fun _ _ _ _ _ X0 _ X1=>cR4Compare X0 X1),(kr1 31 fun _ _ _ _ _ x0 X0=>⟨_,run_lssi rfl (x0.trans X0) rfl,congrArg Value.bool (dT hc0)⟩),ks,ks,ks,(kd2 fun _ _ _ _ _ X0 _ X1=>cR4Compare X0 X1),(kr1 36 fun _ _ _ _ _ x0 X0=>⟨_,run_lssi rfl (x0.trans X0) rfl,congrArg Value.bool (dT hc1)⟩),ks,ks,ks,ks,(kd2 fun _ _ _ _ _ X0 _ X1=>cR4Compare X0 X1),(kr1 42 fun _ _ _ _ _ x0 X0=>⟨_,run_lssi rfl (x0.trans X0) rfl,congrArg Value.bool (dF hc2)⟩),ks,ks,ks,ks,ks,ks,ks,ks,trivial⟩ ?_;intro a6 w6 st6;have hv:(ltQ pA pC && (ltQ pA pD && (ltQ pB pC && (ltQ pB pD))))=false:=by rw [show ltQ pA pC=true from dT hc0,show ltQ pA pD=true from dT hc1,show ltQ pB pC=false from dF hc2];simp
     exact⟨rfl,by rw [hv];exact st6.cut⟩
   ·
    refine Wn ?_
    refine rH [(30,4,0)] [Vq (4*N+1) pA,Vq (4*N+1) pC,Vi (cmpQ pA pC),Vb true,Vb true,Vq (4*N+1) pA,Vq (4*N+1) pD,Vi (cmpQ pA pD),Vb false,Vb false,Vb false,VT,VT,VT,VT,Vb false,Vb false,VT,VT,VT,VT,Vb false,Vb false] [.k 11 30 4 (Vq (4*N+1) pA),.k 12 30 4 (Vq (4*N+1) pB),.k 13 30 4 (Vq (4*N+1) pC),.k 14 30 4 (Vq (4*N+1) pD)] [(15,Vb false)] st5 ⟨ks,ks,(kd2 fun _ _ _ _ _ X0 _ X1=>cR4Compare X0 X1),(kr1 31 fun _ _ _ _ _ x0 X0=>⟨_,run_lssi rfl (x0.trans X0) rfl,congrArg Value.bool (dT hc0)⟩),ks,ks,ks,(kd2 fun _ _ _ _ _ X0 _ X1=>cR4Compare X0 X1),(kr1 36 fun _ _ _ _ _ x0 X0=>⟨_,run_lssi rfl (x0.trans X0) rfl,congrArg Value.bool (dF hc1)⟩),ks,ks,ks,ks,ks,ks,ks,ks,ks,ks,ks,ks,ks,ks,trivial⟩ ?_;intro a6 w6 st6;have hv:(ltQ pA pC && (ltQ pA pD && (ltQ pB pC && (ltQ pB pD))))=false:=by rw [show ltQ pA pC=true from dT hc0,show ltQ pA pD=false from dF hc1];simp
    exact⟨rfl,by rw [hv];exact st6.cut⟩
  ·
   refine Wn ?_
   refine rH [(30,4,0)] [Vq (4*N+1) pA,Vq (4*N+1) pC,Vi (cmpQ pA pC),Vb false,Vb false,VT,VT,VT,VT,Vb false,Vb false,VT,VT,VT,VT,Vb false,Vb false,VT,VT,VT,VT,Vb false,Vb false] [.k 11 30 4 (Vq (4*N+1) pA),.k 12 30 4 (Vq (4*N+1) pB),.k 13 30 4 (Vq (4*N+1) pC),.k 14 30 4 (Vq (4*N+1) pD)] [(15,Vb false)] st5 ⟨ks,ks,(kd2 fun _ _ _ _ _ X0 _ X1=>cR4Compare X0 X1),(kr1 31 fun _ _ _ _ _ x0 X0=>⟨_,run_lssi rfl (x0.trans X0) rfl,congrArg Value.bool (dF hc0)⟩),ks,ks,ks,ks,ks,ks,ks,ks,ks,ks,ks,ks,ks,ks,ks,ks,ks,ks,ks,trivial⟩ ?_;intro a6 w6 st6;have hv:(ltQ pA pC && (ltQ pA pD && (ltQ pB pC && (ltQ pB pD))))=false:=by rw [show ltQ pA pC=false from dF hc0];simp
   exact⟨rfl,by rw [hv];exact st6.cut⟩
 rintro _ a6x w6x ⟨rfl,st6⟩
 clear st5;refine Wn ?_
 refine wp_mono' (Q:=fun e aX wX=>e= .normal/\St w.heap.size w 77 [.k 11 30 4 (Vq (4*N+1) pA),.k 12 30 4 (Vq (4*N+1) pB),.k 13 30 4 (Vq (4*N+1) pC),.k 14 30 4 (Vq (4*N+1) pD)] [(15,Vb (ltQ pA pC && (ltQ pA pD && (ltQ pB pC && (ltQ pB pD))))),(16,Vb (gtQ pA pC && (gtQ pA pD && (gtQ pB pC && (gtQ pB pD)))))] aX wX) ?r6 ?_
 case r6=>
  by_cases hc0:0<cmpQ pA pC
  ·
   by_cases hc1:0<cmpQ pA pD
   ·
    by_cases hc2:0<cmpQ pB pC
    ·
     by_cases hc3:0<cmpQ pB pD
     ·
      refine Wn ?_
      refine rH [(30,4,0)] [Vq (4*N+1) pA,Vq (4*N+1) pC,Vi (cmpQ pA pC),Vb true,Vb true,Vq (4*N+1) pA,Vq (4*N+1) pD,Vi (cmpQ pA pD),Vb true,Vb true,Vb true,Vq (4*N+1) pB,Vq (4*N+1) pC,Vi (cmpQ pB pC),Vb true,Vb true,Vb true,Vq (4*N+1) pB,Vq (4*N+1) pD,Vi (cmpQ pB pD),Vb true,Vb true,Vb true] [.k 11 30 4 (Vq (4*N+1) pA),.k 12 30 4 (Vq (4*N+1) pB),.k 13 30 4 (Vq (4*N+1) pC),.k 14 30 4 (Vq (4*N+1) pD)] [(15,Vb (ltQ pA pC && (ltQ pA pD && (ltQ pB pC && (ltQ pB pD))))),(16,Vb true)] st6 ⟨ks,ks,(kd2 fun _ _ _ _ _ X0 _ X1=>cR4Compare X0 X1),(kr1 53 fun _ _ _ _ _ x0 X0=>⟨_,run_gtri rfl (x0.trans X0) rfl,congrArg Value.bool (dT hc0)⟩),ks,ks,ks,(kd2 fun _ _ _ _ _ X0 _ X1=>cR4Compare X0 X1),(kr1 58 fun _ _ _ _ _ x0 X0=>⟨_,run_gtri rfl (x0.trans X0) rfl,congrArg Value.bool (dT hc1)⟩),ks,ks,ks,ks,(kd2 fun _ _ _ _ _ X0 _ X1=>cR4Compare X0 X1),(kr1 64 fun _ _ _ _ _ x0 X0=>⟨_,run_gtri rfl (x0.trans X0) rfl,congrArg Value.bool (dT hc2)⟩),ks,ks,ks,ks,(kd2 fun _ _ _ _ _ X0 _ X1=>cR4Compare X0 X1),(kr1 70 fun _ _ _ _ _ x0 X0=>⟨_,run_gtri rfl (x0.trans X0) rfl,congrArg Value.bool (dT hc3)⟩),ks,ks,trivial⟩ ?_;intro a7 w7 st7;have hv:(gtQ pA pC && (gtQ pA pD && (gtQ pB pC && (gtQ pB pD))))=true:=by rw [show gtQ pA pC=true from dT hc0,show gtQ pA pD=true from dT hc1,show gtQ pB pC=true from dT hc2,show gtQ pB pD=true from dT hc3];simp
      exact⟨rfl,by rw [hv];exact st7.cut⟩
     ·
      refine Wn ?_
      refine rH [(30,4,0)] [Vq (4*N+1) pA,Vq (4*N+1) pC,Vi (cmpQ pA pC),Vb true,Vb true,Vq (4*N+1) pA,Vq (4*N+1) pD,Vi (cmpQ pA pD),Vb true,Vb true,Vb true,Vq (4*N+1) pB,Vq (4*N+1) pC,Vi (cmpQ pB pC),Vb true,Vb true,Vb true,Vq (4*N+1) pB,Vq (4*N+1) pD,Vi (cmpQ pB pD),Vb false,Vb false,Vb false] [.k 11 30 4 (Vq (4*N+1) pA),.k 12 30 4 (Vq (4*N+1) pB),.k 13 30 4 (Vq (4*N+1) pC),.k 14 30 4 (Vq (4*N+1) pD)] [(15,Vb (ltQ pA pC && (ltQ pA pD && (ltQ pB pC && (ltQ pB pD))))),(16,Vb false)] st6 ⟨ks,ks,(kd2 fun _ _ _ _ _ X0 _ X1=>cR4Compare X0 X1),(kr1 53 fun _ _ _ _ _ x0 X0=>⟨_,run_gtri rfl (x0.trans X0) rfl,congrArg Value.bool (dT hc0)⟩),ks,ks,ks,(kd2 fun _ _ _ _ _ X0 _ X1=>cR4Compare X0 X1),(kr1 58 fun _ _ _ _ _ x0 X0=>⟨_,run_gtri rfl (x0.trans X0) rfl,congrArg Value.bool (dT hc1)⟩),ks,ks,ks,ks,(kd2 fun _ _ _ _ _ X0 _ X1=>cR4Compare X0 X1),(kr1 64 fun _ _ _ _ _ x0 X0=>⟨_,run_gtri rfl (x0.trans X0) rfl,congrArg Value.bool (dT hc2)⟩),ks,ks,ks,ks,(kd2 fun _ _ _ _ _ X0 _ X1=>cR4Compare X0 X1),(kr1 70 fun _ _ _ _ _ x0 X0=>⟨_,run_gtri rfl (x0.trans X0) rfl,congrArg Value.bool (dF hc3)⟩),ks,ks,trivial⟩ ?_;intro a7 w7 st7;have hv:(gtQ pA pC && (gtQ pA pD && (gtQ pB pC && (gtQ pB pD))))=false:=by rw [show gtQ pA pC=true from dT hc0,show gtQ pA pD=true from dT hc1,show gtQ pB pC=true from dT hc2,show gtQ pB pD=false from dF hc3];simp
      exact⟨rfl,by rw [hv];exact st7.cut⟩
    ·
     refine Wn ?_
     refine rH [(30,4,0)] [Vq (4*N+1) pA,Vq (4*N+1) pC,Vi (cmpQ pA pC),Vb true,Vb true,Vq (4*N+1) pA,Vq (4*N+1) pD,Vi (cmpQ pA pD),Vb true,Vb true,Vb true,Vq (4*N+1) pB,Vq (4*N+1) pC,Vi (cmpQ pB pC),Vb false,Vb false,Vb false,VT,VT,VT,VT,Vb false,Vb false] [.k 11 30 4 (Vq (4*N+1) pA),.k 12 30 4 (Vq (4*N+1) pB),.k 13 30 4 (Vq (4*N+1) pC),.k 14 30 4 (Vq (4*N+1) pD)] [(15,Vb (ltQ pA pC && (ltQ pA pD && (ltQ pB pC && (ltQ pB pD))))),(16,Vb false)] st6 ⟨ks,ks,(kd2 fun _ _ _ _ _ X0 _ X1=>cR4Compare X0 X1),(kr1 53 fun _ _ _ _ _ x0 X0=>⟨_,run_gtri rfl (x0.trans X0) rfl,congrArg Value.bool (dT hc0)⟩),ks,ks,ks,(kd2 fun _ _ _ _ _ X0 _ X1=>cR4Compare X0 X1),(kr1 58 fun _ _ _ _ _ x0 X0=>⟨_,run_gtri rfl (x0.trans X0) rfl,congrArg Value.bool (dT hc1)⟩),ks,ks,ks,ks,(kd2 fun _ _ _ _ _ X0 _ X1=>cR4Compare X0 X1),(kr1 64 fun _ _ _ _ _ x0 X0=>⟨_,run_gtri rfl (x0.trans X0) rfl,congrArg Value.bool (dF hc2)⟩),ks,ks,ks,ks,ks,ks,ks,ks,trivial⟩ ?_;intro a7 w7 st7;have hv:(gtQ pA pC && (gtQ pA pD && (gtQ pB pC && (gtQ pB pD))))=false:=by rw [show gtQ pA pC=true from dT hc0,show gtQ pA pD=true from dT hc1,show gtQ pB pC=false from dF hc2];simp
     exact⟨rfl,by rw [hv];exact st7.cut⟩
   ·
    refine Wn ?_
    refine rH [(30,4,0)] [Vq (4*N+1) pA,Vq (4*N+1) pC,Vi (cmpQ pA pC),Vb true,Vb true,Vq (4*N+1) pA,Vq (4*N+1) pD,Vi (cmpQ pA pD),Vb false,Vb false,Vb false,VT,VT,VT,VT,Vb false,Vb false,VT,VT,VT,VT,Vb false,Vb false] [.k 11 30 4 (Vq (4*N+1) pA),.k 12 30 4 (Vq (4*N+1) pB),.k 13 30 4 (Vq (4*N+1) pC),.k 14 30 4 (Vq (4*N+1) pD)] [(15,Vb (ltQ pA pC && (ltQ pA pD && (ltQ pB pC && (ltQ pB pD))))),(16,Vb false)] st6 ⟨ks,ks,(kd2 fun _ _ _ _ _ X0 _ X1=>cR4Compare X0 X1),(kr1 53 fun _ _ _ _ _ x0 X0=>⟨_,run_gtri rfl (x0.trans X0) rfl,congrArg Value.bool (dT hc0)⟩),ks,ks,ks,(kd2 fun _ _ _ _ _ X0 _ X1=>cR4Compare X0 X1),(kr1 58 fun _ _ _ _ _ x0 X0=>⟨_,run_gtri rfl (x0.trans X0) rfl,congrArg Value.bool (dF hc1)⟩),ks,ks,ks,ks,ks,ks,ks,ks,ks,ks,ks,ks,ks,ks,trivial⟩ ?_;intro a7 w7 st7;have hv:(gtQ pA pC && (gtQ pA pD && (gtQ pB pC && (gtQ pB pD))))=false:=by rw [show gtQ pA pC=true from dT hc0,show gtQ pA pD=false from dF hc1];simp
    exact⟨rfl,by rw [hv];exact st7.cut⟩
  ·
   refine Wn ?_
   refine rH [(30,4,0)] [Vq (4*N+1) pA,Vq (4*N+1) pC,Vi (cmpQ pA pC),Vb false,Vb false,VT,VT,VT,VT,Vb false,Vb false,VT,VT,VT,VT,Vb false,Vb false,VT,VT,VT,VT,Vb false,Vb false] [.k 11 30 4 (Vq (4*N+1) pA),.k 12 30 4 (Vq (4*N+1) pB),.k 13 30 4 (Vq (4*N+1) pC),.k 14 30 4 (Vq (4*N+1) pD)] [(15,Vb (ltQ pA pC && (ltQ pA pD && (ltQ pB pC && (ltQ pB pD))))),(16,Vb false)] st6 ⟨ks,ks,(kd2 fun _ _ _ _ _ X0 _ X1=>cR4Compare X0 X1),(kr1 53 fun _ _ _ _ _ x0 X0=>⟨_,run_gtri rfl (x0.trans X0) rfl,congrArg Value.bool (dF hc0)⟩),ks,ks,ks,ks,ks,ks,ks,ks,ks,ks,ks,ks,ks,ks,ks,ks,ks,ks,ks,trivial⟩ ?_;intro a7 w7 st7;have hv:(gtQ pA pC && (gtQ pA pD && (gtQ pB pC && (gtQ pB pD))))=false:=by rw [show gtQ pA pC=false from dF hc0];simp
   exact⟨rfl,by rw [hv];exact st7.cut⟩
 rintro _ a7x w7x ⟨rfl,st7⟩
 clear st6;generalize(ltQ pA pC && (ltQ pA pD && (ltQ pB pC && (ltQ pB pD))))=x15 at st7 hB;generalize(gtQ pA pC && (gtQ pA pD && (gtQ pB pC && (gtQ pB pD))))=x16 at st7 hB;cases h15:x15<;>cases h16:x16
 ·
  subst h15 h16;refine Wn ?_
  refine rH [(30,4,0)] [Vb false,Vb false,Vb false,Vb false,Vb false] [.k 11 30 4 (Vq (4*N+1) pA),.k 12 30 4 (Vq (4*N+1) pB),.k 13 30 4 (Vq (4*N+1) pC),.k 14 30 4 (Vq (4*N+1) pD)] [(10,Vb false)] st7 ⟨ks,ks,ks,ks,ks,trivial⟩ fun a8 w8 st8=>Wn ?_
  exact wp_ret (rS 10 (Vb false) st8 fun vr r4=>(by rw [show btwB n a b c d=false from hB];exact r4))
 ·
  subst h15 h16;refine Wn ?_
  refine rH [(30,4,0)] [Vb false,Vb false,Vb true,Vb true,Vb true] [.k 11 30 4 (Vq (4*N+1) pA),.k 12 30 4 (Vq (4*N+1) pB),.k 13 30 4 (Vq (4*N+1) pC),.k 14 30 4 (Vq (4*N+1) pD)] [(10,Vb true)] st7 ⟨ks,ks,ks,ks,ks,trivial⟩ fun a8 w8 st8=>Wn ?_
  exact wp_ret (rS 10 (Vb true) st8 fun vr r4=>(by rw [show btwB n a b c d=true from hB];exact r4))
 ·
  subst h15 h16;refine Wn ?_
  refine rH [(30,4,0)] [Vb true,Vb true,VT,Vb true,Vb true] [.k 11 30 4 (Vq (4*N+1) pA),.k 12 30 4 (Vq (4*N+1) pB),.k 13 30 4 (Vq (4*N+1) pC),.k 14 30 4 (Vq (4*N+1) pD)] [(10,Vb true)] st7 ⟨ks,ks,ks,ks,ks,trivial⟩ fun a8 w8 st8=>Wn ?_
  exact wp_ret (rS 10 (Vb true) st8 fun vr r4=>(by rw [show btwB n a b c d=true from hB];exact r4))
 ·
  subst h15 h16;refine Wn ?_
  refine rH [(30,4,0)] [Vb true,Vb true,VT,Vb true,Vb true] [.k 11 30 4 (Vq (4*N+1) pA),.k 12 30 4 (Vq (4*N+1) pB),.k 13 30 4 (Vq (4*N+1) pC),.k 14 30 4 (Vq (4*N+1) pD)] [(10,Vb true)] st7 ⟨ks,ks,ks,ks,ks,trivial⟩ fun a8 w8 st8=>Wn ?_
  exact wp_ret (rS 10 (Vb true) st8 fun vr r4=>(by rw [show btwB n a b c d=true from hB];exact r4))
theorem Stab_VSv0 {N:Nat}{vs:List P2}:Stab [] (VSv N vs):=fun _ _ _ h hr=>h.imp id fun ⟨hh,o,c,cs,e1,e2,e3,e4,e5,e6⟩=>⟨hh,o,c,cs,e1,e2,e3,(hr.row _ _ _ e4 (.inl (by simp))).trans e4,e5,fun i x hx=>Stab_Vv _ _ _ _ _ _ (e6 i x hx) hr⟩
instance {N:Nat}{vs:List P2}:Sb [] (VSv N vs):=⟨Stab_VSv0⟩
theorem Stab_VEp0 {T:TypeId}{k:Nat}{A:VP}(hA:Stab [] A):Stab [] (VEp T k A):=fun _ _ _ ⟨h,off,cs,e1,e2,e3,e4⟩ hr=>⟨h,off,cs,e1,(hr.row _ _ _ e2 (.inl (by simp))).trans e2,e3,hA _ _ _ e4 hr⟩
instance {T:TypeId}{k N:Nat}{x y:Rat}:Sb [] (VEp T k (Vv N x y)):=⟨Stab_VEp0 (Stab_Vv _ _ _)⟩
section
variable {ρ:Operand->Value}{o:Oper}{W:World}{x y:Operand}{va vb:Value}{N:Nat}{vs:List P2}
theorem len_SvC (ho:o.op= .call {callee:= .builtin .len,args:=#[x],argTypes:=#[23]})(hty:o.type=3)(hx:ρ x=va)(h:VSv N vs va W):∃v,(execOp ρ o).run Tryz.prog W= .ok (.value v) W/\Vi (vs.length:Int) v W:=len_Sv ho hty hx rfl h
theorem index_SvC {a:P2}{j:Nat}(ho:o.op= .indexAddr 23 x y)(hx:ρ x=va)(h:VSv N vs va W)(hy:ρ y=vb)(hb:Vi (j:Int) vb W)(hz:vs[j]? =some a):∃v,(execOp ρ o).run Tryz.prog W= .ok (.value v) W/\VEp 32 8 (Vv N a.1 a.2) v W:=index_Sv ho hx rfl h hy hb hz
theorem load_EpW {a:P2}(ho:o.op= .load 32 x)(hx:ρ x=va)(h:VEp 32 8 (Vv N a.1 a.2) va W):∃v,(execOp ρ o).run Tryz.prog W= .ok (.value v) W/\Vv N a.1 a.2 v W:=load_EpC (w:=W) (Stab_Vv _ _ _) ho hx h (Below.refl _ _) Tryz.underlying32 rfl size_Vec
end
theorem bslice_V5 {ρ:Operand->Value}{o:Oper}{W:World}{M:Nat}{x0 x1 x2 x3 x4:Operand}{v0 v1 v2 v3 v4:Value}{d0 d1 d2 d3 d4:P2}(ho:o.op= .buildSlice 23 5 #[(0,x0),(1,x1),(2,x2),(3,x3),(4,x4)])(e0:ρ x0=v0)(e1:ρ x1=v1)(e2:ρ x2=v2)(e3:ρ x3=v3)(e4:ρ x4=v4)(h0:Vv M d0.1 d0.2 v0 W)(h1:Vv M d1.1 d1.2 v1 W)(h2:Vv M d2.1 d2.2 v2 W)(h3:Vv M d3.1 d3.2 v3 W)(h4:Vv M d4.1 d4.2 v4 W):
 ∃v w',(execOp ρ o).run Tryz.prog W= .ok (.value v) w'/\Below W.heap.size W w'/\VSv M [d0,d1,d2,d3,d4] v w':=by
 obtain⟨c0,rfl,s0,-⟩:=AggV_Vv _ _ _ _ _ h0;obtain⟨c1,rfl,s1,-⟩:=AggV_Vv _ _ _ _ _ h1;obtain⟨c2,rfl,s2,-⟩:=AggV_Vv _ _ _ _ _ h2;obtain⟨c3,rfl,s3,-⟩:=AggV_Vv _ _ _ _ _ h3;obtain⟨c4,rfl,s4,-⟩:=AggV_Vv _ _ _ _ _ h4;obtain⟨p0_0,p0_1,p0_2,p0_3,p0_4,p0_5,p0_6,p0_7,rfl⟩:=arr8 s0;obtain⟨p1_0,p1_1,p1_2,p1_3,p1_4,p1_5,p1_6,p1_7,rfl⟩:=arr8 s1;obtain⟨p2_0,p2_1,p2_2,p2_3,p2_4,p2_5,p2_6,p2_7,rfl⟩:=arr8 s2;obtain⟨p3_0,p3_1,p3_2,p3_3,p3_4,p3_5,p3_6,p3_7,rfl⟩:=arr8 s3;obtain⟨p4_0,p4_1,p4_2,p4_3,p4_4,p4_5,p4_6,p4_7,rfl⟩:=arr8 s4;have hb:=below_new W (.cells #[p0_0,p0_1,p0_2,p0_3,p0_4,p0_5,p0_6,p0_7,p1_0,p1_1,p1_2,p1_3,p1_4,p1_5,p1_6,p1_7,p2_0,p2_1,p2_2,p2_3,p2_4,p2_5,p2_6,p2_7,p3_0,p3_1,p3_2,p3_3,p3_4,p3_5,p3_6,p3_7,p4_0,p4_1,p4_2,p4_3,p4_4,p4_5,p4_6,p4_7] 32);refine⟨.slice (some ⟨W.heap.size,0,none⟩) 5 5,_,?_,hb,.inr ⟨_,0,5,_,rfl,Nat.le_refl _,by omega,heap_alloc_new _ _,Nat.le_refl _,fun i z hz=>?_⟩⟩
 ·clear h0 h1 h2 h3 h4 hb;obtain⟨dd,op,ty,ps,af,gd⟩:=o;subst ho
  go_simp
 ·match i,hz with
  |0,hz=>cases hz;exact Stab_Vv (BT:=[]) _ _ _ _ _ _ h0 (RI.of_below hb)
  |1,hz=>cases hz;exact Stab_Vv (BT:=[]) _ _ _ _ _ _ h1 (RI.of_below hb)
  |2,hz=>cases hz;exact Stab_Vv (BT:=[]) _ _ _ _ _ _ h2 (RI.of_below hb)
  |3,hz=>cases hz;exact Stab_Vv (BT:=[]) _ _ _ _ _ _ h3 (RI.of_below hb)
  |4,hz=>cases hz;exact Stab_Vv (BT:=[]) _ _ _ _ _ _ h4 (RI.of_below hb)
  |i+5,hz=>simp at hz
def sbP (a b:P2):P2:=(a.1 - b.1,a.2 - b.2)
def qtP (a:P2):P2:=(-a.2,a.1)
def dirs (a b c d:P2):List P2:=[qtP (sbP b a),qtP (sbP d c),sbP b a,sbP d c,sbP c a]
def meetsR (a b c d:P2):Bool:=decide (∀i∈List.range 5,btwB ((dirs a b c d).getD i (0,0)) a b c d=false)
theorem cBetweenM {w:World}{M N:Nat}{n a b c d:P2}{v0 v1 v2 v3 v4:Value}{x:Bool}(h0:Vv M n.1 n.2 v0 w)(h1:Vv N a.1 a.2 v1 w)(h2:Vv N b.1 b.2 v2 w)(h3:Vv N c.1 c.2 v3 w)(h4:Vv N d.1 d.2 v4 w)(hNM:N<=M)(hN3:3<=M)(hN:M<=900)(hx:btwB n a b c d=x):Calls Tryz.prog 93 #[v0,v1,v2,v3,v4] w (RV (Vb x) w):=by
 subst hx;exact cR6Between h0 (Vv_le h1 hNM) (Vv_le h2 hNM) (Vv_le h3 hNM) (Vv_le h4 hNM) hN3 hN
theorem cR6Meets {w:World}{N:Nat}{a b c d:P2}{v0 v1 v2 v3:Value}(h0:Vv N a.1 a.2 v0 w)(h1:Vv N b.1 b.2 v1 w)(h2:Vv N c.1 c.2 v2 w)(h3:Vv N d.1 d.2 v3 w)(hN3:3<=N:=by omega)(hN:N<=400:=by omega):Calls Tryz.prog 46 #[v0,v1,v2,v3] w (RV (Vb (meetsR a b c d)) w):=by
 go_enter Tryz.func46,Tryz.ntmps46
 refine Sg 44 [(0,Vv N a.1 a.2),(1,Vv N b.1 b.2),(2,Vv N c.1 c.2),(3,Vv N d.1 d.2)] (Lq.2 ⟨⟨_,rfl,h0⟩,(Lq.2 ⟨⟨_,rfl,h1⟩,(Lq.2 ⟨⟨_,rfl,h2⟩,(Lq.2 ⟨⟨_,rfl,h3⟩,L0⟩)⟩)⟩)⟩) fun a0 st0=>Wn ?_
 refine rH [(32,8,0)] [VT,VT,VT,VT,Vb false] [⟨4,some 0,some 0,32,8,Vv N a.1 a.2,VT⟩,⟨5,some 1,some 1,32,8,Vv N b.1 b.2,VT⟩,⟨6,some 2,some 2,32,8,Vv N c.1 c.2,VT⟩,⟨7,some 3,some 3,32,8,Vv N d.1 d.2,VT⟩] [(8,Vb false)] st0 ⟨ks,ks,ks,ks,ks,trivial⟩ fun a1 w1 st1=>Wn ?_
 refine rH [(32,8,0)] [Vv N b.1 b.2,Vv N a.1 a.2,Vv (N+N+1) ((b.1) - a.1) ((b.2) - a.2),VT,VT] [.k 4 32 8 (Vv N a.1 a.2),.k 5 32 8 (Vv N b.1 b.2),.k 6 32 8 (Vv N c.1 c.2),.k 7 32 8 (Vv N d.1 d.2),⟨9,some 3,some 4,32,8,Vv (N+N+1) ((b.1) - a.1) ((b.2) - a.2),VT⟩] [(8,Vb false)] st1 ⟨ks,ks,(kd2 fun _ _ _ _ _ X0 _ X1=>cR5Sub X0 X1),ks,ks,trivial⟩ fun a2 w2 st2=>Wn ?_
 refine rH [(32,8,0)] [Vv N d.1 d.2,Vv N c.1 c.2,Vv (N+N+1) ((d.1) - c.1) ((d.2) - c.2),VT,VT] [.k 4 32 8 (Vv N a.1 a.2),.k 5 32 8 (Vv N b.1 b.2),.k 6 32 8 (Vv N c.1 c.2),.k 7 32 8 (Vv N d.1 d.2),.k 9 32 8 (Vv (N+N+1) ((sbP b a).1) ((sbP b a).2)),⟨10,some 3,some 4,32,8,Vv (N+N+1) ((d.1) - c.1) ((d.2) - c.2),VT⟩] [(8,Vb false)] st2 ⟨ks,ks,(kd2 fun _ _ _ _ _ X0 _ X1=>cR5Sub X0 X1),ks,ks,trivial⟩ ?_;intro a3 w3 st3;replace st3:St w.heap.size w 44 [.k 4 32 8 (Vv N a.1 a.2),.k 5 32 8 (Vv N b.1 b.2),.k 6 32 8 (Vv N c.1 c.2),.k 7 32 8 (Vv N d.1 d.2),.k 9 32 8 (Vv (N+N+1) ((sbP b a).1) ((sbP b a).2)),.k 10 32 8 (Vv (N+N+1) ((sbP d c).1) ((sbP d c).2))] [(8,Vb false)] a3 w3:=st3;refine Wn ?_
 refine rH [] [Vv (N+N+1) ((sbP b a).1) ((sbP b a).2),Vv (N+N+1) ((qtP (sbP b a)).1) ((qtP (sbP b a)).2),Vv (N+N+1) ((sbP d c).1) ((sbP d c).2),Vv (N+N+1) ((qtP (sbP d c)).1) ((qtP (sbP d c)).2),Vv (N+N+1) ((sbP b a).1) ((sbP b a).2),Vv (N+N+1) ((sbP d c).1) ((sbP d c).2),Vv N c.1 c.2,Vv N a.1 a.2,Vv (N+N+1) ((c.1) - a.1) ((c.2) - a.2),VSv (N+N+1) (dirs a b c d),VSv (N+N+1) (dirs a b c d)] [.k 4 32 8 (Vv N a.1 a.2),.k 5 32 8 (Vv N b.1 b.2),.k 6 32 8 (Vv N c.1 c.2),.k 7 32 8 (Vv N d.1 d.2),.k 9 32 8 (Vv (N+N+1) ((sbP b a).1) ((sbP b a).2)),.k 10 32 8 (Vv (N+N+1) ((sbP d c).1) ((sbP d c).2))] [(8,Vb false),(11,VSv (N+N+1) (dirs a b c d))] st3 ⟨ks,(kd1 fun _ _ _ _ _ X0=>cR6Turned X0),ks,(kd1 fun _ _ _ _ _ X0=>cR6Turned X0),ks,ks,ks,ks,(kd2 fun _ _ _ _ _ X0 _ X1=>cR5Sub X0 X1),?s9,ks,trivial⟩ ?_
 case s9=>
  refine k_mem SbB.out (by kernel_rfl) fun _ A Y h D=>⟨trivial,?_⟩
  obtain⟨v0,x0,X0⟩:=h.dp D 20;obtain⟨v1,x1,X1⟩:=h.dp D 22;obtain⟨v2,x2,X2⟩:=h.dp D 23;obtain⟨v3,x3,X3⟩:=h.dp D 24;obtain⟨v4,x4,X4⟩:=h.dp D 27;exact bslice_V5 (M:=N+N+1) (d0:=qtP (sbP b a)) (d1:=qtP (sbP d c)) (d2:=sbP b a) (d3:=sbP d c) (d4:=sbP c a) rfl x0 x1 x2 x3 x4 X0 X1 X2 X3 X4
 intro a4 w4 st4;refine Wn ?_
 refine rH [] [Vi 0] [.k 4 32 8 (Vv N a.1 a.2),.k 5 32 8 (Vv N b.1 b.2),.k 6 32 8 (Vv N c.1 c.2),.k 7 32 8 (Vv N d.1 d.2),.k 9 32 8 (Vv (N+N+1) ((sbP b a).1) ((sbP b a).2)),.k 10 32 8 (Vv (N+N+1) ((sbP d c).1) ((sbP d c).2))] [(8,Vb false),(11,VSv (N+N+1) (dirs a b c d)),(12,Vi 0)] st4 ⟨ks,trivial⟩ ?_;intro a5 w5 st5;replace st5:St w.heap.size w 44 [.k 4 32 8 (Vv N a.1 a.2),.k 5 32 8 (Vv N b.1 b.2),.k 6 32 8 (Vv N c.1 c.2),.k 7 32 8 (Vv N d.1 d.2)] [(11,VSv (N+N+1) (dirs a b c d)),(12,Vi ((0:Nat):Int))] a5 w5:=st5.cut;refine Wn ?_
 refine wp_loop_ghost (fun m aX wX=>∃j:Nat,j+m=5/\(∀i<j,btwB ((dirs a b c d).getD i (0,0)) a b c d=false)/\St w.heap.size w 44 [.k 4 32 8 (Vv N a.1 a.2),.k 5 32 8 (Vv N b.1 b.2),.k 6 32 8 (Vv N c.1 c.2),.k 7 32 8 (Vv N d.1 d.2)] [(11,VSv (N+N+1) (dirs a b c d)),(12,Vi j)] aX wX) 5 ⟨0,by omega,fun i hi=>absurd hi (by omega),st5⟩ ?_;intro m aL wL ⟨j,hj,hpre,st5⟩;by_cases hlt:j<5
 ·
  refine Wn ?_
  refine rH [] [Vi j,VSv (N+N+1) (dirs a b c d),Vi ((5:Nat):Int),Vb true] [.k 4 32 8 (Vv N a.1 a.2),.k 5 32 8 (Vv N b.1 b.2),.k 6 32 8 (Vv N c.1 c.2),.k 7 32 8 (Vv N d.1 d.2)] [(11,VSv (N+N+1) (dirs a b c d)),(12,Vi j),(32,Vb true)] st5 ⟨ks,ks,(kr1 30 fun _ _ _ _ _ x0 X0=>len_SvC rfl rfl x0 X0),(kr2 29 31 fun _ _ _ _ _ x0 X0 _ x1 X1=>⟨_,run_lssi rfl (x0.trans X0) (x1.trans X1),congrArg Value.bool (dT (by omega))⟩),trivial⟩ fun a6 w6 st6=>Wn ?_
  refine cT st6 ?_;have hgd:(dirs a b c d)[j]? =some ((dirs a b c d).getD j (0,0)):=by rw [List.getD_eq_getElem?_getD,List.getElem?_eq_getElem (by simp [dirs];omega)];rfl
  by_cases hbt:btwB ((dirs a b c d).getD j (0,0)) a b c d=true
  ·
   refine Wn ?_
   refine rH [] [VSv (N+N+1) (dirs a b c d),Vi j,VEp 32 8 (Vv (N+N+1) ((dirs a b c d).getD j (0,0)).1 ((dirs a b c d).getD j (0,0)).2),Vv (N+N+1) (((dirs a b c d).getD j (0,0)).1) (((dirs a b c d).getD j (0,0)).2),Vv N a.1 a.2,Vv N b.1 b.2,Vv N c.1 c.2,Vv N d.1 d.2,Vb true] [.k 4 32 8 (Vv N a.1 a.2),.k 5 32 8 (Vv N b.1 b.2),.k 6 32 8 (Vv N c.1 c.2),.k 7 32 8 (Vv N d.1 d.2)] [(11,VSv (N+N+1) (dirs a b c d)),(12,Vi j),(43,Vb true)] st6 ⟨ks,ks,(kr2 35 36 fun _ _ _ _ _ x0 X0 _ x1 X1=>index_SvC rfl x0 X0 x1 X1 hgd),(kr1 37 fun _ _ _ _ _ x0 X0=>load_EpW rfl x0 X0),ks,ks,ks,ks,(by refine kc fun _ A Y h D=>?_;obtain⟨v0,x0,X0⟩:=h.dp D 38;obtain⟨v1,x1,X1⟩:=h.dp D 39;obtain⟨v2,x2,X2⟩:=h.dp D 40;obtain⟨v3,x3,X3⟩:=h.dp D 41;obtain⟨v4,x4,X4⟩:=h.dp D 42;exact⟨#[v0,v1,v2,v3,v4],by simp [x0,x1,x2,x3,x4],cBetweenM X0 X1 X2 X3 X4 (by omega) (by omega) (by omega) hbt⟩),trivial⟩ ?_;intro a7 w7 st7;refine Wn ?_
   refine cT st7 ?_;refine Wn ?_
   refine rH [] [Vb false] [.k 4 32 8 (Vv N a.1 a.2),.k 5 32 8 (Vv N b.1 b.2),.k 6 32 8 (Vv N c.1 c.2),.k 7 32 8 (Vv N d.1 d.2)] [(11,VSv (N+N+1) (dirs a b c d)),(12,Vi j),(8,Vb false)] st7 ⟨ks,trivial⟩ fun a8 w8 st8=>Wn ?_
   exact wp_ret (rS 8 (Vb false) st8 fun vr r4=>(by rw [show meetsR a b c d=false from dF fun h=>by rw [h j (List.mem_range.2 hlt)] at hbt;cases hbt];exact r4))
  ·
   rw [Bool.not_eq_true] at hbt;refine Wn ?_
   refine rH [] [VSv (N+N+1) (dirs a b c d),Vi j,VEp 32 8 (Vv (N+N+1) ((dirs a b c d).getD j (0,0)).1 ((dirs a b c d).getD j (0,0)).2),Vv (N+N+1) (((dirs a b c d).getD j (0,0)).1) (((dirs a b c d).getD j (0,0)).2),Vv N a.1 a.2,Vv N b.1 b.2,Vv N c.1 c.2,Vv N d.1 d.2,Vb false] [.k 4 32 8 (Vv N a.1 a.2),.k 5 32 8 (Vv N b.1 b.2),.k 6 32 8 (Vv N c.1 c.2),.k 7 32 8 (Vv N d.1 d.2)] [(11,VSv (N+N+1) (dirs a b c d)),(12,Vi j),(43,Vb false)] st6 ⟨ks,ks,(kr2 35 36 fun _ _ _ _ _ x0 X0 _ x1 X1=>index_SvC rfl x0 X0 x1 X1 hgd),(kr1 37 fun _ _ _ _ _ x0 X0=>load_EpW rfl x0 X0),ks,ks,ks,ks,(by refine kc fun _ A Y h D=>?_;obtain⟨v0,x0,X0⟩:=h.dp D 38;obtain⟨v1,x1,X1⟩:=h.dp D 39;obtain⟨v2,x2,X2⟩:=h.dp D 40;obtain⟨v3,x3,X3⟩:=h.dp D 41;obtain⟨v4,x4,X4⟩:=h.dp D 42;exact⟨#[v0,v1,v2,v3,v4],by simp [x0,x1,x2,x3,x4],cBetweenM X0 X1 X2 X3 X4 (by omega) (by omega) (by omega) hbt⟩),trivial⟩ ?_;intro a7 w7 st7;refine Wn ?_
   refine cF st7 ?_;refine Wn ?_
   refine rH [] [Vi j,Vi ((j+1:Nat):Int),Vi ((j+1:Nat):Int)] [.k 4 32 8 (Vv N a.1 a.2),.k 5 32 8 (Vv N b.1 b.2),.k 6 32 8 (Vv N c.1 c.2),.k 7 32 8 (Vv N d.1 d.2)] [(11,VSv (N+N+1) (dirs a b c d)),(12,Vi ((j+1:Nat):Int))] st7 ⟨?s0,(kr1 33 fun _ _ _ _ v0 x0 X0=>⟨_,run_addi rfl (x0.trans (show v0= .int .i64 j from X0)) rfl wO,congrArg (Value.int .i64) (by omega)⟩),ks,trivial⟩ ?_
   case s0=>
    refine k_run0 SbB.out (by kernel_rfl) fun listed A Y h D hnl=>⟨trivial,?_⟩
    obtain⟨v0,x0,X0⟩:=h.out0 hnl (12,Vi j) (.tail _ (.head _)) 2 (by kernel_rfl) (.inr (by kernel_rfl));exact⟨_,run_move rfl,by rw [x0];exact X0⟩
   intro a8 w8 st8;replace st8:St w.heap.size w 44 [.k 4 32 8 (Vv N a.1 a.2),.k 5 32 8 (Vv N b.1 b.2),.k 6 32 8 (Vv N c.1 c.2),.k 7 32 8 (Vv N d.1 d.2)] [(11,VSv (N+N+1) (dirs a b c d)),(12,Vi ((j+1:Nat):Int))] a8 w8:=st8;exact⟨m - 1,by omega,j+1,by omega,fun i hi=>(by rcases Nat.lt_or_ge i j with h|h;exact hpre i h;rw [show i=j by omega];exact hbt),st8.cut⟩
 ·
  refine Wn ?_
  refine rH [] [Vi j,VSv (N+N+1) (dirs a b c d),Vi ((5:Nat):Int),Vb false] [.k 4 32 8 (Vv N a.1 a.2),.k 5 32 8 (Vv N b.1 b.2),.k 6 32 8 (Vv N c.1 c.2),.k 7 32 8 (Vv N d.1 d.2)] [(11,VSv (N+N+1) (dirs a b c d)),(12,Vi j),(32,Vb false)] st5 ⟨ks,ks,(kr1 30 fun _ _ _ _ _ x0 X0=>len_SvC rfl rfl x0 X0),(kr2 29 31 fun _ _ _ _ _ x0 X0 _ x1 X1=>⟨_,run_lssi rfl (x0.trans X0) (x1.trans X1),congrArg Value.bool (dF (by omega))⟩),trivial⟩ fun a6 w6 st6=>Wn ?_
  refine cF st6 ?_;refine Wn ?_
  refine rH [] [Vb true] [.k 4 32 8 (Vv N a.1 a.2),.k 5 32 8 (Vv N b.1 b.2),.k 6 32 8 (Vv N c.1 c.2),.k 7 32 8 (Vv N d.1 d.2)] [(11,VSv (N+N+1) (dirs a b c d)),(12,Vi j),(8,Vb true)] st6 ⟨ks,trivial⟩ fun a7 w7 st7=>Wn ?_
  exact wp_ret (rS 8 (Vb true) st7 fun vr r4=>(by rw [show meetsR a b c d=true from dT fun i hi=>hpre i (by have:=List.mem_range.1 hi;omega)];exact r4))


end Go.Proofs.YteacdbgalloaiaaGreat
