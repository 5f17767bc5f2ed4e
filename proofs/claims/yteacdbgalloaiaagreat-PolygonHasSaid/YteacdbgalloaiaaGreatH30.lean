/- Contracts of the packages integer, rat, plane, polygon and their references. -/
import Derived.Test.YteacdbgalloaiaaGreatH29
set_option linter.unusedVariables false
set_option maxRecDepth 100000
set_option maxHeartbeats 6400000
namespace Go.Proofs.YteacdbgalloaiaaGreat
open Go.RowKit
open Go
def validP (vs:List P2):Bool:=decide (3<=vs.length) && (decide (vs.length<=12) && (bentP vs && (simpleP vs && decide (0<(areaQ vs).num))))
theorem cmpI_gt (z:Int):0<cmpI z 0↔0<z:=by unfold cmpI;split<;>(try split)<;>omega
theorem cBentV {w:World}{N:Nat}{vs:List P2}{lv v0:Value}{x:Bool}(h0:VEq lv v0 w)(hS:VSv N vs lv w)(hN1:1<=N)(hN2:N<=900)(hvs:vs.length<=1000000)(hx:bentP vs=x):Calls Tryz.prog 53 #[v0] w (RV (Vb x) w):=by
 obtain rfl:v0=lv:=h0;subst hx;exact cBent hS hN1 hN2 hvs
theorem cSimpleV {w:World}{N:Nat}{vs:List P2}{lv v0:Value}{x:Bool}(h0:VEq lv v0 w)(hS:VSv N vs lv w)(hN1:1<=N)(hN2:N<=900)(hx:simpleP vs=x):Calls Tryz.prog 54 #[v0] w (RV (Vb x) w):=by
 obtain rfl:v0=lv:=h0;subst hx;exact cSimple hS hN1 hN2
theorem cValid6 {w:World}{N:Nat}{vs:List P2}{lv:Value}{v0:Value}(h0:VEq (lv) v0 w)(hS:VSv N vs lv w)(hN3:3<=N:=by omega)(hN:N<=18:=by omega):Calls Tryz.prog 16 #[v0] w (RV (Vb (validP vs)) w):=by
 go_enter Tryz.func16,Tryz.ntmps16
 generalize hA:(⟨_,_⟩:Act)=a0;have st0:St w.heap.size w 27 [] [(0,VEq (lv))] a0 w:=by subst hA;exact St.begin rfl rfl (Lq.2 ⟨⟨_,rfl,h0⟩,L0⟩)
 clear hA;have hmax:=VSv_max hS;refine Wn ?_
 refine rH [] [Vb (false)] [] [(0,VEq (lv)),(2,Vb (false))] st0 ⟨ks,trivial⟩ ?_;intro a1 w1 st1;clear st0;by_cases hlt:vs.length<3
 ·
  refine Wn ?_
  refine rH [] [VEq (lv),Vi ((vs.length:Int)),Vb (true),Vb (true),VT,VT,VT,Vb (true)] [] [(0,VEq (lv)),(2,Vb (false)),(10,Vb (true))] st1 ⟨ks,(kr1 3 fun _ _ _ _ _ x0 X0=>len_Sv rfl rfl x0 X0 hS),(kr1 4 fun _ _ _ _ _ x0 X0=>⟨_,run_lssi rfl (x0.trans X0) rfl,congrArg Value.bool (dT (by omega))⟩),ks,ks,?s5,ks,ks,trivial⟩ ?_
  case s5=>
   refine k_skip SbB.out (by kernel_rfl) fun listed A Y h D=>⟨?_,trivial⟩
   obtain⟨u,hu,hy,hU⟩:=h.dep D 3 6 (by kernel_rfl) (by kernel_rfl);obtain rfl:u= .bool true:=hU;exact⟨3,false,true,rfl,hy,by decide⟩
  intro a2 w2 st2;clear st1;refine Wn ?_
  refine cT st2 ?_;refine Wn ?_
  refine rH [] [Vb (false)] [] [(0,VEq (lv)),(10,Vb (true)),(2,Vb (false))] st2 ⟨ks,trivial⟩ fun a3 w3 st3=>Wn ?_;clear st2
  exact wp_ret (rS 2 (Vb (false)) st3 fun vr r4=>(by rw [show validP vs=false by unfold validP;rw [dF (show ¬3<=vs.length by omega)];simp];exact r4))
 ·
  by_cases hgt:12<vs.length
  ·
   refine Wn ?_
   refine rH [] [VEq (lv),Vi ((vs.length:Int)),Vb (false),Vb (false),VEq (lv),Vi ((vs.length:Int)),Vb (true),Vb (true)] [] [(0,VEq (lv)),(2,Vb (false)),(10,Vb (true))] st1 ⟨ks,(kr1 3 fun _ _ _ _ _ x0 X0=>len_Sv rfl rfl x0 X0 hS),(kr1 4 fun _ _ _ _ _ x0 X0=>⟨_,run_lssi rfl (x0.trans X0) rfl,congrArg Value.bool (dF (by omega))⟩),ks,ks,(kr1 7 fun _ _ _ _ _ x0 X0=>len_Sv rfl rfl x0 X0 hS),(kr1 8 fun _ _ _ _ _ x0 X0=>⟨_,run_gtri rfl (x0.trans X0) rfl,congrArg Value.bool (dT (by omega))⟩),ks,trivial⟩ fun a2 w2 st2=>Wn ?_;clear st1
   refine cT st2 ?_;refine Wn ?_
   refine rH [] [Vb (false)] [] [(0,VEq (lv)),(10,Vb (true)),(2,Vb (false))] st2 ⟨ks,trivial⟩ fun a3 w3 st3=>Wn ?_;clear st2
   exact wp_ret (rS 2 (Vb (false)) st3 fun vr r4=>(by rw [show validP vs=false by unfold validP;rw [dF (show ¬vs.length<=12 by omega)];simp];exact r4))
  ·
   refine Wn ?_
   refine rH [] [VEq (lv),Vi ((vs.length:Int)),Vb (false),Vb (false),VEq (lv),Vi ((vs.length:Int)),Vb (false),Vb (false)] [] [(0,VEq (lv)),(2,Vb (false)),(10,Vb (false))] st1 ⟨ks,(kr1 3 fun _ _ _ _ _ x0 X0=>len_Sv rfl rfl x0 X0 hS),(kr1 4 fun _ _ _ _ _ x0 X0=>⟨_,run_lssi rfl (x0.trans X0) rfl,congrArg Value.bool (dF (by omega))⟩),ks,ks,(kr1 7 fun _ _ _ _ _ x0 X0=>len_Sv rfl rfl x0 X0 hS),(kr1 8 fun _ _ _ _ _ x0 X0=>⟨_,run_gtri rfl (x0.trans X0) rfl,congrArg Value.bool (dF (by omega))⟩),ks,trivial⟩ ?_;intro a2 w2 st2;clear st1
   have hbd:1+vs.length*(4*N+2)<=900:=by
    have:=Nat.mul_le_mul (show vs.length<=12 by omega) (show 4*N+2<=74 by omega);omega
   have h3:decide (3<=vs.length)=true:=dT (by omega);have h12:decide (vs.length<=12)=true:=dT (by omega);refine Wn ?_
   refine cF st2 ?_;by_cases hbe:bentP vs=true
   ·
    by_cases hsi:simpleP vs=true
    ·
     by_cases har:0<(areaQ vs).num
     ·
      refine Wn ?_
      refine rH [] [VEq (lv),Vb (true),Vb (true),VEq (lv),Vb (true),Vb (true),Vb (true),VEq (lv),Vb (true),Vb (true),Vb (true),VEq (lv),Vq (1+vs.length*(4*N+2)+3) (areaQ vs),Vi (cmpI (areaQ vs).num 0),Vb (true),Vb (true),Vb (true)] [] [(0,VEq (lv)),(10,Vb (false)),(2,Vb (true))] st2 ⟨ks,(kd1 fun _ _ _ h _ X0=>cNumeric X0 (VSv_later hS h.k.below)),ks,ks,(kd1 fun _ _ _ h _ X0=>cBentV X0 (VSv_later hS h.k.below) (by omega) (by omega) (by omega) hbe),ks,ks,ks,(kd1 fun _ _ _ h _ X0=>cSimpleV X0 (VSv_later hS h.k.below) (by omega) (by omega) hsi),ks,ks,ks,(kd1 fun _ _ _ h _ X0=>cArea X0 (VSv_later hS h.k.below) (by omega) hbd),(kd1 fun _ _ _ _ _ X0=>cQSign X0),(kr1 24 fun _ _ _ _ _ x0 X0=>⟨_,run_gtri rfl (x0.trans X0) rfl,congrArg Value.bool (dT ((cmpI_gt _).2 har))⟩),ks,ks,trivial⟩ fun a3 w3 st3=>Wn ?_;clear st2
      exact wp_ret (rS 2 (Vb (true)) st3 fun vr r4=>(by rw [show validP vs=true by unfold validP;rw [h3,h12,hbe,hsi,dT har];simp];exact r4))
     ·
      refine Wn ?_
      refine rH [] [VEq (lv),Vb (true),Vb (true),VEq (lv),Vb (true),Vb (true),Vb (true),VEq (lv),Vb (true),Vb (true),Vb (true),VEq (lv),Vq (1+vs.length*(4*N+2)+3) (areaQ vs),Vi (cmpI (areaQ vs).num 0),Vb (false),Vb (false),Vb (false)] [] [(0,VEq (lv)),(10,Vb (false)),(2,Vb (false))] st2 ⟨ks,(kd1 fun _ _ _ h _ X0=>cNumeric X0 (VSv_later hS h.k.below)),ks,ks,(kd1 fun _ _ _ h _ X0=>cBentV X0 (VSv_later hS h.k.below) (by omega) (by omega) (by omega) hbe),ks,ks,ks,(kd1 fun _ _ _ h _ X0=>cSimpleV X0 (VSv_later hS h.k.below) (by omega) (by omega) hsi),ks,ks,ks,(kd1 fun _ _ _ h _ X0=>cArea X0 (VSv_later hS h.k.below) (by omega) hbd),(kd1 fun _ _ _ _ _ X0=>cQSign X0),(kr1 24 fun _ _ _ h _ x0 X0=>⟨_,run_gtri rfl (x0.trans X0) rfl,congrArg Value.bool (dF (fun h=>har ((cmpI_gt _).1 h)))⟩),ks,ks,trivial⟩ fun a3 w3 st3=>Wn ?_;clear st2
      exact wp_ret (rS 2 (Vb (false)) st3 fun vr r4=>(by rw [show validP vs=false by unfold validP;rw [h3,h12,hbe,hsi,dF har];simp];exact r4))
    ·
     rw [Bool.not_eq_true] at hsi;refine Wn ?_
     refine rH [] [VEq (lv),Vb (true),Vb (true),VEq (lv),Vb (true),Vb (true),Vb (true),VEq (lv),Vb (false),Vb (false),Vb (false),VT,VT,VT,VT,Vb (false),Vb (false)] [] [(0,VEq (lv)),(10,Vb (false)),(2,Vb (false))] st2 ⟨ks,(kd1 fun _ _ _ h _ X0=>cNumeric X0 (VSv_later hS h.k.below)),ks,ks,(kd1 fun _ _ _ h _ X0=>cBentV X0 (VSv_later hS h.k.below) (by omega) (by omega) (by omega) hbe),ks,ks,ks,(kd1 fun _ _ _ h _ X0=>cSimpleV X0 (VSv_later hS h.k.below) (by omega) (by omega) hsi),ks,ks,ks,ks,ks,ks,ks,ks,trivial⟩ fun a3 w3 st3=>Wn ?_;clear st2
     exact wp_ret (rS 2 (Vb (false)) st3 fun vr r4=>(by rw [show validP vs=false by unfold validP;rw [h3,h12,hbe,hsi];simp];exact r4))
   ·
    rw [Bool.not_eq_true] at hbe;refine Wn ?_
    refine rH [] [VEq (lv),Vb (true),Vb (true),VEq (lv),Vb (false),Vb (false),Vb (false),VT,VT,Vb (false),Vb (false),VT,VT,VT,VT,Vb (false),Vb (false)] [] [(0,VEq (lv)),(10,Vb (false)),(2,Vb (false))] st2 ⟨ks,(kd1 fun _ _ _ h _ X0=>cNumeric X0 (VSv_later hS h.k.below)),ks,ks,(kd1 fun _ _ _ h _ X0=>cBentV X0 (VSv_later hS h.k.below) (by omega) (by omega) (by omega) hbe),ks,ks,ks,ks,ks,ks,ks,ks,ks,ks,ks,ks,trivial⟩ fun a3 w3 st3=>Wn ?_;clear st2
    exact wp_ret (rS 2 (Vb (false)) st3 fun vr r4=>(by rw [show validP vs=false by unfold validP;rw [h3,h12,hbe];simp];exact r4))
def convexP (vs:List P2):Bool:=validP vs && decide (∀k∈List.range vs.length,¬tn vs k<0)
theorem convex_f {vs:List P2}{j:Nat}(hj:j<=vs.length)(h:∃k∈List.range j,tn vs k<0):convexP vs=false:=by
 unfold convexP
 rw [dF (fun h2=>by
  obtain⟨k,h3,h4⟩:=h
  exact h2 k (List.mem_range.2 (Nat.lt_of_lt_of_le (List.mem_range.1 h3) hj)) h4)]
 simp
theorem convex_t {vs:List P2}(hv:validP vs=true)(h:∀k∈List.range vs.length,¬tn vs k<0):convexP vs=true:=by
 unfold convexP;rw [hv,dT h];rfl
theorem ret_plain {n:Nat}{P:Program}{fn:Func}{R:Ending->World->Prop}{a:Act}{w:World}{v:Value}(D:a.defers= [])(hr:(results fn a.tmps).run P w= .ok v w)(hR:R (.returned v) w):bodyPostM (fW none) n P fn R .ret a w:=by
 show LeavesInM (fW none) n P fn a.tmps R a.defers .returning w;rw [D];exact⟨v,hr,hR⟩
theorem validP_len {vs:List P2}(h:validP vs=true):3<=vs.length/\vs.length<=12:=by
 unfold validP at h;simp only [Bool.and_eq_true,decide_eq_true_eq] at h;exact⟨h.1,h.2.1⟩
theorem cValidV {w:World}{N:Nat}{vs:List P2}{lv v0:Value}{x:Bool}(h0:VEq lv v0 w)(hS:VSv N vs lv w)(hN1:3<=N)(hN2:N<=18)(hx:validP vs=x):Calls Tryz.prog 16 #[v0] w (RV (Vb x) w):=by
 subst hx;exact cValid6 h0 hS hN1 hN2
theorem cConvex {w:World}{N:Nat}{vs:List P2}{lv:Value}(hS:VSv N vs lv w)(hN3:3<=N:=by omega)(hN:N<=18:=by omega):Calls Tryz.prog 17 #[lv] w (RV (Vb (convexP vs)) w):=by
 have hmax:=VSv_max hS;obtain⟨p,c,hlv⟩:=VSv_slice hS;subst hlv;refine calls_of_marks Tryz.func17 rfl ?_;simp only [Tryz.ntmps17,List.size_toArray,List.length_cons,List.length_nil,Nat.reduceAdd,Nat.reduceSub,Array.replicate_succ,Array.replicate_zero,List.push_toArray,List.append_toArray,List.nil_append,List.cons_append];generalize hA:(⟨_,_⟩:Act)=a0;have st0:St w.heap.size w 12 [] [(0,VEq (.slice p vs.length c))] a0 w:=by subst hA;exact St.begin rfl rfl (Lq.2 ⟨⟨_,rfl,rfl⟩,L0⟩)
 clear hA;have hN1:1<=N:=by omega
 have hN2:N<=900:=by omega
 by_cases hva:validP vs=true
 ·
  have hvs:vs.length<=1000000:=by have:=validP_len hva;omega
  refine Wm ?_
  refine rJ [(4,1,0)] [VT] [⟨2,some 0,none,4,1,VT,VT⟩] [(0,VEq (.slice p vs.length c))] st0 ⟨ks,trivial⟩ fun a1 w1 st1=>Wm ?_;clear st0
  refine rJ [(4,1,0)] [VEq (.slice p vs.length c),Vb (true),Vb (false)] [⟨2,none,none,4,1,VT,VT⟩] [(0,VEq (.slice p vs.length c)),(6,Vb (false))] st1 ⟨ks,(kd1 fun _ _ _ h _ X0=>cValidV X0 (VSv_later hS h.k.below) (by omega) (by omega) hva),ks,trivial⟩ fun a2 w2 st2=>Wm ?_;clear st1
  refine cFI st2 ?_;refine Wm ?_
  have:Sb [(4,1,0)] (VTn (.slice p vs.length c)):=⟨(Stab_VTn (by simp) (by simp))⟩;refine rJ [(4,1,0)] [VEq (.slice p vs.length c),VTn (.slice p vs.length c)] [⟨2,none,none,4,1,VT,VT⟩] [(0,VEq (.slice p vs.length c)),(6,Vb (false)),(8,VTn (.slice p vs.length c))] st2 ⟨ks,(by exact kd1 fun _ _ _ _ v0 X0=>(by obtain rfl:v0=_:=X0;exact cTurns)),trivial⟩ ?_;intro a3 w3 st3;clear st2;replace st3:St w.heap.size w 12 [⟨2,none,none,4,1,VT,VT⟩] [(0,VEq (.slice p vs.length c)),(6,Vb (false)),(8,VTn (.slice p vs.length c))] a3 w3:=st3;have hsd:=st3.sl (8,VTn (.slice p vs.length c)) (.tail _ (.tail _ (.head _)));obtain⟨g2,hg2,st3⟩:=st3.ptrB 2 rfl rfl rfl;replace st3:St w.heap.size w 12 [⟨2,none,none,4,1,VT,VT⟩] [(0,VEq (.slice p vs.length c)),(2,VEq (.pointer (some ⟨g2,0,none⟩)))] a3 w3:=st3.cut;refine Wm ?_
  have hn0:=st3.n;refine range_turns (n:=5) (Nf:=12) (t:=3) (N:=N) (vs:=vs) (lv:= .slice p vs.length c) (BT:=[(4,1,0)]) [⟨2,none,none,4,1,VT,VT⟩] [⟨2,none,none,4,1,VC1 (Vb false),VT⟩] (fun ks=>∀k∈ks,¬tn vs k<0) (fun ks=>∃k∈ks,tn vs k<0) [(0,VEq (.slice p vs.length c)),(2,VEq (.pointer (some ⟨g2,0,none⟩)))] st3 L0 hsd hS (Lq.2 ⟨⟨rfl,rfl,_,(.tail _ (.head _))⟩,L0⟩) (Lq.2 ⟨⟨rfl,rfl,_,(.tail _ (.head _))⟩,L0⟩) (Lq.2 ⟨⟨_,rfl⟩,(Lq.2 ⟨⟨_,rfl⟩,L0⟩)⟩) (by decide) (Lq.2 ⟨⟨by simp,by simp⟩,(Lq.2 ⟨⟨by simp,by simp⟩,L0⟩)⟩) (by decide) hN1 hN2 hvs (by simp) (by simp) (by simp) ?assign ?body ?done ?stop
  case assign=>
   intro l k a1 W K st1 hK;refine Wm ?_
   refine rJ [(4,1,0)] [Vi (tn vs k)] [] [(0,VEq (.slice p vs.length c)),(2,VEq (.pointer (some ⟨g2,0,none⟩))),(3,Vi (tn vs k))] st1 ⟨ks,trivial⟩ ?_;intro a2 w2 st2;clear st1;exact hK _ _ st2.cut
  case body=>
   intro l k xs a1 W st11 hF;replace st11:St w.heap.size w 12 [⟨2,none,none,4,1,VT,VT⟩] [(3,Vi (tn vs k)),(9,VKR w3.heap.size [(4,1,0)] W),(0,VEq (.slice p vs.length c)),(2,VEq (.pointer (some ⟨g2,0,none⟩)))] a1 W:=st11;by_cases hcc:tn vs k<0
   ·
    refine Wm ?_
    have:Sb [(4,1,0)] (VKR w3.heap.size [(4,1,0)] W):=⟨(Stab_VKR (by simp) (by simp))⟩;refine rJ [(4,1,0)] [Vi (tn vs k),Vb (true)] [⟨2,none,none,4,1,VT,VT⟩] [(3,Vi (tn vs k)),(9,VKR w3.heap.size [(4,1,0)] W),(0,VEq (.slice p vs.length c)),(2,VEq (.pointer (some ⟨g2,0,none⟩))),(11,Vb (true))] st11 ⟨ks,(kr1 10 fun _ _ _ _ _ x0 X0=>⟨_,run_lssi rfl (x0.trans X0) rfl,congrArg Value.bool (dT hcc)⟩),trivial⟩ fun a12 w12 st12=>Wm ?_;clear st11
    refine cTI st12 ?_;refine Wm ?_
    have:Sb [(4,1,0)] (VKR w3.heap.size [(4,1,0)] W):=⟨(Stab_VKR (by simp) (by simp))⟩;refine rJ [(4,1,0)] [VT] [⟨2,none,some 0,4,1,VC1 (Vb false),VT⟩] [(3,Vi (tn vs k)),(9,VKR w3.heap.size [(4,1,0)] W),(0,VEq (.slice p vs.length c)),(2,VEq (.pointer (some ⟨g2,0,none⟩))),(11,Vb (true))] st12 ⟨(by refine k_storec_ (A:=Vb false) rfl rfl rfl rfl rfl rfl rfl rfl rfl (fun _ h=>by cases h) (fun _=>rfl) size_bool rfl (by kernel_rfl) (by kernel_rfl) (by kernel_rfl) (by kernel_rfl) (by kernel_rfl) (.inl rfl) trivial),trivial⟩ ?_;intro a13 w13 st13;clear st12;refine Wm ?_
    have fin:St w.heap.size w 12 [⟨2,none,none,4,1,VC1 (Vb false),VT⟩] [(9,VKR w3.heap.size [(4,1,0)] W),(0,VEq (.slice p vs.length c)),(2,VEq (.pointer (some ⟨g2,0,none⟩)))] a13 w13:=st13.cut;exact wpIn_ret ⟨fin.cut,⟨k,by simp,hcc⟩⟩
   ·
    refine Wm ?_
    have:Sb [(4,1,0)] (VKR w3.heap.size [(4,1,0)] W):=⟨(Stab_VKR (by simp) (by simp))⟩;refine rJ [(4,1,0)] [Vi (tn vs k),Vb (false)] [⟨2,none,none,4,1,VT,VT⟩] [(3,Vi (tn vs k)),(9,VKR w3.heap.size [(4,1,0)] W),(0,VEq (.slice p vs.length c)),(2,VEq (.pointer (some ⟨g2,0,none⟩))),(11,Vb (false))] st11 ⟨ks,(kr1 10 fun _ _ _ _ _ x0 X0=>⟨_,run_lssi rfl (x0.trans X0) rfl,congrArg Value.bool (dF hcc)⟩),trivial⟩ fun a12 w12 st12=>Wm ?_;clear st11
    refine cFI st12 ?_;refine Wm ?_
    have fin:St w.heap.size w 12 [⟨2,none,none,4,1,VT,VT⟩] [(9,VKR w3.heap.size [(4,1,0)] W),(0,VEq (.slice p vs.length c)),(2,VEq (.pointer (some ⟨g2,0,none⟩)))] a12 w12:=st12.cut;refine⟨fin.cut,fun j hj=>?_⟩;rcases List.mem_append.1 hj with hj|hj
    ·exact hF j hj
    ·rw [List.mem_singleton.1 hj];exact hcc
  case stop=>
   intro D j W hD hj st1 hF hK;have hds:({a3 with defers:=[{target:= .collected D,args:=#[]}]}:Act).defers= [{target:= .collected D,args:=#[]}]:=rfl;replace st1:=(st1.addS (t:=8) (V:=VOb D) (by decide) (fun _=>hK)).undef;generalize hDa:({a3 with defers:=[{target:= .collected D,args:=#[]}]}:Act)=aD at hds ⊢;replace st1:St w.heap.size w 12 [⟨2,none,none,4,1,VC1 (Vb false),VT⟩] [(8,VOb D),(0,VEq (.slice p vs.length c)),(2,VEq (.pointer (some ⟨g2,0,none⟩)))] ⟨aD.tmps,[]⟩ W:=by rw [<-hDa];exact st1
   clear hDa;refine Wm ?_
   obtain⟨vo,ho1,ho2⟩:=st1.sl (8,VOb D) (lS_mem rfl);have stX:=St.grown (st1.cut (L':=[⟨2,none,none,4,1,VC1 (Vb false),VT⟩]) (SL':=[])) (grownBy_putObj' W D (.deferred none)) (fun r e=>by cases e;exact⟨Nat.le_trans hn0 hD,_,ho2,rfl⟩);obtain⟨g,cs,r1,r2,r3,r4,r5⟩:=stX.res ⟨2,none,none,4,1,VC1 (Vb false),VT⟩ (.head _) rfl rfl;obtain⟨x,hx,r4⟩:=r4;cases hx;exact wpIn_ret (ret_mark hds ho2 (results_cell_one rfl _ _ g 4 _ r1 r2) ⟨_,rfl,(by rw [convex_f hj hF];exact r4),r5⟩)
  case done=>
   intro D W hD st1 hF hK;have hds:({a3 with defers:=[{target:= .collected D,args:=#[]}]}:Act).defers= [{target:= .collected D,args:=#[]}]:=rfl;replace st1:=(st1.addS (t:=8) (V:=VOb D) (by decide) (fun _=>hK)).undef;generalize hDa:({a3 with defers:=[{target:= .collected D,args:=#[]}]}:Act)=aD at hds ⊢;replace st1:St w.heap.size w 12 [⟨2,none,none,4,1,VT,VT⟩] [(8,VOb D),(0,VEq (.slice p vs.length c)),(2,VEq (.pointer (some ⟨g2,0,none⟩)))] ⟨aD.tmps,[]⟩ W:=by rw [<-hDa];exact st1
   clear hDa;refine Wm ?_
   have:Sb [(4,1,0)] (VOb D):=⟨(Stab_VOb (by simp))⟩;refine rgD (BT:=[(4,1,0)]) (Vl:=[VT]) (B:=[⟨2,none,some 0,4,1,VC1 (Vb true),VT⟩]) (SL':=[(8,VOb D),(0,VEq (.slice p vs.length c)),(2,VEq (.pointer (some ⟨g2,0,none⟩)))]) hds st1 ⟨?s0,trivial⟩ ?_;case s0=>refine k_storec_ (A:=Vb true) rfl rfl rfl rfl rfl rfl rfl rfl rfl (fun _ h=>by cases h) (fun _=>rfl) size_bool rfl (by kernel_rfl) (by kernel_rfl) (by kernel_rfl) (by kernel_rfl) (by kernel_rfl) (.inl rfl) trivial
   intro a2 w2 hds st2;clear st1;refine Wm ?_
   obtain⟨vo,ho1,ho2⟩:=st2.sl (8,VOb D) (lS_mem rfl);have stX:=St.grown (st2.cut (L':=[⟨2,none,none,4,1,VC1 (Vb true),VT⟩]) (SL':=[])) (grownBy_putObj' w2 D (.deferred none)) (fun r e=>by cases e;exact⟨Nat.le_trans hn0 hD,_,ho2,rfl⟩);obtain⟨g,cs,r1,r2,r3,r4,r5⟩:=stX.res ⟨2,none,none,4,1,VC1 (Vb true),VT⟩ (.head _) rfl rfl;obtain⟨x,hx,r4⟩:=r4;cases hx;exact wpIn_ret (ret_mark hds ho2 (results_cell_one rfl _ _ g 4 _ r1 r2) ⟨_,rfl,(by rw [convex_t hva hF];exact r4),r5⟩)
 ·
  rw [Bool.not_eq_true] at hva;refine Wm ?_
  refine rJ [(4,1,0)] [VT] [⟨2,some 0,none,4,1,VT,VT⟩] [(0,VEq (.slice p vs.length c))] st0 ⟨ks,trivial⟩ fun a1 w1 st1=>Wm ?_;clear st0
  refine rJ [(4,1,0)] [VEq (.slice p vs.length c),Vb (false),Vb (true)] [⟨2,none,none,4,1,VT,VT⟩] [(0,VEq (.slice p vs.length c)),(6,Vb (true))] st1 ⟨ks,(kd1 fun _ _ _ h _ X0=>cValidV X0 (VSv_later hS h.k.below) (by omega) (by omega) hva),ks,trivial⟩ fun a2 w2 st2=>Wm ?_;clear st1
  refine cTI st2 ?_;refine Wm ?_
  refine rJ [(4,1,0)] [VT] [⟨2,none,some 0,4,1,VC1 (Vb false),VT⟩] [(0,VEq (.slice p vs.length c)),(6,Vb (true))] st2 ⟨(by refine k_storec_ (A:=Vb false) rfl rfl rfl rfl rfl rfl rfl rfl rfl (fun _ h=>by cases h) (fun _=>rfl) size_bool rfl (by kernel_rfl) (by kernel_rfl) (by kernel_rfl) (by kernel_rfl) (by kernel_rfl) (.inl rfl) trivial),trivial⟩ ?_;intro a3 w3 st3;clear st2;refine Wm ?_
  obtain⟨g,cs,r1,r2,r3,r4,r5⟩:=st3.res ⟨2,none,none,4,1,VC1 (Vb false),VT⟩ (.head _) rfl rfl;obtain⟨x,hx,r4⟩:=r4;cases hx;exact wpIn_ret (ret_plain st3.defers (results_cell_one rfl _ _ g 4 _ r1 r2) ⟨_,rfl,(by rw [show convexP vs=false by unfold convexP;rw [hva];rfl];exact r4),r5⟩)

def midQ (a c:Rat):Rat:=(a+c)*Rat.divInt 1 2
theorem cR6Turned {w:World}{N:Nat}{x y:Rat}{v0:Value}(h0:Vv N (x) (y) v0 w)(hN3:3<=N:=by omega)(hN:N<=900:=by omega):Calls Tryz.prog 92 #[v0] w (RV (Vv N (-y) x) w):=by
 go_enter Tryz.func92,Tryz.ntmps92
 generalize hA:(⟨_,_⟩:Act)=a0;have st0:St w.heap.size w 9 [] [(0,Vv N (x) (y))] a0 w:=by subst hA;exact St.begin rfl rfl (Lq.2 ⟨⟨_,rfl,h0⟩,L0⟩)
 clear hA;refine Wn ?_
 refine rH [(32,8,0)] [VT,VT] [⟨1,some 0,some 0,32,8,Vv N (x) (y),VT⟩,⟨2,some 1,none,32,8,VT,VT⟩] [] st0 ⟨ks,ks,trivial⟩ fun a1 w1 st1=>Wn ?_;clear st0
 refine rH [(32,8,0)] [Vpt a1 1 4,Vq N (y),Vq N (-(y)),Vpt a1 1 0,Vq N (x),Vv N (-(y)) (x),VT] [⟨1,none,none,32,8,Vv N (x) (y),VT⟩,⟨2,none,some 6,32,8,Vv N (-(y)) (x),VT⟩] [] st1 ⟨ks,ks,(kd1 fun _ _ _ _ _ X0=>cR4Neg X0),ks,ks,(kr2 5 7 fun _ _ _ _ _ x0 X0 _ x1 X1=>build_Vec rfl x0 x1 (AggV_Vq _ _) (AggV_Vq _ _) X0 X1),ks,trivial⟩ fun a2 w2 st2=>Wn ?_;clear st1
 exact wp_ret (rC 2 32 (Vv N (-(y)) (x)) st2 fun cs r4=>r4)
theorem cR6Middle {w:World}{N:Nat}{a b c d:Rat}{v0 v1:Value}(h0:Vv N (a) (b) v0 w)(h1:Vv N (c) (d) v1 w)(hN3:3<=N:=by omega)(hN:N<=900:=by omega):Calls Tryz.prog 30 #[v0,v1] w (RV (Vv (4*N+2) (midQ a c) (midQ b d)) w):=by
 go_enter Tryz.func30,Tryz.ntmps30
 generalize hA:(⟨_,_⟩:Act)=a0;have st0:St w.heap.size w 10 [] [(0,Vv N (a) (b)),(1,Vv N (c) (d))] a0 w:=by subst hA;exact St.begin rfl rfl (Lq.2 ⟨⟨_,rfl,h0⟩,(Lq.2 ⟨⟨_,rfl,h1⟩,L0⟩)⟩)
 clear hA;refine Wn ?_
 refine rH [(32,8,0)] [VT,VT,VT] [⟨2,some 0,some 0,32,8,Vv N (a) (b),VT⟩,⟨3,some 1,some 1,32,8,Vv N (c) (d),VT⟩,⟨4,some 2,none,32,8,VT,VT⟩] [] st0 ⟨ks,ks,ks,trivial⟩ fun a1 w1 st1=>Wn ?_;clear st0
 refine rH [(32,8,0)] [Vv N (a) (b),Vv N (c) (d),Vv (N+N+1) ((a)+(c)) ((b)+(d)),Vq 3 (Rat.divInt (1) (2)),Vv ((max (N+N+1) 3)+(max (N+N+1) 3)) (((a)+(c))*(Rat.divInt (1) (2))) (((b)+(d))*(Rat.divInt (1) (2))),VT] [⟨2,none,none,32,8,Vv N (a) (b),VT⟩,⟨3,none,none,32,8,Vv N (c) (d),VT⟩,⟨4,none,some 5,32,8,Vv ((max (N+N+1) 3)+(max (N+N+1) 3)) (((a)+(c))*(Rat.divInt (1) (2))) (((b)+(d))*(Rat.divInt (1) (2))),VT⟩] [] st1 ⟨ks,ks,(kd2 fun _ _ _ _ _ X0 _ X1=>cR5Add X0 X1),(by refine kc fun _ A Y h D=>?_;exact⟨#[.int .i64 (1),.int .i64 (2)],by simp [eval_const],cR4Of (show Vi (1) (.int .i64 (1)) Y from rfl) (show Vi (2) (.int .i64 (2)) Y from rfl)⟩),(kd2 fun _ _ _ _ _ X0 _ X1=>cR5Scale (Vv_le (M:=(max (N+N+1) 3)) X0 (by omega)) (Vq_le (M:=(max (N+N+1) 3)) X1 (by omega))),ks,trivial⟩ ?_;intro a2 w2 st2;clear st1;refine Wn ?_
 exact wp_ret (rC 4 32 (Vv ((max (N+N+1) 3)+(max (N+N+1) 3)) (((a)+(c))*(Rat.divInt (1) (2))) (((b)+(d))*(Rat.divInt (1) (2)))) st2 fun cs r4=>(Vv_le r4 (by omega)))
theorem cR6Corner {w:World}{N k:Nat}{vs:List P2}{lv:Value}{v0 v1:Value}(h0:VEq (lv) v0 w)(h1:Vi ((k:Int)) v1 w)(hS:VSv N vs lv w)(hn:0<vs.length:=by omega):Calls Tryz.prog 77 #[v0,v1] w (RV (Vv N (cv vs k).1 (cv vs k).2) w):=by
 go_enter Tryz.func77,Tryz.ntmps77
 generalize hA:(⟨_,_⟩:Act)=a0;have st0:St w.heap.size w 12 [] [(0,VEq (lv)),(1,Vi ((k:Int)))] a0 w:=by subst hA;exact St.begin rfl rfl (Lq.2 ⟨⟨_,rfl,h0⟩,(Lq.2 ⟨⟨_,rfl,h1⟩,L0⟩)⟩)
 clear hA;refine Wn ?_
 refine rH [(32,8,0)] [VT] [⟨4,some 0,none,32,8,VT,VT⟩] [(0,VEq (lv)),(1,Vi ((k:Int)))] st0 ⟨ks,trivial⟩ ?_;intro a1 w1 st1;clear st0;have hmax:=VSv_max hS;refine Wn ?_
 refine rH [(32,8,0)] [VEq (lv),Vi ((k:Int)),VEq (lv),Vi ((vs.length:Int)),Vi (((k % vs.length:Nat):Int)),VAt w (VEp 32 8 (Vv N ((cv vs k)).1 ((cv vs k)).2)),Vv N (((cv vs k)).1) (((cv vs k)).2),VT] [⟨4,none,some 7,32,8,Vv N (((cv vs k)).1) (((cv vs k)).2),VT⟩] [] st1 ⟨ks,ks,ks,(kr1 7 fun _ _ _ _ _ x0 X0=>len_Sv rfl rfl x0 X0 hS),(kr2 6 8 fun _ _ _ _ _ x0 X0 _ x1 X1=>rem_n rfl x0 x1 X0 X1 hn),(kr2 5 9 fun _ _ _ _ _ x0 X0 _ x1 X1=>index_Sv rfl x0 X0 hS x1 X1 (cv_get k hn)),(kr1 10 fun _ _ _ h _ x0 X0=>load_EpC (w:=w) (k:=8) (A:=Vv N ((cv vs k)).1 ((cv vs k)).2) (Stab_Vv _ _ _) rfl x0 X0 h.k.below Tryz.underlying32 rfl size_Vec),ks,trivial⟩ fun a2 w2 st2=>Wn ?_;clear st1
 exact wp_ret (rC 4 32 (Vv N (((cv vs k)).1) (((cv vs k)).2)) st2 fun cs r4=>r4)
theorem cR6Next {w:World}{N k:Nat}{vs:List P2}{lv:Value}{v0 v1:Value}(h0:VEq (lv) v0 w)(h1:Vi ((k:Int)) v1 w)(hS:VSv N vs lv w)(hk:k<vs.length:=by omega):Calls Tryz.prog 31 #[v0,v1] w (RV (Vv N (cv vs (k+1)).1 (cv vs (k+1)).2) w):=by
 go_enter Tryz.func31,Tryz.ntmps31
 generalize hA:(⟨_,_⟩:Act)=a0;have st0:St w.heap.size w 18 [] [(0,VEq (lv)),(1,Vi ((k:Int)))] a0 w:=by subst hA;exact St.begin rfl rfl (Lq.2 ⟨⟨_,rfl,h0⟩,(Lq.2 ⟨⟨_,rfl,h1⟩,L0⟩)⟩)
 clear hA;refine Wn ?_
 refine rH [(32,8,0)] [VT] [⟨4,some 0,none,32,8,VT,VT⟩] [(0,VEq (lv)),(1,Vi ((k:Int)))] st0 ⟨ks,trivial⟩ ?_;intro a1 w1 st1;clear st0;have hmax:=VSv_max hS;by_cases hcc:k+1<vs.length
 ·
  refine Wn ?_
  refine rH [(32,8,0)] [Vi ((k:Int)),Vi (((k:Int))+(1)),VEq (lv),Vi ((vs.length:Int)),Vb (true)] [⟨4,none,none,32,8,VT,VT⟩] [(0,VEq (lv)),(1,Vi ((k:Int))),(9,Vb (true))] st1 ⟨ks,(kr1 5 fun _ _ _ _ _ x0 X0=>⟨_,run_addi rfl (x0.trans X0) rfl (wrap_id (by omega) (by omega)),rfl⟩),ks,(kr1 7 fun _ _ _ _ _ x0 X0=>len_Sv rfl rfl x0 X0 hS),(kr2 6 8 fun _ _ _ _ _ x0 X0 _ x1 X1=>⟨_,run_lssi rfl (x0.trans X0) (x1.trans X1),congrArg Value.bool (dT (by omega))⟩),trivial⟩ fun a2 w2 st2=>Wn ?_;clear st1
  refine cT st2 ?_;have hg:vs[k+1]? =some (cv vs (k+1)):=by have:=cv_get (vs:=vs) (k+1) (by omega);rwa [Nat.mod_eq_of_lt hcc] at this
  refine Wn ?_
  refine rH [(32,8,0)] [VEq (lv),Vi ((k:Int)),Vi (((k+1:Nat):Int)),VAt w (VEp 32 8 (Vv N ((cv vs (k+1))).1 ((cv vs (k+1))).2)),Vv N (((cv vs (k+1))).1) (((cv vs (k+1))).2),VT] [⟨4,none,some 5,32,8,Vv N (((cv vs (k+1))).1) (((cv vs (k+1))).2),VT⟩] [(0,VEq (lv)),(1,Vi ((k:Int))),(9,Vb (true))] st2 ⟨ks,ks,(kr1 11 fun _ _ _ _ v0 x0 X0=>⟨_,run_addi rfl (x0.trans (show v0= .int .i64 (k:Int)from X0)) rfl (wrap_id (by omega) (by omega)),congrArg (Value.int .i64) (by omega)⟩),(kr2 10 12 fun _ _ _ _ _ x0 X0 _ x1 X1=>index_Sv rfl x0 X0 hS x1 X1 hg),(kr1 13 fun _ _ _ h _ x0 X0=>load_EpC (w:=w) (k:=8) (A:=Vv N ((cv vs (k+1))).1 ((cv vs (k+1))).2) (Stab_Vv _ _ _) rfl x0 X0 h.k.below Tryz.underlying32 rfl size_Vec),ks,trivial⟩ fun a3 w3 st3=>Wn ?_;clear st2
  exact wp_ret (rC 4 32 (Vv N (((cv vs (k+1))).1) (((cv vs (k+1))).2)) st3 fun cs r4=>r4)
 ·
  refine Wn ?_
  refine rH [(32,8,0)] [Vi ((k:Int)),Vi (((k:Int))+(1)),VEq (lv),Vi ((vs.length:Int)),Vb (false)] [⟨4,none,none,32,8,VT,VT⟩] [(0,VEq (lv)),(1,Vi ((k:Int))),(9,Vb (false))] st1 ⟨ks,(kr1 5 fun _ _ _ _ _ x0 X0=>⟨_,run_addi rfl (x0.trans X0) rfl (wrap_id (by omega) (by omega)),rfl⟩),ks,(kr1 7 fun _ _ _ _ _ x0 X0=>len_Sv rfl rfl x0 X0 hS),(kr2 6 8 fun _ _ _ _ _ x0 X0 _ x1 X1=>⟨_,run_lssi rfl (x0.trans X0) (x1.trans X1),congrArg Value.bool (dF (by omega))⟩),trivial⟩ fun a2 w2 st2=>Wn ?_;clear st1
  refine cF st2 ?_;have hg:vs[0]? =some (cv vs (k+1)):=by have:=cv_get (vs:=vs) (k+1) (by omega);rwa [show k+1=vs.length by omega,Nat.mod_self,show vs.length=k+1 by omega] at this
  refine Wn ?_
  refine rH [(32,8,0)] [VEq (lv),VAt w (VEp 32 8 (Vv N ((cv vs (k+1))).1 ((cv vs (k+1))).2)),Vv N (((cv vs (k+1))).1) (((cv vs (k+1))).2),VT] [⟨4,none,some 3,32,8,Vv N (((cv vs (k+1))).1) (((cv vs (k+1))).2),VT⟩] [(0,VEq (lv)),(1,Vi ((k:Int))),(9,Vb (false))] st2 ⟨ks,(kr1 15 fun _ _ _ _ _ x0 X0=>index_Sv (j:=0) rfl x0 X0 hS rfl rfl hg),(kr1 16 fun _ _ _ h _ x0 X0=>load_EpC (w:=w) (k:=8) (A:=Vv N ((cv vs (k+1))).1 ((cv vs (k+1))).2) (Stab_Vv _ _ _) rfl x0 X0 h.k.below Tryz.underlying32 rfl size_Vec),ks,trivial⟩ fun a3 w3 st3=>Wn ?_;clear st2
  exact wp_ret (rC 4 32 (Vv N (((cv vs (k+1))).1) (((cv vs (k+1))).2)) st3 fun cs r4=>r4)
end Go.Proofs.YteacdbgalloaiaaGreat
