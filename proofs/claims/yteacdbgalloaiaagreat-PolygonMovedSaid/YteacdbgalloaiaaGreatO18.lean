/- Contracts of the packages integer, rat, plane, polygon and their references. -/
import Derived.Test.YteacdbgalloaiaaGreatO17
set_option linter.unusedVariables false
set_option maxRecDepth 100000
set_option maxHeartbeats 6400000
namespace Go.Proofs.YteacdbgalloaiaaGreat
open Go.RowKit
open Go
theorem own_vkr {B B2:Nat}{BT:List (TypeId×Nat×Nat)}{W X Y:World}{row:Option Nat}{v:Value}(h:VKR B BT W v X)(hB:W.heap.size<=B2)(hg:X.grownBy Y row)(hr:∀r,row=some r->B2<=r/\∃o:Obj,X.heap[r]? =some o/\o.isCells=false):VKR B BT W v Y:=
 ⟨⟨Nat.le_trans h.1.1 hg.size,fun k o hk h1 h2=>by
  have:=h.1.2 k o hk h1 h2;refine(hg.block k (lt_blk this) fun e=>?_).trans this;have h3:=(hr k e.symm).1;have h4:=lt_blk h1
  omega⟩,⟨Nat.le_trans h.1.1 hg.size,fun k cs T h1 h2=>by
  have:=h.2.row k cs T h1 h2;refine(hg.block k (lt_blk (this.trans h1)) fun e=>?_).trans this;have h3:=(hr k e.symm).1;have h4:=lt_blk h1
  omega⟩⟩
theorem range_sidesR {n Nf tk p q t:Nat}{wb w:World}{N:Nat}{vs:List P2}{lv:Value}{a:Act}{assign body:Code}{Q:Exit->Act->World->Prop}{BT:List (TypeId×Nat×Nat)}
 (L Lx:List Nat->List Bd) (E Ex:List Nat->World->Prop) (SL:List (Nat×VP)) (st:St wb.heap.size wb Nf (L []) SL a w) (hE0:E [] w) (SA:Nat->List (Nat×VP)) (hE:∀ks,OwnFrom w.heap.size (fun (_:Unit) W=>E ks W)) (hEx:∀ks,OwnFrom w.heap.size (fun (_:Unit) W=>Ex ks W)) (hk:∃v,a.tmps[tk]? =some v/\VSd lv v w) (hS:VSv N vs lv wb)
 (hf:∀ks,Fixed SL (L ks)) (hfx:∀ks,Fixed SL (Lx ks)) (he:AllEq SL) (hp:p<Nf) (hq:q<Nf) (hpq:q≠p) (hp2:∀x∈SL,x.1≠p/\x.1≠q) (n1:1<=n)
 (hbt1:∀e∈BT,e.1≠23) (hbt2:∀e∈BT,e.1≠97)
 [hL0:∀ks,SbB [] (L ks)] [hMA:∀k,SbS MK (SA k)] [hM:∀ks,SbB MK (L ks)] [hMx:∀ks,SbB MK (Lx ks)] [hMS:SbS MK SL]
 (hassign:∀(l k:Nat) (a1:Act) (W:World) (K:Act->World->Prop),wb.heap.size<=W.heap.size->Below wb.heap.size wb W->St W.heap.size W Nf [] ((q,VAt wb (VSg N vs k))::(p,Vi (k:Int))::SL) a1 W->(∀a' W',St W.heap.size W Nf [⟨t,none,none,73,16,VAt wb (VSg N vs k),VT⟩] (SA k++SL) a' W'->K a' W')->assign.wpIn (fW (some l)) (n - 1 - 1) Tryz.prog (Exit.then K (fun _ _ _=>False)) a1 W)
 (hbody:∀(l k:Nat) (ks:List Nat) (a1:Act) (W:World),k<vs.length->ks.length<vs.length->w.heap.size<=l->(∃r,W.heap[l]? =some (.loop r))->St wb.heap.size wb Nf (L ks++ [⟨t,none,none,73,16,VAt wb (VSg N vs k),VT⟩]) ((p,VKR w.heap.size BT W)::(SA k++SL)) a1 W->E ks W->body.wpIn (fW (some l)) (n - 1 - 1) Tryz.prog (RdPost wb.heap.size wb Nf L Lx E Ex SL p (VKR w.heap.size BT W) (ks++ [k])) a1 W)
 (hLt:∀ks ks',∀c∈L ks',∃c',c'∈L ks/\c'.t=c.t) (htL:∀ks,∀b∈L ks,b.t≠t)
 (hdone:∀(D:Nat) (W:World),w.heap.size<=D->St wb.heap.size wb Nf (L (List.range vs.length)) SL a W->E (List.range vs.length) W->W.heap[D]? =some (.deferred (some []))->Q .normal {a with defers:=[{target:= .collected D,args:=#[]}]} W)
 (hstop:∀(D:Nat) (j:Nat) (W:World),w.heap.size<=D->j<=vs.length->St wb.heap.size wb Nf (Lx (List.range j)) SL a W->Ex (List.range j) W->W.heap[D]? =some (.deferred (some []))->Code.ret.wpIn (fW none) n Tryz.prog Q {a with defers:=[{target:= .collected D,args:=#[]}]} W):
 (Code.rangeFunc (.tmp tk) #[p,q] assign body).wpIn (fW none) n Tryz.prog Q a w:=by
 obtain⟨v,hv,b1,b3,c,rfl,p1,p3,hc⟩:=hk;have hn:wb.heap.size<=w.heap.size:=st.n;have keep:∀{W W':World} {v:Value},VKR w.heap.size BT W v W'->Below wb.heap.size wb W'->KeepsFrom w.heap.size W W'/\Kp wb BT W W':=fun h hb=>⟨⟨h.1.1,fun k o hB hk ho=>h.1.2 k o hB hk (noCl_of ho)⟩,fun _=>hb,h.2⟩
 have hApp:∀k,SbS MK (SA k++SL):=fun k=>⟨fun x hx=>(List.mem_append.1 hx).elim (fun h=>(hMA k).out x h) (fun h=>hMS.out x h)⟩
 have hBx:∀k,SbB MK [⟨t,none,none,73,16,VAt wb (VSg N vs k),VT⟩]:=fun k=>inferInstance
 refine wpIn_rangeFunc_ownH (F:=fW none) (α:=SdE N vs wb) rfl n1 (gf:=88) (lb:=#[.pointer (some ⟨b1,0,none⟩),.pointer (some ⟨b3,0,none⟩)]) (by simp [Act.eval,Array.getD_eq_getD_getElem?,hv]) trivial (fun _ _=>rfl)
  (sides_stops (N:=N) (vs:=vs) (lv:=lv) hbt1 hbt2 st.k.below hS p1 p3 hc) (fun h k=>Kp.trans h k) (fun W l o o' hl h h1 h2=>Kp.put hn W l o o' hl h h1 h2) (Below.refl _ _) (fun _=>rfl)
  (fun pre W=>St wb.heap.size wb Nf (L (ixs pre)) SL a W/\E (ixs pre) W) (fun c pre W=>c= .ret/\St wb.heap.size wb Nf (Lx (ixs pre)) SL a W/\Ex (ixs pre) W)
  (fun s A B row hs hg hr=>⟨hs.1.grown hg fun r e=>⟨Nat.le_trans hn (hr r e).1,(hr r e).2⟩,hE _ () _ _ _ hs.2 hg hr⟩) (fun c s A B row hs hg hr=>⟨hs.1,hs.2.1.grown hg fun r e=>⟨Nat.le_trans hn (hr r e).1,(hr r e).2⟩,hEx _ () _ _ _ hs.2.2 hg hr⟩) ⟨st,hE0⟩
  (fun x a' W=>St wb.heap.size wb Nf [⟨t,none,none,73,16,VAt wb (VSg N vs x.1.1),VT⟩] (SA x.1.1++SL) a' W/\∀ks,∀c∈L ks,a'.tmps[t]? ≠a'.tmps[c.t]?)
  (fun x a' s A B row hs hg hr=>⟨(have:=hApp x.1.1;hs.1.grown hg fun r e=>⟨Nat.le_trans hn (hr r e).1,(hr r e).2⟩),hs.2⟩) ?assign ?body ?done ?stop
 case assign=>
  intro l pre x W K ⟨hI,hEi⟩ hK
  have hLp:∀r,r=p∨r=q->(L (ixs pre)).all (fun b=>b.t !=r)=true:=fun r hr=>by
   rw [List.all_eq_true];intro b hb;obtain⟨-,-,u,hu⟩:=hf _ b hb;have h1:b.t≠p/\b.t≠q:=hp2 _ hu;rcases hr with rfl|rfl<;>simp [h1.1,h1.2]
  have hSp:∀r,r=p∨r=q->SL.all (fun x=>x.1 !=r)=true:=fun r hr=>by
   rw [List.all_eq_true];intro b hb;have h1:=hp2 _ hb;rcases hr with rfl|rfl<;>simp [h1.1,h1.2]
  have hW:St W.heap.size W Nf [] SL a W:=⟨⟨Below.refl _ _,fun b hb=>absurd hb (by simp),fun b hb=>absurd hb (by simp),fun b hb=>absurd hb (by simp)⟩,Nat.le_refl _,hI.size,hI.defers,hI.sl⟩
  have h2:=(hW.put1 p (.int .i64 (x.1.1:Int)) (Vi (x.1.1:Int)) rfl hp rfl (hSp p (.inl rfl))).put1 q x.1.2 (VAt wb (VSg N vs x.1.1)) x.2.2 hq rfl (by
   rw [List.all_cons,hSp q (.inr rfl)]
   simp [hpq.symm])
  unfold encS;rw [zip2 a st.defers];refine hassign l x.1.1 _ W K hI.n hI.k.below h2 fun a' W' st'=>?_
  have hbl:=st'.k.below;have sI:=hI.over st' (hf _) (fun b hb=>List.mem_append_right _ hb) rfl rfl;have k:=keep (v:=undef) (VKR_below (B:=w.heap.size) (BT:=BT) hbl undef) sI.k.below;have sJ:=sI.sub (L':=L (ixs pre)) (SL':=SL) (fun b hb=>List.mem_append_left _ hb) (fun b hb=>List.mem_append_right _ hb);refine hK a' W' k.1 k.2 ⟨sJ.act st (hf _) he,hE _ () _ _ none hEi (grown_of hbl) (fun r e=>by cases e)⟩ ⟨sI.sub (fun b hb=>List.mem_append_right _ hb) (fun b hb=>hb),fun ks c hc=>?_⟩;obtain⟨c',h3,h4⟩:=hLt (ixs pre) ks c hc;have:=sI.k.ne ⟨t,none,none,73,16,VAt wb (VSg N vs x.1.1),VT⟩ (List.mem_append_right _ List.mem_cons_self) c' (List.mem_append_left _ h3) (fun e=>htL _ c' h3 e.symm) rfl (by rw [(hf _ c' h3).1];rfl);rw [<-h4];exact this
 case body=>
  rintro l pre x a' W hl hrec ⟨hI,hEi⟩ ⟨hA,hne⟩ hlen
  have hA0:=hA.sub (L':=[]) (SL':=SL) (fun b hb=>absurd hb (by simp)) (fun b hb=>List.mem_append_right _ hb);have st2:=((hI.act hA0 (hf _) he).joinB hA rfl (fun c hc=>⟨(hf _ c hc).1,(hf _ c hc).2.1⟩) rfl (hne _)).addS (t:=p) (V:=VKR w.heap.size BT W) hp fun v=>VKR_refl v
  have hix:ixs (pre++ [x])=ixs pre++ [x.1.1]:=by simp [ixs]
  refine wpIn_mono (hbody l x.1.1 (ixs pre) a' W x.2.1 (by simpa [ixs] using hlen) hl hrec st2 hEi) ?_;intro e a2 W2 hpost;cases e with
  |normal=>
   obtain⟨hpost,hEp⟩:St wb.heap.size wb Nf (L (ixs pre++ [x.1.1])) ((p,VKR w.heap.size BT W)::SL) a2 W2/\E (ixs pre++ [x.1.1]) W2:=hpost;obtain⟨u,-,hu⟩:=hpost.sl (p,VKR w.heap.size BT W) List.mem_cons_self;have k:=keep (v:=u) hu hpost.k.below;refine⟨k.1,k.2,?_⟩;show St wb.heap.size wb Nf (L (ixs (pre++ [x]))) SL a W2/\E (ixs (pre++ [x])) W2;rw [hix];exact⟨(hpost.sub (fun b hb=>hb) (fun b hb=>List.mem_cons_of_mem _ hb)).act st (hf _) he,hEp⟩
  |ret=>
   obtain⟨hpost,hEp⟩:St wb.heap.size wb Nf (Lx (ixs pre++ [x.1.1])) ((p,VKR w.heap.size BT W)::SL) a2 W2/\Ex (ixs pre++ [x.1.1]) W2:=hpost;obtain⟨u,-,hu⟩:=hpost.sl (p,VKR w.heap.size BT W) List.mem_cons_self;have k:=keep (v:=u) hu hpost.k.below;refine⟨k.1,rfl,?_⟩;show St wb.heap.size wb Nf (Lx (ixs (pre++ [x]))) SL a W2/\Ex (ixs (pre++ [x])) W2;rw [hix];exact⟨(hpost.sub (fun b hb=>hb) (fun b hb=>List.mem_cons_of_mem _ hb)).act st (hfx _) he,hEp⟩
  |exit _=>exact hpost.elim
  |goto _=>exact hpost.elim
  |panic _=>exact hpost.elim
  |outgrown=>exact hpost.elim
 case done=>
  intro D xs W hD hxs hI hK;have hI:St wb.heap.size wb Nf (L (ixs xs)) SL a W/\E (ixs xs) W:=hI;rw [show ixs xs=List.range vs.length from hxs] at hI;have:=hdone D W hD hI.1 hI.2 hK;rw [st.defers];exact this
 case stop=>
  rintro D c pre W hD ⟨h1,h2⟩ ⟨rfl,h3⟩ hK
  rw [show ixs pre=List.range pre.length from h1] at h3;have:=hstop D pre.length W hD h2 h3.1 h3.2 hK;rw [st.defers];exact this
theorem range_sidesN {n Nf tk p q t:Nat}{wb w:World}{N:Nat}{vs:List P2}{lv:Value}{a:Act}{assign body:Code}{l0:Nat}{r0:Loop}{Q:Exit->Act->World->Prop}{BT:List (TypeId×Nat×Nat)}
 (L Lx:List Nat->List Bd) (E Ex:List Nat->World->Prop) (SL:List (Nat×VP)) (hl0:w.heap[l0]? =some (.loop r0)) (st:St wb.heap.size wb Nf (L []) SL a w) (hE0:E [] w) (SA:Nat->List (Nat×VP)) (hE:∀ks,OwnFrom w.heap.size (fun (_:Unit) W=>E ks W)) (hEx:∀ks,OwnFrom w.heap.size (fun (_:Unit) W=>Ex ks W)) (hk:∃v,a.tmps[tk]? =some v/\VSd lv v w) (hS:VSv N vs lv wb)
 (hf:∀ks,Fixed SL (L ks)) (hfx:∀ks,Fixed SL (Lx ks)) (he:AllEq SL) (hp:p<Nf) (hq:q<Nf) (hpq:q≠p) (hp2:∀x∈SL,x.1≠p/\x.1≠q) (n1:1<=n)
 (hbt1:∀e∈BT,e.1≠23) (hbt2:∀e∈BT,e.1≠97)
 [hL0:∀ks,SbB [] (L ks)] [hMA:∀k,SbS MK (SA k)] [hM:∀ks,SbB MK (L ks)] [hMx:∀ks,SbB MK (Lx ks)] [hMS:SbS MK SL]
 (hassign:∀(l k:Nat) (a1:Act) (W:World) (K:Act->World->Prop),wb.heap.size<=W.heap.size->Below wb.heap.size wb W->St W.heap.size W Nf [] ((q,VAt wb (VSg N vs k))::(p,Vi (k:Int))::SL) a1 W->(∀a' W',St W.heap.size W Nf [⟨t,none,none,73,16,VAt wb (VSg N vs k),VT⟩] (SA k++SL) a' W'->K a' W')->assign.wpIn (fW (some l)) (n - 1 - 1) Tryz.prog (Exit.then K (fun _ _ _=>False)) a1 W)
 (hbody:∀(l k:Nat) (ks:List Nat) (a1:Act) (W:World),k<vs.length->ks.length<vs.length->St wb.heap.size wb Nf (L ks++ [⟨t,none,none,73,16,VAt wb (VSg N vs k),VT⟩]) ((p,VKR w.heap.size BT W)::(SA k++SL)) a1 W->E ks W->body.wpIn (fW (some l)) (n - 1 - 1) Tryz.prog (RdPost wb.heap.size wb Nf L Lx E Ex SL p (VKR w.heap.size BT W) (ks++ [k])) a1 W)
 (hLt:∀ks ks',∀c∈L ks',∃c',c'∈L ks/\c'.t=c.t) (htL:∀ks,∀b∈L ks,b.t≠t)
 (hdone:∀(W:World),St wb.heap.size wb Nf (L (List.range vs.length)) SL a W->E (List.range vs.length) W->Q .normal a W)
 (hstop:∀(j:Nat) (W:World),j<=vs.length->St wb.heap.size wb Nf (Lx (List.range j)) SL a W->Ex (List.range j) W->Code.ret.wpIn (fW (some l0)) n Tryz.prog Q a W):
 (Code.rangeFunc (.tmp tk) #[p,q] assign body).wpIn (fW (some l0)) n Tryz.prog Q a w:=by
 obtain⟨v,hv,b1,b3,c,rfl,p1,p3,hc⟩:=hk;have hn:wb.heap.size<=w.heap.size:=st.n;have keep:∀{W W':World} {v:Value},VKR w.heap.size BT W v W'->Below wb.heap.size wb W'->KeepsFrom w.heap.size W W'/\Kp wb BT W W':=fun h hb=>⟨⟨h.1.1,fun k o hB hk ho=>h.1.2 k o hB hk (noCl_of ho)⟩,fun _=>hb,h.2⟩
 have hApp:∀k,SbS MK (SA k++SL):=fun k=>⟨fun x hx=>(List.mem_append.1 hx).elim (fun h=>(hMA k).out x h) (fun h=>hMS.out x h)⟩
 have hBx:∀k,SbB MK [⟨t,none,none,73,16,VAt wb (VSg N vs k),VT⟩]:=fun k=>inferInstance
 refine wpIn_rangeFunc_ownN (F:=fW (some l0)) (α:=SdE N vs wb) rfl hl0 n1 (gf:=88) (lb:=#[.pointer (some ⟨b1,0,none⟩),.pointer (some ⟨b3,0,none⟩)]) (by simp [Act.eval,Array.getD_eq_getD_getElem?,hv]) trivial (fun _ _=>rfl)
  (SeqStopsK.inRound l0 (sides_stops (N:=N) (vs:=vs) (lv:=lv) hbt1 hbt2 st.k.below hS p1 p3 hc)) (fun h k=>Kp.trans h k) (fun W l o o' hl h h1 h2=>Kp.put hn W l o o' hl h h1 h2) (Below.refl _ _) (fun _=>rfl)
  (fun pre W=>St wb.heap.size wb Nf (L (ixs pre)) SL a W/\E (ixs pre) W) (fun c pre W=>c= .ret/\St wb.heap.size wb Nf (Lx (ixs pre)) SL a W/\Ex (ixs pre) W)
  (fun s A B row hs hg hr=>⟨hs.1.grown hg fun r e=>⟨Nat.le_trans hn (hr r e).1,(hr r e).2⟩,hE _ () _ _ _ hs.2 hg hr⟩) (fun c s A B row hs hg hr=>⟨hs.1,hs.2.1.grown hg fun r e=>⟨Nat.le_trans hn (hr r e).1,(hr r e).2⟩,hEx _ () _ _ _ hs.2.2 hg hr⟩) ⟨st,hE0⟩
  (fun x a' W=>St wb.heap.size wb Nf [⟨t,none,none,73,16,VAt wb (VSg N vs x.1.1),VT⟩] (SA x.1.1++SL) a' W/\∀ks,∀c∈L ks,a'.tmps[t]? ≠a'.tmps[c.t]?)
  (fun x a' s A B row hs hg hr=>⟨(have:=hApp x.1.1;hs.1.grown hg fun r e=>⟨Nat.le_trans hn (hr r e).1,(hr r e).2⟩),hs.2⟩) ?assign ?body ?done ?stop
 case assign=>
  intro l pre x W K ⟨hI,hEi⟩ hK
  have hLp:∀r,r=p∨r=q->(L (ixs pre)).all (fun b=>b.t !=r)=true:=fun r hr=>by
   rw [List.all_eq_true];intro b hb;obtain⟨-,-,u,hu⟩:=hf _ b hb;have h1:b.t≠p/\b.t≠q:=hp2 _ hu;rcases hr with rfl|rfl<;>simp [h1.1,h1.2]
  have hSp:∀r,r=p∨r=q->SL.all (fun x=>x.1 !=r)=true:=fun r hr=>by
   rw [List.all_eq_true];intro b hb;have h1:=hp2 _ hb;rcases hr with rfl|rfl<;>simp [h1.1,h1.2]
  have hW:St W.heap.size W Nf [] SL a W:=⟨⟨Below.refl _ _,fun b hb=>absurd hb (by simp),fun b hb=>absurd hb (by simp),fun b hb=>absurd hb (by simp)⟩,Nat.le_refl _,hI.size,hI.defers,hI.sl⟩
  have h2:=(hW.put1 p (.int .i64 (x.1.1:Int)) (Vi (x.1.1:Int)) rfl hp rfl (hSp p (.inl rfl))).put1 q x.1.2 (VAt wb (VSg N vs x.1.1)) x.2.2 hq rfl (by
   rw [List.all_cons,hSp q (.inr rfl)]
   simp [hpq.symm])
  unfold encS;rw [zip2 a st.defers];refine hassign l x.1.1 _ W K hI.n hI.k.below h2 fun a' W' st'=>?_
  have hbl:=st'.k.below;have sI:=hI.over st' (hf _) (fun b hb=>List.mem_append_right _ hb) rfl rfl;have k:=keep (v:=undef) (VKR_below (B:=w.heap.size) (BT:=BT) hbl undef) sI.k.below;have sJ:=sI.sub (L':=L (ixs pre)) (SL':=SL) (fun b hb=>List.mem_append_left _ hb) (fun b hb=>List.mem_append_right _ hb);refine hK a' W' k.1 k.2 ⟨sJ.act st (hf _) he,hE _ () _ _ none hEi (grown_of hbl) (fun r e=>by cases e)⟩ ⟨sI.sub (fun b hb=>List.mem_append_right _ hb) (fun b hb=>hb),fun ks c hc=>?_⟩;obtain⟨c',h3,h4⟩:=hLt (ixs pre) ks c hc;have:=sI.k.ne ⟨t,none,none,73,16,VAt wb (VSg N vs x.1.1),VT⟩ (List.mem_append_right _ List.mem_cons_self) c' (List.mem_append_left _ h3) (fun e=>htL _ c' h3 e.symm) rfl (by rw [(hf _ c' h3).1];rfl);rw [<-h4];exact this
 case body=>
  rintro l pre x a' W hl hrec ⟨hI,hEi⟩ ⟨hA,hne⟩ hlen
  have hA0:=hA.sub (L':=[]) (SL':=SL) (fun b hb=>absurd hb (by simp)) (fun b hb=>List.mem_append_right _ hb);have st2:=((hI.act hA0 (hf _) he).joinB hA rfl (fun c hc=>⟨(hf _ c hc).1,(hf _ c hc).2.1⟩) rfl (hne _)).addS (t:=p) (V:=VKR w.heap.size BT W) hp fun v=>VKR_refl v
  have hix:ixs (pre++ [x])=ixs pre++ [x.1.1]:=by simp [ixs]
  refine wpIn_mono (hbody l x.1.1 (ixs pre) a' W x.2.1 (by simpa [ixs] using hlen) st2 hEi) ?_;intro e a2 W2 hpost;cases e with
  |normal=>
   obtain⟨hpost,hEp⟩:St wb.heap.size wb Nf (L (ixs pre++ [x.1.1])) ((p,VKR w.heap.size BT W)::SL) a2 W2/\E (ixs pre++ [x.1.1]) W2:=hpost;obtain⟨u,-,hu⟩:=hpost.sl (p,VKR w.heap.size BT W) List.mem_cons_self;have k:=keep (v:=u) hu hpost.k.below;refine⟨k.1,k.2,?_⟩;show St wb.heap.size wb Nf (L (ixs (pre++ [x]))) SL a W2/\E (ixs (pre++ [x])) W2;rw [hix];exact⟨(hpost.sub (fun b hb=>hb) (fun b hb=>List.mem_cons_of_mem _ hb)).act st (hf _) he,hEp⟩
  |ret=>
   obtain⟨hpost,hEp⟩:St wb.heap.size wb Nf (Lx (ixs pre++ [x.1.1])) ((p,VKR w.heap.size BT W)::SL) a2 W2/\Ex (ixs pre++ [x.1.1]) W2:=hpost;obtain⟨u,-,hu⟩:=hpost.sl (p,VKR w.heap.size BT W) List.mem_cons_self;have k:=keep (v:=u) hu hpost.k.below;refine⟨k.1,rfl,?_⟩;show St wb.heap.size wb Nf (Lx (ixs (pre++ [x]))) SL a W2/\Ex (ixs (pre++ [x])) W2;rw [hix];exact⟨(hpost.sub (fun b hb=>hb) (fun b hb=>List.mem_cons_of_mem _ hb)).act st (hfx _) he,hEp⟩
  |exit _=>exact hpost.elim
  |goto _=>exact hpost.elim
  |panic _=>exact hpost.elim
  |outgrown=>exact hpost.elim
 case done=>
  intro xs W hxs hI;have hI:St wb.heap.size wb Nf (L (ixs xs)) SL a W/\E (ixs xs) W:=hI;rw [show ixs xs=List.range vs.length from hxs] at hI;exact hdone W hI.1 hI.2
 case stop=>
  rintro c pre W ⟨h1,h2⟩ ⟨rfl,h3⟩
  rw [show ixs pre=List.range pre.length from h1] at h3;exact hstop pre.length W h2 h3.1 h3.2
def fol (vs:List P2)(k m:Nat):Bool:=decide (m=k+1)||(decide (k=0) && decide (m+1=vs.length))
def badB (vs:List P2)(k m:Nat):Bool:=decide (k<m) && (!fol vs k m && mts (cv vs k) (cv vs (k+1)) (cv vs m) (cv vs (m+1)))
def simpleP (vs:List P2):Bool:=decide (∀k∈List.range vs.length,∀m∈List.range vs.length,badB vs k m=false)
instance {n:Nat}{cs:Array Value}:Sb MK (VNw n cs 3):=⟨Stab_VNw (by simp)⟩
section
variable {md:Region.Mode}{ops:Array Oper}{Q:Exit->Act->World->Prop}{a0:Act}{Vl:List VP}{n0:Nat}{w0:World}{B:List Bd}{SL:List (Nat×VP)}{BT:List (TypeId×Nat×Nat)}
theorem k_no0 {i:Nat}{o:Oper}{j:Nat}{b c:Bool}[hB:SbB BT B](hg:o.guard=some (j,b))(hV:GV Vl j=Vb c)(hne:(c !=b)=true)(hVi:GV Vl i=VEq undef)(hd2:∃d,(ops[j]?).bind (·.dst)=some d)(hq:quietB B i o.dst=true)(h1:o.after.any (fun e=>e.on==j && Region.binds md e)=true):KStep BT Tryz.prog md ops Q a0 (GV Vl) n0 w0 B SL i o:=
 k_skip hB.out hq fun listed a w h D=>by
  obtain⟨d,hd2⟩:=hd2;obtain⟨v,-,hy,hU⟩:=h.dep D j d h1 hd2;rw [hV] at hU;obtain rfl:v= .bool c:=hU;exact⟨⟨j,b,c,hg,hy,by simpa using hne⟩,by rw [hVi];rfl⟩
theorem k_noU {i:Nat}{o:Oper}{j:Nat}{b:Bool}[hB:SbB BT B](hg:o.guard=some (j,b))(hV:GV Vl j=VEq undef)(hVi:GV Vl i=VT)(hd2:∃d,(ops[j]?).bind (·.dst)=some d)(hq:quietB B i o.dst=true)(h1:o.after.any (fun e=>e.on==j && Region.binds md e)=true):KStep BT Tryz.prog md ops Q a0 (GV Vl) n0 w0 B SL i o:=by
 intro listed a w h D _ _ _ K hK;obtain⟨d,hd2⟩:=hd2;obtain⟨v,-,hy,hU⟩:=h.dep D j d h1 hd2;rw [hV] at hU;obtain rfl:v=undef:=hU;have hy:yielded ops a.tmps j=none:=hy
 have hw:Region.wanted o (yielded ops a.tmps)=false:=by
  unfold Region.wanted;rw [hg];simp only [];rw [hy];rfl
 rw [hw];exact hK undef w (h.k.quiet hq hB.out h.n (Below.refl _ _)) (RI.refl w) (by rw [hVi];trivial)
end
theorem noCl_loop {r:Loop}:NoCl (.loop r):=fun _ _ _ h=>by cases h
theorem simple_f {vs:List P2}{j:Nat}(hj:j<=vs.length)(h:∃k∈List.range j,∃m∈List.range vs.length,badB vs k m=true):simpleP vs=false:=dF fun h2=>by
 obtain⟨k,h3,m,h4,h5⟩:=h;have:=h2 k (List.mem_range.2 (Nat.lt_of_lt_of_le (List.mem_range.1 h3) hj)) m h4;rw [h5] at this;cases this
theorem cSimple {w:World}{N:Nat}{vs:List P2}{lv:Value}(hS:VSv N vs lv w)(hN1:1<=N:=by omega)(hN:N<=900:=by omega):Calls Tryz.prog 54 #[lv] w (RV (Vb (simpleP vs)) w):=by
 have hmax:=VSv_max hS;obtain⟨p,c,hlv⟩:=VSv_slice hS;subst hlv;refine calls_of_marks Tryz.func54 rfl ?_;simp only [Tryz.ntmps54,List.size_toArray,List.length_cons,List.length_nil,Nat.reduceAdd,Nat.reduceSub,Array.replicate_succ,Array.replicate_zero,List.push_toArray,List.append_toArray,List.nil_append,List.cons_append];generalize hA:(⟨_,_⟩:Act)=a0;have st0:St w.heap.size w 43 [] [(0,VEq (.slice p vs.length c))] a0 w:=by subst hA;exact St.begin rfl rfl (Lq.2 ⟨⟨_,rfl,rfl⟩,L0⟩)
 clear hA;refine Wm ?_
 refine rJ [] [VT,VT] [⟨1,some 0,some 0,23,1,VC1 (VEq (.slice p vs.length c)),VT⟩,⟨2,some 1,none,4,1,VT,VT⟩] [] st0 ⟨k_box1_ (A:=VEq (.slice p vs.length c)) rfl rfl rfl rfl rfl rfl rfl rfl rfl (by kernel_rfl) (.inr ⟨rfl,by kernel_rfl⟩) trivial,ks,trivial⟩ ?_;intro a1 w1 st1;obtain⟨b1,e1,hb1w,-,cs1,y1,z1,t1,u1⟩:=st1.boxAt (b:=(.k 1 23 1 (VC1 (VEq (.slice p vs.length c))))) (.head _) rfl rfl;obtain⟨x1,hx1,hx2⟩:=u1;cases hx1;obtain rfl:x1=(.slice p vs.length c):=hx2;have stA:St w.heap.size w 43 [.k 2 4 1 VT] [(1,VRow b1 #[(.slice p vs.length c)] 23)] a1 w1:=(St.cut (L':=[.k 2 4 1 VT]) (SL':=[]) st1).slots (Lq.2 ⟨⟨_,e1,rfl,y1⟩,L0⟩);refine Wm ?_
 have:Sb [] (VSd (.slice p vs.length c)):=⟨Stab_VSd (by simp) (by simp)⟩;refine rJ [] [VEq (.slice p vs.length c),VSd (.slice p vs.length c)] [.k 2 4 1 VT] [(1,VRow b1 #[(.slice p vs.length c)] 23),(9,VSd (.slice p vs.length c))] stA ⟨(by refine kr fun _ ac Y h hd=>?_;obtain⟨v0,hv0,X0⟩:=h.ot 1;exact load_Row1 rfl hv0 X0),(by refine kc fun _ ac Y h hd=>?_;obtain⟨v0,hv0,X0⟩:=h.dp hd 8;obtain rfl:v0=_:=X0;exact⟨#[(.slice p vs.length c)],by simp [hv0],cSides⟩),trivial⟩ ?_;intro a2 w2 st2;clear st1 stA;have hsd:=st2.sl (9,VSd (.slice p vs.length c)) (lS_mem rfl);obtain⟨_,f1,rfl,q1⟩:=st2.sl (1,VRow b1 #[(.slice p vs.length c)] 23) (lS_mem rfl);obtain⟨g2,hg2,st2⟩:=st2.ptrB 2 rfl rfl rfl;have f2:=st2.val (t:=2) (u:= .pointer (some ⟨g2,0,none⟩)) (.head _);have stB:St w.heap.size w 43 [.k 2 4 1 VT] [(1,VEq (.pointer (some ⟨b1,0,none⟩))),(2,VEq (.pointer (some ⟨g2,0,none⟩)))] a2 w2:=(St.cut (L':=[.k 2 4 1 VT]) (SL':=[]) st2).slots (Lq.2 ⟨⟨_,f1,rfl⟩,(Lq.2 ⟨⟨_,f2,rfl⟩,L0⟩)⟩);have hn0:=stB.n;refine Wm ?_
 refine range_sidesR (n:=5) (Nf:=43) (t:=4) (N:=N) (vs:=vs) (lv:=(.slice p vs.length c)) (BT:=[(4,1,0),(73,16,0),(3,1,0)]) (fun _=>[.k 2 4 1 VT]) (fun _=>[.k 2 4 1 (VC1 (Vb false))]) (fun (ks:List Nat) (W:World)=>W.heap[b1]? =some (.cells #[(.slice p vs.length c)] 23 (0,0))/\∀k∈ks,∀m∈List.range vs.length,badB vs k m=false) (fun (ks:List Nat) (_:World)=>∃k∈ks,∃m∈List.range vs.length,badB vs k m=true) [(1,VEq (.pointer (some ⟨b1,0,none⟩))),(2,VEq (.pointer (some ⟨g2,0,none⟩)))] stB ⟨q1,by simp⟩ (fun k=>[(3,VNw 0 #[.int .i64 (k:Int)] 3)]) (fun ks s A B row hs hg hr=>⟨own_row hs.1 hg hr,hs.2⟩) (fun ks=>ownFrom_pure _ _) hsd hS (fun _=>(Lq.2 ⟨⟨rfl,rfl,_,(.tail _ (.head _))⟩,L0⟩)) (fun _=>(Lq.2 ⟨⟨rfl,rfl,_,(.tail _ (.head _))⟩,L0⟩)) (Lq.2 ⟨⟨_,rfl⟩,(Lq.2 ⟨⟨_,rfl⟩,L0⟩)⟩) (by decide) (by decide) (by decide) (Lq.2 ⟨⟨by simp,by simp⟩,(Lq.2 ⟨⟨by simp,by simp⟩,L0⟩)⟩) (by decide) (by simp) (by simp) ?assign ?body (fun _ _=>(Lq.2 ⟨⟨_,(.head _),rfl⟩,L0⟩)) (fun _=>(Lq.2 ⟨(by simp),L0⟩)) ?done ?stop
 case assign=>
  intro l k a3 W K hnW hbW st1 hK;refine Wm ?_
  refine rgS (BT:=[]) (k:=1) (Vl:=[VNw W.heap.size #[.int .i64 0] 3]) (B:=[]) (SL':=[(11,VAt w (VSg N vs k)),(10,Vi (k:Int)),(1,VEq (.pointer (some ⟨b1,0,none⟩))),(2,VEq (.pointer (some ⟨g2,0,none⟩))),(3,VNw W.heap.size #[.int .i64 0] 3)]) st1.defers st1.undef ⟨?s0,trivial⟩ rfl rfl rfl rfl (fun _ e=>by cases e) (by kernel_rfl) rfl ?tail rfl (by kernel_rfl);case s0=>refine k_mem SbB.out (by kernel_rfl) fun _ ac Y h hd=>⟨trivial,?_⟩;exact alloc_intN rfl h.n
  case tail=>
  intro a4 w4 hd4 st4;obtain⟨_,e3,g3,hg3,rfl,y3⟩:=st4.sl (3,VNw W.heap.size #[.int .i64 0] 3) (lS_mem rfl);obtain⟨_,e10,h10⟩:=st4.sl (10,Vi (k:Int)) (lS_mem rfl);obtain rfl:_=Value.int .i64 (k:Int):=h10;obtain⟨v11,e11,h11⟩:=st4.sl (11,VAt w (VSg N vs k)) (lS_mem rfl);obtain⟨_,e1,rfl⟩:=st4.sl (1,VEq (.pointer (some ⟨b1,0,none⟩))) (lS_mem rfl);obtain⟨_,e2,rfl⟩:=st4.sl (2,VEq (.pointer (some ⟨g2,0,none⟩))) (lS_mem rfl);refine⟨_,run_store1 (u:= .int .i64 (k:Int)) (old:= .int .i64 0) rfl (ev_tmp e3) (ev_tmp e10) y3 size_int rfl,?_⟩;have st5:=St.redo hd4 (st4.setRow (cs:=#[.int .i64 (k:Int)]) (SL':=[(11,VAt w (VSg N vs k)),(3,VNw 0 #[.int .i64 (k:Int)] 3),(1,VEq (.pointer (some ⟨b1,0,none⟩))),(2,VEq (.pointer (some ⟨g2,0,none⟩)))]) hg3 (Lq.2 ⟨⟨v11,e11,h11⟩,(Lq.2 ⟨⟨_,e3,g3,Nat.zero_le _,rfl,setRow_heap _ _ _ _ _ _ y3⟩,(Lq.2 ⟨⟨_,e1,rfl⟩,(Lq.2 ⟨⟨_,e2,rfl⟩,L0⟩)⟩)⟩)⟩));refine Wm ?_
  have:Sb [(73,16,0)] (VNw 0 #[.int .i64 (k:Int)] 3):=⟨Stab_VNw (by simp)⟩;refine rJ [(73,16,0)] [VT,VT] [⟨4,some 0,some 1,73,16,VAt w (VSg N vs k),VT⟩] [(3,VNw 0 #[.int .i64 (k:Int)] 3),(1,VEq (.pointer (some ⟨b1,0,none⟩))),(2,VEq (.pointer (some ⟨g2,0,none⟩)))] st5 ⟨ks,ks,trivial⟩ ?_;intro a6 w6 st6;exact hK _ _ st6.cut
 case body=>
  intro l k xs a3 W hk hlen hl hrec st1 hE1;obtain⟨r1,rn⟩:=hE1;obtain⟨r0,hr0⟩:=hrec;obtain⟨x4,e4,-,-,cs4,y4,z4,t4,u4⟩:=st1.boxAt (b:=(.k 4 73 16 (VAt w (VSg N vs k)))) (.tail _ (.head _)) rfl rfl;have z4':cs4.size=16:=z4;obtain⟨_,e3,g3,-,rfl,y3⟩:=st1.sl (3,VNw 0 #[.int .i64 (k:Int)] 3) (by simp);obtain⟨v10,e10,h10⟩:=st1.sl (10,VKR w2.heap.size [(4,1,0),(73,16,0),(3,1,0)] W) (by simp);have e1:=st1.val (t:=1) (u:= .pointer (some ⟨b1,0,none⟩)) (by simp);have e2:=st1.val (t:=2) (u:= .pointer (some ⟨g2,0,none⟩)) (by simp);have stC:St w.heap.size w 43 [.k 2 4 1 VT] [(10,VKR w2.heap.size [(4,1,0),(73,16,0),(3,1,0)] W),(1,VRow b1 #[(.slice p vs.length c)] 23),(2,VEq (.pointer (some ⟨g2,0,none⟩))),(3,VRow g3 #[.int .i64 (k:Int)] 3),(4,VRow x4 cs4 73)] a3 W:=(St.sub (L':=[.k 2 4 1 VT]) (SL':=[]) st1 (fun x hx=>by simp at hx;simp [hx]) (fun x hx=>absurd hx (by simp))).slots (Lq.2 ⟨⟨v10,e10,h10⟩,(Lq.2 ⟨⟨_,e1,rfl,r1⟩,(Lq.2 ⟨⟨_,e2,rfl⟩,(Lq.2 ⟨⟨_,e3,rfl,y3⟩,(Lq.2 ⟨⟨_,e4,rfl,y4⟩,L0⟩)⟩)⟩)⟩)⟩);refine Wm ?_
  have:Sb [] (VSd (.slice p vs.length c)):=⟨Stab_VSd (by simp) (by simp)⟩;have:Sb [] (VKR w2.heap.size [(4,1,0),(73,16,0),(3,1,0)] W):=⟨Stab_VKR (by simp) (by simp)⟩;refine rJ [] [VEq (.slice p vs.length c),VSd (.slice p vs.length c)] [.k 2 4 1 VT] [(10,VKR w2.heap.size [(4,1,0),(73,16,0),(3,1,0)] W),(1,VRow b1 #[(.slice p vs.length c)] 23),(2,VEq (.pointer (some ⟨g2,0,none⟩))),(3,VRow g3 #[.int .i64 (k:Int)] 3),(4,VRow x4 cs4 73),(13,VSd (.slice p vs.length c))] stC ⟨(by refine kr fun _ ac Y h hd=>?_;obtain⟨v0,hv0,X0⟩:=h.ot 1;exact load_Row1 rfl hv0 X0),(by refine kc fun _ ac Y h hd=>?_;obtain⟨v0,hv0,X0⟩:=h.dp hd 12;obtain rfl:v0=_:=X0;exact⟨#[(.slice p vs.length c)],by simp [hv0],cSides⟩),trivial⟩ ?_;intro a3 w3 st3;clear stC;have hsd3:=st3.sl (13,VSd (.slice p vs.length c)) (lS_mem rfl);obtain⟨_,f1,rfl,q1⟩:=st3.sl (1,VRow b1 #[(.slice p vs.length c)] 23) (lS_mem rfl);obtain⟨_,f2,rfl⟩:=st3.sl (2,VEq (.pointer (some ⟨g2,0,none⟩))) (lS_mem rfl);obtain⟨_,f3,rfl,q3⟩:=st3.sl (3,VRow g3 #[.int .i64 (k:Int)] 3) (lS_mem rfl);obtain⟨_,f4,rfl,q4⟩:=st3.sl (4,VRow x4 cs4 73) (lS_mem rfl);obtain⟨v10b,f10,k10⟩:=st3.sl (10,VKR w2.heap.size [(4,1,0),(73,16,0),(3,1,0)] W) (lS_mem rfl);have k10:VKR w2.heap.size [(4,1,0),(73,16,0),(3,1,0)] W undef w3:=k10;have hl0:w3.heap[l]? =some (.loop r0):=k10.1.2 l _ hl hr0 noCl_loop;have stI:St w.heap.size w 43 [.k 2 4 1 VT] [(1,VEq (.pointer (some ⟨b1,0,none⟩))),(2,VEq (.pointer (some ⟨g2,0,none⟩))),(3,VEq (.pointer (some ⟨g3,0,none⟩))),(4,VEq (.pointer (some ⟨x4,0,none⟩)))] a3 w3:=(St.cut (L':=[.k 2 4 1 VT]) (SL':=[]) st3).slots (Lq.2 ⟨⟨_,f1,rfl⟩,(Lq.2 ⟨⟨_,f2,rfl⟩,(Lq.2 ⟨⟨_,f3,rfl⟩,(Lq.2 ⟨⟨_,f4,rfl⟩,L0⟩)⟩)⟩)⟩);refine Wm ?_
  refine range_sidesN (n:=5 - 1 - 1) (l0:=l) (r0:=r0) (Nf:=43) (t:=6) (N:=N) (vs:=vs) (lv:=(.slice p vs.length c)) (BT:=[(4,1,0),(73,16,0)]) (fun _=>[.k 2 4 1 VT]) (fun _=>[.k 2 4 1 (VC1 (Vb false))]) (fun (ms:List Nat) (X:World)=>X.heap[b1]? =some (.cells #[(.slice p vs.length c)] 23 (0,0))/\X.heap[g3]? =some (.cells #[.int .i64 (k:Int)] 3 (0,0))/\X.heap[x4]? =some (.cells cs4 73 (0,0))/\VKR w2.heap.size [(4,1,0),(73,16,0),(3,1,0)] W undef X/\∀m∈ms,badB vs k m=false) (fun (ms:List Nat) (X:World)=>VKR w2.heap.size [(4,1,0),(73,16,0),(3,1,0)] W undef X/\∃m∈ms,badB vs k m=true) [(1,VEq (.pointer (some ⟨b1,0,none⟩))),(2,VEq (.pointer (some ⟨g2,0,none⟩))),(3,VEq (.pointer (some ⟨g3,0,none⟩))),(4,VEq (.pointer (some ⟨x4,0,none⟩)))] hl0 stI ⟨q1,q3,q4,k10,by simp⟩ (fun m=>[(5,Vi (m:Int))]) (fun ks s A B row hs hg hr=>⟨own_row hs.1 hg hr,own_row hs.2.1 hg hr,own_row hs.2.2.1 hg hr,own_vkr hs.2.2.2.1 k10.1.1 hg hr,hs.2.2.2.2⟩) (fun ks s A B row hs hg hr=>⟨own_vkr hs.1 k10.1.1 hg hr,hs.2⟩) hsd3 hS (fun _=>(Lq.2 ⟨⟨rfl,rfl,_,(.tail _ (.head _))⟩,L0⟩)) (fun _=>(Lq.2 ⟨⟨rfl,rfl,_,(.tail _ (.head _))⟩,L0⟩)) (Lq.2 ⟨⟨_,rfl⟩,(Lq.2 ⟨⟨_,rfl⟩,(Lq.2 ⟨⟨_,rfl⟩,(Lq.2 ⟨⟨_,rfl⟩,L0⟩)⟩)⟩)⟩) (by decide) (by decide) (by decide) (Lq.2 ⟨⟨by simp,by simp⟩,(Lq.2 ⟨⟨by simp,by simp⟩,(Lq.2 ⟨⟨by simp,by simp⟩,(Lq.2 ⟨⟨by simp,by simp⟩,L0⟩)⟩)⟩)⟩) (by decide) (by simp) (by simp) ?assign2 ?body2 (fun _ _=>(Lq.2 ⟨⟨_,(.head _),rfl⟩,L0⟩)) (fun _=>(Lq.2 ⟨(by simp),L0⟩)) ?done2 ?stop2
  case assign2=>
   intro l2 m a4 W4 K hn4 hb4 st4 hK;refine Wm ?_
   refine rJ [] [Vi (m:Int)] [] [(15,VAt w (VSg N vs m)),(5,Vi (m:Int)),(1,VEq (.pointer (some ⟨b1,0,none⟩))),(2,VEq (.pointer (some ⟨g2,0,none⟩))),(3,VEq (.pointer (some ⟨g3,0,none⟩))),(4,VEq (.pointer (some ⟨x4,0,none⟩)))] st4 ⟨ks,trivial⟩ ?_;intro a5 w5 st5;refine Wm ?_
   refine rJ [(73,16,0)] [VT,VT] [⟨6,some 0,some 1,73,16,VAt w (VSg N vs m),VT⟩] [(5,Vi (m:Int)),(1,VEq (.pointer (some ⟨b1,0,none⟩))),(2,VEq (.pointer (some ⟨g2,0,none⟩))),(3,VEq (.pointer (some ⟨g3,0,none⟩))),(4,VEq (.pointer (some ⟨x4,0,none⟩)))] st5 ⟨ks,ks,trivial⟩ ?_;intro a6 w6 st6;exact hK _ _ st6.cut
  case done2=>
   intro W5 st5 hE5;obtain⟨s1,s3,s4,sk,sn⟩:=hE5;have e1:=st5.val (t:=1) (u:= .pointer (some ⟨b1,0,none⟩)) (by simp);have e2:=st5.val (t:=2) (u:= .pointer (some ⟨g2,0,none⟩)) (by simp);refine⟨st5.slots (Lq.2 ⟨⟨v10b,f10,sk⟩,(Lq.2 ⟨⟨_,e1,rfl⟩,(Lq.2 ⟨⟨_,e2,rfl⟩,L0⟩)⟩)⟩),s1,fun j hj=>?_⟩;rcases List.mem_append.1 hj with hj|hj
   ·exact rn j hj
   ·rw [List.mem_singleton.1 hj];exact sn
  case stop2=>
   intro j W5 hj st5 hE5;have e1:=st5.val (t:=1) (u:= .pointer (some ⟨b1,0,none⟩)) (by simp);have e2:=st5.val (t:=2) (u:= .pointer (some ⟨g2,0,none⟩)) (by simp);obtain⟨sk,m,hm,hbad⟩:=hE5;exact wpIn_ret ⟨st5.slots (Lq.2 ⟨⟨v10b,f10,sk⟩,(Lq.2 ⟨⟨_,e1,rfl⟩,(Lq.2 ⟨⟨_,e2,rfl⟩,L0⟩)⟩)⟩),k,by simp,m,List.mem_range.2 (Nat.lt_of_lt_of_le (List.mem_range.1 hm) hj),hbad⟩
  case body2=>
   intro l2 m ms a4 W4 hm hlen2 st4 hE4;obtain⟨s1,s3,s4,sk,sn⟩:=hE4;have e1:=st4.val (t:=1) (u:= .pointer (some ⟨b1,0,none⟩)) (by simp);have e2:=st4.val (t:=2) (u:= .pointer (some ⟨g2,0,none⟩)) (by simp);have e3:=st4.val (t:=3) (u:= .pointer (some ⟨g3,0,none⟩)) (by simp);have e4:=st4.val (t:=4) (u:= .pointer (some ⟨x4,0,none⟩)) (by simp);obtain⟨v14,e14,h14⟩:=st4.sl (14,VKR w3.heap.size [(4,1,0),(73,16,0)] W4) (by simp);obtain⟨v5,e5,h5⟩:=st4.sl (5,Vi (m:Int)) (by simp);obtain⟨v13x,e13⟩:∃u,a4.tmps[13]? =some u:=⟨_,Array.getElem?_eq_getElem (by rw [st4.size];decide)⟩;have st11:St w.heap.size w 43 [.k 2 4 1 VT,.k 6 73 16 (VAt w (VSg N vs m))] [(14,VKR w3.heap.size [(4,1,0),(73,16,0)] W4),(13,VKR w2.heap.size [(4,1,0),(73,16,0),(3,1,0)] W),(1,VRow b1 #[(.slice p vs.length c)] 23),(2,VEq (.pointer (some ⟨g2,0,none⟩))),(3,VRow g3 #[.int .i64 (k:Int)] 3),(4,VRow x4 cs4 73),(5,Vi (m:Int))] a4 W4:=St.slots (L:=[.k 2 4 1 VT,.k 6 73 16 (VAt w (VSg N vs m))]) st4 (Lq.2 ⟨⟨v14,e14,h14⟩,(Lq.2 ⟨⟨_,e13,sk⟩,(Lq.2 ⟨⟨_,e1,rfl,s1⟩,(Lq.2 ⟨⟨_,e2,rfl⟩,(Lq.2 ⟨⟨_,e3,rfl,s3⟩,(Lq.2 ⟨⟨_,e4,rfl,s4⟩,(Lq.2 ⟨⟨v5,e5,h5⟩,L0⟩)⟩)⟩)⟩)⟩)⟩)⟩);refine Wm ?_
   refine wpIn_mono (Q:=fun e aX wX=>e= .normal/\St w.heap.size w 43 [.k 2 4 1 VT,.k 6 73 16 (VAt w (VSg N vs m))] [(14,VKR w3.heap.size [(4,1,0),(73,16,0)] W4),(13,VKR w2.heap.size [(4,1,0),(73,16,0),(3,1,0)] W),(1,VRow b1 #[(.slice p vs.length c)] 23),(2,VEq (.pointer (some ⟨g2,0,none⟩))),(3,VRow g3 #[.int .i64 (k:Int)] 3),(4,VRow x4 cs4 73),(5,Vi (m:Int)),(7,Vb (fol vs k m))] aX wX) ?r7 ?_
   case r7=>
    by_cases c1:m=k+1
    ·
     refine Wm ?_
     have:Sb [] (VKR w3.heap.size [(4,1,0),(73,16,0)] W4):=⟨(Stab_VKR (by simp) (by simp))⟩;have:Sb [] (VKR w2.heap.size [(4,1,0),(73,16,0),(3,1,0)] W):=⟨(Stab_VKR (by simp) (by simp))⟩;have:Sb [] (VRow b1 #[(.slice p vs.length c)] 23):=⟨(Stab_VRow (by simp))⟩;have:Sb [] (VRow g3 #[.int .i64 (k:Int)] 3):=⟨(Stab_VRow (by simp))⟩;have:Sb [] (VRow x4 cs4 73):=⟨(Stab_VRow (by simp))⟩;refine rJ [] [Vi (m:Int),Vi (k:Int),Vi ((k:Int)+(1)),Vb true,Vb true,VT,VT,VEq undef,VT,VT,VT,VT,VT,VT,Vb true,Vb true] [.k 2 4 1 VT,.k 6 73 16 (VAt w (VSg N vs m))] [(14,VKR w3.heap.size [(4,1,0),(73,16,0)] W4),(13,VKR w2.heap.size [(4,1,0),(73,16,0),(3,1,0)] W),(1,VRow b1 #[(.slice p vs.length c)] 23),(2,VEq (.pointer (some ⟨g2,0,none⟩))),(3,VRow g3 #[.int .i64 (k:Int)] 3),(4,VRow x4 cs4 73),(5,Vi (m:Int)),(7,Vb true)] st11 ⟨ks,(by refine kr fun _ ac Y h hd=>?_;obtain⟨v0,hv0,X0⟩:=h.ot 3;exact load_Row1 rfl hv0 X0),(kr1 17 fun _ _ _ _ _ hv0 X0=>⟨_,run_addi rfl (hv0.trans X0) rfl wO,rfl⟩),(kr2 16 18 fun _ _ _ _ _ hv0 X0 _ hv1 X1=>⟨_,run_eqi rfl (hv0.trans X0) (hv1.trans X1),congrArg Value.bool (dT (by omega))⟩),ks,?s5,ks,(k_no0 rfl rfl rfl rfl ⟨_,rfl⟩ (by kernel_rfl) (by kernel_rfl)),(k_noU rfl rfl rfl ⟨_,rfl⟩ (by kernel_rfl) (by kernel_rfl)),(k_noU rfl rfl rfl ⟨_,rfl⟩ (by kernel_rfl) (by kernel_rfl)),(k_noU rfl rfl rfl ⟨_,rfl⟩ (by kernel_rfl) (by kernel_rfl)),(k_noU rfl rfl rfl ⟨_,rfl⟩ (by kernel_rfl) (by kernel_rfl)),(k_noU rfl rfl rfl ⟨_,rfl⟩ (by kernel_rfl) (by kernel_rfl)),ks,ks,ks,trivial⟩ ?_
     case s5=>
      refine k_skip SbB.out (by kernel_rfl) fun listed ac Y h hd=>⟨?_,trivial⟩
      obtain⟨u,hu,hy,hU⟩:=h.dep hd 4 20 (by kernel_rfl) (by kernel_rfl);obtain rfl:u= .bool true:=hU;exact⟨4,false,true,rfl,hy,by decide⟩
     intro a12 w12 st12;have hfo:fol vs k m=true:=by unfold fol;rw [dT c1];simp
     exact⟨rfl,by rw [hfo];exact st12.cut⟩
    ·
     by_cases c2:k=0
     ·
      by_cases c3:m+1=vs.length
      ·
       refine Wm ?_
       have:Sb [] (VKR w3.heap.size [(4,1,0),(73,16,0)] W4):=⟨(Stab_VKR (by simp) (by simp))⟩;have:Sb [] (VKR w2.heap.size [(4,1,0),(73,16,0),(3,1,0)] W):=⟨(Stab_VKR (by simp) (by simp))⟩;have:Sb [] (VRow b1 #[(.slice p vs.length c)] 23):=⟨(Stab_VRow (by simp))⟩;have:Sb [] (VRow g3 #[.int .i64 (k:Int)] 3):=⟨(Stab_VRow (by simp))⟩;have:Sb [] (VRow x4 cs4 73):=⟨(Stab_VRow (by simp))⟩;refine rJ [] [Vi (m:Int),Vi (k:Int),Vi ((k:Int)+(1)),Vb false,Vb false,Vi (k:Int),Vb true,Vb true,Vi (m:Int),VEq (.slice p vs.length c),Vi (vs.length:Int),Vi ((vs.length:Int) - 1),Vb true,Vb true,Vb true,Vb true] [.k 2 4 1 VT,.k 6 73 16 (VAt w (VSg N vs m))] [(14,VKR w3.heap.size [(4,1,0),(73,16,0)] W4),(13,VKR w2.heap.size [(4,1,0),(73,16,0),(3,1,0)] W),(1,VRow b1 #[(.slice p vs.length c)] 23),(2,VEq (.pointer (some ⟨g2,0,none⟩))),(3,VRow g3 #[.int .i64 (k:Int)] 3),(4,VRow x4 cs4 73),(5,Vi (m:Int)),(7,Vb true)] st11 ⟨ks,(by refine kr fun _ ac Y h hd=>?_;obtain⟨v0,hv0,X0⟩:=h.ot 3;exact load_Row1 rfl hv0 X0),(kr1 17 fun _ _ _ _ _ hv0 X0=>⟨_,run_addi rfl (hv0.trans X0) rfl wO,rfl⟩),(kr2 16 18 fun _ _ _ _ _ hv0 X0 _ hv1 X1=>⟨_,run_eqi rfl (hv0.trans X0) (hv1.trans X1),congrArg Value.bool (dF (by omega))⟩),ks,(by refine kr fun _ ac Y h hd=>?_;obtain⟨v0,hv0,X0⟩:=h.ot 3;exact load_Row1 rfl hv0 X0),(kr1 21 fun _ _ _ _ _ hv0 X0=>⟨_,run_eqi rfl (hv0.trans X0) rfl,congrArg Value.bool (dT (by omega))⟩),ks,ks,(by refine kr fun _ ac Y h hd=>?_;obtain⟨v0,hv0,X0⟩:=h.ot 1;exact load_Row1 rfl hv0 X0),(kr1 25 fun _ _ _ _ _ hv0 X0=>len_Sv rfl rfl hv0 X0 hS),(kr1 26 fun _ _ _ _ _ hv0 X0=>⟨_,run_subi rfl (hv0.trans X0) rfl wO,rfl⟩),(kr2 24 27 fun _ _ _ _ _ hv0 X0 _ hv1 X1=>⟨_,run_eqi rfl (hv0.trans X0) (hv1.trans X1),congrArg Value.bool (dT (by omega))⟩),ks,ks,ks,trivial⟩ ?_;intro a12 w12 st12;have hfo:fol vs k m=true:=by unfold fol;rw [dF c1,dT c2,dT c3];simp
       exact⟨rfl,by rw [hfo];exact st12.cut⟩
      ·
       refine Wm ?_
       have:Sb [] (VKR w3.heap.size [(4,1,0),(73,16,0)] W4):=⟨(Stab_VKR (by simp) (by simp))⟩;have:Sb [] (VKR w2.heap.size [(4,1,0),(73,16,0),(3,1,0)] W):=⟨(Stab_VKR (by simp) (by simp))⟩;have:Sb [] (VRow b1 #[(.slice p vs.length c)] 23):=⟨(Stab_VRow (by simp))⟩;have:Sb [] (VRow g3 #[.int .i64 (k:Int)] 3):=⟨(Stab_VRow (by simp))⟩;have:Sb [] (VRow x4 cs4 73):=⟨(Stab_VRow (by simp))⟩;refine rJ [] [Vi (m:Int),Vi (k:Int),Vi ((k:Int)+(1)),Vb false,Vb false,Vi (k:Int),Vb true,Vb true,Vi (m:Int),VEq (.slice p vs.length c),Vi (vs.length:Int),Vi ((vs.length:Int) - 1),Vb false,Vb false,Vb false,Vb false] [.k 2 4 1 VT,.k 6 73 16 (VAt w (VSg N vs m))] [(14,VKR w3.heap.size [(4,1,0),(73,16,0)] W4),(13,VKR w2.heap.size [(4,1,0),(73,16,0),(3,1,0)] W),(1,VRow b1 #[(.slice p vs.length c)] 23),(2,VEq (.pointer (some ⟨g2,0,none⟩))),(3,VRow g3 #[.int .i64 (k:Int)] 3),(4,VRow x4 cs4 73),(5,Vi (m:Int)),(7,Vb false)] st11 ⟨ks,(by refine kr fun _ ac Y h hd=>?_;obtain⟨v0,hv0,X0⟩:=h.ot 3;exact load_Row1 rfl hv0 X0),(kr1 17 fun _ _ _ _ _ hv0 X0=>⟨_,run_addi rfl (hv0.trans X0) rfl wO,rfl⟩),(kr2 16 18 fun _ _ _ _ _ hv0 X0 _ hv1 X1=>⟨_,run_eqi rfl (hv0.trans X0) (hv1.trans X1),congrArg Value.bool (dF (by omega))⟩),ks,(by refine kr fun _ ac Y h hd=>?_;obtain⟨v0,hv0,X0⟩:=h.ot 3;exact load_Row1 rfl hv0 X0),(kr1 21 fun _ _ _ _ _ hv0 X0=>⟨_,run_eqi rfl (hv0.trans X0) rfl,congrArg Value.bool (dT (by omega))⟩),ks,ks,(by refine kr fun _ ac Y h hd=>?_;obtain⟨v0,hv0,X0⟩:=h.ot 1;exact load_Row1 rfl hv0 X0),(kr1 25 fun _ _ _ _ _ hv0 X0=>len_Sv rfl rfl hv0 X0 hS),(kr1 26 fun _ _ _ _ _ hv0 X0=>⟨_,run_subi rfl (hv0.trans X0) rfl wO,rfl⟩),(kr2 24 27 fun _ _ _ _ _ hv0 X0 _ hv1 X1=>⟨_,run_eqi rfl (hv0.trans X0) (hv1.trans X1),congrArg Value.bool (dF (by omega))⟩),ks,ks,ks,trivial⟩ ?_;intro a12 w12 st12;have hfo:fol vs k m=false:=by unfold fol;rw [dF c1,dT c2,dF c3];simp
       exact⟨rfl,by rw [hfo];exact st12.cut⟩
     ·
      refine Wm ?_
      have:Sb [] (VKR w3.heap.size [(4,1,0),(73,16,0)] W4):=⟨(Stab_VKR (by simp) (by simp))⟩;have:Sb [] (VKR w2.heap.size [(4,1,0),(73,16,0),(3,1,0)] W):=⟨(Stab_VKR (by simp) (by simp))⟩;have:Sb [] (VRow b1 #[(.slice p vs.length c)] 23):=⟨(Stab_VRow (by simp))⟩;have:Sb [] (VRow g3 #[.int .i64 (k:Int)] 3):=⟨(Stab_VRow (by simp))⟩;have:Sb [] (VRow x4 cs4 73):=⟨(Stab_VRow (by simp))⟩;refine rJ [] [Vi (m:Int),Vi (k:Int),Vi ((k:Int)+(1)),Vb false,Vb false,Vi (k:Int),Vb false,Vb false,VT,VT,VT,VT,VT,Vb false,Vb false,Vb false] [.k 2 4 1 VT,.k 6 73 16 (VAt w (VSg N vs m))] [(14,VKR w3.heap.size [(4,1,0),(73,16,0)] W4),(13,VKR w2.heap.size [(4,1,0),(73,16,0),(3,1,0)] W),(1,VRow b1 #[(.slice p vs.length c)] 23),(2,VEq (.pointer (some ⟨g2,0,none⟩))),(3,VRow g3 #[.int .i64 (k:Int)] 3),(4,VRow x4 cs4 73),(5,Vi (m:Int)),(7,Vb false)] st11 ⟨ks,(by refine kr fun _ ac Y h hd=>?_;obtain⟨v0,hv0,X0⟩:=h.ot 3;exact load_Row1 rfl hv0 X0),(kr1 17 fun _ _ _ _ _ hv0 X0=>⟨_,run_addi rfl (hv0.trans X0) rfl wO,rfl⟩),(kr2 16 18 fun _ _ _ _ _ hv0 X0 _ hv1 X1=>⟨_,run_eqi rfl (hv0.trans X0) (hv1.trans X1),congrArg Value.bool (dF (by omega))⟩),ks,(by refine kr fun _ ac Y h hd=>?_;obtain⟨v0,hv0,X0⟩:=h.ot 3;exact load_Row1 rfl hv0 X0),(kr1 21 fun _ _ _ _ _ hv0 X0=>⟨_,run_eqi rfl (hv0.trans X0) rfl,congrArg Value.bool (dF (by omega))⟩),ks,ks,?s9,?s10,ks,ks,ks,ks,ks,trivial⟩ ?_
      case s9=>
       refine k_skip SbB.out (by kernel_rfl) fun listed ac Y h hd=>⟨?_,trivial⟩
       obtain⟨u,hu,hy,hU⟩:=h.dep hd 7 23 (by kernel_rfl) (by kernel_rfl);obtain rfl:u= .bool false:=hU;exact⟨7,true,false,rfl,hy,by decide⟩
      case s10=>
       refine k_skip SbB.out (by kernel_rfl) fun listed ac Y h hd=>⟨?_,trivial⟩
       obtain⟨u,hu,hy,hU⟩:=h.dep hd 7 23 (by kernel_rfl) (by kernel_rfl);obtain rfl:u= .bool false:=hU;exact⟨7,true,false,rfl,hy,by decide⟩
      intro a12 w12 st12;have hfo:fol vs k m=false:=by unfold fol;rw [dF c1,dF c2];simp
      exact⟨rfl,by rw [hfo];exact st12.cut⟩
   rintro _ a7 w7 ⟨rfl,st7⟩
   clear st11;refine Wm ?_
   refine wpIn_mono (Q:=fun e aX wX=>e= .normal/\St w.heap.size w 43 [.k 2 4 1 VT,.k 6 73 16 (VAt w (VSg N vs m))] [(14,VKR w3.heap.size [(4,1,0),(73,16,0)] W4),(13,VKR w2.heap.size [(4,1,0),(73,16,0),(3,1,0)] W),(1,VRow b1 #[(.slice p vs.length c)] 23),(2,VEq (.pointer (some ⟨g2,0,none⟩))),(3,VRow g3 #[.int .i64 (k:Int)] 3),(4,VRow x4 cs4 73),(5,Vi (m:Int)),(42,Vb (badB vs k m))] aX wX) ?r8 ?_
   case r8=>
    by_cases hfo:fol vs k m=true
    ·
     rw [hfo] at st7;by_cases hkm:k<m
     ·
      refine Wm ?_
      have:Sb [] (VKR w3.heap.size [(4,1,0),(73,16,0)] W4):=⟨(Stab_VKR (by simp) (by simp))⟩;have:Sb [] (VKR w2.heap.size [(4,1,0),(73,16,0),(3,1,0)] W):=⟨(Stab_VKR (by simp) (by simp))⟩;have:Sb [] (VRow b1 #[(.slice p vs.length c)] 23):=⟨(Stab_VRow (by simp))⟩;have:Sb [] (VRow g3 #[.int .i64 (k:Int)] 3):=⟨(Stab_VRow (by simp))⟩;have:Sb [] (VRow x4 cs4 73):=⟨(Stab_VRow (by simp))⟩;refine rJ [] [Vi (m:Int),Vi (k:Int),Vb true,Vb true,Vb true,Vb false,Vb false,Vb false,VT,VT,VT,Vb false] [.k 2 4 1 VT,.k 6 73 16 (VAt w (VSg N vs m))] [(14,VKR w3.heap.size [(4,1,0),(73,16,0)] W4),(13,VKR w2.heap.size [(4,1,0),(73,16,0),(3,1,0)] W),(1,VRow b1 #[(.slice p vs.length c)] 23),(2,VEq (.pointer (some ⟨g2,0,none⟩))),(3,VRow g3 #[.int .i64 (k:Int)] 3),(4,VRow x4 cs4 73),(5,Vi (m:Int)),(42,Vb false)] st7 ⟨ks,(by refine kr fun _ ac Y h hd=>?_;obtain⟨v0,hv0,X0⟩:=h.ot 3;exact load_Row1 rfl hv0 X0),(kr2 31 32 fun _ _ _ _ _ hv0 X0 _ hv1 X1=>⟨_,run_gtri rfl (hv0.trans X0) (hv1.trans X1),congrArg Value.bool (dT (by omega))⟩),ks,ks,ks,ks,ks,?s8,ks,ks,ks,trivial⟩ ?_
      case s8=>
       refine k_skip SbB.out (by kernel_rfl) fun listed ac Y h hd=>⟨?_,trivial⟩
       obtain⟨u,hu,hy,hU⟩:=h.dep hd 7 38 (by kernel_rfl) (by kernel_rfl);obtain rfl:u= .bool false:=hU;exact⟨7,true,false,rfl,hy,by decide⟩
      intro a8 w8 st8;have hba:badB vs k m=false:=by unfold badB;simp [hfo]
      exact⟨rfl,by rw [hba];exact st8.cut⟩
     ·
      refine Wm ?_
      have:Sb [] (VKR w3.heap.size [(4,1,0),(73,16,0)] W4):=⟨(Stab_VKR (by simp) (by simp))⟩;have:Sb [] (VKR w2.heap.size [(4,1,0),(73,16,0),(3,1,0)] W):=⟨(Stab_VKR (by simp) (by simp))⟩;have:Sb [] (VRow b1 #[(.slice p vs.length c)] 23):=⟨(Stab_VRow (by simp))⟩;have:Sb [] (VRow g3 #[.int .i64 (k:Int)] 3):=⟨(Stab_VRow (by simp))⟩;have:Sb [] (VRow x4 cs4 73):=⟨(Stab_VRow (by simp))⟩;refine rJ [] [Vi (m:Int),Vi (k:Int),Vb false,Vb false,VT,VT,Vb false,Vb false,VT,VT,VT,Vb false] [.k 2 4 1 VT,.k 6 73 16 (VAt w (VSg N vs m))] [(14,VKR w3.heap.size [(4,1,0),(73,16,0)] W4),(13,VKR w2.heap.size [(4,1,0),(73,16,0),(3,1,0)] W),(1,VRow b1 #[(.slice p vs.length c)] 23),(2,VEq (.pointer (some ⟨g2,0,none⟩))),(3,VRow g3 #[.int .i64 (k:Int)] 3),(4,VRow x4 cs4 73),(5,Vi (m:Int)),(42,Vb false)] st7 ⟨ks,(by refine kr fun _ ac Y h hd=>?_;obtain⟨v0,hv0,X0⟩:=h.ot 3;exact load_Row1 rfl hv0 X0),(kr2 31 32 fun _ _ _ _ _ hv0 X0 _ hv1 X1=>⟨_,run_gtri rfl (hv0.trans X0) (hv1.trans X1),congrArg Value.bool (dF (by omega))⟩),ks,ks,ks,ks,ks,?s8,ks,ks,ks,trivial⟩ ?_
      case s8=>
       refine k_skip SbB.out (by kernel_rfl) fun listed ac Y h hd=>⟨?_,trivial⟩
       obtain⟨u,hu,hy,hU⟩:=h.dep hd 7 38 (by kernel_rfl) (by kernel_rfl);obtain rfl:u= .bool false:=hU;exact⟨7,true,false,rfl,hy,by decide⟩
      intro a8 w8 st8;have hba:badB vs k m=false:=by unfold badB;simp [hfo]
      exact⟨rfl,by rw [hba];exact st8.cut⟩
    ·
     rw [Bool.not_eq_true] at hfo;rw [hfo] at st7;by_cases hkm:k<m
     ·
      by_cases hmt:mts (cv vs k) (cv vs (k+1)) (cv vs m) (cv vs (m+1))=true
      ·
       refine Wm ?_
       have:Sb [] (VKR w3.heap.size [(4,1,0),(73,16,0)] W4):=⟨(Stab_VKR (by simp) (by simp))⟩;have:Sb [] (VKR w2.heap.size [(4,1,0),(73,16,0),(3,1,0)] W):=⟨(Stab_VKR (by simp) (by simp))⟩;have:Sb [] (VRow b1 #[(.slice p vs.length c)] 23):=⟨(Stab_VRow (by simp))⟩;have:Sb [] (VRow g3 #[.int .i64 (k:Int)] 3):=⟨(Stab_VRow (by simp))⟩;have:Sb [] (VRow x4 cs4 73):=⟨(Stab_VRow (by simp))⟩;refine rJ [] [Vi (m:Int),Vi (k:Int),Vb true,Vb true,Vb false,Vb true,Vb true,Vb true,VAt w (VSg N vs k),VAt w (VSg N vs m),Vb true,Vb true] [.k 2 4 1 VT,.k 6 73 16 (VAt w (VSg N vs m))] [(14,VKR w3.heap.size [(4,1,0),(73,16,0)] W4),(13,VKR w2.heap.size [(4,1,0),(73,16,0),(3,1,0)] W),(1,VRow b1 #[(.slice p vs.length c)] 23),(2,VEq (.pointer (some ⟨g2,0,none⟩))),(3,VRow g3 #[.int .i64 (k:Int)] 3),(4,VRow x4 cs4 73),(5,Vi (m:Int)),(42,Vb true)] st7 ⟨ks,(by refine kr fun _ ac Y h hd=>?_;obtain⟨v0,hv0,X0⟩:=h.ot 3;exact load_Row1 rfl hv0 X0),(kr2 31 32 fun _ _ _ _ _ hv0 X0 _ hv1 X1=>⟨_,run_gtri rfl (hv0.trans X0) (hv1.trans X1),congrArg Value.bool (dT (by omega))⟩),ks,ks,ks,ks,ks,(by refine kr fun _ ac Y h hd=>?_;obtain⟨v0,hv0,X0⟩:=h.ot 4;exact load_Row rfl hv0 X0 Tryz.underlying73 rfl (by rw [z4'];exact size_segment) u4),ks,(by exact kd2 fun _ _ Y h v0 X0 v1 X1=>(by have:=cSgMeets (VSg_now (show VAt w (VSg N vs k) v0 Y from X0) h.k.below) (VSg_now (show VAt w (VSg N vs m) v1 Y from X1) h.k.below) hN1;rw [hmt] at this;exact this)),ks,trivial⟩ ?_;intro a8 w8 st8;have hba:badB vs k m=true:=by unfold badB;simp [hfo,hkm,hmt]
       exact⟨rfl,by rw [hba];exact st8.cut⟩
      ·
       rw [Bool.not_eq_true] at hmt;refine Wm ?_
       have:Sb [] (VKR w3.heap.size [(4,1,0),(73,16,0)] W4):=⟨(Stab_VKR (by simp) (by simp))⟩;have:Sb [] (VKR w2.heap.size [(4,1,0),(73,16,0),(3,1,0)] W):=⟨(Stab_VKR (by simp) (by simp))⟩;have:Sb [] (VRow b1 #[(.slice p vs.length c)] 23):=⟨(Stab_VRow (by simp))⟩;have:Sb [] (VRow g3 #[.int .i64 (k:Int)] 3):=⟨(Stab_VRow (by simp))⟩;have:Sb [] (VRow x4 cs4 73):=⟨(Stab_VRow (by simp))⟩;refine rJ [] [Vi (m:Int),Vi (k:Int),Vb true,Vb true,Vb false,Vb true,Vb true,Vb true,VAt w (VSg N vs k),VAt w (VSg N vs m),Vb false,Vb false] [.k 2 4 1 VT,.k 6 73 16 (VAt w (VSg N vs m))] [(14,VKR w3.heap.size [(4,1,0),(73,16,0)] W4),(13,VKR w2.heap.size [(4,1,0),(73,16,0),(3,1,0)] W),(1,VRow b1 #[(.slice p vs.length c)] 23),(2,VEq (.pointer (some ⟨g2,0,none⟩))),(3,VRow g3 #[.int .i64 (k:Int)] 3),(4,VRow x4 cs4 73),(5,Vi (m:Int)),(42,Vb false)] st7 ⟨ks,(by refine kr fun _ ac Y h hd=>?_;obtain⟨v0,hv0,X0⟩:=h.ot 3;exact load_Row1 rfl hv0 X0),(kr2 31 32 fun _ _ _ _ _ hv0 X0 _ hv1 X1=>⟨_,run_gtri rfl (hv0.trans X0) (hv1.trans X1),congrArg Value.bool (dT (by omega))⟩),ks,ks,ks,ks,ks,(by refine kr fun _ ac Y h hd=>?_;obtain⟨v0,hv0,X0⟩:=h.ot 4;exact load_Row rfl hv0 X0 Tryz.underlying73 rfl (by rw [z4'];exact size_segment) u4),ks,(by exact kd2 fun _ _ Y h v0 X0 v1 X1=>(by have:=cSgMeets (VSg_now (show VAt w (VSg N vs k) v0 Y from X0) h.k.below) (VSg_now (show VAt w (VSg N vs m) v1 Y from X1) h.k.below) hN1;rw [hmt] at this;exact this)),ks,trivial⟩ ?_;intro a8 w8 st8;have hba:badB vs k m=false:=by unfold badB;simp [hfo,hkm,hmt]
       exact⟨rfl,by rw [hba];exact st8.cut⟩
     ·
      refine Wm ?_
      have:Sb [] (VKR w3.heap.size [(4,1,0),(73,16,0)] W4):=⟨(Stab_VKR (by simp) (by simp))⟩;have:Sb [] (VKR w2.heap.size [(4,1,0),(73,16,0),(3,1,0)] W):=⟨(Stab_VKR (by simp) (by simp))⟩;have:Sb [] (VRow b1 #[(.slice p vs.length c)] 23):=⟨(Stab_VRow (by simp))⟩;have:Sb [] (VRow g3 #[.int .i64 (k:Int)] 3):=⟨(Stab_VRow (by simp))⟩;have:Sb [] (VRow x4 cs4 73):=⟨(Stab_VRow (by simp))⟩;refine rJ [] [Vi (m:Int),Vi (k:Int),Vb false,Vb false,VT,VT,Vb false,Vb false,VT,VT,VT,Vb false] [.k 2 4 1 VT,.k 6 73 16 (VAt w (VSg N vs m))] [(14,VKR w3.heap.size [(4,1,0),(73,16,0)] W4),(13,VKR w2.heap.size [(4,1,0),(73,16,0),(3,1,0)] W),(1,VRow b1 #[(.slice p vs.length c)] 23),(2,VEq (.pointer (some ⟨g2,0,none⟩))),(3,VRow g3 #[.int .i64 (k:Int)] 3),(4,VRow x4 cs4 73),(5,Vi (m:Int)),(42,Vb false)] st7 ⟨ks,(by refine kr fun _ ac Y h hd=>?_;obtain⟨v0,hv0,X0⟩:=h.ot 3;exact load_Row1 rfl hv0 X0),(kr2 31 32 fun _ _ _ _ _ hv0 X0 _ hv1 X1=>⟨_,run_gtri rfl (hv0.trans X0) (hv1.trans X1),congrArg Value.bool (dF (by omega))⟩),ks,ks,ks,ks,ks,?s8,ks,ks,ks,trivial⟩ ?_
      case s8=>
       refine k_skip SbB.out (by kernel_rfl) fun listed ac Y h hd=>⟨?_,trivial⟩
       obtain⟨u,hu,hy,hU⟩:=h.dep hd 7 38 (by kernel_rfl) (by kernel_rfl);obtain rfl:u= .bool false:=hU;exact⟨7,true,false,rfl,hy,by decide⟩
      intro a8 w8 st8;have hba:badB vs k m=false:=by unfold badB;simp [hfo,hkm]
      exact⟨rfl,by rw [hba];exact st8.cut⟩
   rintro _ a8 w8 ⟨rfl,st8⟩
   clear st7;refine Wm ?_
   obtain⟨vc,hc1,hc2⟩:=st8.slot (42,Vb (badB vs k m)) (lS_mem rfl);by_cases hbad:badB vs k m=true
   ·refine wpIn_cond_true (hc1.trans (hc2.trans (congrArg Value.bool hbad))) ?_;refine Wm ?_
    have:Sb [(4,1,0)] (VKR w3.heap.size [(4,1,0),(73,16,0)] W4):=⟨Stab_VKR (by simp) (by simp)⟩;have:Sb [(4,1,0)] (VKR w2.heap.size [(4,1,0),(73,16,0),(3,1,0)] W):=⟨Stab_VKR (by simp) (by simp)⟩;have:Sb [(4,1,0)] (VRow b1 #[(.slice p vs.length c)] 23):=⟨Stab_VRow (by simp)⟩;have:Sb [(4,1,0)] (VRow g3 #[.int .i64 (k:Int)] 3):=⟨Stab_VRow (by simp)⟩;have:Sb [(4,1,0)] (VRow x4 cs4 73):=⟨Stab_VRow (by simp)⟩;refine rJ [(4,1,0)] [VT] [⟨2,none,some 0,4,1,VC1 (Vb false),VT⟩,.k 6 73 16 (VAt w (VSg N vs m))] [(14,VKR w3.heap.size [(4,1,0),(73,16,0)] W4),(13,VKR w2.heap.size [(4,1,0),(73,16,0),(3,1,0)] W),(1,VRow b1 #[(.slice p vs.length c)] 23),(2,VEq (.pointer (some ⟨g2,0,none⟩))),(3,VRow g3 #[.int .i64 (k:Int)] 3),(4,VRow x4 cs4 73),(5,Vi (m:Int))] st8 ⟨(by refine k_storec_ (A:=Vb false) rfl rfl rfl rfl rfl rfl rfl rfl rfl (fun _ h=>by cases h) (fun _=>rfl) size_bool rfl (by kernel_rfl) (by kernel_rfl) (by kernel_rfl) (by kernel_rfl) (by kernel_rfl) (.inl rfl) trivial),trivial⟩ ?_;intro a9 w9 st9;refine Wm ?_
    obtain⟨_,p1,rfl,o1⟩:=st9.sl (1,VRow b1 #[(.slice p vs.length c)] 23) (lS_mem rfl);obtain⟨_,p2,rfl⟩:=st9.sl (2,VEq (.pointer (some ⟨g2,0,none⟩))) (lS_mem rfl);obtain⟨_,p3,rfl,o3⟩:=st9.sl (3,VRow g3 #[.int .i64 (k:Int)] 3) (lS_mem rfl);obtain⟨_,p4,rfl,o4⟩:=st9.sl (4,VRow x4 cs4 73) (lS_mem rfl);obtain⟨v14,p14,o14⟩:=st9.sl (14,VKR w3.heap.size [(4,1,0),(73,16,0)] W4) (lS_mem rfl);obtain⟨v13,p13,o13⟩:=st9.sl (13,VKR w2.heap.size [(4,1,0),(73,16,0),(3,1,0)] W) (lS_mem rfl);exact wpIn_ret ⟨(St.cut (L':=[.k 2 4 1 (VC1 (Vb false))]) (SL':=[]) st9).slots (Lq.2 ⟨⟨v14,p14,o14⟩,(Lq.2 ⟨⟨_,p1,rfl⟩,(Lq.2 ⟨⟨_,p2,rfl⟩,(Lq.2 ⟨⟨_,p3,rfl⟩,(Lq.2 ⟨⟨_,p4,rfl⟩,L0⟩)⟩)⟩)⟩)⟩),o13,m,by simp,hbad⟩
   ·refine wpIn_cond_false (hc1.trans (hc2.trans (congrArg Value.bool (Bool.eq_false_iff.2 hbad)))) ?_;refine Wm ?_
    obtain⟨_,p1,rfl,o1⟩:=st8.sl (1,VRow b1 #[(.slice p vs.length c)] 23) (lS_mem rfl);obtain⟨_,p2,rfl⟩:=st8.sl (2,VEq (.pointer (some ⟨g2,0,none⟩))) (lS_mem rfl);obtain⟨_,p3,rfl,o3⟩:=st8.sl (3,VRow g3 #[.int .i64 (k:Int)] 3) (lS_mem rfl);obtain⟨_,p4,rfl,o4⟩:=st8.sl (4,VRow x4 cs4 73) (lS_mem rfl);obtain⟨v14,p14,o14⟩:=st8.sl (14,VKR w3.heap.size [(4,1,0),(73,16,0)] W4) (lS_mem rfl);obtain⟨v13,p13,o13⟩:=st8.sl (13,VKR w2.heap.size [(4,1,0),(73,16,0),(3,1,0)] W) (lS_mem rfl);refine⟨(St.cut (L':=[.k 2 4 1 VT]) (SL':=[]) st8).slots (Lq.2 ⟨⟨v14,p14,o14⟩,(Lq.2 ⟨⟨_,p1,rfl⟩,(Lq.2 ⟨⟨_,p2,rfl⟩,(Lq.2 ⟨⟨_,p3,rfl⟩,(Lq.2 ⟨⟨_,p4,rfl⟩,L0⟩)⟩)⟩)⟩)⟩),o1,o3,o4,o13,fun j hj=>?_⟩;rcases List.mem_append.1 hj with hj|hj
    ·exact sn j hj
    ·rw [List.mem_singleton.1 hj];exact Bool.eq_false_iff.2 hbad
 case stop=>
  intro D j W hD hj st1 hF hK;have hds:({a2 with defers:=[{target:= .collected D,args:=#[]}]}:Act).defers= [{target:= .collected D,args:=#[]}]:=rfl;replace st1:=(st1.addS (t:=9) (V:=VOb D) (by decide) (fun _=>hK)).undef;generalize hDa:({a2 with defers:=[{target:= .collected D,args:=#[]}]}:Act)=aD at hds ⊢;replace st1:St w.heap.size w 43 [.k 2 4 1 (VC1 (Vb false))] [(9,VOb D),(1,VEq (.pointer (some ⟨b1,0,none⟩))),(2,VEq (.pointer (some ⟨g2,0,none⟩)))] ⟨aD.tmps,[]⟩ W:=by rw [<-hDa];exact st1
  clear hDa;refine Wm ?_
  obtain⟨vo,ho1,ho2⟩:=st1.sl (9,VOb D) (lS_mem rfl);have stX:=St.grown (st1.cut (L':=[.k 2 4 1 (VC1 (Vb false))]) (SL':=[])) (grownBy_putObj' W D (.deferred none)) (fun r e=>by cases e;exact⟨Nat.le_trans hn0 hD,_,ho2,rfl⟩);obtain⟨g,cs,r1,r2,r3,r4,r5⟩:=stX.res (.k 2 4 1 (VC1 (Vb false))) (.head _) rfl rfl;obtain⟨x,hx,r4⟩:=r4;cases hx;exact wpIn_ret (ret_mark hds ho2 (results_cell_one rfl _ _ g 4 _ r1 r2) ⟨_,rfl,(by rw [simple_f hj hF];exact r4),r5⟩)
 case done=>
  intro D W hD st1 hF hK;have hds:({a2 with defers:=[{target:= .collected D,args:=#[]}]}:Act).defers= [{target:= .collected D,args:=#[]}]:=rfl;replace st1:=(st1.addS (t:=9) (V:=VOb D) (by decide) (fun _=>hK)).undef;generalize hDa:({a2 with defers:=[{target:= .collected D,args:=#[]}]}:Act)=aD at hds ⊢;replace st1:St w.heap.size w 43 [.k 2 4 1 VT] [(9,VOb D),(1,VEq (.pointer (some ⟨b1,0,none⟩))),(2,VEq (.pointer (some ⟨g2,0,none⟩)))] ⟨aD.tmps,[]⟩ W:=by rw [<-hDa];exact st1
  clear hDa;refine Wm ?_
  have:Sb [(4,1,0)] (VOb D):=⟨(Stab_VOb (by simp))⟩;refine rgD (BT:=[(4,1,0)]) (Vl:=[VT]) (B:=[⟨2,none,some 0,4,1,VC1 (Vb true),VT⟩]) (SL':=[(9,VOb D),(1,VEq (.pointer (some ⟨b1,0,none⟩))),(2,VEq (.pointer (some ⟨g2,0,none⟩)))]) hds st1 ⟨?s0,trivial⟩ ?_;case s0=>refine k_storec_ (A:=Vb true) rfl rfl rfl rfl rfl rfl rfl rfl rfl (fun _ h=>by cases h) (fun _=>rfl) size_bool rfl (by kernel_rfl) (by kernel_rfl) (by kernel_rfl) (by kernel_rfl) (by kernel_rfl) (.inl rfl) trivial
  intro a2 w2 hds st2;refine Wm ?_
  obtain⟨vo,ho1,ho2⟩:=st2.sl (9,VOb D) (lS_mem rfl);have stX:=St.grown (st2.cut (L':=[.k 2 4 1 (VC1 (Vb true))]) (SL':=[])) (grownBy_putObj' w2 D (.deferred none)) (fun r e=>by cases e;exact⟨Nat.le_trans hn0 hD,_,ho2,rfl⟩);obtain⟨g,cs,r1,r2,r3,r4,r5⟩:=stX.res (.k 2 4 1 (VC1 (Vb true))) (.head _) rfl rfl;obtain⟨x,hx,r4⟩:=r4;cases hx;exact wpIn_ret (ret_mark hds ho2 (results_cell_one rfl _ _ g 4 _ r1 r2) ⟨_,rfl,(by rw [show simpleP vs=true from dT hF.2];exact r4),r5⟩)
end Go.Proofs.YteacdbgalloaiaaGreat
