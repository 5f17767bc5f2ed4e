/- Contracts of the packages integer, rat, plane, polygon and their references. -/
import Derived.Test.YteacdbgalloaiaaGreatO10
import Derived.Test.YteacdbgalloaiaaGreatO5
import Derived.Test.YteacdbgalloaiaaGreatO4
import Derived.Test.YteacdbgalloaiaaGreatO9
import Derived.Test.YteacdbgalloaiaaGreatO8
set_option linter.unusedVariables false
set_option maxRecDepth 100000
set_option maxHeartbeats 6400000
namespace Go.Proofs.YteacdbgalloaiaaGreat
open Go.RowKit
theorem rdiv_long2 (a b:Option Addr)(n ca m cb:Nat)(x y:Nat)(w:World)(hRa:Rdi w a (digs x))(hRb:Rdi w b (digs y))(hn0:n=(digs x).length)(hm0:m=(digs y).length)(_hna:n<=ca)(hca:ca<=9223372036854775807)(hnb:m<=cb)(hcb:cb<=9223372036854775807)(hnl:n<=1000000000)(hml:m<=1000000000)(hy:0<y)(hc1:(n:Int)<=2)(hc2:¬(m:Int)<=2):
 Calls Tryz.prog 142 #[.slice a n ca,.slice b m cb] w (DvP w x y):=by
 have hA:=hIq hRa;have hB:=hIq hRb;have hN:=hIq hn0;have hM:=hIq hm0;have hmk:=run_make_row' (P:=Tryz.prog) 22 3 (.int .i64 0) 8 Tryz.underlying22 info_i64 rfl .i64 .i64 n (by omega) (by omega);rw [zvs_zeros] at hmk;obtain⟨Z,hZ⟩:∃Z,zvs (List.replicate n 0)=Z:=⟨_,rfl⟩;rw [hZ] at hmk;have hZ':=hIq hZ;have htm:Hid (∀W (k:Nat),Below w.heap.size w W->k<=999999999->Calls Tryz.prog 149 #[.slice b m cb,.int .i64 (k:Int)] W (TmP W (y*k))):=hIq fun W k h hk=>times_any b m cb y (k:Int) W (Rdi_below h hRb) hm0 hnb hcb (by omega) (by omega) (by omega)
 have hcmp:Hid (∀W p2 n2 c2 p3 n3 c3 (u v:Nat),Rdi W p2 (digs u)->Rdi W p3 (digs v)->n2=(digs u).length->n3=(digs v).length->n2<=c2->c2<=9223372036854775807->n3<=c3->c3<=9223372036854775807->Calls Tryz.prog 128 #[.slice p2 n2 c2,.slice p3 n3 c3] W fun e w'=>e= .returned (.int .i64 (cmpI u v))/\Below W.heap.size W w'):=hIq fun W p2 n2 c2 p3 n3 c3 u v h1 h2 h3 h4 h5 h6 h7 h8=>compared_any p2 p3 n2 c2 n3 c3 u v W h1 h2 h3 h4 (by omega) (by omega)
 clear hRa hRb hZ hn0 hm0
 go_enter Tryz.func142,Tryz.ntmps142
 go_upto_region 8 with fail
 have hI:Hid (DvI w x y w.heap.size n (.slice none 0 0) (w.alloc (.cells Z.toArray 3))):=hIq ⟨none,0,0,0,List.replicate n 0,rfl,.inl digs_zero,by rw [digs_zero];rfl,Nat.le_refl _,by omega,hy,by rw [<-hZ'.out];exact Blk_new _ _,by rw [List.length_replicate];exact hN.out,Dg_zeros _,by rw [hN.out,List.drop_length,List.drop_eq_nil_of_le (by simp)];simp [val],below_new _ _,(fun q hq=>by cases hq),by rw [hN.out];exact Nat.le_refl _⟩;have hgw:Hid (w.heap.size<=w.heap.size):=hIq (Nat.le_refl _);generalize w.alloc (.cells Z.toArray 3)=w1 at hI ⊢;obtain⟨g,hg⟩:∃g,w.heap.size=g:=⟨_,rfl⟩;rw [hg] at hI ⊢;replace hgw:Hid (w.heap.size<=g):=hIq (by omega);clear hmk hZ' hg
 go_loopg [9,10] n (fun k r i wr=>i= .int .i64 ((k:Int) - 1)/\DvI w x y g k r wr)
 case atStart=>exact⟨rfl,hI.out⟩
 case round=>
  obtain⟨rfl,hD⟩:=hrel;clear hI;by_cases h0:gk=0
  ·subst h0;obtain⟨p,nr,cr,r,O,rfl,hR,hnr,hncr,hcr,hry,hO,hOl,hOd,hval,hbw,hpg,hkn⟩:=hD;rw [List.drop_zero,List.drop_zero,val_digs] at hval;have hfin:Hid (DvP w x y (.returned (.tuple #[.slice (some ⟨g,0,none⟩) n n,.slice p nr cr])) wr):=hIq ⟨_,_,_,O,_,_,_,r,rfl,hO.rdi,by rw [hOl];exact hN.out,Nat.le_refl _,by omega,hOd,hval.symm,hry,hR,hnr,hncr,hcr,by rw [hN.out];exact Nat.le_refl _,hbw,(fun q hq=>by cases hq;exact hgw.out),fun q hq=>(hpg q hq).2⟩;clear hR hnr hncr hcr hO hOl hOd hval hbw hpg hkn;have e0:((0:Nat):Int) - 1= -1:=by omega
   rw [e0];go_wp2_with fail
   go_ret2
   exact hfin.out
  ·obtain⟨k,rfl⟩:∃k,gk=k+1:=⟨gk - 1,by omega⟩;have e0:((k+1:Nat):Int) - 1=(k:Int):=by omega
   rw [e0];obtain⟨p,nr,cr,r,O,rfl,hR,hnr,hncr,hcr,hry,hO,hOl0,hOd0,hval0,hbw,hpg,hkn⟩:=hD;have hkl:k<(digs x).length:=by omega
   obtain⟨ba,oa,rfl,hca0⟩:=Rdi_at (Rdi_below hbw hA.out) k hkl;have hdb:=(Dg_digs x).all k;have hvx0:=val_drop (digs x) k hkl;obtain⟨d,D⟩:∃d,iat (digs x) k=d:=⟨_,rfl⟩;rw [D] at hca0 hdb hvx0;have hvx:=hIq hvx0;have hval:=hIq hval0;have hOl:=hIq hOl0;have hOd:=hIq hOd0;have hrl:(digs r).length<=(digs y).length:=digs_len_mono (by omega);have hnr2:nr<=1000000000:=by have:=hM.out;omega
   obtain⟨pp,cc,w2,hrun0,hR2,hcc,hcc2,hb2⟩:=append_one wr.heap.size d p nr cr (digs r) (wr.alloc (.cells (zvs [d]).toArray 3)) (Blk_new wr [d]) (Rdi_below (below_new _ _) hR) hnr (by omega);obtain⟨r1,hr10⟩:∃r1:Nat,(r1:Int)=d+1000000000*(r:Int):=⟨(d+1000000000*(r:Int)).toNat,by omega⟩;have hr1:=hIq hr10;have hr1b:Hid (r1<1000000000*y):=hIq (by have h1:=hdb.1;have h2:=hdb.2;omega)
   have hnm:Hid (Calls Tryz.prog 122 #[.bool false,.slice pp (nr+1) cc] w2 (RetF (fun q=>pp=some q) w2 (r1:Int))):=hIq (by
    have:=normal_any false pp (nr+1) cc (d::digs r) w2 hR2 (by rw [List.length_cons,hnr]) hcc hcc2 (Dg_cons hdb.1 hdb.2 (Dg_digs r));rw [show sg false (val (d::digs r))=(r1:Int) by rw [hr10];show d+1000000000*val (digs r)=_;rw [val_digs]] at this
    exact this)
   have hrun:=hIq hrun0;have hb2':Hid (Below wr.heap.size wr w2):=hIq (below_tr (below_new _ _) hb2);have hO':=hIq hO;have hbw':=hIq hbw;have hkl':=hIq hkl
   have hn1b:Hid ((digs r1).length<=nr+1):=hIq (digs_len_le (by
    have h2:=lt_pw r;have h3:pw (nr+1)=1000000000*pw nr:=rfl;rw [h3,hnr]
    omega))
   have hkn1:(k:Int)<(n:Int):=by have:=hN.out;omega
   have hk0:0<=(k:Int):=by omega
   clear hR hnr hO hOl0 hOd0 hval0 hbw hpg hkn hvx0 hdb D hrl hrun0 hR2 hb2 hr10 hkl
   go_upto_region 14 with(first
    |(at_builtin;refine wpList_append_run rfl _ _ 22 22 rfl _ _ rfl rfl _ _ hrun.out ?_)
    |(go_at_call 122;(refine hnm.out.mono ?_);rintro e w3 ⟨nb1,p1,n1,c1,rfl,hI1,hb3,_⟩;have hI1':=hIq hI1;have hb3':=hIq hb3;clear hI1 hb3))
   obtain⟨W4,hW4⟩:∃W4,w3.alloc (.cells #[.bool nb1,.slice p1 n1 c1] 28 (0,0))=W4:=⟨_,rfl⟩;have hw4:Below wr.heap.size wr W4:=below_tr hb2'.out (below_tr hb3'.out (hW4 ▸ below_new _ _));have hbw4:=hIq (below_tr hbw'.out hw4);have hO4:=hIq (hO'.out.later hw4);have hI4:=hI1'.out.later (hW4 ▸ below_new _ _:Below w3.heap.size w3 W4);have hR4:Hid (Rdi W4 p1 (digs r1)/\n1=(digs r1).length/\n1<=c1/\c1<=9223372036854775807):=hIq ⟨hI4.2.2.1,hI4.2.1,hI4.2.2.2.1,hI4.2.2.2.2⟩;have hn1l:Hid (n1<=1000000001):=hIq (by have h1:=hR4.out.2.1;have h2:=hn1b.out;omega);have hc0:Calls Tryz.prog 128 #[.slice p1 n1 c1,.slice b m cb] W4 fun e w'=>e= .returned (.int .i64 (cmpI r1 y))/\Below W4.heap.size W4 w':=hcmp.out W4 p1 n1 c1 b m cb r1 y hR4.out.1 (Rdi_below hbw4.out hB.out) hR4.out.2.1 hM.out hR4.out.2.2.1 hR4.out.2.2.2 hnb hcb
   have hkl:=hkl'.out;rw [hW4];clear hW4 hw4 hI4 hrun hnm hb2' hb3' hI1' hO' hbw' hca0;by_cases hlt:r1<y
   case' pos=>
    have hc1:Hid (Calls Tryz.prog 128 #[.slice p1 n1 c1,.slice b m cb] W4 fun e w'=>e= .returned (.int .i64 (-1))/\Below W4.heap.size W4 w'):=hIq (by rw [cmp_lt (by omega)] at hc0;exact hc0);clear hc0;go_wp2_with (go_at_call 128;(refine hc1.out.mono ?_);rintro e w5 ⟨rfl,hb5⟩;have hb5':=hIq hb5;clear hb5)
    obtain⟨H,hHe⟩:∃H:Nat,H=0:=⟨_,rfl⟩;have hst:Hid (0*y<=r1/\r1<(H+1)*y):=hIq ⟨by omega,by rw [hHe];omega⟩;have hH9:H<=999999999:=by omega
    clear hc1
   case' neg=>
    obtain⟨C,hC⟩:∃C,cmpI (r1:Int) (y:Int)=C:=⟨_,rfl⟩
    have hC0:¬C<0:=by
     rw [<-hC];rcases Nat.lt_or_ge y r1 with h|h
     ·rw [cmp_gt (by omega)];omega
     ·rw [show r1=y by omega,cmp_eq];omega
    have hc1:Hid (Calls Tryz.prog 128 #[.slice p1 n1 c1,.slice b m cb] W4 fun e w'=>e= .returned (.int .i64 C)/\Below W4.heap.size W4 w'):=hIq (by rw [hC] at hc0;exact hc0);have hr1y:r1<(999999999+1)*y:=hr1b.out;clear hc0 hC;go_wp2_with (go_at_call 128;(refine hc1.out.mono ?_);rintro e w5 ⟨rfl,hb5⟩;have hb5':=hIq hb5;clear hb5)
    obtain⟨H,hHe⟩:∃H:Nat,H=999999999:=⟨_,rfl⟩;have hst:Hid (0*y<=r1/\r1<(H+1)*y):=hIq ⟨by omega,by rw [hHe];exact hr1y⟩;have hH9:H<=999999999:=by omega
    clear hc1
   all_goals
    go_loopg [12,13] H (fun h lv hv wr2=>∃lo hi:Nat,lv= .int .i64 (lo:Int)/\hv= .int .i64 (hi:Int)/\lo+h=hi/\hi<=999999999/\Hid (lo*y<=r1/\r1<(hi+1)*y)/\Hid (Below W4.heap.size W4 wr2))
    case atStart=>exact⟨0,H,rfl,by subst hHe;rfl,by omega,hH9,hst,hb5'⟩
    case round=>
     obtain⟨lo,hi,rfl,rfl,hlh,hhi,hq,hb6⟩:=hrel;clear hst hb5' hHe hH9;by_cases h1:gk=0
     ·obtain rfl:lo=hi:=by omega
      have hlo9:lo<=999999999:=hhi
      have hmn:Hid (∀W p7 n7 c7,Below W4.heap.size W4 W->Rdi W p7 (digs (y*lo))->n7=(digs (y*lo)).length->Calls Tryz.prog 140 #[.slice p1 n1 c1,.slice p7 n7 c7] W (NewS W (DifP (digs r1) (digs (y*lo))))):=hIq fun W p7 n7 c7 h h2 h3=>minus_any p1 p7 n1 c1 n7 c7 (digs r1) (digs (y*lo)) W (Rdi_below h hR4.out.1) h2 hR4.out.2.1 h3 (Dg_digs _) (Dg_digs _) (by have:=hn1l.out;omega) (by
       rw [h3,hR4.out.2.1];exact digs_len_mono (by rw [Nat.mul_comm];exact hq.out.1)) (by rw [val_digs,val_digs];have:=hq.out.1;rw [Nat.mul_comm] at this;omega)
      go_upto_region 22 with(first
       |(go_at_call 149;(with_reducible refine(htm.out _ lo (below_tr hbw4.out hb6.out) hlo9).mono ?_);rintro e w7 ⟨p7,n7,c7,rfl,hR7,hn7,hc7,hm7,hb7,hp7⟩;have hT7:=hIq (And.intro hR7 hn7);have hb7':=hIq (below_tr hb6.out hb7);clear hR7 hn7 hp7 hb7)
       |(go_at_call 140;(refine(hmn.out _ _ _ _ hb7'.out hT7.out.1 hT7.out.2).mono ?_);rintro e w8 ⟨p8,n8,c8,z,rfl,hR8,hz8,hc8,hm8,hp8,hb8,hz⟩;have hT8:=hIq (And.intro hR8 (And.intro hz8 (And.intro hc8 (And.intro hm8 (And.intro hz hp8)))));have hb8':=hIq (below_tr hb7'.out hb8);have hsz:=hIq hb7'.out.size;clear hR8 hz8 hp8 hz hb8)
       |(go_at_call 122;(refine(normal_any false p8 n8 c8 z w8 hT8.out.1 hT8.out.2.1.symm hT8.out.2.2.1 hT8.out.2.2.2.1 hT8.out.2.2.2.2.1.1).mono ?_);rintro e w9 ⟨nb9,p9,n9,c9,rfl,hI9,hb9,hp9⟩;have hI9':=hIq hI9;have hb9':=hIq (below_tr hb8'.out hb9);have hp9':=hIq hp9;clear hI9 hp9 hb9))
      obtain⟨W10,hW10⟩:∃W10,w9.alloc (.cells #[.bool nb9,.slice p9 n9 c9] 28 (0,0))=W10:=⟨_,rfl⟩;have hn10:Below w9.heap.size w9 W10:=hW10 ▸ below_new _ _;have hbx:W10.heap[w9.heap.size]? =some (.cells #[.bool nb9,.slice p9 n9 c9] 28 (0,0)):=hW10 ▸ heap_alloc_new _ _;have hb10:=hIq (below_tr hb9'.out hn10);have hO10:Blk W10 g O:=hO4.out.later hb10.out;have hI10:=hIq (hI9'.out.later hn10);have hgne:g≠w9.heap.size:=by have:=(hO4.out.later hb9'.out).lt;omega
      rw [hW10];generalize w9.heap.size=B15 at hbx hgne ⊢;clear hW10 hn10;have cq:=hO10.cell (i:=k) (by rw [hOl.out];exact hkl);have cf:=hO10.free k;have ck1:(k:Int)<(n:Int):=by have:=hN.out;omega
      have cb1:(W10.setCell ⟨g,k,none⟩ (.int .i64 (lo:Int))).cell? ⟨B15,1,none⟩=some (.slice p9 n9 c9):=by
       have h2:(W10.setCell ⟨g,k,none⟩ (.int .i64 (lo:Int))).heap[B15]? =some (.cells #[.bool nb9,.slice p9 n9 c9] 28 (0,0)):=by rw [heap_setCell_other _ _ _ _ (by simp;omega)];exact hbx
       simp [World.cell?,h2]
      generalize iat O k=vq at cq
      have hfin:Hid (DvI w x y g k (.slice p9 n9 c9) (W10.setCell ⟨g,k,none⟩ (.int .i64 (lo:Int)))):=hIq (by
       have a1:=hT8.out.2.2.2.2.1;have a2:val z=(r1:Int) - (y:Int)*(lo:Int):=by rw [a1.2.1,val_digs,val_digs];simp
       have a3:lo*y<=r1:=hq.out.1;have a4:r1<(lo+1)*y:=hq.out.2;rw [Nat.succ_mul] at a4;obtain⟨r2,hr2⟩:∃r2:Nat,r1=lo*y+r2:=⟨r1 - lo*y,by omega⟩;have a5:val z=(r2:Int):=by rw [a2,hr2,Int.natCast_add,Int.natCast_mul,Int.mul_comm];omega
       have a6:=hI10.out;rw [show sg false (val z)=(r2:Int)from a5] at a6
       have a7:∀q,p9=some q->q.block≠g/\w.heap.size<=q.block:=fun q hq2=>by
        have b0:=hbw4.out.size;have b1:=hT8.out.2.2.2.2.2 q (hp9'.out q hq2);have b2:=hO4.out.lt;have b3:=hsz.out;omega
       refine⟨p9,n9,c9,r2,O.set k (lo:Int),rfl,Rdi_store a6.2.2.1 (fun q hq2=>(a7 q hq2).1),a6.2.1,a6.2.2.2.1,a6.2.2.2.2,by omega,hO10.set k (lo:Int),by rw [List.length_set];exact hOl.out,hOd.out.set k _ (by rw [hOl.out];exact hkl) (by omega) (by omega),?_,(below_tr hbw4.out hb10.out).setCell hgw.out _,a7,by omega⟩;rw [val_set_drop O k _ (by rw [hOl.out];exact hkl),hvx.out,hval.out];have a8:=hr1.out;have a9:(r1:Int)=(lo:Int)*(y:Int)+(r2:Int):=by rw [hr2,Int.natCast_add,Int.natCast_mul]
       grind)
      clear hbx hO10 hmn;go_wp2_with fail
      go_roundg k
      case measure=>omega
      case rel=>exact⟨by simp,hfin.out⟩
     ·obtain⟨M,hMd⟩:∃M:Nat,M=lo+(gk+1) / 2:=⟨_,rfl⟩;have hM1:lo<M:=by omega
      have hM2:M<=hi:=by omega
      have eM:((lo:Int)+(hi:Int)+1).tdiv 2=(M:Int):=by rw [Int.tdiv_eq_ediv_of_nonneg (by omega)];omega
      have eM2:((lo:Int)+(hi:Int)+1) / 2=(M:Int):=by omega
      have l1:(lo:Int)<(hi:Int):=by omega
      have hM9:M<=999999999:=by omega
      have eM1:((M - 1:Nat):Int)=(M:Int) - 1:=by omega
      clear hMd;obtain⟨C,hC⟩:∃C,cmpI ((y*M:Nat):Int) (r1:Int)=C:=⟨_,rfl⟩
      have hcm:Hid (∀W p7 n7 c7,Below W4.heap.size W4 W->Rdi W p7 (digs (y*M))->n7=(digs (y*M)).length->n7<=c7->c7<=9223372036854775807->Calls Tryz.prog 128 #[.slice p7 n7 c7,.slice p1 n1 c1] W fun e w'=>e= .returned (.int .i64 C)/\Below W.heap.size W w'):=hIq fun W p7 n7 c7 h h2 h3 h4 h5=>by
       have:=hcmp.out W p7 n7 c7 p1 n1 c1 (y*M) r1 h2 (Rdi_below h hR4.out.1) h3 hR4.out.2.1 h4 h5 hR4.out.2.2.1 hR4.out.2.2.2;rw [hC] at this;exact this
      by_cases hle:M*y<=r1
      ·have hC0:C<=0:=by
        rw [<-hC];rw [Nat.mul_comm] at hle;rcases Nat.lt_or_ge (y*M) r1 with h|h
        ·rw [cmp_lt (by omega)];omega
        ·rw [show y*M=r1 by omega,cmp_eq];omega
       have hq2:Hid (M*y<=r1/\r1<(hi+1)*y):=hIq ⟨hle,hq.out.2⟩;clear hC hle
       go_wp2_with (first
        |(go_at_call 149;(with_reducible refine(htm.out _ M (below_tr hbw4.out hb6.out) hM9).mono ?_);rintro e w7 ⟨p7,n7,c7,rfl,hR7,hn7,hc7,hm7,hb7,hp7⟩;have hT7:=hIq (And.intro hR7 hn7);have hb7':=hIq (below_tr hb6.out hb7);clear hR7 hn7 hp7 hb7)
        |(go_at_call 128;(refine(hcm.out _ _ _ _ hb7'.out hT7.out.1 hT7.out.2 hc7 hm7).mono ?_);rintro e w8 ⟨rfl,hb8⟩;have hb8':=hIq (below_tr hb7'.out hb8);clear hb8))
       go_roundg (hi - M)
       case measure=>omega
       case rel=>exact⟨M,hi,rfl,rfl,by omega,hhi,hq2,hb8'⟩
      ·have hC0:¬C<=0:=by
        rw [<-hC];rw [Nat.mul_comm] at hle;rw [cmp_gt (by omega)];omega
       have hq2:Hid (lo*y<=r1/\r1<(M - 1+1)*y):=hIq ⟨hq.out.1,by rw [show M - 1+1=M by omega];omega⟩;clear hC hle
       go_wp2_with (first
        |(go_at_call 149;(with_reducible refine(htm.out _ M (below_tr hbw4.out hb6.out) hM9).mono ?_);rintro e w7 ⟨p7,n7,c7,rfl,hR7,hn7,hc7,hm7,hb7,hp7⟩;have hT7:=hIq (And.intro hR7 hn7);have hb7':=hIq (below_tr hb6.out hb7);clear hR7 hn7 hp7 hb7)
        |(go_at_call 128;(refine(hcm.out _ _ _ _ hb7'.out hT7.out.1 hT7.out.2 hc7 hm7).mono ?_);rintro e w8 ⟨rfl,hb8⟩;have hb8':=hIq (below_tr hb7'.out hb8);clear hb8))
       go_roundg (M - 1 - lo)
       case measure=>omega
       case rel=>exact⟨lo,M - 1,rfl,by rw [eM1],by omega,by omega,hq2,hb8'⟩
theorem run_tiny_bd {x:Nat}(h:(digs x).length<=2):(x:Int)<1000000000000000000:=by
 have h1:=lt_pw x;have h2:=pw_mono h;have h3:pw 2=1000000000000000000:=by decide
 omega
theorem rdiv_short (a b:Option Addr)(n ca m cb:Nat)(x y:Nat)(w:World)(hRa:Rdi w a (digs x))(hRb:Rdi w b (digs y))(hn0:n=(digs x).length)(hm0:m=(digs y).length)(hy:0<y)(hc1:(n:Int)<=2)(hc2:(m:Int)<=2):
 Calls Tryz.prog 142 #[.slice a n ca,.slice b m cb] w (DvP w x y):=by
 have htx:Hid (∀W,Below w.heap.size w W->Calls Tryz.prog 141 #[.slice a n ca] W fun e w'=>e= .returned (.int .i64 (x:Int))/\W=w'):=hIq fun W h=>by
  have:=tiny_any a n ca (digs x) W (Rdi_below h hRa) hn0 (Dg_digs _) (by omega);rw [val_digs] at this;exact this
 have hty:Hid (∀W,Below w.heap.size w W->Calls Tryz.prog 141 #[.slice b m cb] W fun e w'=>e= .returned (.int .i64 (y:Int))/\W=w'):=hIq fun W h=>by
  have:=tiny_any b m cb (digs y) W (Rdi_below h hRb) hm0 (Dg_digs _) (by omega);rw [val_digs] at this;exact this
 have hxb:=run_tiny_bd (x:=x) (by omega);have hyb:=run_tiny_bd (x:=y) (by omega);obtain⟨q,hq⟩:∃q:Nat,x / y=q:=⟨_,rfl⟩;obtain⟨r,hr⟩:∃r:Nat,x % y=r:=⟨_,rfl⟩;have hdm:Hid (q*y+r=x/\r<y/\q<=x):=hIq ⟨by rw [<-hq,<-hr,Nat.mul_comm];exact Nat.div_add_mod x y,by rw [<-hr];exact Nat.mod_lt _ hy,by rw [<-hq];exact Nat.div_le_self _ _⟩;have eq1:((x:Int)).tdiv (y:Int)=(q:Int):=by rw [Int.tdiv_eq_ediv_of_nonneg (by omega),<-hq];exact(Int.natCast_ediv x y).symm
 have eq2:((x:Int)) / (y:Int)=(q:Int):=by rw [<-hq];exact(Int.natCast_ediv x y).symm
 have er1:((x:Int)).tmod (y:Int)=(r:Int):=by rw [Int.tmod_eq_emod_of_nonneg (by omega),<-hr];exact(Int.natCast_emod x y).symm
 have er2:((x:Int)) % (y:Int)=(r:Int):=by rw [<-hr];exact(Int.natCast_emod x y).symm
 have hqb:(q:Int)<1000000000000000000:=by have:=hdm.out.2.2;omega
 have hrb:(r:Int)<1000000000000000000:=by have:=hdm.out.2.1;omega
 have hy0:¬(y:Int)=0:=by omega
 have hoq:Hid (∀W,Calls Tryz.prog 82 #[.int .i64 (q:Int)] W (RetI W (q:Int))):=hIq fun W=>rOf_any _ (by omega) (by omega) W
 have hor:Hid (∀W,Calls Tryz.prog 82 #[.int .i64 (r:Int)] W (RetI W (r:Int))):=hIq fun W=>rOf_any _ (by omega) (by omega) W
 have hql:Hid ((digs q).length<=(digs x).length):=hIq (digs_len_mono hdm.out.2.2);clear hRa hRb hn0 hm0 hq hr
 go_enter Tryz.func142,Tryz.ntmps142
 go_upto_region 3 with(first
  |(go_at_call 141;(with_reducible refine(htx.out _ (Below.refl _ _)).mono ?_);rintro e w1 ⟨rfl,rfl⟩)
  |(go_at_call 141;(with_reducible refine(hty.out _ (Below.refl _ _)).mono ?_);rintro e w1 ⟨rfl,rfl⟩)
  |(go_at_call 82;(with_reducible refine(hoq.out _).mono ?_);rintro e w2 ⟨nb2,p2,n2,c2,rfl,hI2,hb2,hp2⟩;have hI2':=hIq hI2;have hp2':=hIq hp2;clear hI2 hp2))
 obtain⟨W2,hW2⟩:∃W2,w2.alloc (.cells #[.bool nb2,.slice p2 n2 c2] 28 (0,0))=W2:=⟨_,rfl⟩;have hbx2:W2.heap[w2.heap.size]? =some (.cells #[.bool nb2,.slice p2 n2 c2] 28 (0,0)):=hW2 ▸ heap_alloc_new _ _;have tw2:=hIq (below_tr hb2 (hW2 ▸ below_new _ _:Below w2.heap.size w2 W2));have hJ2:=hIq (hI2'.out.later (hW2 ▸ below_new _ _:Below w2.heap.size w2 W2));rw [hW2];generalize w2.heap.size=g2 at hbx2 ⊢;clear hW2 hb2 hI2'
 go_upto_region 4 with(first
  |(go_at_call 141;(with_reducible refine(htx.out _ tw2.out).mono ?_);rintro e w1 ⟨rfl,rfl⟩)
  |(go_at_call 141;(with_reducible refine(hty.out _ tw2.out).mono ?_);rintro e w1 ⟨rfl,rfl⟩)
  |(go_at_call 82;(with_reducible refine(hor.out _).mono ?_);rintro e w3 ⟨nb3,p3,n3,c3,rfl,hI3,hb3,hp3⟩;have hI3':=hIq hI3;have hp3':Hid (∀q,p3=some q->w.heap.size<=q.block):=hIq (fun q hq=>by have h1:=hp3 q hq;have h2:=tw2.out.size;omega);clear hI3 hp3))
 obtain⟨W3,hW3⟩:∃W3,w3.alloc (.cells #[.bool nb3,.slice p3 n3 c3] 28 (0,0))=W3:=⟨_,rfl⟩;have t3:Below W2.heap.size W2 W3:=below_tr hb3 (hW3 ▸ below_new _ _);have hbx3:W3.heap[w3.heap.size]? =some (.cells #[.bool nb3,.slice p3 n3 c3] 28 (0,0)):=hW3 ▸ heap_alloc_new _ _;have hbx2':=(t3.block _ (lt_blk hbx2)).trans hbx2;have hJ3:=hIq (hI3'.out.later (hW3 ▸ below_new _ _:Below w3.heap.size w3 W3));have hK2:=hIq (hJ2.out.later t3);have tw3:=hIq (below_tr tw2.out t3);have cc2:W3.cell? ⟨g2,1,none⟩=some (.slice p2 n2 c2):=by simp [World.cell?,hbx2']
 rw [hW3];generalize w3.heap.size=g3 at hbx3 ⊢;have cc3:W3.cell? ⟨g3,1,none⟩=some (.slice p3 n3 c3):=by simp [World.cell?,hbx3]
 have hfin:Hid (∀k,DvP w x y (.returned (.tuple #[.slice p2 n2 c2,.slice p3 n3 c3])) (W3.drewN k)):=hIq fun k=>by
  have a2:=(hK2.out.drewN k).2;have a3:=(hJ3.out.drewN k).2;exact⟨_,_,_,digs q,_,_,_,r,rfl,a2.2.1,a2.1,a2.2.2.1,a2.2.2.2,Dg_digs _,by rw [val_digs];have:=hdm.out.1;rw [<-this,Int.natCast_add,Int.natCast_mul],hdm.out.2.1,a3.2.1,a3.1,a3.2.2.1,a3.2.2.2,by rw [show n2=(digs q).length from a2.1];exact hql.out,below_drewN tw3.out _,hp2'.out,hp3'.out⟩
 clear hbx2 hbx3 hbx2' hW3 t3 hb3 hI3'
 go_quiet (fail)
 go_wp2_with fail
 go_ret2
 exact hfin.out _
theorem rdivided_any (a b:Option Addr)(n ca m cb:Nat)(x y:Nat)(w:World)(hRa:Rdi w a (digs x))(hRb:Rdi w b (digs y))(hn0:n=(digs x).length)(hm0:m=(digs y).length)(hna:n<=ca)(hca:ca<=9223372036854775807)(hnb:m<=cb)(hcb:cb<=9223372036854775807)(hnl:n<=1000000000)(hml:m<=1000000000)(hy:0<y):
 Calls Tryz.prog 142 #[.slice a n ca,.slice b m cb] w (DvP w x y):=by
 by_cases h1:(n:Int)<=2
 ·by_cases h2:(m:Int)<=2
  ·exact rdiv_short a b n ca m cb x y w hRa hRb hn0 hm0 hy h1 h2
  ·exact rdiv_long2 a b n ca m cb x y w hRa hRb hn0 hm0 hna hca hnb hcb hnl hml hy h1 h2
 ·exact rdiv_long1 a b n ca m cb x y w hRa hRb hn0 hm0 hna hca hnb hcb hnl hml hy h1
theorem rNeg_any (nx:Bool)(px:Option Addr)(lx cx:Nat)(x:Int)(w:World)(hx0:IntZ w nx px lx cx x):
 Calls Tryz.prog 120 #[.agg #[.bool nx,.slice px lx cx]] w fun e w'=>∃nb p n c,e= .returned (.agg #[.bool nb,.slice p n c])/\IntAt w' nb p n c (-x)/\Below w.heap.size w w':=by
 have hsg:sg (!nx) (val (digs x.natAbs))= -x:=by
  rw [val_digs];have h1:=wk_neg hx0.1;cases nx<;>simp [sg] at*<;>omega
 have hn:Hid (∀W,Ar1 w nx px lx cx W->Calls Tryz.prog 122 #[.bool (!nx),.slice px lx cx] W (RetF (fun q=>px=some q) W (-x))):=hIq fun W h=>by
  rw [<-hsg];exact normal_any (!nx) px lx cx (digs x.natAbs) W (Rdi_below h.2.2 hx0.2.2.1) hx0.2.1 hx0.2.2.2.1 hx0.2.2.2.2 (Dg_digs _)
 have hps:Hid (∀q,px=some q->∀(l:List Int),Rdi w px l->l≠ []->q.block<w.heap.size):=hIq fun q hq l hR hl=>by
  rcases hR with h|⟨b,o,h,hc⟩
  ·exact absurd h hl
  ·rw [hq] at h;have h0:=hc 0 (by cases l with|nil=>exact absurd rfl hl|cons _ _=>simp);obtain rfl:=Option.some.inj h;rcases Nat.lt_or_ge b w.heap.size with h1|h1
   ·exact h1
   ·simp [World.cell?,Array.getElem?_eq_none h1] at h0
 have hS0:=hIq (@Ar1.start nx px lx cx w);have hx:=hIq hx0;clear hx0 hsg
 go_enter Tryz.func120,Tryz.ntmps120
 go_upto_region 1 with fail
 generalize(w.alloc (.cells #[.bool nx,.slice px lx cx] 28)).alloc (.cells #[.bool false,.slice none 0 0] 28)=W0 at hS0 ⊢;have hS1:=hS0.out;have hf:=hS1.facts;go_wp2_with fail
 refine(hn.out _ hS1).mono ?_
 rintro e w2 ⟨nb,p,n2,c2,rfl,hI0,hb2,hp0⟩
 have hS2:=hS1.later hb2;have hf2:=hS2.facts;have hI:=hIq hI0
 have hfin:Hid (IntAt ((w2.setCell ⟨w.heap.size+1,0,none⟩ (.bool nb)).setCell ⟨w.heap.size+1,1,none⟩ (.slice p n2 c2)) nb p n2 c2 (-x)/\Below w.heap.size w ((w2.setCell ⟨w.heap.size+1,0,none⟩ (.bool nb)).setCell ⟨w.heap.size+1,1,none⟩ (.slice p n2 c2))):=hIq ⟨by
  by_cases hz:digs (-x).natAbs= []
  ·exact⟨hI0.1,hI0.2.1,by rw [hz];exact .inl rfl,hI0.2.2.2⟩
  ·have hne:∀q,p=some q->q.block≠w.heap.size+1:=fun q hq=>by
    have h1:=hp0 q hq;have h2:digs x.natAbs≠ []:=by rw [Int.natAbs_neg] at hz;exact hz
    have:=hps.out q h1 _ hx.out.2.2.1 h2;omega
   exact(hI0.store hne).store hne,(hS2.store _ _).2.2⟩
 clear hI0 hp0 hb2 hf;go_wp2_with fail
 exact bodyPost_ret (v:= .agg #[.bool nb,.slice p n2 c2]) (results_cell_row rfl _ _ (w.heap.size+1) 28 _ (0,0) _ rfl (hS2.res _ _) Tryz.underlying28 rfl size_Int) rfl ⟨_,_,_,_,rfl,hfin.out.1,hfin.out.2⟩
theorem rCompare_any (nx ny:Bool)(px py:Option Addr)(lx cx ly cy:Nat)(x y:Int)(w:World)(hx0:IntAt w nx px lx cx x)(hy0:IntAt w ny py ly cy y)(hlx:lx<=549755813887)(hly:ly<=549755813887):
 Calls Tryz.prog 94 #[.agg #[.bool nx,.slice px lx cx],.agg #[.bool ny,.slice py ly cy]] w fun e w'=>e= .returned (.int .i64 (cmpI x y))/\Below w.heap.size w w':=by
 have hb:Below w.heap.size w ((w.alloc (.cells #[.bool nx,.slice px lx cx] 28)).alloc (.cells #[.bool ny,.slice py ly cy] 28)):=((Below.refl _ _).alloc (Nat.le_refl _) _).alloc (by simp) _;have hb':=hIq hb
 have h1:Hid (∀W,Below w.heap.size w W->Calls Tryz.prog 128 #[.slice px lx cx,.slice py ly cy] W fun e w'=>e= .returned (.int .i64 (cmpI x.natAbs y.natAbs))/\Below W.heap.size W w'):=
  hIq fun W h=>compared_any _ _ _ _ _ _ _ _ W (Rdi_below h hx0.2.2.1) (Rdi_below h hy0.2.2.1) hx0.2.1 hy0.2.1 (by omega) (by omega)
 have h2:Hid (∀W,Below w.heap.size w W->Calls Tryz.prog 128 #[.slice py ly cy,.slice px lx cx] W fun e w'=>e= .returned (.int .i64 (cmpI y.natAbs x.natAbs))/\Below W.heap.size W w'):=
  hIq fun W h=>compared_any _ _ _ _ _ _ _ _ W (Rdi_below h hy0.2.2.1) (Rdi_below h hx0.2.2.1) hy0.2.1 hx0.2.1 (by omega) (by omega)
 have hnx:=hx0.1;have hny:=hy0.1;obtain⟨r,hr⟩:∃r,cmpI x y=r:=⟨_,rfl⟩;rw [hr];clear hx0 hy0 hb;cases nx<;>cases ny
 ·have e1:¬x<0:=by simpa using hnx.symm
  have e2:¬y<0:=by simpa using hny.symm
  rw [cmp_abs_pos e1 e2,hr] at h1;clear hnx hny hr h2
  go_enter Tryz.func94,Tryz.ntmps94
  go_wp2_with (go_at_call 128;refine(h1.out _ hb'.out).mono ?_;rintro e w1 ⟨rfl,hb1⟩;have hB:=hIq (below_tr hb'.out hb1);clear hb1)
  go_ret
  exact⟨rfl,hB.out⟩
 ·have e1:¬x<0:=by simpa using hnx.symm
  have e2:y<0:=by simpa using hny.symm
  rw [cmp_gt (show y<x by omega)] at hr;subst hr;clear hnx hny h1 h2 e1 e2
  go_enter Tryz.func94,Tryz.ntmps94
  go_wp2_with fail
  go_ret
  exact⟨rfl,hb'.out⟩
 ·have e1:x<0:=by simpa using hnx.symm
  have e2:¬y<0:=by simpa using hny.symm
  rw [cmp_lt (show x<y by omega)] at hr;subst hr;clear hnx hny h1 h2 e1 e2
  go_enter Tryz.func94,Tryz.ntmps94
  go_wp2_with fail
  go_ret
  exact⟨rfl,hb'.out⟩
 ·have e1:x<0:=by simpa using hnx.symm
  have e2:y<0:=by simpa using hny.symm
  rw [cmp_abs_neg e1 e2,hr] at h2;clear hnx hny hr h1
  go_enter Tryz.func94,Tryz.ntmps94
  go_wp2_with (go_at_call 128;refine(h2.out _ hb'.out).mono ?_;rintro e w1 ⟨rfl,hb1⟩;have hB:=hIq (below_tr hb'.out hb1);clear hb1)
  go_ret
  exact⟨rfl,hB.out⟩
theorem rSign_any (nx:Bool)(px:Option Addr)(lx cx:Nat)(x:Int)(w:World)(hx0:IntAt w nx px lx cx x)(hlx:lx<=549755813887):
 Calls Tryz.prog 116 #[.agg #[.bool nx,.slice px lx cx]] w fun e w'=>e= .returned (.int .i64 (cmpI x 0))/\Below w.heap.size w w':=by
 have hc:Hid (∀W,Below w.heap.size w W->Calls Tryz.prog 94 #[.agg #[.bool nx,.slice px lx cx],.agg #[.bool false,.slice none 0 0]] W fun e w'=>e= .returned (.int .i64 (cmpI x 0))/\Below W.heap.size W w'):=
  hIq fun W h=>rCompare_any _ _ _ _ _ _ _ _ x 0 W (hx0.later h) (IntAt_zero _ _ _ (by omega)) hlx (by omega)
 obtain⟨r,hr⟩:∃r,cmpI x 0=r:=⟨_,rfl⟩;rw [hr] at hc ⊢;clear hx0 hr
 go_enter Tryz.func116,Tryz.ntmps116
 go_wp2_with (go_at_call 94;refine(hc.out _ (below_new _ _)).mono ?_;rintro e w1 ⟨rfl,hb1⟩;have hB:=hIq (below_tr (below_new _ _) hb1);clear hb1)
 go_ret
 exact⟨rfl,hB.out⟩
section
variable {W:World}{Na Nb:Nat}{a b:Int}{v1 v2:Value}
theorem cRAdd (h1:Vz Na a v1 W)(h2:Vz Nb b v2 W)(hN1:Na<=1000000:=by omega)(hN2:Nb<=1000000:=by omega):Calls Tryz.prog 117 #[v1,v2] W (RV (Vz (max Na Nb+1) (a+b)) W):=by
 obtain⟨nb,p,n,c,rfl,hI,hn⟩:=h1;obtain⟨nb2,p2,n2,c2,rfl,hI2,hn2⟩:=h2;exact(rAdd_any _ _ _ _ _ _ _ _ a b W hI.z hI2.z (by omega) (by omega)).mono fun e w' h=>retI_vz h (dl_add a b Na Nb (by rw [<-hI.2.1];exact hn) (by rw [<-hI2.2.1];exact hn2))
theorem cRMul (h1:Vz Na a v1 W)(h2:Vz Nb b v2 W)(hN1:Na<=1000000:=by omega)(hN2:Nb<=1000000:=by omega):Calls Tryz.prog 95 #[v1,v2] W (RV (Vz (Na+Nb) (a*b)) W):=by
 obtain⟨nb,p,n,c,rfl,hI,hn⟩:=h1;obtain⟨nb2,p2,n2,c2,rfl,hI2,hn2⟩:=h2;exact(rMul_any _ _ _ _ _ _ _ _ a b W hI.z hI2.z (by omega) (by omega)).mono fun e w' h=>retI_vz h (dl_mul a b Na Nb (by rw [<-hI.2.1];exact hn) (by rw [<-hI2.2.1];exact hn2))
theorem cRNeg (h1:Vz Na a v1 W):Calls Tryz.prog 120 #[v1] W (RV (Vz Na (-a)) W):=by
 obtain⟨nb,p,n,c,rfl,hI,hn⟩:=h1;exact(rNeg_any _ _ _ _ a W hI.z).mono fun e w' ⟨nb2,p2,n2,c2,he,h2,hb⟩=>⟨_,he,⟨_,_,_,_,rfl,h2,by rw [h2.2.1,Int.natAbs_neg,<-hI.2.1];exact hn⟩,hb⟩
theorem cRCompare (h1:Vz Na a v1 W)(h2:Vz Nb b v2 W)(hN1:Na<=1000000:=by omega)(hN2:Nb<=1000000:=by omega):Calls Tryz.prog 94 #[v1,v2] W (RV (Vi (cmpI a b)) W):=by
 obtain⟨nb,p,n,c,rfl,hI,hn⟩:=h1;obtain⟨nb2,p2,n2,c2,rfl,hI2,hn2⟩:=h2;exact(rCompare_any _ _ _ _ _ _ _ _ a b W hI hI2 (by omega) (by omega)).mono fun e w' h=>⟨_,h.1,rfl,h.2⟩
theorem cRSign (h1:Vz Na a v1 W)(hN1:Na<=1000000:=by omega):Calls Tryz.prog 116 #[v1] W (RV (Vi (cmpI a 0)) W):=by
 obtain⟨nb,p,n,c,rfl,hI,hn⟩:=h1;exact(rSign_any _ _ _ _ a W hI (by omega)).mono fun e w' h=>⟨_,h.1,rfl,h.2⟩
end
theorem cRDivided {W:World}{Na Nb:Nat}{x y:Int}{v1 v2:Value}(h1:VD Na x v1 W)(h2:VD Nb y v2 W)(hy:y≠0:=by omega)(hNa:Na<=1000000:=by omega)(hNb:Nb<=1000000:=by omega):
 Calls Tryz.prog 142 #[v1,v2] W (RV (VTup (VO Na ((x.natAbs / y.natAbs:Nat):Int)) (VD Nb ((x.natAbs % y.natAbs:Nat):Int))) W):=by
 obtain⟨p,n,c,rfl,hn,hR,hnc,hc,hnN⟩:=h1;obtain⟨p2,n2,c2,rfl,hn2,hR2,hnc2,hc2,hnN2⟩:=h2;refine(rdivided_any p p2 n c n2 c2 x.natAbs y.natAbs W hR hR2 hn hn2 hnc hc hnc2 hc2 (by omega) (by omega) (by omega)).mono fun e w' h=>?_
 obtain⟨q1,m1,k1,O,q2,m2,k2,r,he,hO,hm1,hmk,hk1,hdO,hv,hr,hr2,hm2,hmk2,hk2,hml,hb,-⟩:=h
 have hv':val O=((x.natAbs / y.natAbs:Nat):Int)/\r=x.natAbs % y.natAbs:=by
  have h0:=hdO.lo;obtain⟨V,hV⟩:∃V:Nat,val O=V:=⟨(val O).toNat,by omega⟩;rw [hV] at hv ⊢
  have e1:x.natAbs=V*y.natAbs+r:=by
   have:((V*y.natAbs+r:Nat):Int)=(x.natAbs:Int):=by rw [Int.natCast_add,Int.natCast_mul];exact hv
   omega
  have e2:x.natAbs / y.natAbs=V:=by rw [e1,Nat.mul_comm,Nat.mul_add_div (by omega),Nat.div_eq_of_lt hr];omega
  have e3:x.natAbs % y.natAbs=r:=by rw [e1,Nat.mul_comm,Nat.mul_add_mod,Nat.mod_eq_of_lt hr]
  exact⟨by rw [e2],e3.symm⟩
 refine⟨_,he,⟨_,_,rfl,⟨q1,m1,k1,O,rfl,hm1,hO,hmk,hk1,hdO,hv'.1,by omega⟩,⟨q2,m2,k2,rfl,?_,?_,hmk2,hk2,?_⟩⟩,hb⟩
 ·rw [Int.natAbs_natCast,<-hv'.2];exact hm2
 ·rw [Int.natAbs_natCast,<-hv'.2];exact hr2
 ·have:=digs_len_mono (a:=r) (b:=y.natAbs) (by omega);omega
theorem len_sgval {l:List Int}{N:Nat}(D:Dg l)(h:l.length<=N)(b:Bool):(digs (sg b (val l)).natAbs).length<=N:=by
 have h1:=rt_len' D;have:(sg b (val l)).natAbs=(val l).natAbs:=by cases b<;>simp [sg]
 rw [this];omega
theorem cRNormalO {W:World}{N:Nat}{e:Int}{b:Bool}{v:Value}(h:VO N e v W):Calls Tryz.prog 122 #[.bool b,v] W (RV (Vz N (sg b e)) W):=by
 obtain⟨p,n,c,l,rfl,hn,hR,hnc,hc,D,rfl,hN⟩:=h;exact(normal_any b p n c l W hR hn hnc hc D).mono fun e w' ⟨nb,q,m,k,he,hI,hb,_⟩=>⟨_,he,⟨nb,q,m,k,rfl,hI,by rw [hI.2.1];exact len_sgval D (by omega) b⟩,hb⟩
theorem VD_O {N:Nat}{e:Int}{v:Value}{w:World}(h:VD N e v w):VO N (e.natAbs:Int) v w:=by
 obtain⟨p,n,c,h1,h2,h3,h4,h5,h6⟩:=h;exact⟨p,n,c,_,h1,h2,h3,h4,h5,Dg_digs _,val_digs _,h6⟩
theorem cRNormalV {W:World}{N:Nat}{e:Int}{b:Bool}{vb v:Value}(hb:Vb b vb W)(h:VO N e v W):Calls Tryz.prog 122 #[vb,v] W (RV (Vz N (sg b e)) W):=by
 obtain rfl:=hb;exact cRNormalO h
theorem cRMinus {W:World}{Na Nb:Nat}{x y:Int}{v1 v2:Value}(h1:VD Na x v1 W)(h2:VD Nb y v2 W)(hxy:y.natAbs<=x.natAbs:=by omega)(hNa:Na<=1000000:=by omega):
 Calls Tryz.prog 140 #[v1,v2] W (RV (VO Na ((x.natAbs:Int) - (y.natAbs:Int))) W):=by
 obtain⟨p,n,c,rfl,hn,hR,hnc,hc,hnN⟩:=h1;obtain⟨p2,n2,c2,rfl,hn2,hR2,hnc2,hc2,hnN2⟩:=h2;have hl:=digs_len_mono hxy;refine(minus_any p p2 n c n2 c2 _ _ W hR hR2 hn hn2 (Dg_digs _) (Dg_digs _) (by omega) (by omega) (by rw [val_digs,val_digs];omega)).mono fun e w' h=>?_
 obtain⟨q,m,k,z,he,hRz,hl,hmk,hk,-,hb,D,hv,hlen⟩:=h;exact⟨_,he,⟨q,m,k,z,rfl,hl.symm,hRz,hmk,hk,D,by rw [hv,val_digs,val_digs],by omega⟩,hb⟩
theorem VD_On {N n:Nat}{v:Value}{w:World}(h:VD N (n:Int) v w):VO N (n:Int) v w:=by
 have:=VD_O h;rwa [Int.natAbs_natCast] at this
theorem cRMinusN {W:World}{Na Nb n:Nat}{x:Int}{v1 v2:Value}(h1:VD Na x v1 W)(h2:VD Nb (n:Int) v2 W)(hxy:n<=x.natAbs:=by omega)(hNa:Na<=1000000:=by omega):
 Calls Tryz.prog 140 #[v1,v2] W (RV (VO Na ((x.natAbs:Int) - (n:Int))) W):=by
 have:=cRMinus h1 h2 (by rw [Int.natAbs_natCast];exact hxy) hNa;rwa [Int.natAbs_natCast] at this
theorem sg_add (b:Bool)(p q:Int):sg b p+sg b q=sg b (p+q):=by cases b<;>simp [sg]<;>omega
theorem mod_le {x y:Int}(hy:y≠0):x.natAbs % y.natAbs<=y.natAbs:=Nat.le_of_lt (Nat.mod_lt _ (by omega))
theorem rdiv_m {x y:Int}(hy:y≠0):
 (x<0->0<((x.natAbs % y.natAbs:Nat):Int)->dq x y=sg (decide (x<0) !=decide (y<0)) (((x.natAbs / y.natAbs:Nat):Int)+1)/\dr x y=(y.natAbs:Int) - ((x.natAbs % y.natAbs:Nat):Int))/\
 (¬(x<0/\0<((x.natAbs % y.natAbs:Nat):Int))->dq x y=sg (decide (x<0) !=decide (y<0)) ((x.natAbs / y.natAbs:Nat):Int)/\dr x y=((x.natAbs % y.natAbs:Nat):Int)):=by
 refine div_math hy ?_ (Int.natCast_nonneg _) ?_
 ·rw [<-Int.natCast_mul,<-Int.natCast_add,Nat.div_add_mod]
 ·exact Int.ofNat_lt.2 (Nat.mod_lt _ (by omega))
theorem len_gt0 (n:Int)(hn:0<=n):decide (0<((digs n.natAbs).length:Int))=decide (0<n):=by
 by_cases h:n=0
 ·subst h;rw [show(0:Int).natAbs=0 by rfl,digs_zero];rfl
 ·have:(digs n.natAbs).length≠0:=fun e=>h (by have:=digs_nil.1 (List.eq_nil_of_length_eq_zero e);omega)
  rw [dT (by omega),dT (by omega)]
theorem cRDiv {w:World}{Na Nb:Nat}{x y:Int}{v0 v1:Value}(h0:Vz Na x v0 w)(h1:Vz Nb y v1 w)(h1a:1<=Na:=by omega)(h1b:1<=Nb:=by omega)(hNa:Na<=1000000:=by omega)(hNb:Nb<=1000000:=by omega):Calls Tryz.prog 119 #[v0,v1] w (RV (VTup (Vz (Na+1) (dq x y)) (Vz Nb (dr x y))) w):=by
 go_enter Tryz.func119,Tryz.ntmps119
 refine Sg 58 [(0,Vz Na x),(1,Vz Nb y)] (Lq.2 ⟨⟨_,rfl,h0⟩,(Lq.2 ⟨⟨_,rfl,h1⟩,L0⟩)⟩) fun a0 st0=>Wn ?_
 refine rH [(28,2,0)] [VT,VT,VT,VT] [⟨2,some 0,some 0,28,2,Vz Na x,VT⟩,⟨3,some 1,some 1,28,2,Vz Nb y,VT⟩,⟨4,some 2,none,28,2,VT,VT⟩,⟨5,some 3,none,28,2,VT,VT⟩] [] st0 ⟨ks,ks,ks,ks,trivial⟩ ?_;intro a1 w1 st1;by_cases hy:y=0
 ·
  refine Wn ?_
  refine rH [(28,2,0)] [Vpt a1 3 1,VD Nb y,Vi ((digs y.natAbs).length:Int),Vb true] [.k 2 28 2 (Vz Na x),.k 3 28 2 (Vz Nb y),.k 4 28 2 VT,.k 5 28 2 VT] [(13,Vb true)] st1 ⟨ks,ks,(by refine kr fun _ A Y h D=>?_;obtain⟨v0,x0,X0⟩:=h.dp D 11;obtain⟨pp,nn,cc,rfl,hnn,-⟩:=X0;exact⟨_,run_len rfl rfl x0,by rw [hnn];rfl⟩),(by refine kr fun _ A Y h D=>?_;obtain⟨v0,x0,X0⟩:=h.dp D 12;have hV0':v0= .int .i64 ((digs y.natAbs).length:Int):=X0;exact⟨_,run_eqi rfl (x0.trans hV0') rfl,congrArg Value.bool (by rw [len_eq0];exact dT hy)⟩),trivial⟩ ?_;intro a2 w2 st2;refine Wn ?_
  refine cT st2 ?_;refine Wn ?_
  refine rH [(28,2,0)] [Vz 1 0,Vz 1 0,VT,VT] [.k 2 28 2 (Vz Na x),.k 3 28 2 (Vz Nb y),⟨4,none,some 2,28,2,Vz 1 0,VT⟩,⟨5,none,some 3,28,2,Vz 1 0,VT⟩] [(13,Vb true)] st2 ⟨(kr fun _ A Y h D=>build_Int0 rfl),(kr fun _ A Y h D=>build_Int0 rfl),ks,ks,trivial⟩ fun a3 w3 st3=>Wn ?_
  obtain⟨g,cs,r1,r2,r3,r4,r5⟩:=st3.res (.k 4 28 2 (Vz 1 0)) (.tail _ (.tail _ (.head _))) rfl rfl;obtain⟨g2,cs2,p1,p2,p3,p4,p5⟩:=st3.res (.k 5 28 2 (Vz 1 0)) (.tail _ (.tail _ (.tail _ (.head _)))) rfl rfl;exact wp_ret (bodyPost_ret (results_cell2 rfl _ _ g g2 28 cs cs2 (0,0) (0,0) _ r1 p1 r2 p2 Tryz.underlying28 rfl (by rw [r3];exact size_Int) (by rw [p3];exact size_Int)) st3.defers ⟨_,rfl,⟨_,_,rfl,⟨Vz_le (by rw [show dq x y=0 from if_pos hy];exact r4) (by omega),Vz_le (by rw [show dr x y=0 from if_pos hy];exact p4) (by omega)⟩⟩,r5⟩)
 ·
  refine Wn ?_
  refine rH [(28,2,0)] [Vpt a1 3 1,VD Nb y,Vi ((digs y.natAbs).length:Int),Vb false] [.k 2 28 2 (Vz Na x),.k 3 28 2 (Vz Nb y),.k 4 28 2 VT,.k 5 28 2 VT] [(13,Vb false)] st1 ⟨ks,ks,(by refine kr fun _ A Y h D=>?_;obtain⟨v0,x0,X0⟩:=h.dp D 11;obtain⟨pp,nn,cc,rfl,hnn,-⟩:=X0;exact⟨_,run_len rfl rfl x0,by rw [hnn];rfl⟩),(by refine kr fun _ A Y h D=>?_;obtain⟨v0,x0,X0⟩:=h.dp D 12;have hV0':v0= .int .i64 ((digs y.natAbs).length:Int):=X0;exact⟨_,run_eqi rfl (x0.trans hV0') rfl,congrArg Value.bool (by rw [len_eq0];exact dF hy)⟩),trivial⟩ ?_;intro a2 w2 st2;refine Wn ?_
  refine cF st2 ?_;refine Wn ?_
  refine rH [(28,2,0)] [Vpt a2 2 1,VD Na x,Vpt a2 3 1,VD Nb y,VTup (VO Na ((x.natAbs / y.natAbs:Nat):Int)) (VD Nb ((x.natAbs % y.natAbs:Nat):Int)),VTup (VO Na ((x.natAbs / y.natAbs:Nat):Int)) (VD Nb ((x.natAbs % y.natAbs:Nat):Int)),VO Na ((x.natAbs / y.natAbs:Nat):Int),VD Nb ((x.natAbs % y.natAbs:Nat):Int),VO Na ((x.natAbs / y.natAbs:Nat):Int),VD Nb ((x.natAbs % y.natAbs:Nat):Int)] [.k 2 28 2 (Vz Na x),.k 3 28 2 (Vz Nb y),.k 4 28 2 VT,.k 5 28 2 VT] [(13,Vb false),(6,VO Na ((x.natAbs / y.natAbs:Nat):Int)),(7,VD Nb ((x.natAbs % y.natAbs:Nat):Int))] st2 ⟨ks,ks,ks,ks,(kd2 fun _ _ Y _ v0 X0 v1 X1=>(cRDivided (show VD Na x v0 Y from X0) (show VD Nb y v1 Y from X1) hy)),ks,ks,ks,ks,ks,trivial⟩ fun a3 w3 st3=>Wn ?_
  refine rH [(28,2,0)] [Vpt a3 2 0,Vb (decide ((x)<0)),Vpt a3 3 0,Vb (decide ((y)<0)),Vb ((decide ((x)<0)) !=(decide ((y)<0))),VO Na ((x.natAbs / y.natAbs:Nat):Int),Vz Na (sg ((decide ((x)<0)) !=(decide ((y)<0))) ((x.natAbs / y.natAbs:Nat):Int)),VT,VT] [.k 2 28 2 (Vz Na x),.k 3 28 2 (Vz Nb y),.k 4 28 2 VT,.k 5 28 2 VT,⟨8,some 7,some 8,28,2,Vz Na (sg ((decide ((x)<0)) !=(decide ((y)<0))) ((x.natAbs / y.natAbs:Nat):Int)),VT⟩] [(13,Vb false),(7,VD Nb ((x.natAbs % y.natAbs:Nat):Int))] st3 ⟨ks,(k_cell (j:=0) (off:=0) SbB.out (by kernel_rfl) (.head _) rfl rfl rfl (by kernel_rfl) (by kernel_rfl) rfl (by kernel_rfl) (fun cs w h=>vz_N h) Tryz.underlying4 rfl fun listed A Y h D=>⟨trivial,trivial⟩),ks,(k_cell (j:=2) (off:=0) SbB.out (by kernel_rfl) (.tail _ (.head _)) rfl rfl rfl (by kernel_rfl) (by kernel_rfl) rfl (by kernel_rfl) (fun cs w h=>vz_N h) Tryz.underlying4 rfl fun listed A Y h D=>⟨trivial,trivial⟩),(kr2 25 27 fun _ _ _ _ _ x0 X0 _ x1 X1=>⟨_,run_neqb rfl (x0.trans X0) (x1.trans X1),rfl⟩),ks,(kd2 fun _ _ Y _ v0 X0 v1 X1=>cRNormalV X0 (show VO Na ((x.natAbs / y.natAbs:Nat):Int) v1 Y from X1)),ks,ks,trivial⟩ fun a4 w4 st4=>Wn ?_
  refine rH [(28,2,0)] [VD Nb ((x.natAbs % y.natAbs:Nat):Int),Vz Nb ((x.natAbs % y.natAbs:Nat):Int),VT,VT] [.k 2 28 2 (Vz Na x),.k 3 28 2 (Vz Nb y),.k 4 28 2 VT,.k 5 28 2 VT,.k 8 28 2 (Vz Na (sg ((decide ((x)<0)) !=(decide ((y)<0))) ((x.natAbs / y.natAbs:Nat):Int))),⟨9,some 2,some 3,28,2,Vz Nb ((x.natAbs % y.natAbs:Nat):Int),VT⟩] [(13,Vb false)] st4 ⟨ks,(by refine kc fun _ A Y h D=>?_;obtain⟨v1,x1,X1⟩:=h.dp D 31;exact⟨#[.bool false,v1],by simp [x1,eval_const],cRNormalO (b:=false) (VD_On (show VD Nb ((x.natAbs % y.natAbs:Nat):Int) v1 Y from X1))⟩),ks,ks,trivial⟩ ?_;intro a5 w5 st5;by_cases hx:x<0
  ·
   by_cases hr:0<((x.natAbs % y.natAbs:Nat):Int)
   ·
    refine Wn ?_
    refine rH [(28,2,0)] [Vpt a5 2 0,Vb true,Vb true,Vpt a5 9 1,VD Nb ((x.natAbs % y.natAbs:Nat):Int),Vi ((digs ((x.natAbs % y.natAbs:Nat):Int).natAbs).length:Int),Vb true,Vb true] [.k 2 28 2 (Vz Na x),.k 3 28 2 (Vz Nb y),.k 4 28 2 VT,.k 5 28 2 VT,.k 8 28 2 (Vz Na (sg ((decide ((x)<0)) !=(decide ((y)<0))) ((x.natAbs / y.natAbs:Nat):Int))),.k 9 28 2 (Vz Nb ((x.natAbs % y.natAbs:Nat):Int))] [(13,Vb false),(40,Vb true)] st5 ⟨ks,(k_cell (j:=0) (off:=0) SbB.out (by kernel_rfl) (.head _) rfl rfl rfl (by kernel_rfl) (by kernel_rfl) rfl (by kernel_rfl) (fun cs w h=>vz_NT h hx) Tryz.underlying4 rfl fun listed A Y h D=>⟨trivial,trivial⟩),ks,ks,ks,(by refine kr fun _ A Y h D=>?_;obtain⟨v0,x0,X0⟩:=h.dp D 37;obtain⟨pp,nn,cc,rfl,hnn,-⟩:=X0;exact⟨_,run_len rfl rfl x0,by rw [hnn];rfl⟩),(by refine kr fun _ A Y h D=>?_;obtain⟨v0,x0,X0⟩:=h.dp D 38;have hV0':v0= .int .i64 ((digs ((x.natAbs % y.natAbs:Nat):Int).natAbs).length:Int):=X0;exact⟨_,run_gtri rfl (x0.trans hV0') rfl,congrArg Value.bool (by rw [len_gt0 _ (Int.natCast_nonneg _)];exact dT hr)⟩),ks,trivial⟩ ?_;intro a6 w6 st6;refine Wn ?_
    refine cT st6 ?_;refine Wn ?_
    refine rH [(28,2,0)] [Vz Na (sg ((decide ((x)<0)) !=(decide ((y)<0))) ((x.natAbs / y.natAbs:Nat):Int)),Vpt a6 2 0,Vb (decide ((x)<0)),Vpt a6 3 0,Vb (decide ((y)<0)),Vb ((decide ((x)<0)) !=(decide ((y)<0))),VO 1 1,Vz 1 (sg ((decide ((x)<0)) !=(decide ((y)<0))) 1),Vz (max Na 1+1) ((sg ((decide ((x)<0)) !=(decide ((y)<0))) ((x.natAbs / y.natAbs:Nat):Int))+(sg ((decide ((x)<0)) !=(decide ((y)<0))) 1)),VT] [.k 2 28 2 (Vz Na x),.k 3 28 2 (Vz Nb y),.k 4 28 2 VT,.k 5 28 2 VT,⟨8,none,some 9,28,2,Vz (max Na 1+1) ((sg ((decide ((x)<0)) !=(decide ((y)<0))) ((x.natAbs / y.natAbs:Nat):Int))+(sg ((decide ((x)<0)) !=(decide ((y)<0))) 1)),Vz Na (sg ((decide ((x)<0)) !=(decide ((y)<0))) ((x.natAbs / y.natAbs:Nat):Int))⟩,.k 9 28 2 (Vz Nb ((x.natAbs % y.natAbs:Nat):Int))] [(13,Vb false),(40,Vb true)] st6 ⟨ks,ks,(k_cell (j:=1) (off:=0) SbB.out (by kernel_rfl) (.head _) rfl rfl rfl (by kernel_rfl) (by kernel_rfl) rfl (by kernel_rfl) (fun cs w h=>vz_N h) Tryz.underlying4 rfl fun listed A Y h D=>⟨trivial,trivial⟩),ks,(k_cell (j:=3) (off:=0) SbB.out (by kernel_rfl) (.tail _ (.head _)) rfl rfl rfl (by kernel_rfl) (by kernel_rfl) rfl (by kernel_rfl) (fun cs w h=>vz_N h) Tryz.underlying4 rfl fun listed A Y h D=>⟨trivial,trivial⟩),(kr2 43 45 fun _ _ _ _ _ x0 X0 _ x1 X1=>⟨_,run_neqb rfl (x0.trans X0) (x1.trans X1),rfl⟩),(km fun _ A Y h D=>bslice_one rfl rfl (by omega) (by omega)),(kd2 fun _ _ Y _ v0 X0 v1 X1=>cRNormalV X0 (show VO 1 1 v1 Y from X1)),(kd2 fun _ _ _ _ _ X0 _ X1=>(cRAdd X0 X1)),ks,trivial⟩ fun a7 w7 st7=>Wn ?_
    refine rH [(28,2,0)] [Vpt a7 3 1,VD Nb y,Vpt a7 9 1,VD Nb ((x.natAbs % y.natAbs:Nat):Int),VO Nb (((y.natAbs:Nat):Int) - ((x.natAbs % y.natAbs:Nat):Int)),Vz Nb (((y.natAbs:Nat):Int) - ((x.natAbs % y.natAbs:Nat):Int)),VT] [.k 2 28 2 (Vz Na x),.k 3 28 2 (Vz Nb y),.k 4 28 2 VT,.k 5 28 2 VT,.k 8 28 2 (Vz (max Na 1+1) ((sg ((decide ((x)<0)) !=(decide ((y)<0))) ((x.natAbs / y.natAbs:Nat):Int))+(sg ((decide ((x)<0)) !=(decide ((y)<0))) 1))),⟨9,none,some 6,28,2,Vz Nb (((y.natAbs:Nat):Int) - ((x.natAbs % y.natAbs:Nat):Int)),Vz Nb ((x.natAbs % y.natAbs:Nat):Int)⟩] [(13,Vb false),(40,Vb true)] st7 ⟨ks,ks,ks,(k_cell0 (j:=2) (off:=1) SbB.out (by kernel_rfl) (.tail _ (.tail _ (.tail _ (.tail _ (.tail _ (.head _)))))) rfl rfl rfl (by kernel_rfl) (by kernel_rfl) (by kernel_rfl) rfl (by kernel_rfl) (fun cs w h=>vz_D h) Tryz.underlying22 rfl fun listed A Y h D=>⟨trivial,trivial⟩),(kd2 fun _ _ Y _ v0 X0 v1 X1=>cRMinusN (show VD Nb y v0 Y from X0) (show VD Nb ((x.natAbs % y.natAbs:Nat):Int) v1 Y from X1) (mod_le hy)),(by refine kc fun _ A Y h D=>?_;obtain⟨v1,x1,X1⟩:=h.dp D 54;exact⟨#[.bool false,v1],by simp [x1,eval_const],cRNormalO (b:=false) (show VO Nb (((y.natAbs:Nat):Int) - ((x.natAbs % y.natAbs:Nat):Int)) v1 Y from X1)⟩),ks,trivial⟩ ?_;intro a8 w8 st8;refine Wn ?_
    refine rH [(28,2,0)] [Vz (max Na 1+1) ((sg ((decide ((x)<0)) !=(decide ((y)<0))) ((x.natAbs / y.natAbs:Nat):Int))+(sg ((decide ((x)<0)) !=(decide ((y)<0))) 1)),Vz Nb (((y.natAbs:Nat):Int) - ((x.natAbs % y.natAbs:Nat):Int)),VT,VT] [.k 2 28 2 (Vz Na x),.k 3 28 2 (Vz Nb y),⟨4,none,some 2,28,2,Vz (max Na 1+1) ((sg ((decide ((x)<0)) !=(decide ((y)<0))) ((x.natAbs / y.natAbs:Nat):Int))+(sg ((decide ((x)<0)) !=(decide ((y)<0))) 1)),VT⟩,⟨5,none,some 3,28,2,Vz Nb (((y.natAbs:Nat):Int) - ((x.natAbs % y.natAbs:Nat):Int)),VT⟩,.k 8 28 2 (Vz (max Na 1+1) ((sg ((decide ((x)<0)) !=(decide ((y)<0))) ((x.natAbs / y.natAbs:Nat):Int))+(sg ((decide ((x)<0)) !=(decide ((y)<0))) 1))),.k 9 28 2 (Vz Nb (((y.natAbs:Nat):Int) - ((x.natAbs % y.natAbs:Nat):Int)))] [(13,Vb false),(40,Vb true)] st8 ⟨ks,ks,ks,ks,trivial⟩ fun a9 w9 st9=>Wn ?_
    obtain⟨g,cs,r1,r2,r3,r4,r5⟩:=st9.res (.k 4 28 2 (Vz (max Na 1+1) ((sg ((decide ((x)<0)) !=(decide ((y)<0))) ((x.natAbs / y.natAbs:Nat):Int))+(sg ((decide ((x)<0)) !=(decide ((y)<0))) 1)))) (.tail _ (.tail _ (.head _))) rfl rfl;obtain⟨g2,cs2,p1,p2,p3,p4,p5⟩:=st9.res (.k 5 28 2 (Vz Nb (((y.natAbs:Nat):Int) - ((x.natAbs % y.natAbs:Nat):Int)))) (.tail _ (.tail _ (.tail _ (.head _)))) rfl rfl;exact wp_ret (bodyPost_ret (results_cell2 rfl _ _ g g2 28 cs cs2 (0,0) (0,0) _ r1 p1 r2 p2 Tryz.underlying28 rfl (by rw [r3];exact size_Int) (by rw [p3];exact size_Int)) st9.defers ⟨_,rfl,⟨_,_,rfl,⟨Vz_le (by rw [((rdiv_m hy).1 hx hr).1,<-sg_add];exact r4) (by omega),by rw [((rdiv_m hy).1 hx hr).2];exact p4⟩⟩,r5⟩)
   ·
    refine Wn ?_
    refine rH [(28,2,0)] [Vpt a5 2 0,Vb true,Vb true,Vpt a5 9 1,VD Nb ((x.natAbs % y.natAbs:Nat):Int),Vi ((digs ((x.natAbs % y.natAbs:Nat):Int).natAbs).length:Int),Vb false,Vb false] [.k 2 28 2 (Vz Na x),.k 3 28 2 (Vz Nb y),.k 4 28 2 VT,.k 5 28 2 VT,.k 8 28 2 (Vz Na (sg ((decide ((x)<0)) !=(decide ((y)<0))) ((x.natAbs / y.natAbs:Nat):Int))),.k 9 28 2 (Vz Nb ((x.natAbs % y.natAbs:Nat):Int))] [(13,Vb false),(40,Vb false)] st5 ⟨ks,(k_cell (j:=0) (off:=0) SbB.out (by kernel_rfl) (.head _) rfl rfl rfl (by kernel_rfl) (by kernel_rfl) rfl (by kernel_rfl) (fun cs w h=>vz_NT h hx) Tryz.underlying4 rfl fun listed A Y h D=>⟨trivial,trivial⟩),ks,ks,ks,(by refine kr fun _ A Y h D=>?_;obtain⟨v0,x0,X0⟩:=h.dp D 37;obtain⟨pp,nn,cc,rfl,hnn,-⟩:=X0;exact⟨_,run_len rfl rfl x0,by rw [hnn];rfl⟩),(by refine kr fun _ A Y h D=>?_;obtain⟨v0,x0,X0⟩:=h.dp D 38;have hV0':v0= .int .i64 ((digs ((x.natAbs % y.natAbs:Nat):Int).natAbs).length:Int):=X0;exact⟨_,run_gtri rfl (x0.trans hV0') rfl,congrArg Value.bool (by rw [len_gt0 _ (Int.natCast_nonneg _)];exact dF hr)⟩),ks,trivial⟩ ?_;intro a6 w6 st6;refine Wn ?_
    refine cF st6 ?_;refine Wn ?_
    refine rH [(28,2,0)] [Vz Na (sg ((decide ((x)<0)) !=(decide ((y)<0))) ((x.natAbs / y.natAbs:Nat):Int)),Vz Nb ((x.natAbs % y.natAbs:Nat):Int),VT,VT] [.k 2 28 2 (Vz Na x),.k 3 28 2 (Vz Nb y),⟨4,none,some 2,28,2,Vz Na (sg ((decide ((x)<0)) !=(decide ((y)<0))) ((x.natAbs / y.natAbs:Nat):Int)),VT⟩,⟨5,none,some 3,28,2,Vz Nb ((x.natAbs % y.natAbs:Nat):Int),VT⟩,.k 8 28 2 (Vz Na (sg ((decide ((x)<0)) !=(decide ((y)<0))) ((x.natAbs / y.natAbs:Nat):Int))),.k 9 28 2 (Vz Nb ((x.natAbs % y.natAbs:Nat):Int))] [(13,Vb false),(40,Vb false)] st6 ⟨ks,ks,ks,ks,trivial⟩ fun a7 w7 st7=>Wn ?_
    obtain⟨g,cs,r1,r2,r3,r4,r5⟩:=st7.res (.k 4 28 2 (Vz Na (sg ((decide ((x)<0)) !=(decide ((y)<0))) ((x.natAbs / y.natAbs:Nat):Int)))) (.tail _ (.tail _ (.head _))) rfl rfl;obtain⟨g2,cs2,p1,p2,p3,p4,p5⟩:=st7.res (.k 5 28 2 (Vz Nb ((x.natAbs % y.natAbs:Nat):Int))) (.tail _ (.tail _ (.tail _ (.head _)))) rfl rfl;exact wp_ret (bodyPost_ret (results_cell2 rfl _ _ g g2 28 cs cs2 (0,0) (0,0) _ r1 p1 r2 p2 Tryz.underlying28 rfl (by rw [r3];exact size_Int) (by rw [p3];exact size_Int)) st7.defers ⟨_,rfl,⟨_,_,rfl,⟨Vz_le (by rw [((rdiv_m hy).2 (by exact fun h=>hr h.2)).1];exact r4) (by omega),by rw [((rdiv_m hy).2 (by exact fun h=>hr h.2)).2];exact p4⟩⟩,r5⟩)
  ·
   refine Wn ?_
   refine rH [(28,2,0)] [Vpt a5 2 0,Vb false,Vb false,VT,VT,VT,VT,Vb false] [.k 2 28 2 (Vz Na x),.k 3 28 2 (Vz Nb y),.k 4 28 2 VT,.k 5 28 2 VT,.k 8 28 2 (Vz Na (sg ((decide ((x)<0)) !=(decide ((y)<0))) ((x.natAbs / y.natAbs:Nat):Int))),.k 9 28 2 (Vz Nb ((x.natAbs % y.natAbs:Nat):Int))] [(13,Vb false),(40,Vb false)] st5 ⟨ks,(k_cell (j:=0) (off:=0) SbB.out (by kernel_rfl) (.head _) rfl rfl rfl (by kernel_rfl) (by kernel_rfl) rfl (by kernel_rfl) (fun cs w h=>vz_NF h hx) Tryz.underlying4 rfl fun listed A Y h D=>⟨trivial,trivial⟩),ks,ks,ks,ks,ks,ks,trivial⟩ fun a6 w6 st6=>Wn ?_
   refine cF st6 ?_;refine Wn ?_
   refine rH [(28,2,0)] [Vz Na (sg ((decide ((x)<0)) !=(decide ((y)<0))) ((x.natAbs / y.natAbs:Nat):Int)),Vz Nb ((x.natAbs % y.natAbs:Nat):Int),VT,VT] [.k 2 28 2 (Vz Na x),.k 3 28 2 (Vz Nb y),⟨4,none,some 2,28,2,Vz Na (sg ((decide ((x)<0)) !=(decide ((y)<0))) ((x.natAbs / y.natAbs:Nat):Int)),VT⟩,⟨5,none,some 3,28,2,Vz Nb ((x.natAbs % y.natAbs:Nat):Int),VT⟩,.k 8 28 2 (Vz Na (sg ((decide ((x)<0)) !=(decide ((y)<0))) ((x.natAbs / y.natAbs:Nat):Int))),.k 9 28 2 (Vz Nb ((x.natAbs % y.natAbs:Nat):Int))] [(13,Vb false),(40,Vb false)] st6 ⟨ks,ks,ks,ks,trivial⟩ fun a7 w7 st7=>Wn ?_
   obtain⟨g,cs,r1,r2,r3,r4,r5⟩:=st7.res (.k 4 28 2 (Vz Na (sg ((decide ((x)<0)) !=(decide ((y)<0))) ((x.natAbs / y.natAbs:Nat):Int)))) (.tail _ (.tail _ (.head _))) rfl rfl;obtain⟨g2,cs2,p1,p2,p3,p4,p5⟩:=st7.res (.k 5 28 2 (Vz Nb ((x.natAbs % y.natAbs:Nat):Int))) (.tail _ (.tail _ (.tail _ (.head _)))) rfl rfl;exact wp_ret (bodyPost_ret (results_cell2 rfl _ _ g g2 28 cs cs2 (0,0) (0,0) _ r1 p1 r2 p2 Tryz.underlying28 rfl (by rw [r3];exact size_Int) (by rw [p3];exact size_Int)) st7.defers ⟨_,rfl,⟨_,_,rfl,⟨Vz_le (by rw [((rdiv_m hy).2 (by exact fun h=>hx h.1)).1];exact r4) (by omega),by rw [((rdiv_m hy).2 (by exact fun h=>hx h.1)).2];exact p4⟩⟩,r5⟩)
end Go.Proofs.YteacdbgalloaiaaGreat
