/- Contracts of the packages integer, rat, plane, polygon and their references. -/
import Derived.Test.YteacdbgalloaiaaGreatB9
import Derived.Test.YteacdbgalloaiaaGreatB4
import Derived.Deep.RegionWith
import Derived.Test.YteacdbgalloaiaaGreatB3
import Derived.Test.YteacdbgalloaiaaGreatB5
set_option linter.unusedVariables false
set_option maxRecDepth 100000
set_option maxHeartbeats 6400000
namespace Go.Proofs.YteacdbgalloaiaaGreat
open Go.RowKit
theorem rAdd_same (nx:Bool)(px py:Option Addr)(lx cx ly cy:Nat)(x y:Int)(w:World)(hx0:IntZ w nx px lx cx x)(hy0:IntZ w nx py ly cy y)(hlx:lx<=549755813887)(hly:ly<=549755813887):
 Calls Tryz.prog 117 #[.agg #[.bool nx,.slice px lx cx],.agg #[.bool nx,.slice py ly cy]] w (RetI w (x+y)):=by
 have hx:=hIq hx0;have hy:=hIq hy0
 have hca:Hid (∀W,Ar2 w nx px lx cx nx py ly cy W->Calls Tryz.prog 139 #[.slice px lx cx,.slice py ly cy] W (NewS W (SumP (digs x.natAbs) (digs y.natAbs)))):=
  hIq fun W h=>plus_any _ _ _ _ _ _ _ _ W (Rdi_below h.2.2.2 hx0.2.2.1) (Rdi_below h.2.2.2 hy0.2.2.1) hx0.2.1 hy0.2.1 (Dg_digs _) (Dg_digs _) (by omega) (by omega)
 have hf:=fun W (h:Ar2 w nx px lx cx nx py ly cy W)=>h.facts
 have hS0:=hIq (@Ar2.start nx px lx cx nx py ly cy w);have hsg:Hid (sg nx (val (digs x.natAbs)+val (digs y.natAbs))=x+y):=hIq (by rw [val_digs,val_digs];exact same_neg hx0.1 hy0.1 rfl);have hle:Hid ((digs x.natAbs).length=lx/\(digs y.natAbs).length=ly):=hIq ⟨hx0.2.1.symm,hy0.2.1.symm⟩;have hnn:(nx== !nx)=false:=by cases nx<;>rfl
 clear hx0 hy0
 go_enter Tryz.func117,Tryz.ntmps117
 go_wp2_with fail
 generalize((w.alloc (.cells #[.bool nx,.slice px lx cx] 28)).alloc (.cells #[.bool nx,.slice py ly cy] 28)).alloc (.cells #[.bool false,.slice none 0 0] 28)=W0 at hS0 ⊢;have hS1:=hS0.out;clear hS0
 go_region_held3 (fun W=>Ar2 w nx px lx cx nx py ly cy W) (first|exact Ar2.drew (by assumption)|exact Ar2.later (by assumption) (by assumption)|exact Ar2.store (by assumption) _ _) (first|(go_at_call 139;refine(hca.out _ (by assumption)).mono ?_;rintro e w1 ⟨p1,n,c1,z,rfl,hz0,hn0,hnc,hcm,hp10,hb1,hP0⟩;have hp1:=hIq hp10;have hz:=hIq hz0;have hn:=hIq hn0;have hP:=hIq hP0;have hnl:n<=1099511627774:=(by have:=hP0.2.2;have:=hle.out;omega);clear hz0 hn0 hP0 hp10)|(go_at_call 122;refine(normal_any _ p1 n c1 z _ hz.out hn.out.symm hnc hcm hP.out.1).mono ?_;rintro e w2 ⟨nb,p,n2,c2,rfl,hI0,hb2,hp0⟩;have hI:=hIq hI0;have hp:=hIq hp0;clear hI0 hp0))
 have hS2:=(hS1.drew.later hb1).later hb2;have hgt:∀q,p=some q->w.heap.size+1+1<q.block:=fun q hq=>Nat.lt_of_lt_of_le hS1.drew.top (hp1.out q (hp.out q hq))
 have hfin:=hIq (hS2.ret hI.out hgt (by rw [hP.out.2.1,<-hsg.out]:sg nx (val z)=x+y));go_wp2_with fail
 exact bodyPost_ret (v:= .agg #[.bool nb,.slice p n2 c2]) (results_cell_row rfl _ _ (w.heap.size+1+1) 28 _ (0,0) _ rfl (hS2.res _ _) Tryz.underlying28 rfl size_Int) rfl hfin.out
theorem rAdd_lt (nx:Bool)(px py:Option Addr)(lx cx ly cy:Nat)(x y:Int)(w:World)(hx0:IntZ w nx px lx cx x)(hy0:IntZ w (!nx) py ly cy y)(hlx:lx<=549755813887)(hly:ly<=549755813887)(hlt:x.natAbs<y.natAbs):
 Calls Tryz.prog 117 #[.agg #[.bool nx,.slice px lx cx],.agg #[.bool (!nx),.slice py ly cy]] w (RetI w (x+y)):=by
 have hx:=hIq hx0;have hy:=hIq hy0
 have hca:Hid (∀W,Ar2 w nx px lx cx (!nx) py ly cy W->Calls Tryz.prog 140 #[.slice py ly cy,.slice px lx cx] W (NewS W (DifP (digs y.natAbs) (digs x.natAbs)))):=
  hIq fun W h=>minus_any _ _ _ _ _ _ _ _ W (Rdi_below h.2.2.2 hy0.2.2.1) (Rdi_below h.2.2.2 hx0.2.2.1) hy0.2.1 hx0.2.1 (Dg_digs _) (Dg_digs _) (by omega) (by rw [hx0.2.1,hy0.2.1];exact digs_len_mono (by omega)) (by rw [val_digs,val_digs];omega)
 have hcm:Hid (∀W,Below w.heap.size w W->Calls Tryz.prog 128 #[.slice px lx cx,.slice py ly cy] W fun e w'=>e= .returned (.int .i64 (-1))/\Below W.heap.size W w'):=
  hIq fun W h=>by rw [show(-1:Int)=cmpI x.natAbs y.natAbs from(cmp_lt (by omega)).symm];exact compared_any _ _ _ _ _ _ _ _ W (Rdi_below h hx0.2.2.1) (Rdi_below h hy0.2.2.1) hx0.2.1 hy0.2.1 (by omega) (by omega)
 have hf:=fun W (h:Ar2 w nx px lx cx (!nx) py ly cy W)=>h.facts
 have hS0:=hIq (@Ar2.start nx px lx cx (!nx) py ly cy w);have hsg:Hid (sg (!nx) (val (digs y.natAbs) - val (digs x.natAbs))=x+y):=hIq (by rw [val_digs,val_digs,Int.add_comm];exact diff_neg hy0.1 hx0.1 (by cases nx<;>decide));have hle:Hid ((digs x.natAbs).length=lx/\(digs y.natAbs).length=ly):=hIq ⟨hx0.2.1.symm,hy0.2.1.symm⟩;have hnn:(nx== !nx)=false:=by cases nx<;>rfl
 clear hx0 hy0
 go_enter Tryz.func117,Tryz.ntmps117
 go_wp2_with fail
 generalize((w.alloc (.cells #[.bool nx,.slice px lx cx] 28)).alloc (.cells #[.bool (!nx),.slice py ly cy] 28)).alloc (.cells #[.bool false,.slice none 0 0] 28)=W9 at hS0 ⊢;have hS9:=hS0.out;clear hS0;have hf9:=hf _ hS9;go_wp2_with (go_at_call 128;refine(hcm.out _ hS9.2.2.2).mono ?_;rintro e W0 ⟨rfl,hb9⟩;have hS1:=hS9.later hb9;clear hb9 hf9)
 go_region_held3 (fun W=>Ar2 w nx px lx cx (!nx) py ly cy W) (first|exact Ar2.drew (by assumption)|exact Ar2.later (by assumption) (by assumption)|exact Ar2.store (by assumption) _ _) (first|(go_at_call 140;refine(hca.out _ (by assumption)).mono ?_;rintro e w1 ⟨p1,n,c1,z,rfl,hz0,hn0,hnc,hcm,hp10,hb1,hP0⟩;have hp1:=hIq hp10;have hz:=hIq hz0;have hn:=hIq hn0;have hP:=hIq hP0;have hnl:n<=1099511627774:=(by have:=hP0.2.2;have:=hle.out;omega);clear hz0 hn0 hP0 hp10)|(go_at_call 122;refine(normal_any _ p1 n c1 z _ hz.out hn.out.symm hnc hcm hP.out.1).mono ?_;rintro e w2 ⟨nb,p,n2,c2,rfl,hI0,hb2,hp0⟩;have hI:=hIq hI0;have hp:=hIq hp0;clear hI0 hp0))
 have hS2:=(hS1.drew.later hb1).later hb2;have hgt:∀q,p=some q->w.heap.size+1+1<q.block:=fun q hq=>Nat.lt_of_lt_of_le hS1.drew.top (hp1.out q (hp.out q hq))
 have hfin:=hIq (hS2.ret hI.out hgt (by rw [hP.out.2.1,<-hsg.out]:sg (!nx) (val z)=x+y));go_wp2_with fail
 exact bodyPost_ret (v:= .agg #[.bool nb,.slice p n2 c2]) (results_cell_row rfl _ _ (w.heap.size+1+1) 28 _ (0,0) _ rfl (hS2.res _ _) Tryz.underlying28 rfl size_Int) rfl hfin.out
theorem rAdd_ge (nx:Bool)(px py:Option Addr)(lx cx ly cy:Nat)(x y:Int)(w:World)(hx0:IntZ w nx px lx cx x)(hy0:IntZ w (!nx) py ly cy y)(hlx:lx<=549755813887)(hly:ly<=549755813887)(hge:y.natAbs<=x.natAbs)(r:Int)(hr:0<=r)(hr1:r<=1)(hrr:Hid (r=cmpI x.natAbs y.natAbs)):
 Calls Tryz.prog 117 #[.agg #[.bool nx,.slice px lx cx],.agg #[.bool (!nx),.slice py ly cy]] w (RetI w (x+y)):=by
 have hx:=hIq hx0;have hy:=hIq hy0
 have hca:Hid (∀W,Ar2 w nx px lx cx (!nx) py ly cy W->Calls Tryz.prog 140 #[.slice px lx cx,.slice py ly cy] W (NewS W (DifP (digs x.natAbs) (digs y.natAbs)))):=
  hIq fun W h=>minus_any _ _ _ _ _ _ _ _ W (Rdi_below h.2.2.2 hx0.2.2.1) (Rdi_below h.2.2.2 hy0.2.2.1) hx0.2.1 hy0.2.1 (Dg_digs _) (Dg_digs _) (by omega) (by rw [hx0.2.1,hy0.2.1];exact digs_len_mono (by omega)) (by rw [val_digs,val_digs];omega)
 have hcm:Hid (∀W,Below w.heap.size w W->Calls Tryz.prog 128 #[.slice px lx cx,.slice py ly cy] W fun e w'=>e= .returned (.int .i64 (r))/\Below W.heap.size W w'):=
  hIq fun W h=>by rw [show(r:Int)=cmpI x.natAbs y.natAbs from hrr.out];exact compared_any _ _ _ _ _ _ _ _ W (Rdi_below h hx0.2.2.1) (Rdi_below h hy0.2.2.1) hx0.2.1 hy0.2.1 (by omega) (by omega)
 have hf:=fun W (h:Ar2 w nx px lx cx (!nx) py ly cy W)=>h.facts
 have hS0:=hIq (@Ar2.start nx px lx cx (!nx) py ly cy w);have hsg:Hid (sg nx (val (digs x.natAbs) - val (digs y.natAbs))=x+y):=hIq (by rw [val_digs,val_digs];exact diff_neg hx0.1 hy0.1 (by cases nx<;>decide));have hle:Hid ((digs x.natAbs).length=lx/\(digs y.natAbs).length=ly):=hIq ⟨hx0.2.1.symm,hy0.2.1.symm⟩;have hnn:(nx== !nx)=false:=by cases nx<;>rfl
 clear hx0 hy0
 go_enter Tryz.func117,Tryz.ntmps117
 go_wp2_with fail
 generalize((w.alloc (.cells #[.bool nx,.slice px lx cx] 28)).alloc (.cells #[.bool (!nx),.slice py ly cy] 28)).alloc (.cells #[.bool false,.slice none 0 0] 28)=W9 at hS0 ⊢;have hS9:=hS0.out;clear hS0;have hf9:=hf _ hS9;go_wp2_with (go_at_call 128;refine(hcm.out _ hS9.2.2.2).mono ?_;rintro e W0 ⟨rfl,hb9⟩;have hS1:=hS9.later hb9;clear hb9 hf9)
 go_region_held3 (fun W=>Ar2 w nx px lx cx (!nx) py ly cy W) (first|exact Ar2.drew (by assumption)|exact Ar2.later (by assumption) (by assumption)|exact Ar2.store (by assumption) _ _) (first|(go_at_call 140;refine(hca.out _ (by assumption)).mono ?_;rintro e w1 ⟨p1,n,c1,z,rfl,hz0,hn0,hnc,hcm,hp10,hb1,hP0⟩;have hp1:=hIq hp10;have hz:=hIq hz0;have hn:=hIq hn0;have hP:=hIq hP0;have hnl:n<=1099511627774:=(by have:=hP0.2.2;have:=hle.out;omega);clear hz0 hn0 hP0 hp10)|(go_at_call 122;refine(normal_any _ p1 n c1 z _ hz.out hn.out.symm hnc hcm hP.out.1).mono ?_;rintro e w2 ⟨nb,p,n2,c2,rfl,hI0,hb2,hp0⟩;have hI:=hIq hI0;have hp:=hIq hp0;clear hI0 hp0))
 have hS2:=(hS1.drew.later hb1).later hb2;have hgt:∀q,p=some q->w.heap.size+1+1<q.block:=fun q hq=>Nat.lt_of_lt_of_le hS1.drew.top (hp1.out q (hp.out q hq))
 have hfin:=hIq (hS2.ret hI.out hgt (by rw [hP.out.2.1,<-hsg.out]:sg nx (val z)=x+y));go_wp2_with fail
 exact bodyPost_ret (v:= .agg #[.bool nb,.slice p n2 c2]) (results_cell_row rfl _ _ (w.heap.size+1+1) 28 _ (0,0) _ rfl (hS2.res _ _) Tryz.underlying28 rfl size_Int) rfl hfin.out
theorem rAdd_any (nx ny:Bool)(px py:Option Addr)(lx cx ly cy:Nat)(x y:Int)(w:World)(hx0:IntZ w nx px lx cx x)(hy0:IntZ w ny py ly cy y)(hlx:lx<=549755813887)(hly:ly<=549755813887):
 Calls Tryz.prog 117 #[.agg #[.bool nx,.slice px lx cx],.agg #[.bool ny,.slice py ly cy]] w (RetI w (x+y)):=by
 by_cases h:nx=ny
 ·subst h;exact rAdd_same nx px py lx cx ly cy x y w hx0 hy0 hlx hly
 ·obtain rfl:ny= !nx:=by cases nx<;>cases ny<;>first|rfl|exact absurd rfl h
  by_cases hlt:x.natAbs<y.natAbs
  ·exact rAdd_lt nx px py lx cx ly cy x y w hx0 hy0 hlx hly hlt
  ·refine rAdd_ge nx px py lx cx ly cy x y w hx0 hy0 hlx hly (by omega) (cmpI x.natAbs y.natAbs) ?_ ?_ (hIq rfl)
   ·unfold cmpI;rw [if_neg (by omega)];split<;>omega
   ·unfold cmpI;rw [if_neg (by omega)];split<;>omega


section
variable {BT:List (TypeId×Nat×Nat)}
def VI (l:List Int):VP:=fun v w=>∃a m c,v= .slice a m c/\Rdi w a l/\m=l.length/\i64s l
theorem Stab_VI (l:List Int):Stab BT (VI l):=fun _ _ _ ⟨a,m,c,h1,h2,h3,h4⟩ hr=>⟨a,m,c,h1,Rdi_RI hr h2,h3,h4⟩
instance (l:List Int):Sb BT (VI l):=⟨Stab_VI l⟩
theorem wrap_id {n:Int}(h1: -9223372036854775808<=n)(h2:n<=9223372036854775807):IntKind.i64.wrap n=n:=IntWalk.i64_in n ⟨h1,h2⟩
theorem wO {n:Int}(h1: -9223372036854775808<=n:=by omega)(h2:n<=9223372036854775807:=by omega):IntKind.i64.wrap n=n:=wrap_id h1 h2
section
variable {ρ:Operand->Value}{o:Oper}{W:World}{x y:Operand}{a b c:Int}
theorem run_subi (ho:o.op= .binOp .sub 3 x y 3)(hx:ρ x= .int .i64 a)(hy:ρ y= .int .i64 b)(hc:IntKind.i64.wrap (a - b)=c):(execOp ρ o).run Tryz.prog W= .ok (.value (.int .i64 c)) W:=by
 obtain⟨d,op,ty,ps,af,gd⟩:=o;subst ho
 go_simp
theorem run_muli (ho:o.op= .binOp .mul 3 x y 3)(hx:ρ x= .int .i64 a)(hy:ρ y= .int .i64 b)(hc:IntKind.i64.wrap (a*b)=c):(execOp ρ o).run Tryz.prog W= .ok (.value (.int .i64 c)) W:=by
 obtain⟨d,op,ty,ps,af,gd⟩:=o;subst ho
 go_simp
theorem run_negi (ho:o.op= .unOp .neg 3 x)(hx:ρ x= .int .i64 a)(hc:IntKind.i64.wrap (-a)=c):(execOp ρ o).run Tryz.prog W= .ok (.value (.int .i64 c)) W:=by
 obtain⟨d,op,ty,ps,af,gd⟩:=o;subst ho
 go_simp
theorem run_quoi (ho:o.op= .binOp .quo 3 x y 3)(hx:ρ x= .int .i64 a)(hy:ρ y= .int .i64 b)(h0:0<=a/\a<=9223372036854775807)(hb:0<b):(execOp ρ o).run Tryz.prog W= .ok (.value (.int .i64 (a / b))) W:=by
 have hb0:¬b=0:=by omega
 have e1:Int.tdiv a b=a / b:=Int.tdiv_eq_ediv_of_nonneg h0.1;have e2:0<=a / b:=Int.ediv_nonneg h0.1 (by omega);have e3:a / b<=a:=Int.ediv_le_self b h0.1;have e4:IntKind.i64.wrap (a / b)=a / b:=wrap_id (by omega) (by omega);generalize a / b=q at*
 clear e2 e3 h0 hb;obtain⟨d,op,ty,ps,af,gd⟩:=o;subst ho
 go_simp
theorem run_remi (ho:o.op= .binOp .rem 3 x y 3)(hx:ρ x= .int .i64 a)(hy:ρ y= .int .i64 b)(h0:0<=a)(hb:0<b):(execOp ρ o).run Tryz.prog W= .ok (.value (.int .i64 (a % b))) W:=by
 have hb0:¬b=0:=by omega
 have e1:Int.tmod a b=a % b:=Int.tmod_eq_emod_of_nonneg h0;generalize a % b=q at*
 clear h0 hb;obtain⟨d,op,ty,ps,af,gd⟩:=o;subst ho
 go_simp
end
theorem cAround {W:World}{n most:Int}{v:Value}(h:Vi n v W)(h1: -9223372036854775808<=n:=by omega)(h2:n<=9223372036854775807:=by omega)(h3:0<most:=by omega)(h4:most<=9223372036854775807:=by omega):Calls Tryz.prog 13 #[v,.int .i64 most] W (RV (Vi (arn n most)) W):=by
 obtain rfl:=h;exact(around_any n most h1 h2 h3 h4 W).mono fun e w' ⟨he,hw⟩=>⟨_,he,rfl,hw ▸ Below.refl _ _⟩
theorem cAt {W:World}{l:List Int}{i most:Int}{v v1:Value}(h:VI l v W)(h1:Vi i v1 W)(hi:0<=i:=by omega)(hi2:i<=9223372036854775807:=by omega)(h3:0<most:=by omega)(h4:most<=9223372036854775807:=by omega):Calls Tryz.prog 38 #[v,v1,.int .i64 most] W (RV (Vi (atv l i most)) W):=by
 obtain⟨a,m,c,rfl,hR,hm,h64⟩:=h;obtain rfl:=h1;have:=at_any a m c l i.toNat most W hR hm h64 (by omega) h3 h4;rw [Int.toNat_of_nonneg hi] at this;exact this.mono fun e w' ⟨he,hw⟩=>⟨_,he,rfl,hw ▸ Below.refl _ _⟩
end
theorem val_two {l:List Int}(h:l.length<=2):val l=iat l 1*1000000000+iat l 0:=by
 match l,h with
 | [],_=>rfl
 | [a],_=>simp [val,iat]
 | [a,b],_=>simp [val,iat];omega
theorem val_two_bd {l:List Int}(D:Dg l):0<=iat l 1*1000000000/\iat l 1*1000000000<=999999999000000000/\0<=iat l 1*1000000000+iat l 0/\iat l 1*1000000000+iat l 0<1000000000000000000:=by
 have h0:=D.all 0;have h1:=D.all 1;omega
theorem tiny_any (a:Option Addr)(n c:Nat)(l:List Int)(w:World)(hR0:Rdi w a l)(hn0:n=l.length)(hd0:Dg l)(h2:n<=2):
 Calls Tryz.prog 141 #[.slice a n c] w fun e w'=>e= .returned (.int .i64 (val l))/\w=w':=by
 have hg0:Hid (Calls Tryz.prog 148 #[.slice a n c,.int .i64 0] w fun e w'=>e= .returned (.int .i64 (iat l 0))/\w=w'):=hIq (digit_any a n c l 0 w hR0 hn0);have hg1:Hid (Calls Tryz.prog 148 #[.slice a n c,.int .i64 1] w fun e w'=>e= .returned (.int .i64 (iat l 1))/\w=w'):=hIq (digit_any a n c l 1 w hR0 hn0);have hv:Hid (val l=iat l 1*1000000000+iat l 0):=hIq (val_two (by omega));obtain⟨b1,b2,b3,b4⟩:=val_two_bd hd0;rw [hv.out];obtain⟨d0,e0⟩:∃d,iat l 0=d:=⟨_,rfl⟩;obtain⟨d1,e1⟩:∃d,iat l 1=d:=⟨_,rfl⟩;rw [e0] at hg0;rw [e1] at hg1;rw [e1] at b1 b2;rw [e0,e1] at b3 b4 ⊢;clear hR0 hn0 hd0 hv e0 e1
 go_enter Tryz.func141,Tryz.ntmps141
 go_wp2_with (first
  |(go_at_call 148;(with_reducible refine hg1.out.mono ?_);rintro e w' ⟨rfl,rfl⟩)
  |(go_at_call 148;(with_reducible refine hg0.out.mono ?_);rintro e w' ⟨rfl,rfl⟩))
 go_ret
 exact⟨rfl,rfl⟩
def TmP (w:World)(v:Nat)(e:Ending)(w':World):Prop:=∃p n c,e= .returned (.slice p n c)/\Rdi w' p (digs v)/\n=(digs v).length/\n<=c/\c<=9223372036854775807/\Below w.heap.size w w'/\∀q,p=some q->w.heap.size<=q.block
theorem times_any (a:Option Addr)(n c:Nat)(y:Nat)(k:Int)(w:World)(hR0:Rdi w a (digs y))(hn0:n=(digs y).length)(hnc:n<=c)(hc:c<=9223372036854775807)(hn:n<=274877906943)(hk0:0<=k)(hk1:k<=9223372036854775807):
 Calls Tryz.prog 149 #[.slice a n c,.int .i64 k] w (TmP w (y*k.toNat)):=by
 have h1:Hid (Calls Tryz.prog 122 #[.bool false,.slice a n c] w (RetF (fun q=>a=some q) w (y:Int))):=hIq (by
  have:=normal_any false a n c (digs y) w hR0 hn0 hnc hc (Dg_digs _);rw [show sg false (val (digs y))=(y:Int) by rw [val_digs];rfl] at this
  exact this)
 have h2:Hid (∀W,Calls Tryz.prog 82 #[.int .i64 k] W (RetI W k)):=hIq fun W=>rOf_any k (by omega) hk1 W
 have h3:Hid (∀W nb p n2 c2 nb2 p2 n3 c3,IntAt W nb p n2 c2 (y:Int)->IntAt W nb2 p2 n3 c3 k->Calls Tryz.prog 95 #[.agg #[.bool nb,.slice p n2 c2],.agg #[.bool nb2,.slice p2 n3 c3]] W (RetI W ((y:Int)*k))):=hIq fun W nb p n2 c2 nb2 p2 n3 c3 hI hJ=>rMul_any _ _ _ _ _ _ _ _ _ _ W hI.z hJ.z (by rw [hI.2.1,show((y:Int)).natAbs=y by omega];omega) (by
  rw [hJ.2.1];have:=digs_len_le (n:=k.natAbs) (k:=3) (by rw [pw3];omega)
  omega)
 have hyk:Hid (((y:Int)*k).natAbs=y*k.toNat):=hIq (by rw [Int.natAbs_mul,show k.natAbs=k.toNat by omega];rfl);clear hR0 hn0 hnc hc
 go_enter Tryz.func149,Tryz.ntmps149
 go_upto_region 2 with(first
  |(go_at_call 122;(refine h1.out.mono ?_);rintro e w1 ⟨nb1,p1,n1,c1,rfl,hI1,hb1,_⟩;have hI1':=hIq hI1;clear hI1)
  |(go_at_call 82;(refine(h2.out _).mono ?_);rintro e w2 ⟨nb2,p2,n2,c2,rfl,hI2,hb2,_⟩;have hI2':=hIq hI2;clear hI2)
  |(go_at_call 95;(refine(h3.out _ _ _ _ _ _ _ _ _ (hI1'.out.later hb2) hI2'.out).mono ?_);rintro e w3 ⟨nb3,p3,n3,c3,rfl,hI3,hb3,hp3⟩;have hI3':=hIq hI3;have hp3':=hIq hp3;clear hI3 hp3))
 have hB:Hid (Below w.heap.size w (w3.alloc (.cells #[.bool nb3,.slice p3 n3 c3] 28 (0,0)))):=hIq (below_tr hb1 (below_tr hb2 (below_tr hb3 (below_new _ _))))
 have hfin:Hid (TmP w (y*k.toNat) (.returned (.slice p3 n3 c3)) (w3.alloc (.cells #[.bool nb3,.slice p3 n3 c3] 28 (0,0)))):=hIq (by
  have h:=hI3'.out.later (below_new w3 (.cells #[.bool nb3,.slice p3 n3 c3] 28 (0,0)));rw [<-hyk.out]
  exact⟨_,_,_,rfl,h.2.2.1,h.2.1,h.2.2.2.1,h.2.2.2.2,hB.out,fun q hq=>by
   have a1:=hp3'.out q hq;have a2:=hb1.size;have a3:=hb2.size
   omega⟩)
 clear hb1 hb2 hb3;go_wp2_with fail
 go_ret
 exact hfin.out
def DvP (w:World)(x y:Nat)(e:Ending)(w':World):Prop:=
 ∃p1 n1 c1 O p2 n2 c2,∃r:Nat,e= .returned (.tuple #[.slice p1 n1 c1,.slice p2 n2 c2])/\Rdi w' p1 O/\n1=O.length/\n1<=c1/\c1<=9223372036854775807/\Dg O/\val O*(y:Int)+(r:Int)=(x:Int)/\r<y/\Rdi w' p2 (digs r)/\n2=(digs r).length/\n2<=c2/\c2<=9223372036854775807/\n1<=(digs x).length/\Below w.heap.size w w'/\(∀q,p1=some q->w.heap.size<=q.block)/\∀q,p2=some q->w.heap.size<=q.block
def DvI (w:World)(x y:Nat)(g:Nat)(k:Nat)(rv:Value)(wr:World):Prop:=
 ∃p nr cr,∃r:Nat,∃O,rv= .slice p nr cr/\Rdi wr p (digs r)/\nr=(digs r).length/\nr<=cr/\cr<=9223372036854775807/\r<y/\Blk wr g O/\O.length=(digs x).length/\Dg O/\val ((digs x).drop k)=val (O.drop k)*(y:Int)+(r:Int)/\Below w.heap.size w wr/\(∀q,p=some q->q.block≠g/\w.heap.size<=q.block)/\k<=(digs x).length
theorem val_set_drop (O:List Int)(j:Nat)(q:Int)(h:j<O.length):val ((O.set j q).drop j)=q+1000000000*val (O.drop (j+1)):=by
 rw [val_drop _ j (by simpa using h)]
 congr 1
 ·simp [iat,List.getD_eq_getElem?_getD,h]
 ·rw [List.drop_set_of_lt (by omega)]
theorem rdiv_long1 (a b:Option Addr)(n ca m cb:Nat)(x y:Nat)(w:World)(hRa:Rdi w a (digs x))(hRb:Rdi w b (digs y))(hn0:n=(digs x).length)(hm0:m=(digs y).length)(_hna:n<=ca)(hca:ca<=9223372036854775807)(hnb:m<=cb)(hcb:cb<=9223372036854775807)(hnl:n<=1000000000)(hml:m<=1000000000)(hy:0<y)(hc1:¬(n:Int)<=2):
 Calls Tryz.prog 142 #[.slice a n ca,.slice b m cb] w (DvP w x y):=by
 have hA:=hIq hRa;have hB:=hIq hRb;have hN:=hIq hn0;have hM:=hIq hm0;have hmk:=run_make_row' (P:=Tryz.prog) 22 3 (.int .i64 0) 8 Tryz.underlying22 info_i64 rfl .i64 .i64 n (by omega) (by omega);rw [zvs_zeros] at hmk;obtain⟨Z,hZ⟩:∃Z,zvs (List.replicate n 0)=Z:=⟨_,rfl⟩;rw [hZ] at hmk;have hZ':=hIq hZ;have htm:Hid (∀W (k:Nat),Below w.heap.size w W->k<=999999999->Calls Tryz.prog 149 #[.slice b m cb,.int .i64 (k:Int)] W (TmP W (y*k))):=hIq fun W k h hk=>times_any b m cb y (k:Int) W (Rdi_below h hRb) hm0 hnb hcb (by omega) (by omega) (by omega)
 have hcmp:Hid (∀W p2 n2 c2 p3 n3 c3 (u v:Nat),Rdi W p2 (digs u)->Rdi W p3 (digs v)->n2=(digs u).length->n3=(digs v).length->n2<=c2->c2<=9223372036854775807->n3<=c3->c3<=9223372036854775807->Calls Tryz.prog 128 #[.slice p2 n2 c2,.slice p3 n3 c3] W fun e w'=>e= .returned (.int .i64 (cmpI u v))/\Below W.heap.size W w'):=hIq fun W p2 n2 c2 p3 n3 c3 u v h1 h2 h3 h4 h5 h6 h7 h8=>compared_any p2 p3 n2 c2 n3 c3 u v W h1 h2 h3 h4 (by omega) (by omega)
 clear hRa hRb hZ hn0 hm0
 go_enter Tryz.func142,Tryz.ntmps142
 go_upto_region 8 with fail
 have hI:Hid (DvI w x y w.heap.size n (.slice none 0 0) (w.alloc (.cells Z.toArray 3))):=hIq ⟨none,0,0,0,List.replicate n 0,rfl,.inl digs_zero,by rw [digs_zero];rfl,Nat.le_refl _,by omega,hy,by rw [<-hZ'.out];exact Blk_new _ _,by rw [List.length_replicate];exact hN.out,Dg_zeros _,by rw [hN.out,List.drop_length,List.drop_eq_nil_of_le (by simp)];simp [val],below_new _ _,(fun q hq=>by cases hq),by rw [hN.out];exact Nat.le_refl _⟩;have hgw:Hid (w.heap.size<=w.heap.size):=hIq (Nat.le_refl _);generalize w.alloc (.cells Z.toArray 3)=w1 at hI ⊢;obtain⟨g,hg⟩:∃g,w.heap.size=g:=⟨_,rfl⟩;rw [hg] at hI ⊢;replace hgw:Hid (w.heap.size<=g):=hIq (by omega);clear hmk hZ' hg
 go_loopg [9,10] n (fun k r i wr=>i= .int .i64 ((k:Int) - 1)/\DvI w x y g k r wr)
 case atStart=>exact⟨rfl,hI.out⟩
 case round=>
  obtain⟨rfl,hD⟩:=hrel;clear hI;by_cases h0:gk=0
  ·subst h0;obtain⟨p,nr,cr,r,O,rfl,hR,hnr,hncr,hcr,hry,hO,hOl,hOd,hval,hbw,hpg,hkn⟩:=hD;rw [List.drop_zero,List.drop_zero,val_digs] at hval;have hfin:Hid (DvP w x y (.returned (.tuple #[.slice (some ⟨g,0,none⟩) n n,.slice p nr cr])) wr):=hIq ⟨_,_,_,O,_,_,_,r,rfl,hO.rdi,by rw [hOl];exact hN.out,Nat.le_refl _,by omega,hOd,hval.symm,hry,hR,hnr,hncr,hcr,by rw [hN.out];exact Nat.le_refl _,hbw,(fun q hq=>by cases hq;exact hgw.out),fun q hq=>(hpg q hq).2⟩;clear hR hnr hncr hcr hO hOl hOd hval hbw hpg hkn;have e0:((0:Nat):Int) - 1= -1:=by omega
   rw [e0];go_wp2_with fail
   go_ret2
   exact hfin.out
  ·obtain⟨k,rfl⟩:∃k,gk=k+1:=⟨gk - 1,by omega⟩;have e0:((k+1:Nat):Int) - 1=(k:Int):=by omega
   rw [e0];obtain⟨p,nr,cr,r,O,rfl,hR,hnr,hncr,hcr,hry,hO,hOl0,hOd0,hval0,hbw,hpg,hkn⟩:=hD;have hkl:k<(digs x).length:=by omega
   obtain⟨ba,oa,rfl,hca0⟩:=Rdi_at (Rdi_below hbw hA.out) k hkl;have hdb:=(Dg_digs x).all k;have hvx0:=val_drop (digs x) k hkl;obtain⟨d,D⟩:∃d,iat (digs x) k=d:=⟨_,rfl⟩;rw [D] at hca0 hdb hvx0;have hvx:=hIq hvx0;have hval:=hIq hval0;have hOl:=hIq hOl0;have hOd:=hIq hOd0;have hrl:(digs r).length<=(digs y).length:=digs_len_mono (by omega);have hnr2:nr<=1000000000:=by have:=hM.out;omega
   obtain⟨pp,cc,w2,hrun0,hR2,hcc,hcc2,hb2⟩:=append_one wr.heap.size d p nr cr (digs r) (wr.alloc (.cells (zvs [d]).toArray 3)) (Blk_new wr [d]) (Rdi_below (below_new _ _) hR) hnr (by omega);obtain⟨r1,hr10⟩:∃r1:Nat,(r1:Int)=d+1000000000*(r:Int):=⟨(d+1000000000*(r:Int)).toNat,by omega⟩;have hr1:=hIq hr10;have hr1b:Hid (r1<1000000000*y):=hIq (by have h1:=hdb.1;have h2:=hdb.2;omega)
   have hnm:Hid (Calls Tryz.prog 122 #[.bool false,.slice pp (nr+1) cc] w2 (RetF (fun q=>pp=some q) w2 (r1:Int))):=hIq (by
    have:=normal_any false pp (nr+1) cc (d::digs r) w2 hR2 (by rw [List.length_cons,hnr]) hcc hcc2 (Dg_cons hdb.1 hdb.2 (Dg_digs r));rw [show sg false (val (d::digs r))=(r1:Int) by rw [hr10];show d+1000000000*val (digs r)=_;rw [val_digs]] at this
    exact this)
   have hrun:=hIq hrun0;have hb2':Hid (Below wr.heap.size wr w2):=hIq (below_tr (below_new _ _) hb2);have hO':=hIq hO;have hbw':=hIq hbw;have hkl':=hIq hkl
   have hn1b:Hid ((digs r1).length<=nr+1):=hIq (digs_len_le (by
    have h2:=lt_pw r;have h3:pw (nr+1)=1000000000*pw nr:=rfl;rw [h3,hnr]
    omega))
   have hkn1:(k:Int)<(n:Int):=by have:=hN.out;omega
   have hk0:0<=(k:Int):=by omega
   clear hR hnr hO hOl0 hOd0 hval0 hbw hpg hkn hvx0 hdb D hrl hrun0 hR2 hb2 hr10 hkl
   go_upto_region 14 with(first
    |(at_builtin;refine wpList_append_run rfl _ _ 22 22 rfl _ _ rfl rfl _ _ hrun.out ?_)
    |(go_at_call 122;(refine hnm.out.mono ?_);rintro e w3 ⟨nb1,p1,n1,c1,rfl,hI1,hb3,_⟩;have hI1':=hIq hI1;have hb3':=hIq hb3;clear hI1 hb3))
   obtain⟨W4,hW4⟩:∃W4,w3.alloc (.cells #[.bool nb1,.slice p1 n1 c1] 28 (0,0))=W4:=⟨_,rfl⟩;have hw4:Below wr.heap.size wr W4:=below_tr hb2'.out (below_tr hb3'.out (hW4 ▸ below_new _ _));have hbw4:=hIq (below_tr hbw'.out hw4);have hO4:=hIq (hO'.out.later hw4);have hI4:=hI1'.out.later (hW4 ▸ below_new _ _:Below w3.heap.size w3 W4);have hR4:Hid (Rdi W4 p1 (digs r1)/\n1=(digs r1).length/\n1<=c1/\c1<=9223372036854775807):=hIq ⟨hI4.2.2.1,hI4.2.1,hI4.2.2.2.1,hI4.2.2.2.2⟩;have hn1l:Hid (n1<=1000000001):=hIq (by have h1:=hR4.out.2.1;have h2:=hn1b.out;omega);have hc0:Calls Tryz.prog 128 #[.slice p1 n1 c1,.slice b m cb] W4 fun e w'=>e= .returned (.int .i64 (cmpI r1 y))/\Below W4.heap.size W4 w':=hcmp.out W4 p1 n1 c1 b m cb r1 y hR4.out.1 (Rdi_below hbw4.out hB.out) hR4.out.2.1 hM.out hR4.out.2.2.1 hR4.out.2.2.2 hnb hcb
   have hkl:=hkl'.out;rw [hW4];clear hW4 hw4 hI4 hrun hnm hb2' hb3' hI1' hO' hbw' hca0;by_cases hlt:r1<y
   case' pos=>
    have hc1:Hid (Calls Tryz.prog 128 #[.slice p1 n1 c1,.slice b m cb] W4 fun e w'=>e= .returned (.int .i64 (-1))/\Below W4.heap.size W4 w'):=hIq (by rw [cmp_lt (by omega)] at hc0;exact hc0);clear hc0;go_wp2_with (go_at_call 128;(refine hc1.out.mono ?_);rintro e w5 ⟨rfl,hb5⟩;have hb5':=hIq hb5;clear hb5)
    obtain⟨H,hHe⟩:∃H:Nat,H=0:=⟨_,rfl⟩;have hst:Hid (0*y<=r1/\r1<(H+1)*y):=hIq ⟨by omega,by rw [hHe];omega⟩;have hH9:H<=999999999:=by omega
    clear hc1
   case' neg=>
    obtain⟨C,hC⟩:∃C,cmpI (r1:Int) (y:Int)=C:=⟨_,rfl⟩
    have hC0:¬C<0:=by
     rw [<-hC];rcases Nat.lt_or_ge y r1 with h|h
     ·rw [cmp_gt (by omega)];omega
     ·rw [show r1=y by omega,cmp_eq];omega
    have hc1:Hid (Calls Tryz.prog 128 #[.slice p1 n1 c1,.slice b m cb] W4 fun e w'=>e= .returned (.int .i64 C)/\Below W4.heap.size W4 w'):=hIq (by rw [hC] at hc0;exact hc0);have hr1y:r1<(999999999+1)*y:=hr1b.out;clear hc0 hC;go_wp2_with (go_at_call 128;(refine hc1.out.mono ?_);rintro e w5 ⟨rfl,hb5⟩;have hb5':=hIq hb5;clear hb5)
    obtain⟨H,hHe⟩:∃H:Nat,H=999999999:=⟨_,rfl⟩;have hst:Hid (0*y<=r1/\r1<(H+1)*y):=hIq ⟨by omega,by rw [hHe];exact hr1y⟩;have hH9:H<=999999999:=by omega
    clear hc1
   all_goals
    go_loopg [12,13] H (fun h lv hv wr2=>∃lo hi:Nat,lv= .int .i64 (lo:Int)/\hv= .int .i64 (hi:Int)/\lo+h=hi/\hi<=999999999/\Hid (lo*y<=r1/\r1<(hi+1)*y)/\Hid (Below W4.heap.size W4 wr2))
    case atStart=>exact⟨0,H,rfl,by subst hHe;rfl,by omega,hH9,hst,hb5'⟩
    case round=>
     obtain⟨lo,hi,rfl,rfl,hlh,hhi,hq,hb6⟩:=hrel;clear hst hb5' hHe hH9;by_cases h1:gk=0
     ·obtain rfl:lo=hi:=by omega
      have hlo9:lo<=999999999:=hhi
      have hmn:Hid (∀W p7 n7 c7,Below W4.heap.size W4 W->Rdi W p7 (digs (y*lo))->n7=(digs (y*lo)).length->Calls Tryz.prog 140 #[.slice p1 n1 c1,.slice p7 n7 c7] W (NewS W (DifP (digs r1) (digs (y*lo))))):=hIq fun W p7 n7 c7 h h2 h3=>minus_any p1 p7 n1 c1 n7 c7 (digs r1) (digs (y*lo)) W (Rdi_below h hR4.out.1) h2 hR4.out.2.1 h3 (Dg_digs _) (Dg_digs _) (by have:=hn1l.out;omega) (by
       rw [h3,hR4.out.2.1];exact digs_len_mono (by rw [Nat.mul_comm];exact hq.out.1)) (by rw [val_digs,val_digs];have:=hq.out.1;rw [Nat.mul_comm] at this;omega)
      go_upto_region 22 with(first
       |(go_at_call 149;(with_reducible refine(htm.out _ lo (below_tr hbw4.out hb6.out) hlo9).mono ?_);rintro e w7 ⟨p7,n7,c7,rfl,hR7,hn7,hc7,hm7,hb7,hp7⟩;have hT7:=hIq (And.intro hR7 hn7);have hb7':=hIq (below_tr hb6.out hb7);clear hR7 hn7 hp7 hb7)
       |(go_at_call 140;(refine(hmn.out _ _ _ _ hb7'.out hT7.out.1 hT7.out.2).mono ?_);rintro e w8 ⟨p8,n8,c8,z,rfl,hR8,hz8,hc8,hm8,hp8,hb8,hz⟩;have hT8:=hIq (And.intro hR8 (And.intro hz8 (And.intro hc8 (And.intro hm8 (And.intro hz hp8)))));have hb8':=hIq (below_tr hb7'.out hb8);have hsz:=hIq hb7'.out.size;clear hR8 hz8 hp8 hz hb8)
       |(go_at_call 122;(refine(normal_any false p8 n8 c8 z w8 hT8.out.1 hT8.out.2.1.symm hT8.out.2.2.1 hT8.out.2.2.2.1 hT8.out.2.2.2.2.1.1).mono ?_);rintro e w9 ⟨nb9,p9,n9,c9,rfl,hI9,hb9,hp9⟩;have hI9':=hIq hI9;have hb9':=hIq (below_tr hb8'.out hb9);have hp9':=hIq hp9;clear hI9 hp9 hb9))
      obtain⟨W10,hW10⟩:∃W10,w9.alloc (.cells #[.bool nb9,.slice p9 n9 c9] 28 (0,0))=W10:=⟨_,rfl⟩;have hn10:Below w9.heap.size w9 W10:=hW10 ▸ below_new _ _;have hbx:W10.heap[w9.heap.size]? =some (.cells #[.bool nb9,.slice p9 n9 c9] 28 (0,0)):=hW10 ▸ heap_alloc_new _ _;have hb10:=hIq (below_tr hb9'.out hn10);have hO10:Blk W10 g O:=hO4.out.later hb10.out;have hI10:=hIq (hI9'.out.later hn10);have hgne:g≠w9.heap.size:=by have:=(hO4.out.later hb9'.out).lt;omega
      rw [hW10];generalize w9.heap.size=B15 at hbx hgne ⊢;clear hW10 hn10;have cq:=hO10.cell (i:=k) (by rw [hOl.out];exact hkl);have cf:=hO10.free k;have ck1:(k:Int)<(n:Int):=by have:=hN.out;omega
      have cb1:(W10.setCell ⟨g,k,none⟩ (.int .i64 (lo:Int))).cell? ⟨B15,1,none⟩=some (.slice p9 n9 c9):=by
       have h2:(W10.setCell ⟨g,k,none⟩ (.int .i64 (lo:Int))).heap[B15]? =some (.cells #[.bool nb9,.slice p9 n9 c9] 28 (0,0)):=by rw [heap_setCell_other _ _ _ _ (by simp;omega)];exact hbx
       simp [World.cell?,h2]
      generalize iat O k=vq at cq
      have hfin:Hid (DvI w x y g k (.slice p9 n9 c9) (W10.setCell ⟨g,k,none⟩ (.int .i64 (lo:Int)))):=hIq (by
       have a1:=hT8.out.2.2.2.2.1;have a2:val z=(r1:Int) - (y:Int)*(lo:Int):=by rw [a1.2.1,val_digs,val_digs];simp
       have a3:lo*y<=r1:=hq.out.1;have a4:r1<(lo+1)*y:=hq.out.2;rw [Nat.succ_mul] at a4;obtain⟨r2,hr2⟩:∃r2:Nat,r1=lo*y+r2:=⟨r1 - lo*y,by omega⟩;have a5:val z=(r2:Int):=by rw [a2,hr2,Int.natCast_add,Int.natCast_mul,Int.mul_comm];omega
       have a6:=hI10.out;rw [show sg false (val z)=(r2:Int)from a5] at a6
       have a7:∀q,p9=some q->q.block≠g/\w.heap.size<=q.block:=fun q hq2=>by
        have b0:=hbw4.out.size;have b1:=hT8.out.2.2.2.2.2 q (hp9'.out q hq2);have b2:=hO4.out.lt;have b3:=hsz.out;omega
       refine⟨p9,n9,c9,r2,O.set k (lo:Int),rfl,Rdi_store a6.2.2.1 (fun q hq2=>(a7 q hq2).1),a6.2.1,a6.2.2.2.1,a6.2.2.2.2,by omega,hO10.set k (lo:Int),by rw [List.length_set];exact hOl.out,hOd.out.set k _ (by rw [hOl.out];exact hkl) (by omega) (by omega),?_,(below_tr hbw4.out hb10.out).setCell hgw.out _,a7,by omega⟩;rw [val_set_drop O k _ (by rw [hOl.out];exact hkl),hvx.out,hval.out];have a8:=hr1.out;have a9:(r1:Int)=(lo:Int)*(y:Int)+(r2:Int):=by rw [hr2,Int.natCast_add,Int.natCast_mul]
       grind)
      clear hbx hO10 hmn;go_wp2_with fail
      go_roundg k
      case measure=>omega
      case rel=>exact⟨by simp,hfin.out⟩
     ·obtain⟨M,hMd⟩:∃M:Nat,M=lo+(gk+1) / 2:=⟨_,rfl⟩;have hM1:lo<M:=by omega
      have hM2:M<=hi:=by omega
      have eM:((lo:Int)+(hi:Int)+1).tdiv 2=(M:Int):=by rw [Int.tdiv_eq_ediv_of_nonneg (by omega)];omega
      have eM2:((lo:Int)+(hi:Int)+1) / 2=(M:Int):=by omega
      have l1:(lo:Int)<(hi:Int):=by omega
      have hM9:M<=999999999:=by omega
      have eM1:((M - 1:Nat):Int)=(M:Int) - 1:=by omega
      clear hMd;obtain⟨C,hC⟩:∃C,cmpI ((y*M:Nat):Int) (r1:Int)=C:=⟨_,rfl⟩
      have hcm:Hid (∀W p7 n7 c7,Below W4.heap.size W4 W->Rdi W p7 (digs (y*M))->n7=(digs (y*M)).length->n7<=c7->c7<=9223372036854775807->Calls Tryz.prog 128 #[.slice p7 n7 c7,.slice p1 n1 c1] W fun e w'=>e= .returned (.int .i64 C)/\Below W.heap.size W w'):=hIq fun W p7 n7 c7 h h2 h3 h4 h5=>by
       have:=hcmp.out W p7 n7 c7 p1 n1 c1 (y*M) r1 h2 (Rdi_below h hR4.out.1) h3 hR4.out.2.1 h4 h5 hR4.out.2.2.1 hR4.out.2.2.2;rw [hC] at this;exact this
      by_cases hle:M*y<=r1
      ·have hC0:C<=0:=by
        rw [<-hC];rw [Nat.mul_comm] at hle;rcases Nat.lt_or_ge (y*M) r1 with h|h
        ·rw [cmp_lt (by omega)];omega
        ·rw [show y*M=r1 by omega,cmp_eq];omega
       have hq2:Hid (M*y<=r1/\r1<(hi+1)*y):=hIq ⟨hle,hq.out.2⟩;clear hC hle
       go_wp2_with (first
        |(go_at_call 149;(with_reducible refine(htm.out _ M (below_tr hbw4.out hb6.out) hM9).mono ?_);rintro e w7 ⟨p7,n7,c7,rfl,hR7,hn7,hc7,hm7,hb7,hp7⟩;have hT7:=hIq (And.intro hR7 hn7);have hb7':=hIq (below_tr hb6.out hb7);clear hR7 hn7 hp7 hb7)
        |(go_at_call 128;(refine(hcm.out _ _ _ _ hb7'.out hT7.out.1 hT7.out.2 hc7 hm7).mono ?_);rintro e w8 ⟨rfl,hb8⟩;have hb8':=hIq (below_tr hb7'.out hb8);clear hb8))
       go_roundg (hi - M)
       case measure=>omega
       case rel=>exact⟨M,hi,rfl,rfl,by omega,hhi,hq2,hb8'⟩
      ·have hC0:¬C<=0:=by
        rw [<-hC];rw [Nat.mul_comm] at hle;rw [cmp_gt (by omega)];omega
       have hq2:Hid (lo*y<=r1/\r1<(M - 1+1)*y):=hIq ⟨hq.out.1,by rw [show M - 1+1=M by omega];omega⟩;clear hC hle
       go_wp2_with (first
        |(go_at_call 149;(with_reducible refine(htm.out _ M (below_tr hbw4.out hb6.out) hM9).mono ?_);rintro e w7 ⟨p7,n7,c7,rfl,hR7,hn7,hc7,hm7,hb7,hp7⟩;have hT7:=hIq (And.intro hR7 hn7);have hb7':=hIq (below_tr hb6.out hb7);clear hR7 hn7 hp7 hb7)
        |(go_at_call 128;(refine(hcm.out _ _ _ _ hb7'.out hT7.out.1 hT7.out.2 hc7 hm7).mono ?_);rintro e w8 ⟨rfl,hb8⟩;have hb8':=hIq (below_tr hb7'.out hb8);clear hb8))
       go_roundg (M - 1 - lo)
       case measure=>omega
       case rel=>exact⟨lo,M - 1,rfl,by rw [eM1],by omega,by omega,hq2,hb8'⟩
theorem rdiv_long2 (a b:Option Addr)(n ca m cb:Nat)(x y:Nat)(w:World)(hRa:Rdi w a (digs x))(hRb:Rdi w b (digs y))(hn0:n=(digs x).length)(hm0:m=(digs y).length)(_hna:n<=ca)(hca:ca<=9223372036854775807)(hnb:m<=cb)(hcb:cb<=9223372036854775807)(hnl:n<=1000000000)(hml:m<=1000000000)(hy:0<y)(hc1:(n:Int)<=2)(hc2:¬(m:Int)<=2):
 Calls Tryz.prog 142 #[.slice a n ca,.slice b m cb] w (DvP w x y):=by
 have hA:=hIq hRa;have hB:=hIq hRb;have hN:=hIq hn0;have hM:=hIq hm0;have hmk:=run_make_row' (P:=Tryz.prog) 22 3 (.int .i64 0) 8 Tryz.underlying22 info_i64 rfl .i64 .i64 n (by omega) (by omega);rw [zvs_zeros] at hmk;obtain⟨Z,hZ⟩:∃Z,zvs (List.replicate n 0)=Z:=⟨_,rfl⟩;rw [hZ] at hmk;have hZ':=hIq hZ;have htm:Hid (∀W (k:Nat),Below w.heap.size w W->k<=999999999->Calls Tryz.prog 149 #[.slice b m cb,.int .i64 (k:Int)] W (TmP W (y*k))):=hIq fun W k h hk=>times_any b m cb y (k:Int) W (Rdi_below h hRb) hm0 hnb hcb (by omega) (by omega) (by omega)
 have hcmp:Hid (∀W p2 n2 c2 p3 n3 c3 (u v:Nat),Rdi W p2 (digs u)->Rdi W p3 (digs v)->n2=(digs u).length->n3=(digs v).length->n2<=c2->c2<=9223372036854775807->n3<=c3->c3<=9223372036854775807->Calls Tryz.prog 128 #[.slice p2 n2 c2,.slice p3 n3 c3] W fun e w'=>e= .returned (.int .i64 (cmpI u v))/\Below W.heap.size W w'):=hIq fun W p2 n2 c2 p3 n3 c3 u v h1 h2 h3 h4 h5 h6 h7 h8=>compared_any p2 p3 n2 c2 n3 c3 u v W h1 h2 h3 h4 (by omega) (by omega)
 clear hRa hRb hZ hn0 hm0
 go_enter Tryz.func142,Tryz.ntmps142
 go_upto_region 8 with fail
 have hI:Hid (DvI w x y w.heap.size n (.slice none 0 0) (w.alloc (.cells Z.toArray 3))):=hIq ⟨none,0,0,0,List.replicate n 0,rfl,.inl digs_zero,by rw [digs_zero];rfl,Nat.le_refl _,by omega,hy,by rw [<-hZ'.out];exact Blk_new _ _,by rw [List.length_replicate];exact hN.out,Dg_zeros _,by rw [hN.out,List.drop_length,List.drop_eq_nil_of_le (by simp)];simp [val],below_new _ _,(fun q hq=>by cases hq),by rw [hN.out];exact Nat.le_refl _⟩;have hgw:Hid (w.heap.size<=w.heap.size):=hIq (Nat.le_refl _);generalize w.alloc (.cells Z.toArray 3)=w1 at hI ⊢;obtain⟨g,hg⟩:∃g,w.heap.size=g:=⟨_,rfl⟩;rw [hg] at hI ⊢;replace hgw:Hid (w.heap.size<=g):=hIq (by omega);clear hmk hZ' hg
 go_loopg [9,10] n (fun k r i wr=>i= .int .i64 ((k:Int) - 1)/\DvI w x y g k r wr)
 case atStart=>exact⟨rfl,hI.out⟩
 case round=>
  obtain⟨rfl,hD⟩:=hrel;clear hI;by_cases h0:gk=0
  ·subst h0;obtain⟨p,nr,cr,r,O,rfl,hR,hnr,hncr,hcr,hry,hO,hOl,hOd,hval,hbw,hpg,hkn⟩:=hD;rw [List.drop_zero,List.drop_zero,val_digs] at hval;have hfin:Hid (DvP w x y (.returned (.tuple #[.slice (some ⟨g,0,none⟩) n n,.slice p nr cr])) wr):=hIq ⟨_,_,_,O,_,_,_,r,rfl,hO.rdi,by rw [hOl];exact hN.out,Nat.le_refl _,by omega,hOd,hval.symm,hry,hR,hnr,hncr,hcr,by rw [hN.out];exact Nat.le_refl _,hbw,(fun q hq=>by cases hq;exact hgw.out),fun q hq=>(hpg q hq).2⟩;clear hR hnr hncr hcr hO hOl hOd hval hbw hpg hkn;have e0:((0:Nat):Int) - 1= -1:=by omega
   rw [e0];go_wp2_with fail
   go_ret2
   exact hfin.out
  ·obtain⟨k,rfl⟩:∃k,gk=k+1:=⟨gk - 1,by omega⟩;have e0:((k+1:Nat):Int) - 1=(k:Int):=by omega
   rw [e0];obtain⟨p,nr,cr,r,O,rfl,hR,hnr,hncr,hcr,hry,hO,hOl0,hOd0,hval0,hbw,hpg,hkn⟩:=hD;have hkl:k<(digs x).length:=by omega
   obtain⟨ba,oa,rfl,hca0⟩:=Rdi_at (Rdi_below hbw hA.out) k hkl;have hdb:=(Dg_digs x).all k;have hvx0:=val_drop (digs x) k hkl;obtain⟨d,D⟩:∃d,iat (digs x) k=d:=⟨_,rfl⟩;rw [D] at hca0 hdb hvx0;have hvx:=hIq hvx0;have hval:=hIq hval0;have hOl:=hIq hOl0;have hOd:=hIq hOd0;have hrl:(digs r).length<=(digs y).length:=digs_len_mono (by omega);have hnr2:nr<=1000000000:=by have:=hM.out;omega
   obtain⟨pp,cc,w2,hrun0,hR2,hcc,hcc2,hb2⟩:=append_one wr.heap.size d p nr cr (digs r) (wr.alloc (.cells (zvs [d]).toArray 3)) (Blk_new wr [d]) (Rdi_below (below_new _ _) hR) hnr (by omega);obtain⟨r1,hr10⟩:∃r1:Nat,(r1:Int)=d+1000000000*(r:Int):=⟨(d+1000000000*(r:Int)).toNat,by omega⟩;have hr1:=hIq hr10;have hr1b:Hid (r1<1000000000*y):=hIq (by have h1:=hdb.1;have h2:=hdb.2;omega)
   have hnm:Hid (Calls Tryz.prog 122 #[.bool false,.slice pp (nr+1) cc] w2 (RetF (fun q=>pp=some q) w2 (r1:Int))):=hIq (by
    have:=normal_any false pp (nr+1) cc (d::digs r) w2 hR2 (by rw [List.length_cons,hnr]) hcc hcc2 (Dg_cons hdb.1 hdb.2 (Dg_digs r));rw [show sg false (val (d::digs r))=(r1:Int) by rw [hr10];show d+1000000000*val (digs r)=_;rw [val_digs]] at this
    exact this)
   have hrun:=hIq hrun0;have hb2':Hid (Below wr.heap.size wr w2):=hIq (below_tr (below_new _ _) hb2);have hO':=hIq hO;have hbw':=hIq hbw;have hkl':=hIq hkl
   have hn1b:Hid ((digs r1).length<=nr+1):=hIq (digs_len_le (by
    have h2:=lt_pw r;have h3:pw (nr+1)=1000000000*pw nr:=rfl;rw [h3,hnr]
    omega))
   have hkn1:(k:Int)<(n:Int):=by have:=hN.out;omega
   have hk0:0<=(k:Int):=by omega
   clear hR hnr hO hOl0 hOd0 hval0 hbw hpg hkn hvx0 hdb D hrl hrun0 hR2 hb2 hr10 hkl
   go_upto_region 14 with(first
    |(at_builtin;refine wpList_append_run rfl _ _ 22 22 rfl _ _ rfl rfl _ _ hrun.out ?_)
    |(go_at_call 122;(refine hnm.out.mono ?_);rintro e w3 ⟨nb1,p1,n1,c1,rfl,hI1,hb3,_⟩;have hI1':=hIq hI1;have hb3':=hIq hb3;clear hI1 hb3))
   obtain⟨W4,hW4⟩:∃W4,w3.alloc (.cells #[.bool nb1,.slice p1 n1 c1] 28 (0,0))=W4:=⟨_,rfl⟩;have hw4:Below wr.heap.size wr W4:=below_tr hb2'.out (below_tr hb3'.out (hW4 ▸ below_new _ _));have hbw4:=hIq (below_tr hbw'.out hw4);have hO4:=hIq (hO'.out.later hw4);have hI4:=hI1'.out.later (hW4 ▸ below_new _ _:Below w3.heap.size w3 W4);have hR4:Hid (Rdi W4 p1 (digs r1)/\n1=(digs r1).length/\n1<=c1/\c1<=9223372036854775807):=hIq ⟨hI4.2.2.1,hI4.2.1,hI4.2.2.2.1,hI4.2.2.2.2⟩;have hn1l:Hid (n1<=1000000001):=hIq (by have h1:=hR4.out.2.1;have h2:=hn1b.out;omega);have hc0:Calls Tryz.prog 128 #[.slice p1 n1 c1,.slice b m cb] W4 fun e w'=>e= .returned (.int .i64 (cmpI r1 y))/\Below W4.heap.size W4 w':=hcmp.out W4 p1 n1 c1 b m cb r1 y hR4.out.1 (Rdi_below hbw4.out hB.out) hR4.out.2.1 hM.out hR4.out.2.2.1 hR4.out.2.2.2 hnb hcb
   have hkl:=hkl'.out;rw [hW4];clear hW4 hw4 hI4 hrun hnm hb2' hb3' hI1' hO' hbw' hca0;by_cases hlt:r1<y
   case' pos=>
    have hc1:Hid (Calls Tryz.prog 128 #[.slice p1 n1 c1,.slice b m cb] W4 fun e w'=>e= .returned (.int .i64 (-1))/\Below W4.heap.size W4 w'):=hIq (by rw [cmp_lt (by omega)] at hc0;exact hc0);clear hc0;go_wp2_with (go_at_call 128;(refine hc1.out.mono ?_);rintro e w5 ⟨rfl,hb5⟩;have hb5':=hIq hb5;clear hb5)
    obtain⟨H,hHe⟩:∃H:Nat,H=0:=⟨_,rfl⟩;have hst:Hid (0*y<=r1/\r1<(H+1)*y):=hIq ⟨by omega,by rw [hHe];omega⟩;have hH9:H<=999999999:=by omega
    clear hc1
   case' neg=>
    obtain⟨C,hC⟩:∃C,cmpI (r1:Int) (y:Int)=C:=⟨_,rfl⟩
    have hC0:¬C<0:=by
     rw [<-hC];rcases Nat.lt_or_ge y r1 with h|h
     ·rw [cmp_gt (by omega)];omega
     ·rw [show r1=y by omega,cmp_eq];omega
    have hc1:Hid (Calls Tryz.prog 128 #[.slice p1 n1 c1,.slice b m cb] W4 fun e w'=>e= .returned (.int .i64 C)/\Below W4.heap.size W4 w'):=hIq (by rw [hC] at hc0;exact hc0);have hr1y:r1<(999999999+1)*y:=hr1b.out;clear hc0 hC;go_wp2_with (go_at_call 128;(refine hc1.out.mono ?_);rintro e w5 ⟨rfl,hb5⟩;have hb5':=hIq hb5;clear hb5)
    obtain⟨H,hHe⟩:∃H:Nat,H=999999999:=⟨_,rfl⟩;have hst:Hid (0*y<=r1/\r1<(H+1)*y):=hIq ⟨by omega,by rw [hHe];exact hr1y⟩;have hH9:H<=999999999:=by omega
    clear hc1
   all_goals
    go_loopg [12,13] H (fun h lv hv wr2=>∃lo hi:Nat,lv= .int .i64 (lo:Int)/\hv= .int .i64 (hi:Int)/\lo+h=hi/\hi<=999999999/\Hid (lo*y<=r1/\r1<(hi+1)*y)/\Hid (Below W4.heap.size W4 wr2))
    case atStart=>exact⟨0,H,rfl,by subst hHe;rfl,by omega,hH9,hst,hb5'⟩
    case round=>
     obtain⟨lo,hi,rfl,rfl,hlh,hhi,hq,hb6⟩:=hrel;clear hst hb5' hHe hH9;by_cases h1:gk=0
     ·obtain rfl:lo=hi:=by omega
      have hlo9:lo<=999999999:=hhi
      have hmn:Hid (∀W p7 n7 c7,Below W4.heap.size W4 W->Rdi W p7 (digs (y*lo))->n7=(digs (y*lo)).length->Calls Tryz.prog 140 #[.slice p1 n1 c1,.slice p7 n7 c7] W (NewS W (DifP (digs r1) (digs (y*lo))))):=hIq fun W p7 n7 c7 h h2 h3=>minus_any p1 p7 n1 c1 n7 c7 (digs r1) (digs (y*lo)) W (Rdi_below h hR4.out.1) h2 hR4.out.2.1 h3 (Dg_digs _) (Dg_digs _) (by have:=hn1l.out;omega) (by
       rw [h3,hR4.out.2.1];exact digs_len_mono (by rw [Nat.mul_comm];exact hq.out.1)) (by rw [val_digs,val_digs];have:=hq.out.1;rw [Nat.mul_comm] at this;omega)
      go_upto_region 22 with(first
       |(go_at_call 149;(with_reducible refine(htm.out _ lo (below_tr hbw4.out hb6.out) hlo9).mono ?_);rintro e w7 ⟨p7,n7,c7,rfl,hR7,hn7,hc7,hm7,hb7,hp7⟩;have hT7:=hIq (And.intro hR7 hn7);have hb7':=hIq (below_tr hb6.out hb7);clear hR7 hn7 hp7 hb7)
       |(go_at_call 140;(refine(hmn.out _ _ _ _ hb7'.out hT7.out.1 hT7.out.2).mono ?_);rintro e w8 ⟨p8,n8,c8,z,rfl,hR8,hz8,hc8,hm8,hp8,hb8,hz⟩;have hT8:=hIq (And.intro hR8 (And.intro hz8 (And.intro hc8 (And.intro hm8 (And.intro hz hp8)))));have hb8':=hIq (below_tr hb7'.out hb8);have hsz:=hIq hb7'.out.size;clear hR8 hz8 hp8 hz hb8)
       |(go_at_call 122;(refine(normal_any false p8 n8 c8 z w8 hT8.out.1 hT8.out.2.1.symm hT8.out.2.2.1 hT8.out.2.2.2.1 hT8.out.2.2.2.2.1.1).mono ?_);rintro e w9 ⟨nb9,p9,n9,c9,rfl,hI9,hb9,hp9⟩;have hI9':=hIq hI9;have hb9':=hIq (below_tr hb8'.out hb9);have hp9':=hIq hp9;clear hI9 hp9 hb9))
      obtain⟨W10,hW10⟩:∃W10,w9.alloc (.cells #[.bool nb9,.slice p9 n9 c9] 28 (0,0))=W10:=⟨_,rfl⟩;have hn10:Below w9.heap.size w9 W10:=hW10 ▸ below_new _ _;have hbx:W10.heap[w9.heap.size]? =some (.cells #[.bool nb9,.slice p9 n9 c9] 28 (0,0)):=hW10 ▸ heap_alloc_new _ _;have hb10:=hIq (below_tr hb9'.out hn10);have hO10:Blk W10 g O:=hO4.out.later hb10.out;have hI10:=hIq (hI9'.out.later hn10);have hgne:g≠w9.heap.size:=by have:=(hO4.out.later hb9'.out).lt;omega
      rw [hW10];generalize w9.heap.size=B15 at hbx hgne ⊢;clear hW10 hn10;have cq:=hO10.cell (i:=k) (by rw [hOl.out];exact hkl);have cf:=hO10.free k;have ck1:(k:Int)<(n:Int):=by have:=hN.out;omega
      have cb1:(W10.setCell ⟨g,k,none⟩ (.int .i64 (lo:Int))).cell? ⟨B15,1,none⟩=some (.slice p9 n9 c9):=by
       have h2:(W10.setCell ⟨g,k,none⟩ (.int .i64 (lo:Int))).heap[B15]? =some (.cells #[.bool nb9,.slice p9 n9 c9] 28 (0,0)):=by rw [heap_setCell_other _ _ _ _ (by simp;omega)];exact hbx
       simp [World.cell?,h2]
      generalize iat O k=vq at cq
      have hfin:Hid (DvI w x y g k (.slice p9 n9 c9) (W10.setCell ⟨g,k,none⟩ (.int .i64 (lo:Int)))):=hIq (by
       have a1:=hT8.out.2.2.2.2.1;have a2:val z=(r1:Int) - (y:Int)*(lo:Int):=by rw [a1.2.1,val_digs,val_digs];simp
       have a3:lo*y<=r1:=hq.out.1;have a4:r1<(lo+1)*y:=hq.out.2;rw [Nat.succ_mul] at a4;obtain⟨r2,hr2⟩:∃r2:Nat,r1=lo*y+r2:=⟨r1 - lo*y,by omega⟩;have a5:val z=(r2:Int):=by rw [a2,hr2,Int.natCast_add,Int.natCast_mul,Int.mul_comm];omega
       have a6:=hI10.out;rw [show sg false (val z)=(r2:Int)from a5] at a6
       have a7:∀q,p9=some q->q.block≠g/\w.heap.size<=q.block:=fun q hq2=>by
        have b0:=hbw4.out.size;have b1:=hT8.out.2.2.2.2.2 q (hp9'.out q hq2);have b2:=hO4.out.lt;have b3:=hsz.out;omega
       refine⟨p9,n9,c9,r2,O.set k (lo:Int),rfl,Rdi_store a6.2.2.1 (fun q hq2=>(a7 q hq2).1),a6.2.1,a6.2.2.2.1,a6.2.2.2.2,by omega,hO10.set k (lo:Int),by rw [List.length_set];exact hOl.out,hOd.out.set k _ (by rw [hOl.out];exact hkl) (by omega) (by omega),?_,(below_tr hbw4.out hb10.out).setCell hgw.out _,a7,by omega⟩;rw [val_set_drop O k _ (by rw [hOl.out];exact hkl),hvx.out,hval.out];have a8:=hr1.out;have a9:(r1:Int)=(lo:Int)*(y:Int)+(r2:Int):=by rw [hr2,Int.natCast_add,Int.natCast_mul]
       grind)
      clear hbx hO10 hmn;go_wp2_with fail
      go_roundg k
      case measure=>omega
      case rel=>exact⟨by simp,hfin.out⟩
     ·obtain⟨M,hMd⟩:∃M:Nat,M=lo+(gk+1) / 2:=⟨_,rfl⟩;have hM1:lo<M:=by omega
      have hM2:M<=hi:=by omega
      have eM:((lo:Int)+(hi:Int)+1).tdiv 2=(M:Int):=by rw [Int.tdiv_eq_ediv_of_nonneg (by omega)];omega
      have eM2:((lo:Int)+(hi:Int)+1) / 2=(M:Int):=by omega
      have l1:(lo:Int)<(hi:Int):=by omega
      have hM9:M<=999999999:=by omega
      have eM1:((M - 1:Nat):Int)=(M:Int) - 1:=by omega
      clear hMd;obtain⟨C,hC⟩:∃C,cmpI ((y*M:Nat):Int) (r1:Int)=C:=⟨_,rfl⟩
      have hcm:Hid (∀W p7 n7 c7,Below W4.heap.size W4 W->Rdi W p7 (digs (y*M))->n7=(digs (y*M)).length->n7<=c7->c7<=9223372036854775807->Calls Tryz.prog 128 #[.slice p7 n7 c7,.slice p1 n1 c1] W fun e w'=>e= .returned (.int .i64 C)/\Below W.heap.size W w'):=hIq fun W p7 n7 c7 h h2 h3 h4 h5=>by
       have:=hcmp.out W p7 n7 c7 p1 n1 c1 (y*M) r1 h2 (Rdi_below h hR4.out.1) h3 hR4.out.2.1 h4 h5 hR4.out.2.2.1 hR4.out.2.2.2;rw [hC] at this;exact this
      by_cases hle:M*y<=r1
      ·have hC0:C<=0:=by
        rw [<-hC];rw [Nat.mul_comm] at hle;rcases Nat.lt_or_ge (y*M) r1 with h|h
        ·rw [cmp_lt (by omega)];omega
        ·rw [show y*M=r1 by omega,cmp_eq];omega
       have hq2:Hid (M*y<=r1/\r1<(hi+1)*y):=hIq ⟨hle,hq.out.2⟩;clear hC hle
       go_wp2_with (first
        |(go_at_call 149;(with_reducible refine(htm.out _ M (below_tr hbw4.out hb6.out) hM9).mono ?_);rintro e w7 ⟨p7,n7,c7,rfl,hR7,hn7,hc7,hm7,hb7,hp7⟩;have hT7:=hIq (And.intro hR7 hn7);have hb7':=hIq (below_tr hb6.out hb7);clear hR7 hn7 hp7 hb7)
        |(go_at_call 128;(refine(hcm.out _ _ _ _ hb7'.out hT7.out.1 hT7.out.2 hc7 hm7).mono ?_);rintro e w8 ⟨rfl,hb8⟩;have hb8':=hIq (below_tr hb7'.out hb8);clear hb8))
       go_roundg (hi - M)
       case measure=>omega
       case rel=>exact⟨M,hi,rfl,rfl,by omega,hhi,hq2,hb8'⟩
      ·have hC0:¬C<=0:=by
        rw [<-hC];rw [Nat.mul_comm] at hle;rw [cmp_gt (by omega)];omega
       have hq2:Hid (lo*y<=r1/\r1<(M - 1+1)*y):=hIq ⟨hq.out.1,by rw [show M - 1+1=M by omega];omega⟩;clear hC hle
       go_wp2_with (first
        |(go_at_call 149;(with_reducible refine(htm.out _ M (below_tr hbw4.out hb6.out) hM9).mono ?_);rintro e w7 ⟨p7,n7,c7,rfl,hR7,hn7,hc7,hm7,hb7,hp7⟩;have hT7:=hIq (And.intro hR7 hn7);have hb7':=hIq (below_tr hb6.out hb7);clear hR7 hn7 hp7 hb7)
        |(go_at_call 128;(refine(hcm.out _ _ _ _ hb7'.out hT7.out.1 hT7.out.2 hc7 hm7).mono ?_);rintro e w8 ⟨rfl,hb8⟩;have hb8':=hIq (below_tr hb7'.out hb8);clear hb8))
       go_roundg (M - 1 - lo)
       case measure=>omega
       case rel=>exact⟨lo,M - 1,rfl,by rw [eM1],by omega,by omega,hq2,hb8'⟩
theorem run_tiny_bd {x:Nat}(h:(digs x).length<=2):(x:Int)<1000000000000000000:=by
 have h1:=lt_pw x;have h2:=pw_mono h;have h3:pw 2=1000000000000000000:=by decide
 omega
theorem rdiv_short (a b:Option Addr)(n ca m cb:Nat)(x y:Nat)(w:World)(hRa:Rdi w a (digs x))(hRb:Rdi w b (digs y))(hn0:n=(digs x).length)(hm0:m=(digs y).length)(hy:0<y)(hc1:(n:Int)<=2)(hc2:(m:Int)<=2):
 Calls Tryz.prog 142 #[.slice a n ca,.slice b m cb] w (DvP w x y):=by
 have htx:Hid (∀W,Below w.heap.size w W->Calls Tryz.prog 141 #[.slice a n ca] W fun e w'=>e= .returned (.int .i64 (x:Int))/\W=w'):=hIq fun W h=>by
  have:=tiny_any a n ca (digs x) W (Rdi_below h hRa) hn0 (Dg_digs _) (by omega);rw [val_digs] at this;exact this
 have hty:Hid (∀W,Below w.heap.size w W->Calls Tryz.prog 141 #[.slice b m cb] W fun e w'=>e= .returned (.int .i64 (y:Int))/\W=w'):=hIq fun W h=>by
  have:=tiny_any b m cb (digs y) W (Rdi_below h hRb) hm0 (Dg_digs _) (by omega);rw [val_digs] at this;exact this
 have hxb:=run_tiny_bd (x:=x) (by omega);have hyb:=run_tiny_bd (x:=y) (by omega);obtain⟨q,hq⟩:∃q:Nat,x / y=q:=⟨_,rfl⟩;obtain⟨r,hr⟩:∃r:Nat,x % y=r:=⟨_,rfl⟩;have hdm:Hid (q*y+r=x/\r<y/\q<=x):=hIq ⟨by rw [<-hq,<-hr,Nat.mul_comm];exact Nat.div_add_mod x y,by rw [<-hr];exact Nat.mod_lt _ hy,by rw [<-hq];exact Nat.div_le_self _ _⟩;have eq1:((x:Int)).tdiv (y:Int)=(q:Int):=by rw [Int.tdiv_eq_ediv_of_nonneg (by omega),<-hq];exact(Int.natCast_ediv x y).symm
 have eq2:((x:Int)) / (y:Int)=(q:Int):=by rw [<-hq];exact(Int.natCast_ediv x y).symm
 have er1:((x:Int)).tmod (y:Int)=(r:Int):=by rw [Int.tmod_eq_emod_of_nonneg (by omega),<-hr];exact(Int.natCast_emod x y).symm
 have er2:((x:Int)) % (y:Int)=(r:Int):=by rw [<-hr];exact(Int.natCast_emod x y).symm
 have hqb:(q:Int)<1000000000000000000:=by have:=hdm.out.2.2;omega
 have hrb:(r:Int)<1000000000000000000:=by have:=hdm.out.2.1;omega
 have hy0:¬(y:Int)=0:=by omega
 have hoq:Hid (∀W,Calls Tryz.prog 82 #[.int .i64 (q:Int)] W (RetI W (q:Int))):=hIq fun W=>rOf_any _ (by omega) (by omega) W
 have hor:Hid (∀W,Calls Tryz.prog 82 #[.int .i64 (r:Int)] W (RetI W (r:Int))):=hIq fun W=>rOf_any _ (by omega) (by omega) W
 have hql:Hid ((digs q).length<=(digs x).length):=hIq (digs_len_mono hdm.out.2.2);clear hRa hRb hn0 hm0 hq hr
 go_enter Tryz.func142,Tryz.ntmps142
 go_upto_region 3 with(first
  |(go_at_call 141;(with_reducible refine(htx.out _ (Below.refl _ _)).mono ?_);rintro e w1 ⟨rfl,rfl⟩)
  |(go_at_call 141;(with_reducible refine(hty.out _ (Below.refl _ _)).mono ?_);rintro e w1 ⟨rfl,rfl⟩)
  |(go_at_call 82;(with_reducible refine(hoq.out _).mono ?_);rintro e w2 ⟨nb2,p2,n2,c2,rfl,hI2,hb2,hp2⟩;have hI2':=hIq hI2;have hp2':=hIq hp2;clear hI2 hp2))
 obtain⟨W2,hW2⟩:∃W2,w2.alloc (.cells #[.bool nb2,.slice p2 n2 c2] 28 (0,0))=W2:=⟨_,rfl⟩;have hbx2:W2.heap[w2.heap.size]? =some (.cells #[.bool nb2,.slice p2 n2 c2] 28 (0,0)):=hW2 ▸ heap_alloc_new _ _;have tw2:=hIq (below_tr hb2 (hW2 ▸ below_new _ _:Below w2.heap.size w2 W2));have hJ2:=hIq (hI2'.out.later (hW2 ▸ below_new _ _:Below w2.heap.size w2 W2));rw [hW2];generalize w2.heap.size=g2 at hbx2 ⊢;clear hW2 hb2 hI2'
 go_upto_region 4 with(first
  |(go_at_call 141;(with_reducible refine(htx.out _ tw2.out).mono ?_);rintro e w1 ⟨rfl,rfl⟩)
  |(go_at_call 141;(with_reducible refine(hty.out _ tw2.out).mono ?_);rintro e w1 ⟨rfl,rfl⟩)
  |(go_at_call 82;(with_reducible refine(hor.out _).mono ?_);rintro e w3 ⟨nb3,p3,n3,c3,rfl,hI3,hb3,hp3⟩;have hI3':=hIq hI3;have hp3':Hid (∀q,p3=some q->w.heap.size<=q.block):=hIq (fun q hq=>by have h1:=hp3 q hq;have h2:=tw2.out.size;omega);clear hI3 hp3))
 obtain⟨W3,hW3⟩:∃W3,w3.alloc (.cells #[.bool nb3,.slice p3 n3 c3] 28 (0,0))=W3:=⟨_,rfl⟩;have t3:Below W2.heap.size W2 W3:=below_tr hb3 (hW3 ▸ below_new _ _);have hbx3:W3.heap[w3.heap.size]? =some (.cells #[.bool nb3,.slice p3 n3 c3] 28 (0,0)):=hW3 ▸ heap_alloc_new _ _;have hbx2':=(t3.block _ (lt_blk hbx2)).trans hbx2;have hJ3:=hIq (hI3'.out.later (hW3 ▸ below_new _ _:Below w3.heap.size w3 W3));have hK2:=hIq (hJ2.out.later t3);have tw3:=hIq (below_tr tw2.out t3);have cc2:W3.cell? ⟨g2,1,none⟩=some (.slice p2 n2 c2):=by simp [World.cell?,hbx2']
 rw [hW3];generalize w3.heap.size=g3 at hbx3 ⊢;have cc3:W3.cell? ⟨g3,1,none⟩=some (.slice p3 n3 c3):=by simp [World.cell?,hbx3]
 have hfin:Hid (∀k,DvP w x y (.returned (.tuple #[.slice p2 n2 c2,.slice p3 n3 c3])) (W3.drewN k)):=hIq fun k=>by
  have a2:=(hK2.out.drewN k).2;have a3:=(hJ3.out.drewN k).2;exact⟨_,_,_,digs q,_,_,_,r,rfl,a2.2.1,a2.1,a2.2.2.1,a2.2.2.2,Dg_digs _,by rw [val_digs];have:=hdm.out.1;rw [<-this,Int.natCast_add,Int.natCast_mul],hdm.out.2.1,a3.2.1,a3.1,a3.2.2.1,a3.2.2.2,by rw [show n2=(digs q).length from a2.1];exact hql.out,below_drewN tw3.out _,hp2'.out,hp3'.out⟩
 clear hbx2 hbx3 hbx2' hW3 t3 hb3 hI3'
 go_quiet (fail)
 go_wp2_with fail
 go_ret2
 exact hfin.out _
theorem rdivided_any (a b:Option Addr)(n ca m cb:Nat)(x y:Nat)(w:World)(hRa:Rdi w a (digs x))(hRb:Rdi w b (digs y))(hn0:n=(digs x).length)(hm0:m=(digs y).length)(hna:n<=ca)(hca:ca<=9223372036854775807)(hnb:m<=cb)(hcb:cb<=9223372036854775807)(hnl:n<=1000000000)(hml:m<=1000000000)(hy:0<y):
 Calls Tryz.prog 142 #[.slice a n ca,.slice b m cb] w (DvP w x y):=by
 by_cases h1:(n:Int)<=2
 ·by_cases h2:(m:Int)<=2
  ·exact rdiv_short a b n ca m cb x y w hRa hRb hn0 hm0 hy h1 h2
  ·exact rdiv_long2 a b n ca m cb x y w hRa hRb hn0 hm0 hna hca hnb hcb hnl hml hy h1 h2
 ·exact rdiv_long1 a b n ca m cb x y w hRa hRb hn0 hm0 hna hca hnb hcb hnl hml hy h1
end Go.Proofs.YteacdbgalloaiaaGreat
