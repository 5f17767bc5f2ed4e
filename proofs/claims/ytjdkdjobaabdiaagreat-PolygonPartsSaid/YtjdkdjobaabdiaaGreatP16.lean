/- Contracts of the packages integer, rat, plane, polygon and their references. -/
import Derived.Test.YtjdkdjobaabdiaaGreatP15
import Derived.Test.YtjdkdjobaabdiaaGreatP6
import Derived.Deep.RegionWith
import Derived.Test.YtjdkdjobaabdiaaGreatP5
import Derived.Test.YtjdkdjobaabdiaaGreatP14
set_option linter.unusedVariables false
set_option maxRecDepth 100000
set_option maxHeartbeats 6400000
namespace Go.Proofs.YtjdkdjobaabdiaaGreat
open Go.RowKit
theorem rAdd_same (nx:Bool)(px py:Option Addr)(lx cx ly cy:Nat)(x y:Int)(w:World)(hx0:IntZ w nx px lx cx x)(hy0:IntZ w nx py ly cy y)(hlx:lx<=549755813887)(hly:ly<=549755813887):
 Calls Tryz.prog 116 #[.agg #[.bool nx,.slice px lx cx],.agg #[.bool nx,.slice py ly cy]] w (RetI w (x+y)):=by
 have hx:=Lib.hid hx0
 have hy:=Lib.hid hy0
 have hca:Hid (∀W,Ar2 w nx px lx cx nx py ly cy W->Calls Tryz.prog 146 #[.slice px lx cx,.slice py ly cy] W (NewS W (SumP (digs x.natAbs) (digs y.natAbs)))):=
  Lib.hid fun W h=>plus_any _ _ _ _ _ _ _ _ W (Rdi_below h.2.2.2 hx0.2.2.1) (Rdi_below h.2.2.2 hy0.2.2.1) hx0.2.1 hy0.2.1 (Dg_digs _) (Dg_digs _) (by omega) (by omega)
 have hf:=fun W (h:Ar2 w nx px lx cx nx py ly cy W)=>h.facts
 have hS0:=Lib.hid (@Ar2.start nx px lx cx nx py ly cy w)
 have hsg:Hid (sg nx (val (digs x.natAbs)+val (digs y.natAbs))=x+y):=Lib.hid (by rw [val_digs,val_digs];exact same_neg hx0.1 hy0.1 rfl)
 have hle:Hid ((digs x.natAbs).length=lx/\(digs y.natAbs).length=ly):=Lib.hid ⟨hx0.2.1.symm,hy0.2.1.symm⟩
 have hnn:(nx== !nx)=false:=by cases nx<;>rfl
 clear hx0 hy0
 go_enter Tryz.func116,Tryz.ntmps116
 go_wp2_with fail
 generalize((w.alloc (.cells #[.bool nx,.slice px lx cx] 31)).alloc (.cells #[.bool nx,.slice py ly cy] 31)).alloc (.cells #[.bool false,.slice none 0 0] 31)=W0 at hS0 ⊢
 have hS1:=hS0.out
 clear hS0
 go_region_held3 (fun W=>Ar2 w nx px lx cx nx py ly cy W) (first|exact Ar2.drew (by assumption)|exact Ar2.later (by assumption) (by assumption)|exact Ar2.store (by assumption) _ _) (first|(go_at_call 146;refine(hca.out _ (by assumption)).mono ?_;rintro e w1 ⟨p1,n,c1,z,rfl,hz0,hn0,hnc,hcm,hp10,hb1,hP0⟩;have hp1:=Lib.hid hp10;have hz:=Lib.hid hz0;have hn:=Lib.hid hn0;have hP:=Lib.hid hP0;have hnl:n<=1099511627774:=(by have:=hP0.2.2;have:=hle.out;omega);clear hz0 hn0 hP0 hp10)|(go_at_call 140;refine(normal_any _ p1 n c1 z _ hz.out hn.out.symm hnc hcm hP.out.1).mono ?_;rintro e w2 ⟨nb,p,n2,c2,rfl,hI0,hb2,hp0⟩;have hI:=Lib.hid hI0;have hp:=Lib.hid hp0;clear hI0 hp0))
 have hS2:=(hS1.drew.later hb1).later hb2
 have hgt:∀q,p=some q->w.heap.size+1+1<q.block:=fun q hq=>Nat.lt_of_lt_of_le hS1.drew.top (hp1.out q (hp.out q hq))
 have hfin:=Lib.hid (hS2.ret hI.out hgt (by rw [hP.out.2.1,<-hsg.out]:sg nx (val z)=x+y))
 go_wp2_with fail
 exact bodyPost_ret (v:= .agg #[.bool nb,.slice p n2 c2]) (results_cell_row rfl _ _ (w.heap.size+1+1) 31 _ (0,0) _ rfl (hS2.res _ _) Tryz.underlying31 rfl size_Int) rfl hfin.out
theorem rAdd_lt (nx:Bool)(px py:Option Addr)(lx cx ly cy:Nat)(x y:Int)(w:World)(hx0:IntZ w nx px lx cx x)(hy0:IntZ w (!nx) py ly cy y)(hlx:lx<=549755813887)(hly:ly<=549755813887)(hlt:x.natAbs<y.natAbs):
 Calls Tryz.prog 116 #[.agg #[.bool nx,.slice px lx cx],.agg #[.bool (!nx),.slice py ly cy]] w (RetI w (x+y)):=by
 have hx:=Lib.hid hx0
 have hy:=Lib.hid hy0
 have hca:Hid (∀W,Ar2 w nx px lx cx (!nx) py ly cy W->Calls Tryz.prog 148 #[.slice py ly cy,.slice px lx cx] W (NewS W (DifP (digs y.natAbs) (digs x.natAbs)))):=
  Lib.hid fun W h=>minus_any _ _ _ _ _ _ _ _ W (Rdi_below h.2.2.2 hy0.2.2.1) (Rdi_below h.2.2.2 hx0.2.2.1) hy0.2.1 hx0.2.1 (Dg_digs _) (Dg_digs _) (by omega) (by rw [hx0.2.1,hy0.2.1];exact digs_len_mono (by omega)) (by rw [val_digs,val_digs];omega)
 have hcm:Hid (∀W,Below w.heap.size w W->Calls Tryz.prog 147 #[.slice px lx cx,.slice py ly cy] W fun e w'=>e= .returned (.int .i64 (-1))/\Below W.heap.size W w'):=
  Lib.hid fun W h=>by rw [show(-1:Int)=cmpI x.natAbs y.natAbs from(cmp_lt (by omega)).symm];exact compared_any _ _ _ _ _ _ _ _ W (Rdi_below h hx0.2.2.1) (Rdi_below h hy0.2.2.1) hx0.2.1 hy0.2.1 (by omega) (by omega)
 have hf:=fun W (h:Ar2 w nx px lx cx (!nx) py ly cy W)=>h.facts
 have hS0:=Lib.hid (@Ar2.start nx px lx cx (!nx) py ly cy w)
 have hsg:Hid (sg (!nx) (val (digs y.natAbs) - val (digs x.natAbs))=x+y):=Lib.hid (by rw [val_digs,val_digs,Int.add_comm];exact diff_neg hy0.1 hx0.1 (by cases nx<;>decide))
 have hle:Hid ((digs x.natAbs).length=lx/\(digs y.natAbs).length=ly):=Lib.hid ⟨hx0.2.1.symm,hy0.2.1.symm⟩
 have hnn:(nx== !nx)=false:=by cases nx<;>rfl
 clear hx0 hy0
 go_enter Tryz.func116,Tryz.ntmps116
 go_wp2_with fail
 generalize((w.alloc (.cells #[.bool nx,.slice px lx cx] 31)).alloc (.cells #[.bool (!nx),.slice py ly cy] 31)).alloc (.cells #[.bool false,.slice none 0 0] 31)=W9 at hS0 ⊢
 have hS9:=hS0.out
 clear hS0
 have hf9:=hf _ hS9
 go_wp2_with (go_at_call 147;refine(hcm.out _ hS9.2.2.2).mono ?_;rintro e W0 ⟨rfl,hb9⟩;have hS1:=hS9.later hb9;clear hb9 hf9)
 go_region_held3 (fun W=>Ar2 w nx px lx cx (!nx) py ly cy W) (first|exact Ar2.drew (by assumption)|exact Ar2.later (by assumption) (by assumption)|exact Ar2.store (by assumption) _ _) (first|(go_at_call 148;refine(hca.out _ (by assumption)).mono ?_;rintro e w1 ⟨p1,n,c1,z,rfl,hz0,hn0,hnc,hcm,hp10,hb1,hP0⟩;have hp1:=Lib.hid hp10;have hz:=Lib.hid hz0;have hn:=Lib.hid hn0;have hP:=Lib.hid hP0;have hnl:n<=1099511627774:=(by have:=hP0.2.2;have:=hle.out;omega);clear hz0 hn0 hP0 hp10)|(go_at_call 140;refine(normal_any _ p1 n c1 z _ hz.out hn.out.symm hnc hcm hP.out.1).mono ?_;rintro e w2 ⟨nb,p,n2,c2,rfl,hI0,hb2,hp0⟩;have hI:=Lib.hid hI0;have hp:=Lib.hid hp0;clear hI0 hp0))
 have hS2:=(hS1.drew.later hb1).later hb2
 have hgt:∀q,p=some q->w.heap.size+1+1<q.block:=fun q hq=>Nat.lt_of_lt_of_le hS1.drew.top (hp1.out q (hp.out q hq))
 have hfin:=Lib.hid (hS2.ret hI.out hgt (by rw [hP.out.2.1,<-hsg.out]:sg (!nx) (val z)=x+y))
 go_wp2_with fail
 exact bodyPost_ret (v:= .agg #[.bool nb,.slice p n2 c2]) (results_cell_row rfl _ _ (w.heap.size+1+1) 31 _ (0,0) _ rfl (hS2.res _ _) Tryz.underlying31 rfl size_Int) rfl hfin.out
theorem rAdd_ge (nx:Bool)(px py:Option Addr)(lx cx ly cy:Nat)(x y:Int)(w:World)(hx0:IntZ w nx px lx cx x)(hy0:IntZ w (!nx) py ly cy y)(hlx:lx<=549755813887)(hly:ly<=549755813887)(hge:y.natAbs<=x.natAbs)(r:Int)(hr:0<=r)(hr1:r<=1)(hrr:Hid (r=cmpI x.natAbs y.natAbs)):
 Calls Tryz.prog 116 #[.agg #[.bool nx,.slice px lx cx],.agg #[.bool (!nx),.slice py ly cy]] w (RetI w (x+y)):=by
 have hx:=Lib.hid hx0
 have hy:=Lib.hid hy0
 have hca:Hid (∀W,Ar2 w nx px lx cx (!nx) py ly cy W->Calls Tryz.prog 148 #[.slice px lx cx,.slice py ly cy] W (NewS W (DifP (digs x.natAbs) (digs y.natAbs)))):=
  Lib.hid fun W h=>minus_any _ _ _ _ _ _ _ _ W (Rdi_below h.2.2.2 hx0.2.2.1) (Rdi_below h.2.2.2 hy0.2.2.1) hx0.2.1 hy0.2.1 (Dg_digs _) (Dg_digs _) (by omega) (by rw [hx0.2.1,hy0.2.1];exact digs_len_mono (by omega)) (by rw [val_digs,val_digs];omega)
 have hcm:Hid (∀W,Below w.heap.size w W->Calls Tryz.prog 147 #[.slice px lx cx,.slice py ly cy] W fun e w'=>e= .returned (.int .i64 (r))/\Below W.heap.size W w'):=
  Lib.hid fun W h=>by rw [show(r:Int)=cmpI x.natAbs y.natAbs from hrr.out];exact compared_any _ _ _ _ _ _ _ _ W (Rdi_below h hx0.2.2.1) (Rdi_below h hy0.2.2.1) hx0.2.1 hy0.2.1 (by omega) (by omega)
 have hf:=fun W (h:Ar2 w nx px lx cx (!nx) py ly cy W)=>h.facts
 have hS0:=Lib.hid (@Ar2.start nx px lx cx (!nx) py ly cy w)
 have hsg:Hid (sg nx (val (digs x.natAbs) - val (digs y.natAbs))=x+y):=Lib.hid (by rw [val_digs,val_digs];exact diff_neg hx0.1 hy0.1 (by cases nx<;>decide))
 have hle:Hid ((digs x.natAbs).length=lx/\(digs y.natAbs).length=ly):=Lib.hid ⟨hx0.2.1.symm,hy0.2.1.symm⟩
 have hnn:(nx== !nx)=false:=by cases nx<;>rfl
 clear hx0 hy0
 go_enter Tryz.func116,Tryz.ntmps116
 go_wp2_with fail
 generalize((w.alloc (.cells #[.bool nx,.slice px lx cx] 31)).alloc (.cells #[.bool (!nx),.slice py ly cy] 31)).alloc (.cells #[.bool false,.slice none 0 0] 31)=W9 at hS0 ⊢
 have hS9:=hS0.out
 clear hS0
 have hf9:=hf _ hS9
 go_wp2_with (go_at_call 147;refine(hcm.out _ hS9.2.2.2).mono ?_;rintro e W0 ⟨rfl,hb9⟩;have hS1:=hS9.later hb9;clear hb9 hf9)
 go_region_held3 (fun W=>Ar2 w nx px lx cx (!nx) py ly cy W) (first|exact Ar2.drew (by assumption)|exact Ar2.later (by assumption) (by assumption)|exact Ar2.store (by assumption) _ _) (first|(go_at_call 148;refine(hca.out _ (by assumption)).mono ?_;rintro e w1 ⟨p1,n,c1,z,rfl,hz0,hn0,hnc,hcm,hp10,hb1,hP0⟩;have hp1:=Lib.hid hp10;have hz:=Lib.hid hz0;have hn:=Lib.hid hn0;have hP:=Lib.hid hP0;have hnl:n<=1099511627774:=(by have:=hP0.2.2;have:=hle.out;omega);clear hz0 hn0 hP0 hp10)|(go_at_call 140;refine(normal_any _ p1 n c1 z _ hz.out hn.out.symm hnc hcm hP.out.1).mono ?_;rintro e w2 ⟨nb,p,n2,c2,rfl,hI0,hb2,hp0⟩;have hI:=Lib.hid hI0;have hp:=Lib.hid hp0;clear hI0 hp0))
 have hS2:=(hS1.drew.later hb1).later hb2
 have hgt:∀q,p=some q->w.heap.size+1+1<q.block:=fun q hq=>Nat.lt_of_lt_of_le hS1.drew.top (hp1.out q (hp.out q hq))
 have hfin:=Lib.hid (hS2.ret hI.out hgt (by rw [hP.out.2.1,<-hsg.out]:sg nx (val z)=x+y))
 go_wp2_with fail
 exact bodyPost_ret (v:= .agg #[.bool nb,.slice p n2 c2]) (results_cell_row rfl _ _ (w.heap.size+1+1) 31 _ (0,0) _ rfl (hS2.res _ _) Tryz.underlying31 rfl size_Int) rfl hfin.out
theorem rAdd_any (nx ny:Bool)(px py:Option Addr)(lx cx ly cy:Nat)(x y:Int)(w:World)(hx0:IntZ w nx px lx cx x)(hy0:IntZ w ny py ly cy y)(hlx:lx<=549755813887)(hly:ly<=549755813887):
 Calls Tryz.prog 116 #[.agg #[.bool nx,.slice px lx cx],.agg #[.bool ny,.slice py ly cy]] w (RetI w (x+y)):=by
 by_cases h:nx=ny
 ·subst h
  exact rAdd_same nx px py lx cx ly cy x y w hx0 hy0 hlx hly
 ·obtain rfl:ny= !nx:=by cases nx<;>cases ny<;>first|rfl|exact absurd rfl h
  by_cases hlt:x.natAbs<y.natAbs
  ·exact rAdd_lt nx px py lx cx ly cy x y w hx0 hy0 hlx hly hlt
  ·refine rAdd_ge nx px py lx cx ly cy x y w hx0 hy0 hlx hly (by omega) (cmpI x.natAbs y.natAbs) ?_ ?_ (Lib.hid rfl)
   ·unfold cmpI;rw [if_neg (by omega)];split<;>omega
   ·unfold cmpI;rw [if_neg (by omega)];split<;>omega


section
variable {BT:List (TypeId×Nat×Nat)}
def VI (l:List Int):VP:=fun v w=>∃a m c,v= .slice a m c/\Rdi w a l/\m=l.length/\i64s l
theorem Stab_VI (l:List Int):Stab BT (VI l):=fun _ _ _ ⟨a,m,c,h1,h2,h3,h4⟩ hr=>⟨a,m,c,h1,Rdi_RI hr h2,h3,h4⟩
instance (l:List Int):Sb BT (VI l):=⟨Stab_VI l⟩
theorem wrap_id {n:Int}(h1: -9223372036854775808<=n)(h2:n<=9223372036854775807):IntKind.i64.wrap n=n:=IntWalk.i64_in n ⟨h1,h2⟩
section
variable {ρ:Operand->Value}{o:Oper}{W:World}{x y:Operand}{a b c:Int}
theorem run_subi (ho:o.op= .binOp .sub 3 x y 3)(hx:ρ x= .int .i64 a)(hy:ρ y= .int .i64 b)(hc:IntKind.i64.wrap (a - b)=c):(execOp ρ o).run Tryz.prog W= .ok (.value (.int .i64 c)) W:=by
 obtain⟨d,op,ty,ps,af,gd⟩:=o
 subst ho
 go_simp
theorem run_muli (ho:o.op= .binOp .mul 3 x y 3)(hx:ρ x= .int .i64 a)(hy:ρ y= .int .i64 b)(hc:IntKind.i64.wrap (a*b)=c):(execOp ρ o).run Tryz.prog W= .ok (.value (.int .i64 c)) W:=by
 obtain⟨d,op,ty,ps,af,gd⟩:=o
 subst ho
 go_simp
theorem run_negi (ho:o.op= .unOp .neg 3 x)(hx:ρ x= .int .i64 a)(hc:IntKind.i64.wrap (-a)=c):(execOp ρ o).run Tryz.prog W= .ok (.value (.int .i64 c)) W:=by
 obtain⟨d,op,ty,ps,af,gd⟩:=o
 subst ho
 go_simp
theorem run_quoi (ho:o.op= .binOp .quo 3 x y 3)(hx:ρ x= .int .i64 a)(hy:ρ y= .int .i64 b)(h0:0<=a/\a<=9223372036854775807)(hb:0<b):(execOp ρ o).run Tryz.prog W= .ok (.value (.int .i64 (a / b))) W:=by
 have hb0:¬b=0:=by omega
 have e1:Int.tdiv a b=a / b:=Int.tdiv_eq_ediv_of_nonneg h0.1
 have e2:0<=a / b:=Int.ediv_nonneg h0.1 (by omega)
 have e3:a / b<=a:=Int.ediv_le_self b h0.1
 have e4:IntKind.i64.wrap (a / b)=a / b:=wrap_id (by omega) (by omega)
 generalize a / b=q at*
 clear e2 e3 h0 hb
 obtain⟨d,op,ty,ps,af,gd⟩:=o
 subst ho
 go_simp
theorem run_remi (ho:o.op= .binOp .rem 3 x y 3)(hx:ρ x= .int .i64 a)(hy:ρ y= .int .i64 b)(h0:0<=a)(hb:0<b):(execOp ρ o).run Tryz.prog W= .ok (.value (.int .i64 (a % b))) W:=by
 have hb0:¬b=0:=by omega
 have e1:Int.tmod a b=a % b:=Int.tmod_eq_emod_of_nonneg h0
 generalize a % b=q at*
 clear h0 hb
 obtain⟨d,op,ty,ps,af,gd⟩:=o
 subst ho
 go_simp
end
theorem cAround {W:World}{n most:Int}{v:Value}(h:Vi n v W)(h1: -9223372036854775808<=n)(h2:n<=9223372036854775807)(h3:0<most)(h4:most<=9223372036854775807):Calls Tryz.prog 36 #[v,.int .i64 most] W (RV (Vi (arn n most)) W):=by
 obtain rfl:=h
 exact(around_any n most h1 h2 h3 h4 W).mono fun e w' ⟨he,hw⟩=>⟨_,he,rfl,hw ▸ Below.refl _ _⟩
theorem cAt {W:World}{l:List Int}{i most:Int}{v v1:Value}(h:VI l v W)(h1:Vi i v1 W)(hi:0<=i)(hi2:i<=9223372036854775807)(h3:0<most)(h4:most<=9223372036854775807):Calls Tryz.prog 50 #[v,v1,.int .i64 most] W (RV (Vi (atv l i most)) W):=by
 obtain⟨a,m,c,rfl,hR,hm,h64⟩:=h
 obtain rfl:=h1
 have:=at_any a m c l i.toNat most W hR hm h64 (by omega) h3 h4
 rw [Int.toNat_of_nonneg hi] at this
 exact this.mono fun e w' ⟨he,hw⟩=>⟨_,he,rfl,hw ▸ Below.refl _ _⟩
end
theorem val_two {l:List Int}(h:l.length<=2):val l=iat l 1*1000000000+iat l 0:=by
 match l,h with
 | [],_=>rfl
 | [a],_=>simp [val,iat]
 | [a,b],_=>simp [val,iat];omega
theorem val_two_bd {l:List Int}(D:Dg l):0<=iat l 1*1000000000/\iat l 1*1000000000<=999999999000000000/\0<=iat l 1*1000000000+iat l 0/\iat l 1*1000000000+iat l 0<1000000000000000000:=by
 have h0:=D.all 0
 have h1:=D.all 1
 omega
theorem tiny_any (a:Option Addr)(n c:Nat)(l:List Int)(w:World)(hR0:Rdi w a l)(hn0:n=l.length)(hd0:Dg l)(h2:n<=2):
 Calls Tryz.prog 144 #[.slice a n c] w fun e w'=>e= .returned (.int .i64 (val l))/\w=w':=by
 have hg0:Hid (Calls Tryz.prog 159 #[.slice a n c,.int .i64 0] w fun e w'=>e= .returned (.int .i64 (iat l 0))/\w=w'):=Lib.hid (digit_any a n c l 0 w hR0 hn0)
 have hg1:Hid (Calls Tryz.prog 159 #[.slice a n c,.int .i64 1] w fun e w'=>e= .returned (.int .i64 (iat l 1))/\w=w'):=Lib.hid (digit_any a n c l 1 w hR0 hn0)
 have hv:Hid (val l=iat l 1*1000000000+iat l 0):=Lib.hid (val_two (by omega))
 obtain⟨b1,b2,b3,b4⟩:=val_two_bd hd0
 rw [hv.out]
 obtain⟨d0,e0⟩:∃d,iat l 0=d:=⟨_,rfl⟩
 obtain⟨d1,e1⟩:∃d,iat l 1=d:=⟨_,rfl⟩
 rw [e0] at hg0
 rw [e1] at hg1
 rw [e1] at b1 b2
 rw [e0,e1] at b3 b4 ⊢
 clear hR0 hn0 hd0 hv e0 e1
 go_enter Tryz.func144,Tryz.ntmps144
 go_wp2_with (first
  |(go_at_call 159;(with_reducible refine hg1.out.mono ?_);rintro e w' ⟨rfl,rfl⟩)
  |(go_at_call 159;(with_reducible refine hg0.out.mono ?_);rintro e w' ⟨rfl,rfl⟩))
 go_ret
 exact⟨rfl,rfl⟩
def TmP (w:World)(v:Nat)(e:Ending)(w':World):Prop:=∃p n c,e= .returned (.slice p n c)/\Rdi w' p (digs v)/\n=(digs v).length/\n<=c/\c<=9223372036854775807/\Below w.heap.size w w'/\∀q,p=some q->w.heap.size<=q.block
theorem times_any (a:Option Addr)(n c:Nat)(y:Nat)(k:Int)(w:World)(hR0:Rdi w a (digs y))(hn0:n=(digs y).length)(hnc:n<=c)(hc:c<=9223372036854775807)(hn:n<=274877906943)(hk0:0<=k)(hk1:k<=9223372036854775807):
 Calls Tryz.prog 163 #[.slice a n c,.int .i64 k] w (TmP w (y*k.toNat)):=by
 have h1:Hid (Calls Tryz.prog 140 #[.bool false,.slice a n c] w (RetF (fun q=>a=some q) w (y:Int))):=Lib.hid (by
  have:=normal_any false a n c (digs y) w hR0 hn0 hnc hc (Dg_digs _)
  rw [show sg false (val (digs y))=(y:Int) by rw [val_digs];rfl] at this
  exact this)
 have h2:Hid (∀W,Calls Tryz.prog 102 #[.int .i64 k] W (RetI W k)):=Lib.hid fun W=>rOf_any k (by omega) hk1 W
 have h3:Hid (∀W nb p n2 c2 nb2 p2 n3 c3,IntAt W nb p n2 c2 (y:Int)->IntAt W nb2 p2 n3 c3 k->Calls Tryz.prog 114 #[.agg #[.bool nb,.slice p n2 c2],.agg #[.bool nb2,.slice p2 n3 c3]] W (RetI W ((y:Int)*k))):=Lib.hid fun W nb p n2 c2 nb2 p2 n3 c3 hI hJ=>rMul_any _ _ _ _ _ _ _ _ _ _ W hI.z hJ.z (by rw [hI.2.1,show((y:Int)).natAbs=y by omega];omega) (by
  rw [hJ.2.1]
  have:=digs_len_le (n:=k.natAbs) (k:=3) (by rw [pw3];omega)
  omega)
 have hyk:Hid (((y:Int)*k).natAbs=y*k.toNat):=Lib.hid (by rw [Int.natAbs_mul,show k.natAbs=k.toNat by omega];rfl)
 clear hR0 hn0 hnc hc
 go_enter Tryz.func163,Tryz.ntmps163
 go_upto_region 2 with(first
  |(go_at_call 140;(refine h1.out.mono ?_);rintro e w1 ⟨nb1,p1,n1,c1,rfl,hI1,hb1,_⟩;have hI1':=Lib.hid hI1;clear hI1)
  |(go_at_call 102;(refine(h2.out _).mono ?_);rintro e w2 ⟨nb2,p2,n2,c2,rfl,hI2,hb2,_⟩;have hI2':=Lib.hid hI2;clear hI2)
  |(go_at_call 114;(refine(h3.out _ _ _ _ _ _ _ _ _ (hI1'.out.later hb2) hI2'.out).mono ?_);rintro e w3 ⟨nb3,p3,n3,c3,rfl,hI3,hb3,hp3⟩;have hI3':=Lib.hid hI3;have hp3':=Lib.hid hp3;clear hI3 hp3))
 have hB:Hid (Below w.heap.size w (w3.alloc (.cells #[.bool nb3,.slice p3 n3 c3] 31 (0,0)))):=Lib.hid (below_tr hb1 (below_tr hb2 (below_tr hb3 (below_new _ _))))
 have hfin:Hid (TmP w (y*k.toNat) (.returned (.slice p3 n3 c3)) (w3.alloc (.cells #[.bool nb3,.slice p3 n3 c3] 31 (0,0)))):=Lib.hid (by
  have h:=hI3'.out.later (below_new w3 (.cells #[.bool nb3,.slice p3 n3 c3] 31 (0,0)))
  rw [<-hyk.out]
  exact⟨_,_,_,rfl,h.2.2.1,h.2.1,h.2.2.2.1,h.2.2.2.2,hB.out,fun q hq=>by
   have a1:=hp3'.out q hq
   have a2:=hb1.size
   have a3:=hb2.size
   omega⟩)
 clear hb1 hb2 hb3
 go_wp2_with fail
 go_ret
 exact hfin.out
def DvP (w:World)(x y:Nat)(e:Ending)(w':World):Prop:=
 ∃p1 n1 c1 O p2 n2 c2,∃r:Nat,e= .returned (.tuple #[.slice p1 n1 c1,.slice p2 n2 c2])/\Rdi w' p1 O/\n1=O.length/\n1<=c1/\c1<=9223372036854775807/\Dg O/\val O*(y:Int)+(r:Int)=(x:Int)/\r<y/\Rdi w' p2 (digs r)/\n2=(digs r).length/\n2<=c2/\c2<=9223372036854775807/\n1<=(digs x).length/\Below w.heap.size w w'/\(∀q,p1=some q->w.heap.size<=q.block)/\∀q,p2=some q->w.heap.size<=q.block
def DvI (w:World)(x y:Nat)(g:Nat)(k:Nat)(rv:Value)(wr:World):Prop:=
 ∃p nr cr,∃r:Nat,∃O,rv= .slice p nr cr/\Rdi wr p (digs r)/\nr=(digs r).length/\nr<=cr/\cr<=9223372036854775807/\r<y/\Blk wr g O/\O.length=(digs x).length/\Dg O/\val ((digs x).drop k)=val (O.drop k)*(y:Int)+(r:Int)/\Below w.heap.size w wr/\(∀q,p=some q->q.block≠g/\w.heap.size<=q.block)/\k<=(digs x).length
theorem val_set_drop (O:List Int)(j:Nat)(q:Int)(h:j<O.length):val ((O.set j q).drop j)=q+1000000000*val (O.drop (j+1)):=by
 rw [val_drop _ j (by simpa using h)]
 congr 1
 ·simp [iat,List.getD_eq_getElem?_getD,h]
 ·rw [List.drop_set_of_lt (by omega)]
end Go.Proofs.YtjdkdjobaabdiaaGreat
