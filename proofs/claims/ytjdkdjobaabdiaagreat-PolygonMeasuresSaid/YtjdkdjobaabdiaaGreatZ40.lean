/- Contracts of the packages integer, rat, plane, polygon and their references. -/
import Derived.Test.YtjdkdjobaabdiaaGreatZ39
set_option linter.unusedVariables false
set_option maxRecDepth 100000
set_option maxHeartbeats 6400000
namespace Go.Proofs.YtjdkdjobaabdiaaGreat
open Go.RowKit
open Go
def spK (vs:List P2)(z:Int):Nat:=(arn z (vs.length:Int)).toNat
def spoil (vs:List P2)(how z:Int):List P2:=
 let k:=spK vs z
 let h:=arn how 7
 if h=0 then vs.take k++vs.drop (k+1)
 else if h=1 then vs.set k (Rat.divInt (arn z 17 - 8) 1,Rat.divInt (arn (Int.tdiv z 17) 17 - 8) 1)
 else if h=2 then vs.set k (cv vs (spK vs (Int.tdiv z 16)))
 else if h=3 then vs.set k (mid2 (cv vs k) (cv vs (k+1)))
 else if h=4 then vs.reverse
 else vs.take k++ [mid2 (cv vs k) (cv vs (k+1))]++vs.drop k
def ROWV (g c N:Nat)(us:List P2)(w:World):Prop:=us.length<=c/\c<=9223372036854775807/\RowAt g 35 (8*c) (VEl 8 (EV N) us) w
section
variable {ρ:Operand->Value}{o:Oper}{w W:World}{x y:Operand}{va vb:Value}{g n c j N:Nat}{vs us:List P2}
theorem VSv_le {M:Nat}{v:Value}(h:VSv N vs v w)(hM:N<=M):VSv M vs v w:=h.imp id fun ⟨hh,o,c,cs,e1,e2,e3,e4,e5,e6⟩=>⟨hh,o,c,cs,e1,e2,e3,e4,e5,fun i x hx=>Vv_le (e6 i x hx) hM⟩
theorem ROWV.sv (h:ROWV g c N us w):VSv N us (.slice (some ⟨g,0,none⟩) us.length c) w:=by
 obtain⟨h1,h2,cs,q1,q2,q3,_,q4,q5⟩:=h;cases q4;exact .inr ⟨g,0,c,cs,rfl,h1,h2,q1,by rw [q2];omega,fun i x hx=>by rw [Nat.zero_add];exact q5 i x hx⟩
theorem ROWV.set (h:ROWV g c N us w){k:Nat}{a:P2}{z:Array Value}(hk:k<us.length)(hz:EV N a (.agg z) w):∃cs,w.heap[g]? =some (.cells cs 35 (0,0))/\8*k+8<=cs.size/\ROWV g c N (us.set k a) (w.setRow g (updR cs (8*k) z.toList)):=by
 obtain⟨h1,h2,cs,q1,q2,q3,_,q4,q5⟩:=h;cases q4;obtain⟨z',e,hzs,hzn,hz1⟩:=AggV_Vv _ _ _ _ _ hz;cases e;have hle:8*k+z.size<=cs.size:=by omega
 have hri:RI [(35,cs.size,0)] w (w.setRow g (updR cs (8*k) z.toList)):=RI_setRow q1 q3 ⟨⟨_,List.mem_cons_self,rfl,rfl,.inl rfl⟩,fun e he e1 e2=>by
  rcases List.mem_cons.1 he with rfl|he
  ·have e2:cs.size=0:=e2;omega
  ·cases he⟩
 refine⟨cs,q1,by omega,by rw [List.length_set];exact h1,h2,_,setRow_heap _ _ _ _ _ _ q1,by rw [updR_size];exact q2,noInt_updR hle q3 hzn,_,rfl,fun i x hx=>?_⟩;by_cases hik:i=k
 ·subst hik;rw [List.getElem?_set_self hk] at hx;cases hx;have:=updR_here hle;rw [hzs] at this;rw [this];exact Stab_Vv _ _ _ _ _ _ hz hri
 ·rw [List.getElem?_set_ne (fun e=>hik e.symm)] at hx;rw [updR_there (by simpa using hle) (by simp;omega)];exact Stab_Vv _ _ _ _ _ _ (q5 i x hx) hri
theorem len_EqS {p:Option Addr}(ho:o.op= .call {callee:= .builtin .len,args:=#[x],argTypes:=#[23]})(hty:o.type=3)(hx:ρ x=va)(h:VEq (.slice p n c) va W):∃v,(execOp ρ o).run Tryz.prog W= .ok (.value v) W/\Vi (n:Int) v W:=by
 obtain rfl:va=_:=h;refine⟨.int .i64 (n:Int),?_,rfl⟩;obtain⟨dd,op,ty,ps,af,gd⟩:=o;subst ho;simp only at hty;subst hty
 go_simp
theorem index_EqS (ho:o.op= .indexAddr 23 x y)(hx:ρ x=va)(h:VEq (.slice (some ⟨g,0,none⟩) n c) va W)(hy:ρ y=vb)(hb:Vi (j:Int) vb W)(hj:j<n):∃v,(execOp ρ o).run Tryz.prog W= .ok (.value v) W/\VEq (.pointer (some ⟨g,8*j,none⟩)) v W:=by
 obtain rfl:va=_:=h;obtain rfl:vb=_:=hb;refine⟨.pointer (some ⟨g,8*j,none⟩),?_,rfl⟩;have hj2:(j:Int)<(n:Int):=by omega
 have hm:j*8=8*j:=Nat.mul_comm _ _;obtain⟨dd,op,ty,ps,af,gd⟩:=o;subst ho
 go_simp
theorem take_EqS (ho:o.op= .slice 23 x none (some y) none)(hx:ρ x=va)(h:VEq (.slice (some ⟨g,0,none⟩) n c) va W)(hy:ρ y=vb)(hb:Vi (j:Int) vb W)(hj:j<=n)(hn:n<=c)(hc:0<c):∃v,(execOp ρ o).run Tryz.prog W= .ok (.value v) W/\VEq (.slice (some ⟨g,0,none⟩) j c) v W:=by
 obtain rfl:va=_:=h;obtain rfl:vb=_:=hb;refine⟨_,?_,rfl⟩;have q1:(j:Int)<=(n:Int):=by omega
 have q2:(j:Int)<=(c:Int):=by omega
 have q3:(n:Int)<=(c:Int):=by omega
 have q4:¬c=0:=by omega
 obtain⟨dd,op,ty,ps,af,gd⟩:=o;subst ho
 go_simp
def drS (g n c j:Nat):Value:=if j<c then .slice (some ⟨g,8*j,none⟩) (n - j) (c - j)else .slice (some ⟨g,0,none⟩) 0 0
theorem drop_EqS (ho:o.op= .slice 23 x (some y) none none)(hx:ρ x=va)(h:VEq (.slice (some ⟨g,0,none⟩) n c) va W)(hy:ρ y=vb)(hb:Vi (j:Int) vb W)(hj:j<=n)(hn:n<=c):∃v,(execOp ρ o).run Tryz.prog W= .ok (.value v) W/\VEq (drS g n c j) v W:=by
 obtain rfl:va=_:=h;obtain rfl:vb=_:=hb;refine⟨_,?_,rfl⟩;unfold drS;have q1:(j:Int)<=(n:Int):=by omega
 have q2:(j:Int)<=(c:Int):=by omega
 have q3:(n:Int)<=(c:Int):=by omega
 have q5:j*8=8*j:=Nat.mul_comm _ _;by_cases hc:j<c
 ·rw [if_pos hc];have q4:¬c=j:=by omega
  obtain⟨dd,op,ty,ps,af,gd⟩:=o;subst ho
  go_simp
 ·rw [if_neg hc];obtain rfl:j=c:=by omega
  obtain rfl:n=j:=by omega
  obtain⟨dd,op,ty,ps,af,gd⟩:=o;subst ho
  go_simp
theorem drS_sc {v:Value}(h:RowAt g 35 (8*c) (VEl 8 (EV N) us) w)(hv:VEq (drS g us.length c j) v w)(hj:j<=us.length)(hn:us.length<=c):VSc 35 8 (EV N) (us.drop j) v w:=by
 obtain⟨cs,q1,q2,q3,_,q4,q5⟩:=h;cases q4;obtain rfl:v=_:=hv;unfold drS;have hl:(us.drop j).length=us.length - j:=List.length_drop;by_cases hc:j<c
 ·rw [if_pos hc,<-hl];refine .inr ⟨g,8*j,c - j,cs,rfl,q1,by rw [hl,q2];omega,_,rfl,fun i x hx=>?_⟩;rw [List.getElem?_drop] at hx
  have hi:j+i<us.length:=by
   rcases Nat.lt_or_ge (j+i) us.length with h'|h'
   ·exact h'
   ·rw [List.getElem?_eq_none h'] at hx;cases hx
  rw [Array.extract_extract,show min (8*j+(8*i+8)) (8*j+8*(us.drop j).length)=8*(j+i)+8 by rw [hl];omega,show 8*j+8*i=8*(j+i) by omega];exact q5 _ _ hx
 ·rw [if_neg hc];have h0:us.drop j= []:=List.eq_nil_of_length_eq_zero (by omega);rw [h0];exact .inr ⟨g,0,0,cs,rfl,q1,by simp,_,rfl,fun i x hx=>by simp at hx⟩
theorem bslice_0 (ho:o.op= .buildSlice 23 0 #[]):∃v w',(execOp ρ o).run Tryz.prog W= .ok (.value v) w'/\Below W.heap.size W w'/\VE0 v w':=by
 refine⟨.slice (some ⟨W.heap.size,0,none⟩) 0 0,_,?_,below_new W (.cells #[] 35),_,rfl⟩;obtain⟨dd,op,ty,ps,af,gd⟩:=o;subst ho
 go_simp
theorem VRy_row {v:Value}{lo:Nat}(hx:us≠ [])(h:VRy 35 8 (EV N) lo us v w):∃g c,lo<=g/\v= .slice (some ⟨g,0,none⟩) us.length c/\ROWV g c N us w:=by
 rcases h with⟨rfl,-⟩|⟨g,c,h1,h2,h3,h4,(⟨h5,-⟩|⟨-,rfl,h6⟩)⟩
 ·exact absurd rfl hx
 ·omega
 ·exact⟨g,c,h1,rfl,h3,h4,h6⟩
theorem VSv_lesc {M:Nat}{w0:World}(hM:N<=M)(v:Value)(w:World)(hb:Below w0.heap.size w0 w)(h:VAt w0 (VSv N vs) v w):VSc 35 8 (EV M) vs v w:=VSv_sc (VSv_le (VSv_later h hb) hM)
end
instance {BT:List (TypeId×Nat×Nat)}(g n c j:Nat):Sb BT (VEq (drS g n c j)):=⟨fun _ _ _ h _=>h⟩
end Go.Proofs.YtjdkdjobaabdiaaGreat
