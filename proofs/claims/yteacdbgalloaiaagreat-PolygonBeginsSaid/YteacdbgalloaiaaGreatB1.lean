/- Contracts of the packages integer, rat, plane, polygon and their references. -/
import Derived.Orders
import Derived.Test.YteacdbgalloaiaaGreatProg
import Derived.WalkKit
import Derived.WalkSpells
import Derived.WalkLawsBesides
import Derived.BigQuiet
import Derived.Deep.QuietTactic
import Derived.Lib.Hide
import Derived.IntWalk
import Derived.Deep.OwnRows
import Derived.Laws.CopyOwn
import Derived.Deep.DeepCutAuto
import Derived.Test.YteacdbgalloaiaaGreatB0
set_option linter.unusedVariables false
set_option maxRecDepth 100000
set_option maxHeartbeats 6400000
namespace Go.Proofs.YteacdbgalloaiaaGreat
open Go
section
variable {P:Program}{md:Region.Mode}{ops:Array Oper}{Q:Exit->Act->World->Prop}{a0:Act}{V:Nat->Value->World->Prop}{S:World->Prop}{R:World->World->Prop}
def flowOwn (ops:Array Oper):Bool:=(List.range ops.size).all fun i=>(List.range i).all fun j=>match (ops[i]?).bind (·.dst),(ops[j]?).bind (·.dst) with
 |some x,some y=>x !=y
 |_,_=>true
theorem flowOwn_lt (h:flowOwn ops=true){i j:Nat}{o u:Oper}{d:Nat}(ho:ops[i]? =some o)(hu:ops[j]? =some u)(D:o.dst=some d)(hij:j<i):u.dst≠some d:=by
 intro hd'
 have hi:i<ops.size:=by
  rcases Nat.lt_or_ge i ops.size with h'|h'
  ·exact h'
  ·rw [Array.getElem?_eq_none h'] at ho;cases ho
 unfold flowOwn at h;rw [List.all_eq_true] at h;have h1:=h i (by simpa using hi);rw [List.all_eq_true] at h1;have h2:=h1 j (by simpa using hij);rw [ho,hu] at h2;simp [D,hd'] at h2
theorem flowOwn_ne (h:flowOwn ops=true){i j:Nat}{o u:Oper}{d:Nat}(ho:ops[i]? =some o)(hu:ops[j]? =some u)(D:o.dst=some d)(hij:j≠i):u.dst≠some d:=by
 rcases Nat.lt_or_gt_of_ne hij with h1|h1
 ·exact flowOwn_lt h ho hu D h1
 ·intro h2;exact flowOwn_lt h hu ho h2 h1 D
theorem put_get_self {a:Act}{d:Nat}{v:Value}(h:d<a.tmps.size):(a.put (some d) v).tmps[d]? =some v:=by simp [Act.put,h]
theorem put_get_ne {a:Act}{x:Option Nat}{t:Nat}{v:Value}(h:x≠some t):(a.put x v).tmps[t]? =a.tmps[t]? :=by
 cases x with
 |none=>rfl
 |some d=>simp only [Act.put];rw [Array.getElem?_setIfInBounds_ne (fun e=>h (by rw [e]))]
theorem put_size {a:Act}{x:Option Nat}{v:Value}:(a.put x v).tmps.size=a.tmps.size:=by cases x<;>simp [Act.put]
theorem put_defers' {a:Act}{x:Option Nat}{v:Value}:(a.put x v).defers=a.defers:=by cases x<;>rfl
theorem getD_set (l:Array Bool)(i j:Nat)(hi:i<l.size):(l.setIfInBounds i true).getD j false=if i=j then true else l.getD j false:=by
 simp only [Array.getD_eq_getD_getElem?,Array.getElem?_setIfInBounds];by_cases h:i=j
 ·subst h;simp [hi]
 ·simp [h]
theorem count_set (l:Array Bool)(i:Nat)(hi:i<l.size)(h:l.getD i true=false):(l.setIfInBounds i true).toList.count false+1=l.toList.count false:=by
 have hi':i<l.toList.length:=by simpa using hi
 have h1:l.toList[i]=false:=by simpa [Array.getD,hi] using h
 have h2:0<l.toList.count false:=List.count_pos_iff.2 (by rw [<-h1];exact List.getElem_mem hi');rw [Array.toList_setIfInBounds,List.count_set hi',h1];show(l.toList.count false - 1)+0+1=_;omega
theorem count_zero (l:Array Bool)(h:l.toList.count false=0)(i:Nat)(hi:i<l.size):l.getD i false=true:=by
 have hi':i<l.toList.length:=by simpa using hi
 have h1:=List.count_eq_zero.1 h;have h2:l.toList[i]∈l.toList:=List.getElem_mem hi'
 have h3:l[i]=true:=by
  cases h4:l[i] with
  |true=>rfl
  |false=>exact absurd (by simpa [h4] using h2) h1
 simp [Array.getD,hi,h3]
def slots (f:Nat->Value):List Nat->Act->Act
 | [],a=>a
 |d::l,a=>slots f l (a.put (some d) (f d))
end
open Go.RowKit
def iat (l:List Int)(i:Nat):Int:=l.getD i 0
def pw:Nat->Int
 |0=>1
 |k+1=>1000000000*pw k
theorem pw_pos:∀k,0<pw k
 |0=>by decide
 |k+1=>by have:=pw_pos k;show 0<1000000000*pw k;omega
theorem pw_add:∀a b,pw (a+b)=pw a*pw b
 |0,b=>by rw [Nat.zero_add];show _=1*pw b;omega
 |a+1,b=>by
  rw [show a+1+b=(a+b)+1 by omega];show 1000000000*pw (a+b)=1000000000*pw a*pw b;rw [pw_add a b,Int.mul_assoc]
theorem pw_mono {a b:Nat}(h:a<=b):pw a<=pw b:=by
 obtain⟨c,rfl⟩:∃c,b=a+c:=⟨b - a,by omega⟩;rw [pw_add];have h1:=pw_pos a;have h2:=pw_pos c;have:pw a*1<=pw a*pw c:=Int.mul_le_mul_of_nonneg_left (by omega) (by omega);omega
def val:List Int->Int
 | []=>0
 |d::t=>d+1000000000*val t
theorem val_append:∀a b:List Int,val (a++b)=val a+pw a.length*val b
 | [],b=>by show val b=0+1*val b;omega
 |d::t,b=>by
  show d+1000000000*val (t++b)=d+1000000000*val t+1000000000*pw t.length*val b;rw [val_append t b]
  grind
theorem val_zeros:∀k,val (List.replicate k 0)=0
 |0=>rfl
 |k+1=>by rw [List.replicate_succ];show 0+1000000000*val (List.replicate k 0)=0;rw [val_zeros k];rfl
theorem iat_cons_zero (d:Int)(t:List Int):iat (d::t) 0=d:=rfl
theorem iat_cons_succ (d:Int)(t:List Int)(i:Nat):iat (d::t) (i+1)=iat t i:=rfl
theorem iat_ge {l:List Int}{i:Nat}(h:l.length<=i):iat l i=0:=by simp [iat,List.getD_eq_getElem?_getD,List.getElem?_eq_none h]
theorem iat_set (l:List Int)(i j:Nat)(v:Int)(h:i<l.length):iat (l.set i v) j=if i=j then v else iat l j:=by
 unfold iat;simp only [List.getD_eq_getElem?_getD,List.getElem?_set];by_cases e:i=j
 ·subst e;simp [h]
 ·simp [e]
theorem iat_take (l:List Int)(k j:Nat):iat (l.take k) j=if j<k then iat l j else 0:=by
 unfold iat;simp only [List.getD_eq_getElem?_getD,List.getElem?_take];by_cases h:j<k<;>simp [h]
theorem iat_drop (l:List Int)(k j:Nat):iat (l.drop k) j=iat l (k+j):=by
 unfold iat;simp [List.getD_eq_getElem?_getD]
theorem iat_append (a b:List Int)(j:Nat):iat (a++b) j=if j<a.length then iat a j else iat b (j - a.length):=by
 unfold iat;simp only [List.getD_eq_getElem?_getD,List.getElem?_append];by_cases h:j<a.length<;>simp [h]
theorem iat_zeros (k j:Nat):iat (List.replicate k 0) j=0:=by
 unfold iat;simp only [List.getD_eq_getElem?_getD,List.getElem?_replicate];by_cases h:j<k<;>simp [h]
theorem val_set:∀(l:List Int) (i:Nat) (v:Int),i<l.length->val (l.set i v)=val l+pw i*(v - iat l i)
 | [],_,_,h=>by simp at h
 |d::t,0,v,_=>by
  show v+1000000000*val t=d+1000000000*val t+1*(v - d);omega
 |d::t,i+1,v,h=>by
  show d+1000000000*val (t.set i v)=d+1000000000*val t+1000000000*pw i*(v - iat t i);rw [val_set t i v (by simpa using h)]
  grind
theorem take_succ (l:List Int)(k:Nat)(h:k<l.length):l.take (k+1)=l.take k++ [iat l k]:=by
 rw [List.take_succ_eq_append_getElem h];simp [iat,h]
theorem val_take (l:List Int)(k:Nat)(h:k<l.length):val (l.take (k+1))=val (l.take k)+pw k*iat l k:=by
 rw [take_succ l k h,val_append,List.length_take,Nat.min_eq_left (by omega)];show _+pw k*(iat l k+1000000000*0)=_;simp
theorem val_drop (l:List Int)(k:Nat)(h:k<l.length):val (l.drop k)=iat l k+1000000000*val (l.drop (k+1)):=by
 rw [List.drop_eq_getElem_cons h];simp [val,iat,h]
theorem val_split (l:List Int)(k:Nat)(h:k<=l.length):val l=val (l.take k)+pw k*val (l.drop k):=by
 have:=val_append (l.take k) (l.drop k);rw [List.take_append_drop,List.length_take,Nat.min_eq_left h] at this;exact this
def Dg (l:List Int):Prop:=∀i,i<l.length->0<=iat l i/\iat l i<1000000000
theorem Dg_nil:Dg []:=fun i h=>by simp at h
theorem Dg.tail {d:Int}{t:List Int}(h:Dg (d::t)):Dg t:=fun i hi=>by
 have:=h (i+1) (by simpa using hi);exact this
theorem Dg.head {d:Int}{t:List Int}(h:Dg (d::t)):0<=d/\d<1000000000:=h 0 (by simp)
theorem Dg_cons {d:Int}{t:List Int}(h0:0<=d)(h1:d<1000000000)(h:Dg t):Dg (d::t)
 |0,_=>⟨h0,h1⟩
 |i+1,hi=>h i (by simpa using hi)
theorem Dg.all {l:List Int}(h:Dg l)(i:Nat):0<=iat l i/\iat l i<1000000000:=by
 rcases Nat.lt_or_ge i l.length with hi|hi
 ·exact h i hi
 ·rw [iat_ge hi];omega
theorem Dg.take {l:List Int}(h:Dg l)(k:Nat):Dg (l.take k):=fun i hi=>by
 rw [List.length_take] at hi;rw [iat_take,if_pos (by omega)];exact h i (by omega)
theorem Dg.drop {l:List Int}(h:Dg l)(k:Nat):Dg (l.drop k):=fun i hi=>by
 rw [List.length_drop] at hi;rw [iat_drop];exact h _ (by omega)
theorem Dg_append {a b:List Int}(ha:Dg a)(hb:Dg b):Dg (a++b):=fun i hi=>by
 rw [iat_append];split
 ·exact ha i ‹_›
 ·exact hb.all _
theorem Dg_zeros (k:Nat):Dg (List.replicate k 0):=fun i _=>by rw [iat_zeros];omega
theorem Dg.set {l:List Int}(h:Dg l)(i:Nat)(v:Int)(hi:i<l.length)(h0:0<=v)(h1:v<1000000000):Dg (l.set i v):=fun j hj=>by
 rw [iat_set l i j v hi];split
 ·omega
 ·exact h.all j
theorem Dg.lo:∀{l:List Int},Dg l->0<=val l
 | [],_=>by decide
 |d::t,h=>by have:=h.head;have:=h.tail.lo;show 0<=d+1000000000*val t;omega
theorem Dg.hi:∀{l:List Int},Dg l->val l<pw l.length
 | [],_=>by decide
 |d::t,h=>by have:=h.head;have:=h.tail.hi;show d+1000000000*val t<1000000000*pw t.length;omega
def digs (n:Nat):List Int:=if h:n=0 then [] else((n % 1000000000:Nat):Int)::digs (n / 1000000000)
 termination_by n
 decreasing_by omega
theorem digs_zero:digs 0= []:=by unfold digs;rfl
theorem digs_pos {n:Nat}(h:n≠0):digs n=((n % 1000000000:Nat):Int)::digs (n / 1000000000):=by
 rw [digs];simp [h]
theorem val_digs (n:Nat):val (digs n)=n:=by
 induction n using Nat.strongRecOn with
 |_ n ih=>
  by_cases h:n=0
  ·subst h;rw [digs_zero];rfl
  ·rw [digs_pos h];show((n % 1000000000:Nat):Int)+1000000000*val (digs (n / 1000000000))=n;rw [ih _ (by omega)];omega
theorem Dg_digs (n:Nat):Dg (digs n):=by
 induction n using Nat.strongRecOn with
 |_ n ih=>
  by_cases h:n=0
  ·subst h;rw [digs_zero];exact Dg_nil
  ·rw [digs_pos h];exact Dg_cons (by omega) (by omega) (ih _ (by omega))
theorem digs_inj {a b:Nat}(h:digs a=digs b):a=b:=by
 have h1:=val_digs a;have h2:=val_digs b;rw [h] at h1;omega
def tlen:List Int->Nat
 | []=>0
 |d::t=>if tlen t=0 then(if d=0 then 0 else 1)else tlen t+1
theorem tlen_le:∀l,tlen l<=l.length
 | []=>Nat.le_refl _
 |d::t=>by
  have:=tlen_le t;unfold tlen;rw [List.length_cons];split
  ·split<;>omega
  ·omega
theorem digs_nil {n:Nat}:digs n= []↔n=0:=by
 constructor
 ·intro h;by_cases e:n=0
  ·exact e
  ·rw [digs_pos e] at h;cases h
 ·rintro rfl;exact digs_zero
theorem take_tlen:∀{l:List Int},Dg l->l.take (tlen l)=digs (val l).toNat
 | [],_=>by show []=digs (0:Int).toNat;exact digs_zero.symm
 |d::t,h=>by
  have ih:=take_tlen h.tail;have D:=h.head;have hv:=h.tail.lo;by_cases h0:tlen t=0
  ·rw [h0,List.take_zero] at ih;have hz:val t=0:=by have:=digs_nil.1 ih.symm;omega
   by_cases hd0:d=0
   ·subst hd0;have e:tlen (0::t)=0:=by simp [tlen,h0]
    rw [e];show []=digs (0+1000000000*val t).toNat;rw [hz];exact digs_zero.symm
   ·have e:tlen (d::t)=1:=by simp [tlen,h0,hd0]
    rw [e];show [d]=digs (d+1000000000*val t).toNat;rw [hz,digs_pos (by omega),show(d+1000000000*0).toNat / 1000000000=0 by omega,digs_zero]
    congr 1
    omega
  ·have e:tlen (d::t)=tlen t+1:=by simp [tlen,h0]
   rw [e,List.take_succ_cons,ih]
   have hnz:(val t).toNat≠0:=by
    intro hz;rw [hz,digs_zero] at ih;have:=congrArg List.length ih;rw [List.length_take,List.length_nil] at this;have:=tlen_le t;omega
   show d::_=digs (d+1000000000*val t).toNat;rw [digs_pos (n:=(d+1000000000*val t).toNat) (by omega),show(d+1000000000*val t).toNat / 1000000000=(val t).toNat by omega]
   congr 1
   omega
theorem tlen_of:∀(l:List Int) (n:Nat),n<=l.length->(∀i,n<=i->i<l.length->iat l i=0)->(n=0∨iat l (n - 1)≠0)->tlen l=n
 | [],n,h,_,_=>by simp at h;subst h;rfl
 |d::t,n,h,hz,hn=>by
  cases n with
  |zero=>
   have h1:=tlen_of t 0 (Nat.zero_le _) (fun i _ hi=>hz (i+1) (Nat.zero_le _) (by simpa using hi)) (.inl rfl);have h2:d=0:=hz 0 (Nat.le_refl _) (by simp);simp [tlen,h1,h2]
  |succ m=>
   have hm:=tlen_of t m (by simpa using h) (fun i hi hl=>hz (i+1) (by omega) (by simpa using hl)) (by
    rcases hn with hn|hn
    ·omega
    ·cases m with
     |zero=>exact .inl rfl
     |succ k=>exact .inr hn)
   rcases hn with hn|hn
   ·omega
   ·cases m with
    |zero=>
     have:d≠0:=hn;simp [tlen,hm,this]
    |succ k=>simp [tlen,hm]
theorem digs_top {n:Nat}(h:n≠0):iat (digs n) ((digs n).length - 1)≠0:=by
 induction n using Nat.strongRecOn with
 |_ n ih=>
  rw [digs_pos h];by_cases h2:n / 1000000000=0
  ·rw [h2,digs_zero];show((n % 1000000000:Nat):Int)≠0;omega
  ·have:=ih _ (by omega) h2;have hp:(digs (n / 1000000000)).length≠0:=fun e=>h2 (digs_nil.1 (List.eq_nil_of_length_eq_zero e))
   rw [List.length_cons,show(digs (n / 1000000000)).length+1 - 1=((digs (n / 1000000000)).length - 1)+1 by omega,iat_cons_succ];exact this
theorem tlen_digs (n:Nat):tlen (digs n)=(digs n).length:=
 tlen_of _ _ (Nat.le_refl _) (fun i h1 h2=>by omega) (by
  by_cases h:n=0
  ·subst h;left;rw [digs_zero];rfl
  ·right;exact digs_top h)
theorem val_top {x y:List Int}(hx:Dg x)(hy:Dg y)(hl:x.length=y.length)(k:Nat)(hk:k<x.length)(D:val (x.drop (k+1))=val (y.drop (k+1)))(hlt:iat x k<iat y k):val x<val y:=by
 rw [val_split x k (by omega),val_split y k (by omega),val_drop x k hk,val_drop y k (by omega),D];have h1:=(hx.take k).hi;have h2:=(hy.take k).lo;rw [List.length_take,Nat.min_eq_left (by omega)] at h1;have hp:=pw_pos k;generalize val (y.drop (k+1))=T at*
 generalize val (x.take k)=X at*
 generalize val (y.take k)=Y at*
 generalize iat x k=a at*
 generalize iat y k=b at*
 have:pw k*(a+1+1000000000*T)<=pw k*(b+1000000000*T):=Int.mul_le_mul_of_nonneg_left (by omega) (by omega);have e:pw k*(a+1+1000000000*T)=pw k*(a+1000000000*T)+pw k:=by grind
 omega
theorem digs_len_lt {a b:Nat}(h:(digs a).length<(digs b).length):a<b:=by
 have h1:=(Dg_digs a).hi;have hb:b≠0:=by rintro rfl;rw [digs_zero] at h;simp at h
 have h2:=digs_top hb;have h3:=(Dg_digs b).all ((digs b).length - 1);have h4:=val_split (digs b) ((digs b).length - 1) (by omega);have h5:=((Dg_digs b).take ((digs b).length - 1)).lo;have h6:=val_drop (digs b) ((digs b).length - 1) (by omega);rw [show(digs b).length - 1+1=(digs b).length by omega,List.drop_length] at h6;rw [h6] at h4;simp only [val,Int.mul_zero,Int.add_zero] at h4;have h7:=pw_mono (show(digs a).length<=(digs b).length - 1 by omega);have h8:=pw_pos ((digs b).length - 1);rw [val_digs] at h1 h4;have:pw ((digs b).length - 1)*1<=pw ((digs b).length - 1)*iat (digs b) ((digs b).length - 1):=Int.mul_le_mul_of_nonneg_left (by omega) (by omega);omega
theorem digs_len_mono {a b:Nat}(h:a<=b):(digs a).length<=(digs b).length:=by
 rcases Nat.lt_or_ge (digs b).length (digs a).length with h1|h1
 ·have:=digs_len_lt h1;omega
 ·exact h1
theorem digs_len_le {n k:Nat}(h:(n:Int)<pw k):(digs n).length<=k:=by
 induction k generalizing n with
 |zero=>
  have:n=0:=by have:(n:Int)<1:=h;omega
  subst this;rw [digs_zero];exact Nat.le_refl _
 |succ k ih=>
  by_cases e:n=0
  ·subst e;rw [digs_zero];exact Nat.zero_le _
  ·rw [digs_pos e,List.length_cons];have:(n:Int)<1000000000*pw k:=h;have:=ih (n:=n / 1000000000) (by omega);omega
theorem lt_pw (n:Nat):(n:Int)<pw (digs n).length:=by have:=(Dg_digs n).hi;rwa [val_digs] at this
theorem digs_val {l:List Int}(h:Dg l)(ht:tlen l=l.length):digs (val l).toNat=l:=by
 rw [<-take_tlen h,ht,List.take_length]
def cpy (l:List Int)(n:Nat):List Int:=l.take n++List.replicate (n - l.length) 0
theorem cpy_length (l:List Int)(n:Nat):(cpy l n).length=n:=by simp [cpy];omega
theorem iat_cpy (l:List Int)(n j:Nat)(h:j<n∨l.length<=n):iat (cpy l n) j=iat l j:=by
 unfold cpy;rw [iat_append,List.length_take];split
 ·rw [iat_take,if_pos (by omega)]
 ·rw [iat_zeros,iat_ge (by omega)]
theorem val_cpy (l:List Int)(n:Nat)(h:l.length<=n):val (cpy l n)=val l:=by
 unfold cpy;rw [List.take_of_length_le h,val_append,val_zeros];omega
theorem cpy_self (l:List Int):cpy l l.length=l:=by simp [cpy]
structure SumA (l m:List Int)(k:Nat)(z:List Int):Prop where
 len:z.length=l.length+1
 sum:val z=val l+val (m.take k)
 at_:∀j,iat z j=iat l j+if j<k then iat m j else 0
theorem SumA.start (l m:List Int):SumA l m 0 (cpy l (l.length+1)):=
 ⟨cpy_length _ _,by rw [val_cpy _ _ (by omega),List.take_zero];show val l=val l+0;omega,fun j=>by rw [iat_cpy _ _ _ (by omega)];simp⟩
theorem SumA.next {l m z:List Int}{k:Nat}(h:SumA l m k z)(hk:k<m.length)(hm:m.length<=l.length):SumA l m (k+1) (z.set k (iat z k+iat m k)):=by
 have hl:k<z.length:=by rw [h.len];omega
 refine⟨by rw [List.length_set];exact h.len,?_,fun j=>?_⟩
 ·rw [val_set _ _ _ hl,h.sum,val_take _ _ hk,show iat z k+iat m k - iat z k=iat m k by omega];omega
 ·rw [iat_set _ _ _ _ hl];by_cases e:k=j
  ·subst e;rw [if_pos rfl,h.at_ k,if_neg (by omega),if_pos (by omega)];omega
  ·rw [if_neg e,h.at_ j];by_cases e2:j<k
   ·rw [if_pos e2,if_pos (by omega)]
   ·rw [if_neg e2,if_neg (by omega)]
structure SumB (n:Nat)(s:Int)(k:Nat)(z:List Int):Prop where
 len:z.length=n+1
 sum:val z=s
 lo:∀j,0<=iat z j
 hi:∀j,j<k->iat z j<1000000000
 up:∀j,k<=j->iat z j<=(if j<n then 1999999998 else 0)+if j=k then 1 else 0
theorem SumA.done {l m z:List Int}(h:SumA l m m.length z)(hl:Dg l)(hm:Dg m)(hle:m.length<=l.length):SumB l.length (val l+val m) 0 z:=by
 refine⟨h.len,by rw [h.sum,List.take_length],fun j=>?_,fun j hj=>by omega,fun j _=>?_⟩
 ·have h1:=hl.all j;have h2:=hm.all j;rw [h.at_ j];split<;>omega
 ·have h1:=hl.all j;have h2:=hm.all j;rw [h.at_ j];by_cases e:j<l.length
  ·rw [if_pos e];repeat (first|split|omega)
  ·rw [if_neg e,iat_ge (l:=l) (by omega),if_neg (by omega)];split<;>omega
theorem SumB.keep {n k:Nat}{s:Int}{z:List Int}(h:SumB n s k z)(hz:iat z k<1000000000):SumB n s (k+1) z:=
 ⟨h.len,h.sum,h.lo,fun j hj=>by
  rcases Nat.lt_or_ge j k with e|e
  ·exact h.hi j e
  ·rw [show j=k by omega];exact hz,fun j hj=>by
  have:=h.up j (by omega);rw [if_neg (show ¬j=k by omega)] at this
  split<;>omega⟩
theorem SumB.carry {n k:Nat}{s:Int}{z:List Int}(h:SumB n s k z)(hk:k<n)(hz:1000000000<=iat z k):SumB n s (k+1) ((z.set k (iat z k - 1000000000)).set (k+1) (iat z (k+1)+1)):=by
 have hl:k<z.length:=by rw [h.len];omega
 have hl2:k+1<(z.set k (iat z k - 1000000000)).length:=by rw [List.length_set,h.len];omega
 have hz2:=h.up k (Nat.le_refl _);rw [if_pos hk,if_pos rfl] at hz2;have e1:iat (z.set k (iat z k - 1000000000)) (k+1)=iat z (k+1):=by rw [iat_set _ _ _ _ hl,if_neg (by omega)]
 refine⟨by rw [List.length_set,List.length_set];exact h.len,?_,fun j=>?_,fun j hj=>?_,fun j hj=>?_⟩
 ·rw [val_set _ _ _ hl2,val_set _ _ _ hl,e1,h.sum];show s+pw k*_+1000000000*pw k*_=s
  grind
 ·rw [iat_set _ _ _ _ hl2];split
  ·have:=h.lo (k+1);omega
  ·rw [iat_set _ _ _ _ hl];split
   ·omega
   ·exact h.lo j
 ·rw [iat_set _ _ _ _ hl2,if_neg (by omega),iat_set _ _ _ _ hl];split
  ·omega
  ·exact h.hi j (by omega)
 ·have h3:=h.up j (by omega);rw [if_neg (show ¬j=k by omega)] at h3;rw [iat_set _ _ _ _ hl2];by_cases e:k+1=j
  ·subst e;rw [if_pos rfl,if_pos rfl];omega
  ·rw [if_neg e,iat_set _ _ _ _ hl,if_neg (by omega),if_neg (show ¬j=k+1 by omega)];omega
theorem SumB.done {n:Nat}{s:Int}{z:List Int}(h:SumB n s n z):Dg z:=fun j hj=>by
 refine⟨h.lo j,?_⟩;rcases Nat.lt_or_ge j n with e|e
 ·exact h.hi j e
 ·have:=h.up j e;rw [if_neg (by omega)] at this;split at this<;>omega
theorem SumB.top {n k:Nat}{s:Int}{z:List Int}(h:SumB n s k z)(j:Nat): -1999999999<=iat z j/\iat z j<=1999999999:=by
 have h1:=h.lo j;rcases Nat.lt_or_ge j k with e|e
 ·have:=h.hi j e;omega
 ·have:=h.up j e;repeat (first|split at this|omega)
structure DifA (l m:List Int)(k:Nat)(z:List Int):Prop where
 len:z.length=l.length
 sum:val z=val l - val (m.take k)
 at_:∀j,iat z j=iat l j - if j<k then iat m j else 0
theorem DifA.start (l m:List Int):DifA l m 0 l:=
 ⟨rfl,by rw [List.take_zero];show val l=val l - 0;omega,fun j=>by simp⟩
theorem DifA.next {l m z:List Int}{k:Nat}(h:DifA l m k z)(hk:k<m.length)(hm:m.length<=l.length):DifA l m (k+1) (z.set k (iat z k - iat m k)):=by
 have hl:k<z.length:=by rw [h.len];omega
 refine⟨by rw [List.length_set];exact h.len,?_,fun j=>?_⟩
 ·rw [val_set _ _ _ hl,h.sum,val_take _ _ hk,show iat z k - iat m k - iat z k= - iat m k by omega,Int.mul_neg];omega
 ·rw [iat_set _ _ _ _ hl];by_cases e:k=j
  ·subst e;rw [if_pos rfl,h.at_ k,if_neg (by omega),if_pos (by omega)];omega
  ·rw [if_neg e,h.at_ j];by_cases e2:j<k
   ·rw [if_pos e2,if_pos (by omega)]
   ·rw [if_neg e2,if_neg (by omega)]
structure DifB (n:Nat)(s:Int)(k:Nat)(z:List Int):Prop where
 len:z.length=n
 sum:val z=s
 lo:∀j,j<k->0<=iat z j
 hi:∀j,iat z j<1000000000
 up:∀j,k<=j-> -999999999 - (if j=k then 1 else 0)<=iat z j
theorem DifA.done {l m z:List Int}(h:DifA l m m.length z)(hl:Dg l)(hm:Dg m):DifB l.length (val l - val m) 0 z:=by
 refine⟨h.len,by rw [h.sum,List.take_length],fun j hj=>by omega,fun j=>?_,fun j _=>?_⟩
 ·have h1:=hl.all j;have h2:=hm.all j;rw [h.at_ j];split<;>omega
 ·have h1:=hl.all j;have h2:=hm.all j;rw [h.at_ j];repeat (first|split|omega)
theorem DifB.keep {n k:Nat}{s:Int}{z:List Int}(h:DifB n s k z)(hz:0<=iat z k):DifB n s (k+1) z:=
 ⟨h.len,h.sum,fun j hj=>by
  rcases Nat.lt_or_ge j k with e|e
  ·exact h.lo j e
  ·rw [show j=k by omega];exact hz,h.hi,fun j hj=>by
  have:=h.up j (by omega);rw [if_neg (show ¬j=k by omega)] at this
  split<;>omega⟩
theorem DifB.last {n k:Nat}{s:Int}{z:List Int}(h:DifB n s k z)(hs:0<=s)(hk:k<n)(hz:iat z k<0):k+1<n:=by
 rcases Nat.lt_or_ge (k+1) n with e|e
 ·exact e
 ·have e1:=val_split z k (by rw [h.len];omega);rw [val_drop z k (by rw [h.len];omega),List.drop_of_length_le (by rw [h.len];omega),h.sum] at e1
  have D:Dg (z.take k):=fun j hj=>by
   rw [List.length_take] at hj;rw [iat_take,if_pos (by omega)];exact⟨h.lo j (by omega),h.hi j⟩
  have h2:=D.hi;rw [List.length_take,Nat.min_eq_left (by rw [h.len];omega)] at h2;have hp:=pw_pos k;simp only [val] at e1;have:pw k*iat z k<=pw k*(-1):=Int.mul_le_mul_of_nonneg_left (by omega) (by omega);have:iat z k+1000000000*0=iat z k:=by omega
  rw [this] at e1;omega
theorem DifB.carry {n k:Nat}{s:Int}{z:List Int}(h:DifB n s k z)(hk:k+1<n)(hz:iat z k<0):DifB n s (k+1) ((z.set k (iat z k+1000000000)).set (k+1) (iat z (k+1) - 1)):=by
 have hl:k<z.length:=by rw [h.len];omega
 have hl2:k+1<(z.set k (iat z k+1000000000)).length:=by rw [List.length_set,h.len];omega
 have hz2:=h.up k (Nat.le_refl _);rw [if_pos rfl] at hz2;have e1:iat (z.set k (iat z k+1000000000)) (k+1)=iat z (k+1):=by rw [iat_set _ _ _ _ hl,if_neg (by omega)]
 refine⟨by rw [List.length_set,List.length_set];exact h.len,?_,fun j hj=>?_,fun j=>?_,fun j hj=>?_⟩
 ·rw [val_set _ _ _ hl2,val_set _ _ _ hl,e1,h.sum];show s+pw k*_+1000000000*pw k*_=s
  grind
 ·rw [iat_set _ _ _ _ hl2,if_neg (by omega),iat_set _ _ _ _ hl];split
  ·omega
  ·exact h.lo j (by omega)
 ·rw [iat_set _ _ _ _ hl2];split
  ·have:=h.hi (k+1);omega
  ·rw [iat_set _ _ _ _ hl];split
   ·omega
   ·exact h.hi j
 ·have h3:=h.up j (by omega);rw [if_neg (show ¬j=k by omega)] at h3;rw [iat_set _ _ _ _ hl2];by_cases e:k+1=j
  ·subst e;rw [if_pos rfl,if_pos rfl];omega
  ·rw [if_neg e,iat_set _ _ _ _ hl,if_neg (show ¬k=j by omega),if_neg (show ¬j=k+1 by omega)];omega
theorem DifB.done {n:Nat}{s:Int}{z:List Int}(h:DifB n s n z):Dg z:=fun j hj=>⟨h.lo j (by rw [<-h.len];exact hj),h.hi j⟩
theorem DifB.top {n k:Nat}{s:Int}{z:List Int}(h:DifB n s k z)(j:Nat): -1000000000<=iat z j/\iat z j<=999999999:=by
 have h1:=h.hi j;rcases Nat.lt_or_ge j k with e|e
 ·have:=h.lo j e;omega
 ·have:=h.up j e;repeat (first|split at this|omega)
structure MulA (l m:List Int)(i:Nat)(z:List Int):Prop where
 len:z.length=l.length+m.length
 dg:Dg z
 sum:val z=val (l.take i)*val m
 zero:∀j,i+m.length<=j->iat z j=0
theorem MulA.start (l m:List Int):MulA l m 0 (List.replicate (l.length+m.length) 0):=
 ⟨by simp,Dg_zeros _,by rw [val_zeros,List.take_zero];show 0=0*_;omega,fun j _=>iat_zeros _ _⟩
structure MulB (l m:List Int)(i j:Nat)(over:Int)(z:List Int):Prop where
 len:z.length=l.length+m.length
 dg:Dg z
 sum:val z+pw (i+j)*over=val (l.take i)*val m+pw i*(iat l i*val (m.take j))
 zero:∀k,i+m.length<=k->iat z k=0
 lo:0<=over
 hi:over<1000000000
theorem MulA.row {l m z:List Int}{i:Nat}(h:MulA l m i z):MulB l m i 0 0 z:=
 ⟨h.len,h.dg,by rw [h.sum,List.take_zero];simp [val],h.zero,by omega,by omega⟩
theorem mul_digit {a b c d:Int}(ha:0<=a)(ha2:a<1000000000)(hb:0<=b)(hb2:b<1000000000)(hc:0<=c)(hc2:c<1000000000)(D:0<=d)(hd2:d<1000000000):0<=a*b/\a*b<=999999998000000001/\0<=a*b+c+d/\a*b+c+d<1000000000000000000:=by
 have h1:0<=a*b:=Int.mul_nonneg ha hb;have h2:a*b<=999999999*b:=Int.mul_le_mul_of_nonneg_right (by omega) hb;omega
theorem MulB.next {l m z:List Int}{i j:Nat}{over:Int}(h:MulB l m i j over z)(hi:i<l.length)(hj:j<m.length)(ha:0<=iat l i)(ha2:iat l i<1000000000)(hm:Dg m):
 MulB l m i (j+1) ((iat l i*iat m j+iat z (i+j)+over) / 1000000000) (z.set (i+j) ((iat l i*iat m j+iat z (i+j)+over) % 1000000000)):=by
 have hl:i+j<z.length:=by rw [h.len];omega
 have hb:=hm.all j;have hc:=h.dg.all (i+j);have ht:=mul_digit ha ha2 hb.1 hb.2 hc.1 hc.2 h.lo h.hi;have hs:=h.sum;generalize ht':iat l i*iat m j+iat z (i+j)+over=t at*
 refine⟨by rw [List.length_set];exact h.len,h.dg.set _ _ hl (by omega) (by omega),?_,fun k hk=>?_,by omega,by omega⟩
 ·rw [val_set _ _ _ hl,val_take _ _ hj];have e:=Int.mul_ediv_add_emod t 1000000000;show _+1000000000*pw (i+j)*_=_;rw [pw_add] at*
  grind
 ·rw [iat_set _ _ _ _ hl,if_neg (by omega)];exact h.zero k hk
theorem MulB.done {l m z:List Int}{i:Nat}{over:Int}(h:MulB l m i m.length over z)(hi:i<l.length):MulA l m (i+1) (z.set (i+m.length) over):=by
 have hl:i+m.length<z.length:=by rw [h.len];omega
 refine⟨by rw [List.length_set];exact h.len,h.dg.set _ _ hl h.lo h.hi,?_,fun j hj=>?_⟩
 ·have hs:=h.sum;rw [List.take_length] at hs;rw [val_set _ _ _ hl,h.zero _ (Nat.le_refl _),val_take _ _ hi,Int.sub_zero,hs]
  grind
 ·rw [iat_set _ _ _ _ hl,if_neg (by omega)];exact h.zero j (by omega)
structure DivA (l:List Int)(y:Int)(k:Nat)(r:Int)(q:List Int):Prop where
 len:q.length=l.length
 dg:Dg q
 sum:val (l.drop k)=y*val (q.drop k)+r
 lo:0<=r
 hi:r<y
theorem DivA.start (l:List Int)(y:Int)(hy:0<y):DivA l y l.length 0 (List.replicate l.length 0):=
 ⟨by simp,Dg_zeros _,by rw [List.drop_length,List.drop_of_length_le (by simp)];simp [val],by omega,hy⟩
theorem drop_set (q:List Int)(k j:Nat)(v:Int)(h:k<j):(q.set k v).drop j=q.drop j:=by
 apply List.ext_getElem?;intro i;simp only [List.getElem?_drop,List.getElem?_set];rw [if_neg (by omega)]
theorem DivA.next {l q:List Int}{y r:Int}{k:Nat}(h:DivA l y (k+1) r q)(hk:k<l.length)(hl:Dg l)(hy:y<=1000000000):DivA l y k ((r*1000000000+iat l k) % y) (q.set k ((r*1000000000+iat l k) / y)):=by
 have hq:k<q.length:=by rw [h.len];exact hk
 have D:=hl.all k;have h1:=h.lo;have h2:=h.hi;have ht:0<=r*1000000000+iat l k:=by omega
 have hlt:r*1000000000+iat l k<1000000000*y:=by omega
 have hs:=h.sum;generalize ht':r*1000000000+iat l k=t at*
 refine⟨by rw [List.length_set];exact h.len,h.dg.set _ _ hq (Int.ediv_nonneg ht (by omega)) (Int.ediv_lt_of_lt_mul (by omega) hlt),?_,Int.emod_nonneg _ (by omega),Int.emod_lt_of_pos _ (by omega)⟩;rw [val_drop l k hk,val_drop _ k (by rw [List.length_set];exact hq),drop_set _ _ _ _ (by omega),iat_set _ _ _ _ hq,if_pos rfl,hs];have e:=Int.mul_ediv_add_emod t y;have e2:y*(t / y+1000000000*val (q.drop (k+1)))+t % y=(y*(t / y)+t % y)+1000000000*(y*val (q.drop (k+1))):=by grind
 rw [e2,e,<-ht'];omega
theorem DivA.done {l q:List Int}{y r:Int}(h:DivA l y 0 r q):val l=y*val q+r:=h.sum
def cmpI (a b:Int):Int:=if a<b then -1 else if b<a then 1 else 0
theorem heap_setCell_self (w:World)(B i:Nat)(c:Array Value)(T:TypeId)(u:Value)(h:w.heap[B]? =some (.cells c T (0,0))):(w.setCell ⟨B,i,none⟩ u).heap[B]? =some (.cells (c.setIfInBounds i u) T (0,0)):=by
 simp [World.setCell,Array.getElem?_modify,h]
def zvs (l:List Int):List Value:=l.map (Value.int .i64)
theorem zvs_length (l:List Int):(zvs l).length=l.length:=by simp [zvs]
theorem zvs_get {l:List Int}{i:Nat}(h:i<l.length):(zvs l).toArray[i]? =some (.int .i64 (iat l i)):=by simp [zvs,iat,h]
theorem zvs_set (l:List Int)(i:Nat)(x:Int):(zvs l).toArray.setIfInBounds i (.int .i64 x)=(zvs (l.set i x)).toArray:=by
 apply Array.toList_inj.1;simp [zvs]
theorem zvs_one (l:List Int):∀u∈zvs l,u.oneCell'=true:=by
 intro u hu;simp only [zvs,List.mem_map] at hu;obtain⟨b,_,rfl⟩:=hu;rfl
theorem zvs_zeros (n:Nat):madeCells #[Value.int .i64 0] n=(zvs (List.replicate n 0)).toArray:=by
 apply Array.ext_getElem?;intro i;by_cases h:i<n<;>simp [zvs,madeCells,h,Nat.mod_one]
def Rdi (w:World)(a:Option Addr)(l:List Int):Prop:=
 l= []∨∃b off,a=some ⟨b,off,none⟩/\∀i,i<l.length->w.cell? ⟨b,off+i,none⟩=some (.int .i64 (iat l i))
theorem Rdi_at {w:World}{a:Option Addr}{l:List Int}(h:Rdi w a l)(k:Nat)(hk:k<l.length):∃b off,a=some ⟨b,off,none⟩/\w.cell? ⟨b,off+k,none⟩=some (.int .i64 (iat l k)):=by
 rcases h with rfl|⟨b,off,rfl,hc⟩
 ·simp at hk
 ·exact⟨b,off,rfl,hc k hk⟩
theorem Below.cell_of' {w w':World}{p:Addr}{v:Value}(h:Below w.heap.size w w')(hc:w.cell? p=some v):w'.cell? p=some v:=
 (h.cell (World.block_lt_of_cell? w p hc)).trans hc
theorem Rdi_below {w wr:World}{a:Option Addr}{l:List Int}(h:Below w.heap.size w wr)(hR:Rdi w a l):Rdi wr a l:=by
 rcases hR with rfl|⟨b,off,rfl,hc⟩
 ·exact .inl rfl
 ·exact .inr ⟨b,off,rfl,fun i hi=>Below.cell_of' h (hc i hi)⟩
theorem Rdi_take {w:World}{a:Option Addr}{l:List Int}(h:Rdi w a l)(k:Nat):Rdi w a (l.take k):=by
 rcases h with rfl|⟨b,off,rfl,hc⟩
 ·exact .inl (by simp)
 ·refine .inr ⟨b,off,rfl,fun i hi=>?_⟩;rw [List.length_take] at hi;rw [iat_take,if_pos (by omega)];exact hc i (by omega)
theorem Rdi_news {w:World}{b off:Nat}{l:List Int}(hc:∀i,i<l.length->w.cell? ⟨b,off+i,none⟩=some (.int .i64 (iat l i))):∀j u,(zvs l)[j]? =some u->w.cell? ((⟨b,off,none⟩:Addr).add j)=some u:=by
 intro j u hu;have ha:(⟨b,off,none⟩:Addr).add j=⟨b,off+j,none⟩:=by unfold Addr.add;split<;>simp_all
 have hj:j<l.length:=by
  rcases Nat.lt_or_ge j l.length with h|h
  ·exact h
  ·rw [List.getElem?_eq_none (by simpa [zvs] using h)] at hu;cases hu
 rw [ha,hc j hj,<-hu];simp [zvs,iat,hj]
def Blk (w:World)(g:Nat)(l:List Int):Prop:=w.heap[g]? =some (.cells (zvs l).toArray 3 (0,0))
theorem Blk.cell {w:World}{g i:Nat}{l:List Int}(h:Blk w g l)(hi:i<l.length):w.cell? ⟨g,i,none⟩=some (.int .i64 (iat l i)):=by
 unfold Blk at h;simp [World.cell?,h,<-zvs_get hi]
theorem Blk.free {w:World}{g:Nat}{l:List Int}(h:Blk w g l)(i:Nat):w.frozen? ⟨g,i,none⟩=false:=by
 unfold Blk at h;simp [World.frozen?,h]
theorem Blk.set {w:World}{g:Nat}{l:List Int}(h:Blk w g l)(i:Nat)(v:Int):Blk (w.setCell ⟨g,i,none⟩ (.int .i64 v)) g (l.set i v):=by
 unfold Blk at*
 rw [heap_setCell_self _ _ _ _ _ _ h,zvs_set]
theorem Blk.other {w:World}{g k i:Nat}{l:List Int}{v:Value}(h:Blk w g l)(hk:g≠k):Blk (w.setCell ⟨k,i,none⟩ v) g l:=by
 unfold Blk at*
 rw [<-h];exact heap_setCell_other w _ g v hk
theorem Blk.lt {w:World}{g:Nat}{l:List Int}(h:Blk w g l):g<w.heap.size:=by
 rcases Nat.lt_or_ge g w.heap.size with h1|h1
 ·exact h1
 ·unfold Blk at h;rw [Array.getElem?_eq_none h1] at h;cases h
theorem Blk.below {B:Nat}{w w':World}{g:Nat}{l:List Int}(h:Blk w g l)(hb:Below B w w')(hg:g<B):Blk w' g l:=(hb.block g hg).trans h
theorem Blk.later {w w':World}{g:Nat}{l:List Int}(h:Blk w g l)(hb:Below w.heap.size w w'):Blk w' g l:=h.below hb h.lt
theorem Blk.rdi {w:World}{g:Nat}{l:List Int}(h:Blk w g l):Rdi w (some ⟨g,0,none⟩) l:=
 .inr ⟨g,0,rfl,fun i hi=>by rw [Nat.zero_add];exact h.cell hi⟩
theorem Blk.drewN {w:World}{g:Nat}{l:List Int}(h:Blk w g l)(q:Nat):Blk (w.drewN q) g l:=h
theorem Blk_new (w:World)(l:List Int):Blk (w.alloc (.cells (zvs l).toArray 3)) w.heap.size l:=heap_alloc_new _ _
theorem below_tr {a b c:World}(h1:Below a.heap.size a b)(h2:Below b.heap.size b c):Below a.heap.size a c:=h1.trans (h2.mono h1.size)
theorem below_drewN {B:Nat}{w wr:World}(h:Below B w wr)(q:Nat):Below B w (wr.drewN q):=⟨h.os,h.tape,h.output,h.size,h.block⟩
theorem below_new (w:World)(o:Obj):Below w.heap.size w (w.alloc o):=(Below.refl _ _).alloc (Nat.le_refl _) _
def NewN (w:World)(n:Nat)(P:List Int->Prop)(e:Ending)(w':World):Prop:=
 ∃g l,e= .returned (.slice (some ⟨g,0,none⟩) n n)/\w.heap.size<=g/\Blk w' g l/\Below w.heap.size w w'/\l.length=n/\P l
def NewI (w:World)(P:List Int->Prop)(e:Ending)(w':World):Prop:=
 ∃g n l,e= .returned (.slice (some ⟨g,0,none⟩) n n)/\w.heap.size<=g/\Blk w' g l/\Below w.heap.size w w'/\l.length=n/\P l
theorem info_i64:(Tryz.prog.info? 3).map (fun i=>(i.zero,i.size,i.bytes))=some (some (.int .i64 0),1,8):=by kernel_rfl
theorem size_i64:(Tryz.prog.info? 3).map (·.size)=some 1:=by kernel_rfl
def IntAt (w:World)(nb:Bool)(p:Option Addr)(n c:Nat)(z:Int):Prop:=nb=decide (z<0)/\n=(digs z.natAbs).length/\Rdi w p (digs z.natAbs)/\n<=c/\c<=9223372036854775807
theorem IntAt.later {w w':World}{nb:Bool}{p:Option Addr}{n c:Nat}{z:Int}(h:IntAt w nb p n c z)(hb:Below w.heap.size w w'):IntAt w' nb p n c z:=
 ⟨h.1,h.2.1,Rdi_below hb h.2.2.1,h.2.2.2⟩
theorem IntAt.drewN {w:World}{nb:Bool}{p:Option Addr}{n c:Nat}{z:Int}(h:IntAt w nb p n c z)(q:Nat):IntAt (w.drewN q) nb p n c z:=h
theorem IntAt_zero (w:World)(p:Option Addr)(c:Nat)(hc:c<=9223372036854775807):IntAt w false p 0 c 0:=by
 have h:digs (0:Int).natAbs= []:=digs_zero;exact⟨rfl,by rw [h];rfl,by rw [h];exact .inl rfl,Nat.zero_le _,hc⟩
def IntZ (w:World)(nb:Bool)(p:Option Addr)(n c:Nat)(z:Int):Prop:=(z≠0->nb=decide (z<0))/\n=(digs z.natAbs).length/\Rdi w p (digs z.natAbs)/\n<=c/\c<=9223372036854775807
theorem IntAt.z {w:World}{nb:Bool}{p:Option Addr}{n c:Nat}{z:Int}(h:IntAt w nb p n c z):IntZ w nb p n c z:=⟨fun _=>h.1,h.2⟩
def RetF (fr:Addr->Prop)(w:World)(z:Int)(e:Ending)(w':World):Prop:=∃nb p n c,e= .returned (.agg #[.bool nb,.slice p n c])/\IntAt w' nb p n c z/\Below w.heap.size w w'/\∀q,p=some q->fr q
def RetI (w:World)(z:Int)(e:Ending)(w':World):Prop:=RetF (fun q=>w.heap.size<=q.block) w z e w'
theorem Rdi_store {w:World}{a:Option Addr}{l:List Int}{B i:Nat}{v:Value}(h:Rdi w a l)(hB:∀q,a=some q->q.block≠B):Rdi (w.setCell ⟨B,i,none⟩ v) a l:=by
 rcases h with rfl|⟨b,off,rfl,hc⟩
 ·exact .inl rfl
 ·refine .inr ⟨b,off,rfl,fun j hj=>?_⟩;have hb:=hB _ rfl;have:=World.cell?_of_block (w:=w) (w':=w.setCell ⟨B,i,none⟩ v) (a:=⟨b,off+j,none⟩) (Below.heap_setCell _ _ _ _ hb);rw [this];exact hc j hj
theorem IntAt.store {w:World}{nb:Bool}{p:Option Addr}{n c:Nat}{z:Int}{B i:Nat}{v:Value}(h:IntAt w nb p n c z)(hB:∀q,p=some q->q.block≠B):IntAt (w.setCell ⟨B,i,none⟩ v) nb p n c z:=
 ⟨h.1,h.2.1,Rdi_store h.2.2.1 hB,h.2.2.2⟩
def sg (neg:Bool)(n:Int):Int:=if neg then -n else n
theorem isNaN_any (a:Int)(w:World):Calls Tryz.prog 111 #[.int .i64 a] w fun e w'=>e= .returned (.bool false)/\w=w':=by
 go_enter Tryz.func111,Tryz.ntmps111
 go_wp2
 go_ret
 exact⟨rfl,rfl⟩
theorem cmp_any (a b:Int)(w:World):Calls Tryz.prog 71 #[.int .i64 a,.int .i64 b] w fun e w'=>e= .returned (.int .i64 (cmpI a b))/\w=w':=by
 by_cases h1:a<b
 ·have hr:Hid (cmpI a b= -1):=hIq (by unfold cmpI;rw [if_pos h1])
  go_enter Tryz.func71,Tryz.ntmps71
  go_wp2_with (go_at_call 111;refine(isNaN_any _ _).mono ?_;rintro e w' ⟨rfl,rfl⟩)
  go_ret
  exact⟨by rw [hr.out];rfl,rfl⟩
 ·by_cases h2:b<a
  ·have hr:Hid (cmpI a b=1):=hIq (by unfold cmpI;rw [if_neg h1,if_pos h2])
   go_enter Tryz.func71,Tryz.ntmps71
   go_wp2_with (go_at_call 111;refine(isNaN_any _ _).mono ?_;rintro e w' ⟨rfl,rfl⟩)
   go_ret
   exact⟨by rw [hr.out];rfl,rfl⟩
  ·have hr:Hid (cmpI a b=0):=hIq (by unfold cmpI;rw [if_neg h1,if_neg h2])
   go_enter Tryz.func71,Tryz.ntmps71
   go_wp2_with (go_at_call 111;refine(isNaN_any _ _).mono ?_;rintro e w' ⟨rfl,rfl⟩)
   go_ret
   exact⟨by rw [hr.out];rfl,rfl⟩
theorem splice_cpy (l:List Int)(n:Nat):splice (zvs (List.replicate n 0)) 0 (zvs (l.take n))=zvs (cpy l n):=by
 have h:n - (l.take n).length=n - l.length:=by rw [List.length_take];omega
 unfold splice cpy;simp only [zvs,List.take_zero,List.nil_append,Nat.zero_add,List.length_map,List.map_append,List.map_replicate,List.drop_replicate,h]
theorem copied_any (a:Option Addr)(m c:Nat)(l:List Int)(n:Nat)(w:World)(hR0:Rdi w a l)(hm0:m=l.length)(hn:n<=1099511627776):
 Calls Tryz.prog 106 #[.slice a m c,.int .i64 (n:Int)] w (NewN w n fun z=>z=cpy l n):=by
 have hR:=hIq hR0;have hm:=hIq hm0;clear hR0 hm0;have hmk:=run_make_row' (P:=Tryz.prog) 22 3 (.int .i64 0) 8 Tryz.underlying22 info_i64 rfl .i64 .i64 n (by omega) (by omega);have hz:=zvs_zeros n;have hn0:(0:Int)<=(n:Int):=by omega
 obtain⟨Z,hZ⟩:∃Z,zvs (List.replicate n 0)=Z:=⟨_,rfl⟩;rw [hz,hZ] at hmk;obtain⟨cs,hcs⟩:∃cs,cs=zvs (l.take n):=⟨_,rfl⟩;have hZ':=hIq hZ;have hcs':=hIq hcs;clear hZ hcs hz;have c1:Hid (cs.length=Nat.min m n):=hIq (by rw [hcs'.out,zvs_length,List.length_take,hm.out];exact Nat.min_comm _ _)
 have c2:Hid (0<cs.length->some (⟨w.heap.size,0,none⟩:Addr)=some ⟨w.heap.size,0,none⟩/\∃ad,a=some ad/\∀j v,cs[j]? =some v->(w.alloc (.cells Z.toArray 3)).cell? (ad.add j)=some v):=hIq (by
  intro hpos;refine⟨rfl,?_⟩;rcases hR.out with rfl|⟨b,off,rfl,hc⟩
  ·rw [hcs'.out] at hpos;simp [zvs] at hpos
  ·refine⟨_,rfl,fun j v hj=>?_⟩;rw [hcs'.out] at hj
   exact Below.cell_of' (below_new w _) (Rdi_news (l:=l.take n) (fun i hi=>by
    rw [List.length_take] at hi;rw [iat_take,if_pos (by omega)]
    exact hc i (by omega)) j v hj))
 have c3:Hid (0+cs.length<=Z.length):=hIq (by rw [hcs'.out,<-hZ'.out,zvs_length,zvs_length,List.length_take,List.length_replicate];omega);have c4:Hid (∀v∈cs,v.oneCell'=true):=hIq (by rw [hcs'.out];exact zvs_one _)
 go_enter Tryz.func106,Tryz.ntmps106
 go_wp2_with (refine wpList_copy_splice rfl (.tmp 8) (.tmp 9) 22 22 rfl 3 Tryz.underlying22 size_i64 (some ⟨w.heap.size,0,none⟩) a n n m c rfl rfl w.heap.size 0 Z 3 (heap_alloc_new _ _) cs c1.out c2.out c3.out c4.out w.heap.size w (below_new w _) (Nat.le_refl _) ?_;intro w2 hG2 hB2;have hB2':=hIq hB2;clear hB2)
 go_ret
 refine⟨_,cpy l n,rfl,Nat.le_refl _,?_,hB2'.out,cpy_length _ _,rfl⟩;have:=hG2.out;unfold Blk;rw [this,hcs'.out,<-hZ'.out,splice_cpy]
theorem copied_at (a:Option Addr)(m c:Nat)(l:List Int)(k:Int)(n:Nat)(w:World)(hk:k=(n:Int))(hR0:Rdi w a l)(hm0:m=l.length)(hn:n<=1099511627776):
 Calls Tryz.prog 106 #[.slice a m c,.int .i64 k] w (NewN w n fun z=>z=cpy l n):=by
 subst hk;exact copied_any a m c l n w hR0 hm0 hn
theorem trimmed_any (a:Option Addr)(m c:Nat)(l:List Int)(w:World)(hR0:Rdi w a l)(hm0:m=l.length)(hmc:m<=c)(hm:m<=9223372036854775807):
 Calls Tryz.prog 137 #[.slice a m c] w fun e w'=>e= .returned (.slice a (tlen l) c)/\w=w':=by
 have hR:=hIq hR0;have hml:=hIq hm0;clear hR0 hm0
 go_enter Tryz.func137,Tryz.ntmps137
 go_wp2
 go_loop [3] (fun n=>∃k:Nat,k<=m/\n= .int .i64 (k:Int)/\Hid (∀i,k<=i->i<l.length->iat l i=0)) (fun n=>(intOf n).toNat)
 case atStart=>exact⟨m,Nat.le_refl _,rfl,hIq (fun i h1 h2=>by have:=hml.out;omega)⟩
 case round=>
  obtain⟨k,hk,rfl,hz⟩:=hrel;by_cases h0:k=0
  ·subst h0;have ht:Hid (tlen l=0):=hIq (tlen_of l 0 (Nat.zero_le _) hz.out (.inl rfl));rw [show((0:Nat):Int)=0 from rfl];go_wp2_with fail
   go_ret
   exact⟨by rw [ht.out];rfl,rfl⟩
  ·obtain⟨q,rfl⟩:∃q,k=q+1:=⟨k - 1,by omega⟩;obtain⟨b,off,rfl,hc⟩:=Rdi_at hR.out q (by rw [<-hml.out];omega);obtain⟨x,hx⟩:∃x,iat l q=x:=⟨_,rfl⟩;rw [hx] at hc;have hx':=hIq hx;clear hx h0;have e1:(((q+1:Nat):Int))=(q:Int)+1:=by omega
   have e2:(q:Int)+1 - 1=(q:Int):=by omega
   have h1:(0:Int)<(q:Int)+1:=by omega
   rw [e1];by_cases hx0:x=0
   ·subst hx0
    have hz2:Hid (∀i,q<=i->i<l.length->iat l i=0):=hIq (fun i h1 h2=>by
     rcases Nat.lt_or_ge q i with h|h
     ·exact hz.out i (by omega) h2
     ·rw [show i=q by omega];exact hx'.out)
    go_wp2_with fail
    refine⟨⟨q,by omega,rfl,hz2⟩,by simp [intOf]⟩
   ·have hxb:(x==0)=false:=by simpa using hx0
    have ht:Hid (tlen l=q+1):=hIq (tlen_of l (q+1) (by rw [<-hml.out];exact hk) hz.out (.inr (by rw [Nat.add_sub_cancel,hx'.out];exact hx0)));clear hx0;go_wp2_with fail
    go_ret
    exact⟨by rw [ht.out];rfl,rfl⟩
theorem tlen_zero {l:List Int}(h:Dg l)(h0:tlen l=0):val l=0:=by
 have h1:=take_tlen h;rw [h0,List.take_zero] at h1;have h2:=digs_nil.1 h1.symm;have h3:=h.lo;omega
theorem tlen_len {l:List Int}(h:Dg l):(digs (val l).toNat).length=tlen l:=by
 rw [<-take_tlen h,List.length_take];have:=tlen_le l;omega
theorem tlen_pos {l:List Int}(h:Dg l)(h0:tlen l≠0):0<val l:=by
 have h1:=tlen_len h;have h2:=h.lo;rcases Int.lt_or_le 0 (val l)with h3|h3
 ·exact h3
 ·rw [show val l=0 by omega] at h1;have h4:digs (0:Int).toNat= []:=digs_zero;rw [h4] at h1;simp at h1;omega
theorem sg_abs (neg:Bool)(n:Int)(h:0<=n):(sg neg n).natAbs=n.toNat:=by unfold sg;cases neg<;>simp<;>omega
theorem sg_neg (neg:Bool)(n:Int)(h:0<n):decide (sg neg n<0)=neg:=by unfold sg;cases neg<;>simp<;>omega
theorem made_is {w:World}{neg:Bool}{a:Option Addr}{c:Nat}{l:List Int}(hR:Rdi w a l)(D:Dg l)(h0:tlen l≠0)(hc:l.length<=c)(hm:c<=9223372036854775807):IntAt w neg a (tlen l) c (sg neg (val l)):=by
 have hp:=tlen_pos D h0;have ht:=tlen_le l;refine⟨(sg_neg _ _ hp).symm,?_,?_,by omega,hm⟩
 ·rw [sg_abs _ _ (by omega),tlen_len D]
 ·rw [sg_abs _ _ (by omega),<-take_tlen D];exact Rdi_take hR _
theorem made_any (neg:Bool)(a:Option Addr)(m c:Nat)(l:List Int)(w:World)(hR0:Rdi w a l)(hm0:m=l.length)(hmc:m<=c)(hm:c<=9223372036854775807)(hd0:Dg l):
 Calls Tryz.prog 105 #[.bool neg,.slice a m c] w (RetF (fun q=>a=some q) w (sg neg (val l))):=by
 have hR:=hIq hR0;have hml:=hIq hm0;have D:=hIq hd0;clear hR0 hm0 hd0
 have htr:Hid (∀W,Below w.heap.size w W->Calls Tryz.prog 137 #[.slice a m c] W fun e w'=>e= .returned (.slice a (tlen l) c)/\W=w'):=
  hIq (fun W hb=>trimmed_any a m c l W (Rdi_below hb hR.out) hml.out hmc (by omega))
 obtain⟨t,ht⟩:∃t,tlen l=t:=⟨_,rfl⟩;rw [ht] at htr;have ht':=hIq ht;clear ht;by_cases h0:t=0
 ·subst h0;have hv:Hid (sg neg (val l)=0):=hIq (by rw [tlen_zero D.out ht'.out];unfold sg;cases neg<;>rfl);rw [hv.out]
  go_enter Tryz.func105,Tryz.ntmps105
  go_wp2_with (go_at_call 137;refine(htr.out _ (below_new w _)).mono ?_;rintro e w' ⟨rfl,rfl⟩)
  exact bodyPost_ret (v:= .agg #[.bool false,.slice none 0 0]) (by simp [results,Tryz.results105,go_sem]) rfl ⟨_,_,_,_,rfl,IntAt_zero _ _ _ (by omega),below_new _ _,fun q hq=>by cases hq⟩
 ·have h0b:((t:Int)==0)=false:=by simpa using h0
  have hI:Hid (∀W,Below w.heap.size w W->IntAt W neg a t c (sg neg (val l))):=hIq (fun W hb=>by rw [<-ht'.out];exact made_is (Rdi_below hb hR.out) D.out (by rw [ht'.out];exact h0) (by rw [<-hml.out];exact hmc) hm);clear h0
  go_enter Tryz.func105,Tryz.ntmps105
  go_wp2_with (go_at_call 137;refine(htr.out _ (below_new w _)).mono ?_;rintro e w' ⟨rfl,rfl⟩)
  exact bodyPost_ret (v:= .agg #[.bool neg,.slice a t c]) (by simp [results,Tryz.results105,go_sem]) rfl ⟨_,_,_,_,rfl,hI.out _ (below_new _ _),below_new _ _,fun q hq=>hq⟩
theorem cmp_lt {a b:Int}(h:a<b):cmpI a b= -1:=by unfold cmpI;rw [if_pos h]
theorem cmp_gt {a b:Int}(h:b<a):cmpI a b=1:=by unfold cmpI;rw [if_neg (by omega),if_pos h]
theorem cmp_eq (a:Int):cmpI a a=0:=by unfold cmpI;simp
theorem cmp_len {a b:Nat}(h:(digs a).length≠(digs b).length):cmpI ((digs a).length:Int) ((digs b).length:Int)=cmpI a b:=by
 rcases Nat.lt_or_gt_of_ne h with h1|h1
 ·have:=digs_len_lt h1;rw [cmp_lt (by omega),cmp_lt (by omega)]
 ·have:=digs_len_lt h1;rw [cmp_gt (by omega),cmp_gt (by omega)]
theorem cmp_top {a b:Nat}(hl:(digs a).length=(digs b).length)(k:Nat)(hk:k<(digs a).length)(D:(digs a).drop (k+1)=(digs b).drop (k+1))(hne:iat (digs a) k≠iat (digs b) k):cmpI (iat (digs a) k) (iat (digs b) k)=cmpI a b:=by
 rcases Int.lt_or_gt_of_ne hne with h1|h1
 ·have:=val_top (Dg_digs a) (Dg_digs b) hl k hk (by rw [D]) h1;rw [val_digs,val_digs] at this;rw [cmp_lt h1,cmp_lt this]
 ·have:=val_top (Dg_digs b) (Dg_digs a) hl.symm k (by omega) (by rw [D]) h1;rw [val_digs,val_digs] at this;rw [cmp_gt h1,cmp_gt this]
theorem drop_same {x y:List Int}(hl:x.length=y.length)(k:Nat)(hk:k<x.length)(D:x.drop (k+1)=y.drop (k+1))(he:iat x k=iat y k):x.drop k=y.drop k:=by
 rw [List.drop_eq_getElem_cons hk,List.drop_eq_getElem_cons (l:=y) (by omega),D]
 congr 1
 simpa [iat,hk,show k<y.length by omega] using he
theorem q_left {P:Program}{f:FuncId}{args:Array Value}{w:World}{a:Nat}{v:Value}(h:Calls P f args (w.drewN a) fun e w'=>e= .returned v/\w.drewN a=w'):
 Calls P f args (w.drewN a) fun e w''=>e= .returned v/\∃m,w''=w.drewN m:=h.mono fun _ _ x=>⟨x.1,a,x.2.symm⟩
theorem compare_any (a1 a2:Option Addr)(n1 c1 n2 c2:Nat)(x y:Nat)(w:World)(hR1:Rdi w a1 (digs x))(hR2:Rdi w a2 (digs y))(hn1:n1=(digs x).length)(hn2:n2=(digs y).length)(hm1:n1<=9223372036854775807)(hm2:n2<=9223372036854775807):
 Calls Tryz.prog 112 #[.slice a1 n1 c1,.slice a2 n2 c2] w fun e w'=>e= .returned (.int .i64 (cmpI x y))/\Below w.heap.size w w':=by
 have H1:=hIq hR1;have H2:=hIq hR2;have N1:=hIq hn1;have N2:=hIq hn2;clear hR1 hR2 hn1 hn2;by_cases hne:n1=n2
 ·subst hne;have htst:((n1:Int) !=(n1:Int))=false:=by simp
  have HL:Hid ((digs x).length=(digs y).length):=hIq (by rw [<-N1.out,<-N2.out])
  go_enter Tryz.func112,Tryz.ntmps112
  go_wp2_with fail
  go_loopw [19] (fun i wr=>∃k:Nat,k<=n1/\i= .int .i64 (k:Int)/\Hid ((digs x).drop (n1 - k)=(digs y).drop (n1 - k))/\Below w.heap.size w wr) (fun i _=>n1 - (intOf i).toNat)
  case atStart=>exact⟨0,Nat.zero_le _,rfl,hIq (by rw [Nat.sub_zero,List.drop_of_length_le (by rw [<-N1.out];exact Nat.le_refl _),List.drop_of_length_le (by rw [<-N2.out];exact Nat.le_refl _)]),Below.refl _ _⟩
  case round=>
   obtain⟨k,hk,rfl,D,hB⟩:=hrel;by_cases hlt:k<n1
   ·obtain⟨j,rfl⟩:∃j,n1=j+1+k:=⟨n1 - 1 - k,by omega⟩;obtain⟨b1,o1,rfl,hc1⟩:=Rdi_at H1.out j (by rw [<-N1.out];omega);obtain⟨b2,o2,rfl,hc2⟩:=Rdi_at H2.out j (by rw [<-N2.out];omega);have C1:=Below.cell_of' hB hc1;have C2:=Below.cell_of' hB hc2;have hB':=hIq hB;have hd':Hid ((digs x).drop (j+1)=(digs y).drop (j+1)):=hIq (by have:=D.out;rw [show j+1+k - k=j+1 by omega] at this;exact this);obtain⟨X,hX⟩:∃X,iat (digs x) j=X:=⟨_,rfl⟩;obtain⟨Y,hY⟩:∃Y,iat (digs y) j=Y:=⟨_,rfl⟩;rw [hX] at C1;rw [hY] at C2;have hX':=hIq hX;have hY':=hIq hY;have hj1:j<(digs x).length:=by rw [<-N1.out];omega
    have e0:(((j+1+k:Nat):Int))=(j:Int)+1+(k:Int):=by omega
    have e1:(j:Int)+1+(k:Int) - 1 - (k:Int)=(j:Int):=by omega
    have e2:(k:Int)<(j:Int)+1+(k:Int):=by omega
    have e3:(j:Int)<(j:Int)+1+(k:Int):=by omega
    have e4:0<=(j:Int):=by omega
    have e5:((j:Int)).toNat=j:=by omega
    clear hB hc1 hc2 D hX hY;rw [e0];by_cases hXY:X=Y
    ·subst hXY;have hn:(X !=X)=false:=by simp
     have hs:Hid ((digs x).drop j=(digs y).drop j):=hIq (drop_same HL.out j hj1 hd'.out (by rw [hX'.out,hY'.out]));clear e0;go_wp2_with fail
     go_quiet (fail)
     go_wp2_with fail
     refine⟨⟨k+1,by omega,by simp,?_,below_drewN hB'.out _⟩,by simp [intOf];omega⟩;exact hIq (by rw [show j+1+k - (k+1)=j by omega];exact hs.out)
    ·have hn:(X !=Y)=true:=by simpa using hXY
     have hr:Hid (cmpI X Y=cmpI x y):=hIq (by rw [<-hX'.out,<-hY'.out];exact cmp_top HL.out j hj1 hd'.out (by rw [hX'.out,hY'.out];exact hXY));clear hXY e0;go_wp2_with fail
     go_quiet (fail)
     go_wp2_with fail
     have hBq:=hIq (below_drewN hB'.out nq);have C1q:(wr.drewN nq).cell? ⟨b1,o1+j,none⟩=some (.int .i64 X):=C1;have C2q:(wr.drewN nq).cell? ⟨b2,o2+j,none⟩=some (.int .i64 Y):=C2;generalize wr.drewN nq=wq at hBq C1q C2q ⊢;clear C1 C2
     go_quiet ((go_at_call 71;exact q_left (cmp_any _ _ _)))
     go_wp2_with fail
     go_ret
     exact⟨by rw [<-hr.out];rfl,below_drewN hBq.out _⟩
   ·have hk':k=n1:=by omega
    subst hk'
    have hr:Hid (cmpI x y=0):=hIq (by
     have:=D.out;rw [Nat.sub_self,List.drop_zero,List.drop_zero] at this
     rw [digs_inj this];exact cmp_eq _)
    have hB':=hIq hB;clear hB;go_wp2_with fail
    go_ret
    exact⟨by rw [hr.out];rfl,hB'.out⟩
 ·have htst:((n1:Int) !=(n2:Int))=true:=by simp;omega
  have hr:Hid (cmpI (n1:Int) (n2:Int)=cmpI x y):=hIq (by rw [N1.out,N2.out];exact cmp_len (by rw [<-N1.out,<-N2.out];exact hne))
  go_enter Tryz.func112,Tryz.ntmps112
  go_wp2_with (go_at_call 71;refine(cmp_any _ _ _).mono ?_;rintro e w' ⟨rfl,rfl⟩)
  go_ret
  exact⟨by rw [<-hr.out];rfl,Below.refl _ _⟩
def MulL (w:World)(g:Nat)(l m:List Int)(i:Nat)(wr:World):Prop:=∃z,MulA l m i z/\Blk wr g z/\Below w.heap.size w wr
def MulM (w:World)(g:Nat)(l m:List Int)(i j:Nat)(over:Int)(wr:World):Prop:=∃z,MulB l m i j over z/\Blk wr g z/\Below w.heap.size w wr
def MulP (l m:List Int)(z:List Int):Prop:=Dg z/\val z=val l*val m/\z.length=l.length+m.length
theorem product_any (a1 a2:Option Addr)(n1 c1 n2 c2:Nat)(l m:List Int)(w:World)(hR1:Rdi w a1 l)(hR2:Rdi w a2 m)(hn1:n1=l.length)(hn2:n2=m.length)(hd1:Dg l)(hd2:Dg m)(hm1:n1<=1099511627775)(hm2:n2<=1099511627775):
 Calls Tryz.prog 113 #[.slice a1 n1 c1,.slice a2 n2 c2] w (NewI w (MulP l m)):=by
 have H1:=hIq hR1;have H2:=hIq hR2;have N1:=hIq hn1;have N2:=hIq hn2;have D1:=hIq hd1;have D2:=hIq hd2;clear hR1 hR2 hn1 hn2 hd1 hd2;have hmk:=run_make_row' (P:=Tryz.prog) 22 3 (.int .i64 0) 8 Tryz.underlying22 info_i64 rfl .i64 .i64 (n1+n2) (by omega) (by omega);rw [zvs_zeros,show((n1+n2:Nat):Int)=(n1:Int)+(n2:Int) by omega] at hmk;have hI:Hid (MulL w w.heap.size l m 0 (w.alloc (.cells (zvs (List.replicate (n1+n2) 0)).toArray 3))):=hIq ⟨_,MulA.start l m,by rw [<-N1.out,<-N2.out];exact Blk_new _ _,below_new _ _⟩;generalize zvs (List.replicate (n1+n2) 0)=Z at hmk hI
 go_enter Tryz.func113,Tryz.ntmps113
 go_wp2_with fail
 generalize w.alloc (.cells Z.toArray 3)=w1 at hI ⊢;obtain⟨g,hg⟩:∃g,w.heap.size=g:=⟨_,rfl⟩;rw [hg] at hI ⊢;have hgg:Hid (w.heap.size<=g):=hIq (Nat.le_of_eq hg);clear hg hmk
 go_loopw [21] (fun i wr=>∃k:Nat,k<=n1/\i= .int .i64 (k:Int)/\MulL w g l m k wr) (fun i _=>n1 - (intOf i).toNat)
 case atStart=>exact⟨0,Nat.zero_le _,rfl,hI.out⟩
 case round=>
  obtain⟨i,hi,rfl,hL⟩:=hrel;clear hI;by_cases hlt:i<n1
  ·obtain⟨b,o,hoX,hcx0⟩:=Rdi_at H1.out i (by rw [<-N1.out];exact hlt);subst hoX
   have hcx:wr.cell? ⟨b,o+i,none⟩=some (.int .i64 (iat l i)):=by
    obtain⟨z,hA,hz,hB⟩:=hL;exact Below.cell_of' hB hcx0
   have hM:Hid (MulM w g l m i 0 0 wr):=hIq (by
    obtain⟨z,hA,hz,hB⟩:=hL
    exact⟨z,hA.row,hz,hB⟩)
   have hx1:=D1.out.all i;obtain⟨x,hxx⟩:∃x,iat l i=x:=⟨_,rfl⟩;rw [hxx] at hcx hx1;have hxx':=hIq hxx;obtain⟨hx3,hx4⟩:=hx1;have i0:0<=(i:Int):=by omega
   have i1:(i:Int)<(n1:Int):=by omega
   have i2:(i:Int)<=(n1:Int)+(n2:Int):=by omega
   have i3:¬(n1:Int)+(n2:Int)<(i:Int):=by omega
   have i4:((n1+n2:Nat):Int)=(n1:Int)+(n2:Int):=by omega
   clear hL hcx0 hxx;go_wp2_with fail
   obtain⟨r,hr⟩:∃r,n1+n2 - i=r:=⟨_,rfl⟩;rw [hr];have r1:(n2:Int)<(r:Int):=by omega
   have hr':=hIq hr;clear hr i1 i2 i3 i4 hlt;obtain⟨wo,rfl⟩:∃wo:World,wo=wr:=⟨_,rfl⟩
   go_loopw [9,31] (fun ov jv wr2=>∃(j:Nat) (over:Int),j<=n2/\jv= .int .i64 (j:Int)/\ov= .int .i64 over/\MulM w g l m i j over wr2) (fun _ jv _=>n2 - (intOf jv).toNat)
   case atStart=>exact⟨0,0,Nat.zero_le _,rfl,rfl,hM.out⟩
   case round=>
    obtain⟨j,over,hj,rfl,rfl,hL⟩:=hrel;clear hM hcx;by_cases hlt:j<n2
    ·obtain⟨z,hB,hz,hW⟩:=hL;obtain⟨b2,o2,hoY,hcy0⟩:=Rdi_at H2.out j (by rw [<-N2.out];exact hlt);subst hoY;have cy:=Below.cell_of' hW hcy0;have hkz:i+j<z.length:=by rw [hB.len,<-N1.out,<-N2.out];have:=hr'.out;omega
     have cz:=hz.cell hkz;have cf:=hz.free (i+j);have hil:i<l.length:=by rw [<-N1.out];have:=hr'.out;omega
     have hnx:=hB.next hil (by rw [<-N2.out];exact hlt) (by rw [hxx'.out];exact hx3) (by rw [hxx'.out];exact hx4) D2.out;have hst:Hid (MulM w g l m i (j+1) ((iat l i*iat m j+iat z (i+j)+over) / 1000000000) (wr.setCell ⟨g,i+j,none⟩ (.int .i64 ((iat l i*iat m j+iat z (i+j)+over) % 1000000000)))):=hIq ⟨_,hnx,hz.set _ _,hW.setCell hgg.out _⟩;have hy1:=D2.out.all j;have hz1:=hB.dg.all (i+j);have ho1:=hB.lo;have ho2:=hB.hi;have hmd:=mul_digit hx3 hx4 hy1.1 hy1.2 hz1.1 hz1.2 ho1 ho2;rw [hxx'.out] at hst;obtain⟨y,hyy⟩:∃y,iat m j=y:=⟨_,rfl⟩;obtain⟨v,hvv⟩:∃v,iat z (i+j)=v:=⟨_,rfl⟩;rw [hyy] at cy hst hy1 hmd;rw [hvv] at cz hst hz1 hmd;obtain⟨q1,q2,q3,q4⟩:=hmd;obtain⟨hy3,hy4⟩:=hy1;obtain⟨hz3,hz4⟩:=hz1;have j0:0<=(j:Int):=by omega
     have j1:(j:Int)<(n2:Int):=by omega
     have j2:(j:Int)<(r:Int):=by omega
     clear hB hz hW hcy0 hkz hil hnx hyy hvv;go_wp2_with fail
     exact⟨⟨j+1,_,by omega,by simp,rfl,hst.out⟩,by simp [intOf];omega⟩
    ·have hj':j=n2:=by omega
     subst hj';obtain⟨z,hB,hz,hW⟩:=hL;have hil:i<l.length:=by rw [<-N1.out];have:=hr'.out;omega
     have hkz:i+j<z.length:=by rw [hB.len,<-N1.out,<-N2.out];have:=hr'.out;omega
     have cz:=hz.cell hkz;have cf:=hz.free (i+j);rw [N2.out] at hB;have hdn:=hB.done hil;rw [<-N2.out] at hdn;have hst:Hid (MulL w g l m (i+1) (wr.setCell ⟨g,i+j,none⟩ (.int .i64 over))):=hIq ⟨_,hdn,hz.set _ _,hW.setCell hgg.out _⟩;have hii:Hid (i+1<=n1):=hIq (by rw [N1.out];exact hil);have hii2:Hid (n1 - (i+1)<n1 - i):=hIq (by have:=hii.out;omega);have j0:0<=(j:Int):=by omega
     generalize iat z (i+j)=v at cz;clear hB hz hW hil hkz hdn hlt;go_wp2_with fail
     exact⟨⟨i+1,hii.out,by simp,hst.out⟩,by simp [intOf];exact hii2.out⟩
  ·have hk':i=n1:=by omega
   subst hk';obtain⟨z,hA,hz,hB⟩:=hL;have hz':=hIq hz;have hB':=hIq hB;have hA':=hIq hA;clear hz hB hA;go_wp2_with fail
   go_ret
   exact⟨g,_,z,rfl,hgg.out,hz'.out,hB'.out,by rw [hA'.out.len,N1.out,N2.out],hA'.out.dg,by rw [hA'.out.sum,N1.out,List.take_length],hA'.out.len⟩
def DivL (w:World)(g:Nat)(l:List Int)(y:Int)(k:Nat)(r:Int)(wr:World):Prop:=∃q,DivA l y k r q/\Blk wr g q/\Below w.heap.size w wr
def DivS (w:World)(l:List Int)(y:Int)(e:Ending)(w':World):Prop:=
 ∃g h n q r,e= .returned (.tuple #[.slice (some ⟨g,0,none⟩) n n,.slice (some ⟨h,0,none⟩) 1 1])/\w.heap.size<=g/\w.heap.size<=h/\Blk w' g q/\Blk w' h [r]/\Below w.heap.size w w'/\n=l.length/\DivA l y 0 r q
theorem shortDivided_any (a:Option Addr)(n c:Nat)(l:List Int)(y:Int)(w:World)(hR0:Rdi w a l)(hn0:n=l.length)(hd0:Dg l)(hy0:0<y)(hy1:y<=1000000000)(hm:n<=1099511627776):
 Calls Tryz.prog 156 #[.slice a n c,.int .i64 y] w (DivS w l y):=by
 have H:=hIq hR0;have N:=hIq hn0;have D:=hIq hd0;clear hR0 hn0 hd0;have hmk:=run_make_row' (P:=Tryz.prog) 22 3 (.int .i64 0) 8 Tryz.underlying22 info_i64 rfl .i64 .i64 n (by omega) (by omega);rw [zvs_zeros] at hmk;have hI:Hid (DivL w w.heap.size l y n 0 (w.alloc (.cells (zvs (List.replicate n 0)).toArray 3))):=hIq ⟨_,by rw [N.out];exact DivA.start l y hy0,by rw [<-N.out];exact Blk_new _ _,below_new _ _⟩;generalize zvs (List.replicate n 0)=Z at hmk hI;have y0:(y==0)=false:=by simp;omega
 go_enter Tryz.func156,Tryz.ntmps156
 go_wp2_with fail
 generalize w.alloc (.cells Z.toArray 3)=w1 at hI ⊢;obtain⟨g,hg⟩:∃g,w.heap.size=g:=⟨_,rfl⟩;rw [hg] at hI ⊢;have hgg:Hid (w.heap.size<=g):=hIq (Nat.le_of_eq hg);clear hg hmk
 go_loopw [7,16] (fun rv i wr=>∃(k j:Nat) (r:Int),j+k=n/\i= .int .i64 (k:Int)/\rv= .int .u64 r/\DivL w g l y j r wr) (fun _ i _=>n - (intOf i).toNat)
 case atStart=>exact⟨0,n,0,rfl,rfl,rfl,hI.out⟩
 case round=>
  obtain⟨k,j0,r,hjk,rfl,rfl,hL⟩:=hrel;clear hI;by_cases hlt:k<n
  ·obtain⟨j,rfl⟩:∃j,j0=j+1:=⟨j0 - 1,by omega⟩;subst hjk;obtain⟨q,hA,hq,hB⟩:=hL;have hjl:j<l.length:=by rw [<-N.out];omega
   obtain⟨b,o,rfl,hcx⟩:=Rdi_at H.out j hjl;have cx:=Below.cell_of' hB hcx;have hjq:j<q.length:=by rw [hA.len];exact hjl
   have cq:=hq.cell hjq;have cf:=hq.free j;have hst:Hid (DivL w g l y j ((r*1000000000+iat l j) % y) (wr.setCell ⟨g,j,none⟩ (.int .i64 ((r*1000000000+iat l j) / y)))):=hIq ⟨_,hA.next hjl D.out hy1,hq.set _ _,hB.setCell hgg.out _⟩;have hr1:=hA.lo;have hr2:=hA.hi;have hx:=D.out.all j;have hq1:0<=(r*1000000000+iat l j) / y:=Int.ediv_nonneg (by omega) (by omega);have hq2:(r*1000000000+iat l j) / y<1000000000:=Int.ediv_lt_of_lt_mul (by omega) (by omega);have hq3:0<=(r*1000000000+iat l j) % y:=Int.emod_nonneg _ (by omega);have hq4:(r*1000000000+iat l j) % y<y:=Int.emod_lt_of_pos _ hy0;obtain⟨x,hxx⟩:∃x,iat l j=x:=⟨_,rfl⟩;obtain⟨v,hvv⟩:∃v,iat q j=v:=⟨_,rfl⟩;rw [hxx] at cx hst hx hq1 hq2 hq3 hq4;rw [hvv] at cq;obtain⟨hx3,hx4⟩:=hx;have e0:(((j+1+k:Nat):Int))=(j:Int)+1+(k:Int):=by omega
   have e1:(j:Int)+1+(k:Int) - 1 - (k:Int)=(j:Int):=by omega
   have e2:(k:Int)<(j:Int)+1+(k:Int):=by omega
   have e3:(j:Int)<(j:Int)+1+(k:Int):=by omega
   have e4:0<=(j:Int):=by omega
   have e5:((j:Int)).toNat=j:=by omega
   clear hA hq hB hcx hjl hjq hxx hvv hlt;go_wp2_with fail
   exact⟨⟨k+1,j,_,by omega,by simp,rfl,hst.out⟩,by simp [intOf];omega⟩
  ·have hk':k=n:=by omega
   obtain rfl:j0=0:=by omega
   subst hk';obtain⟨q,hA,hq,hB⟩:=hL;have hA':=hIq hA;have hq':=hIq hq;have hB':=hIq hB;have hr1:=hA.lo;have hr2:=hA.hi;clear hA hq hB hjk;go_wp2_with fail
   go_ret2
   exact⟨g,wr.heap.size,_,q,r,rfl,hgg.out,hB'.out.size,hq'.out.later (below_new _ _),Blk_new wr [r],below_tr hB'.out (below_new _ _),N.out,hA'.out⟩
def NumI (l:List Int)(k:Nat):Int:=val (l.drop k) % 18446744073709551616
theorem NumI_next {l:List Int}{k:Nat}(hk:k<l.length):(NumI l (k+1)*1000000000+iat l k) % 18446744073709551616=NumI l k:=by
 unfold NumI;rw [val_drop l k hk];omega
theorem u64_two (a x:Int):IntKind.u64.wrap (IntKind.u64.wrap a+x)=(a+x) % 18446744073709551616:=by
 simp [IntKind.wrap,IntKind.bits,IntKind.signed]
theorem NumI_lo (l:List Int)(k:Nat):0<=NumI l k/\NumI l k<18446744073709551616:=by unfold NumI;omega
theorem number_any (a:Option Addr)(n c:Nat)(l:List Int)(w:World)(hR0:Rdi w a l)(hn0:n=l.length)(hd0:Dg l)(hm:n<=1099511627776):
 Calls Tryz.prog 153 #[.slice a n c] w fun e w'=>e= .returned (.int .u64 (NumI l 0))/\w=w':=by
 have H:=hIq hR0;have N:=hIq hn0;have D:=hIq hd0;clear hR0 hn0 hd0
 go_enter Tryz.func153,Tryz.ntmps153
 go_wp2_with fail
 go_loop [3,7] (fun mv i=>∃(k j:Nat),j+k=n/\i= .int .i64 (k:Int)/\mv= .int .u64 (NumI l j)) (fun _ i=>n - (intOf i).toNat)
 case atStart=>exact⟨0,n,rfl,rfl,by unfold NumI;rw [N.out,List.drop_length];rfl⟩
 case round=>
  obtain⟨k,j0,hjk,rfl,rfl⟩:=hrel;by_cases hlt:k<n
  ·obtain⟨j,rfl⟩:∃j,j0=j+1:=⟨j0 - 1,by omega⟩;subst hjk;have hjl:j<l.length:=by rw [<-N.out];omega
   obtain⟨b,o,rfl,cx⟩:=Rdi_at H.out j hjl;have hst:=hIq (NumI_next hjl);have hr:=NumI_lo l (j+1);have hx:=D.out.all j;obtain⟨x,hxx⟩:∃x,iat l j=x:=⟨_,rfl⟩;obtain⟨M,hM⟩:∃M,NumI l (j+1)=M:=⟨_,rfl⟩;rw [hxx] at cx hst hx;rw [hM] at hst hr ⊢;obtain⟨hx3,hx4⟩:=hx;obtain⟨hr3,hr4⟩:=hr;have e0:(((j+1+k:Nat):Int))=(j:Int)+1+(k:Int):=by omega
   have e1:(j:Int)+1+(k:Int) - 1 - (k:Int)=(j:Int):=by omega
   have e2:(k:Int)<(j:Int)+1+(k:Int):=by omega
   have e3:(j:Int)<(j:Int)+1+(k:Int):=by omega
   have e4:0<=(j:Int):=by omega
   have e5:((j:Int)).toNat=j:=by omega
   clear hjl hxx hM hlt;go_wp2_with fail
   exact⟨⟨k+1,j,by omega,by simp,by rw [u64_two,hst.out]⟩,by simp [intOf];omega⟩
  ·have hk':k=n:=by omega
   obtain rfl:j0=0:=by omega
   subst hk';go_wp2_with fail
   go_ret
   exact⟨rfl,rfl⟩
end Go.Proofs.YteacdbgalloaiaaGreat
