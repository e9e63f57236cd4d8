import Derived.Test.YtfidfeilljlbiaaGreatFrg09
import Derived.Lib.SlicesCompact
import Derived.Test.YtfidfeilljlbiaaGreatFrg01
import Derived.Test.YtfidfeilljlbiaaGreatFrg04
import Derived.Test.YtfidfeilljlbiaaGreatFrg07
import Derived.Test.YtfidfeilljlbiaaGreatFrg08
set_option linter.unusedVariables false
set_option linter.unusedSimpArgs false
set_option maxRecDepth 100000
set_option maxHeartbeats 40000000
namespace Go.Proofs.YtfidfeilljlbiaaGreat
open Go.ChangeShapes Go.WideShapes Go.ChangeAt Go.RowKit Go.Maps Go.Sort Go.Lib Go.Shelf
theorem array2' {α:Type}{cs:Array α}(h:cs.size=2):∃c0 c1,cs=#[c0,c1]:=by
 obtain⟨l⟩:=cs;match l,h with
 | [c0,c1],_=>exact⟨c0,c1,rfl⟩
theorem keyOf_key {v:Value}{kl:Lit}(h:keyOf Tryz.prog 114 v=some kl):∃x,v=keyV x:=by
 unfold keyOf at h;rw [Tryz.underlying114] at h;simp only [keyKT,Bool.true_and] at h;have h0:0<Tryz.prog.types.size:=of_decide_eq_true (by kernel_rfl);obtain⟨m,hm⟩:∃m,Tryz.prog.types.size=m+1:=⟨Tryz.prog.types.size - 1,by omega⟩;rw [hm] at h;have e2:Tryz.prog.cellsOf 114=2:=by kernel_rfl
 have ei:Tryz.prog.cellsOf 3=1:=by kernel_rfl
 have es:Tryz.prog.cellsOf 9=1:=by kernel_rfl
 cases v<;>simp [Value.formed,Tryz.underlying114,e2,Program.keyLits,Tryz.underlying3,Tryz.underlying9,ei,es,Value.cells] at h;obtain⟨Ha,a,⟨Hb,h⟩,Hc⟩:=h;clear Hb Hc;obtain⟨c0,c1,rfl⟩:=array2' Ha;clear Ha;cases c0<;>simp at h;rename_i s;by_cases hs:s.size<=maxLen
 ·cases c1<;>simp [hs] at h;rename_i k n;by_cases hk:k=.i64/\ (Lit.int .i64 n).wf=true
  ·exact⟨(s,n),by rw [hk.1];rfl⟩
  ·rw [if_neg hk] at h;simp at h
 ·cases c1<;>simp [hs] at h
theorem keyOf_dot {v:Value}{kl:Lit}(h:keyOf Tryz.prog 58 v=some kl):∃x,v=dtV x:=by
 unfold keyOf at h;rw [Tryz.underlying58] at h;simp only [dotKT,Bool.true_and] at h;have h0:0<Tryz.prog.types.size:=of_decide_eq_true (by kernel_rfl);obtain⟨m,hm⟩:∃m,Tryz.prog.types.size=m+1:=⟨Tryz.prog.types.size - 1,by omega⟩;rw [hm] at h;have e2:Tryz.prog.cellsOf 58=2:=by kernel_rfl
 have ei:Tryz.prog.cellsOf 3=1:=by kernel_rfl
 cases v<;>simp [Value.formed,Tryz.underlying58,e2,Program.keyLits,Tryz.underlying3,ei,Value.cells] at h;obtain⟨Hb,a,⟨Hc,h⟩,Hd⟩:=h;clear Hc Hd;obtain⟨c0,c1,rfl⟩:=array2' Hb;clear Hb;cases c0<;>simp at h;rename_i k n;by_cases hk:k=.i64/\ (Lit.int .i64 n).wf=true
 ·rw [if_pos hk] at h;cases c1<;>simp at h;rename_i k' n';by_cases Ha:k'=.i64/\ (Lit.int .i64 n').wf=true
  ·exact⟨(n,n'),by rw [hk.1,Ha.1];rfl⟩
  ·rw [if_neg Ha] at h;simp at h
 ·rw [if_neg hk] at h;simp at h
structure CollF {α β:Type}(t:TypeId)(kv:α ->Value)(f:α ->Option β)(left:Lit ->Bool)(ss:List α):Prop where
 nd:ss.Nodup
 old:∀x∈ss,f x≠none/\∀kl,keyOf Tryz.prog t (kv x)=some kl ->left kl=false
 all:∀x,f x≠none ->x∈ss \/∀kl,keyOf Tryz.prog t (kv x)=some kl ->left kl=true
def KeysF {α β:Type}(f:α ->Option β)(ss:List α):Prop:=ss.Nodup/\∀x,x∈ss↔f x≠none
section
variable {α β : Type} {w : World} {t : TypeId} {kv : α -> Value} {vo : Option β -> Value} {b c : Nat} {f : α -> Option β} {D : DataW Value} {left : Lit -> Bool} {ss : List α}
theorem CollF.start (h:FM w t kv vo b c f D):CollF t kv f (has D) ([]:List α):=by
 refine⟨List.nodup_nil,fun x hx=>absurd hx (by simp),fun x hx=>Or.inr fun kl hk=> ?_⟩;rw [(h.at' x kl hk).1];cases e:f x with
 | none=>exact absurd e hx
 | some y=>rfl
theorem CollF.step (hC:CollF t kv f left ss)(h:FM w t kv vo b c f D)(K:Keyed Tryz.prog t)(hi:∀x y,kv x=kv y ->x=y){x:α}{kl:Lit}{y:DataW Value}(hk:keyOf Tryz.prog t (kv x)=some kl)(hl:left kl=true)(hat:∀zd,D.atKey kl zd=y):
  CollF t kv f (fun z=>left z && !z.sameKey kl) (ss++[x]):=by
 have hx:x ∉ ss:=fun hm=>by have:=(hC.old x hm).2 kl hk;rw [hl] at this;cases this
 have hf:f x≠none:=fun e=>by
  have h1:=has_true_of_atKey hat;rw [(h.at' x kl hk).1,e] at h1;cases h1
 refine⟨?_,fun z hz=> ?_,fun z hz=> ?_⟩
 ·rw [List.nodup_append];exact⟨hC.nd,by simp,fun a ha b hb=>by rw [List.mem_singleton] at hb;subst hb;exact fun e=>hx (e ▸ ha)⟩
 ·rcases List.mem_append.1 hz with hz|hz
  ·refine⟨(hC.old z hz).1,fun kl' hk'=> ?_⟩;show (left kl' && !kl'.sameKey kl)=false;rw [(hC.old z hz).2 kl' hk'];rfl
  ·rw [List.mem_singleton] at hz;subst hz;refine⟨hf,fun kl' hk'=> ?_⟩;rw [hk] at hk';injection hk' with hk';subst hk';show (left kl && !kl.sameKey kl)=false;rw [WideAt.sameKey_self (K.key hk)];simp
 ·by_cases e:z=x
  ·subst e;exact .inl (by simp)
  ·rcases hC.all z hz with h1|h1
   ·exact .inl (List.mem_append.2 (.inl h1))
   ·refine .inr fun kl' hk'=> ?_;show (left kl' && !kl'.sameKey kl)=true;rw [h1 kl' hk',sameKey_ne (fun e2=>e (hi _ _ (by subst e2;exact K.inj hk' hk)))];rfl
theorem CollF.done (hC:CollF t kv f left ss)(h:FM w t kv vo b c f D)(hl:∀kl,left kl=false):KeysF f ss:=
 ⟨hC.nd,fun x=>⟨fun hx=>(hC.old x hx).1,fun hx=>by
  rcases hC.all x hx with h1|h1
  ·exact h1
  ·obtain⟨kl,hk⟩:=h.ok x hx;have:=h1 kl hk;rw [hl kl] at this;cases this⟩⟩
end
theorem cmpP_sym:∀p q:List ByteArray,cmpP p q<0↔0<cmpP q p
 | [],[]=>by simp [cmpP]
 | [],_::_=>by simp [cmpP]
 | _::_,[]=>by simp [cmpP]
 | s::p,t::q=>by
  simp only [cmpP];by_cases e:cmpS s t=0
  ·have e':cmpS t s=0:=cmpS_z.2 (cmpS_z.1 e).symm;rw [if_pos e,if_pos e'];exact cmpP_sym p q
  ·have e':cmpS t s≠0:=fun h=>e (cmpS_z.2 (cmpS_z.1 h).symm);rw [if_neg e,if_neg e'];exact CmpT.str.neg s t
theorem cmpP_tr:∀p q r:List ByteArray,cmpP p q<0 ->cmpP q r<0 ->cmpP p r<0
 | [],[],_,h,_=>by simp [cmpP] at h
 | [],_::_,[],_,h=>by simp [cmpP] at h
 | [],_::_,_::_,_,_=>by simp [cmpP]
 | _::_,[],_,h,_=>by simp [cmpP] at h
 | _::_,_::_,[],_,h=>by simp [cmpP] at h
 | s::p,t::q,u::r,h,h'=>by
  simp only [cmpP] at*;by_cases e:cmpS s t=0
  ·rw [if_pos e] at h;have:=cmpS_z.1 e;subst this;by_cases e2:cmpS s u=0
   ·rw [if_pos e2] at h' ⊢;exact cmpP_tr p q r h h'
   ·rw [if_neg e2] at h' ⊢;exact h'
  ·rw [if_neg e] at h;by_cases e2:cmpS t u=0
   ·have:=cmpS_z.1 e2;subst this;rw [if_neg e];exact h
   ·rw [if_neg e2] at h';have h3:=CmpT.str.tr s t u h h';rw [if_neg (by omega)];exact h3
theorem CmpT.path:CmpT cmpP:=⟨fun _ _=>cmpP_z,cmpP_sym,cmpP_tr⟩
theorem cmpL_tr {x y z:Lf}(h:cmpL x y<0)(h':cmpL y z<0):cmpL x z<0:=
 (CmpT.path.pair (CmpT.int.pair CmpT.dot)).tr (x.p,(kd x.fl,(x.r,x.q))) (y.p,(kd y.fl,(y.r,y.q))) (z.p,(kd z.fl,(z.r,z.q))) h h'
theorem LvOk.lt {R F T:Nat ->Int}{n:Nat}{l:List Lf}{k:Nat}(h:LvOk R F T n l k){i:Nat}:∀j,i<j ->j<k ->cmpL (gL l i) (gL l j)<0
 | 0,h1,_=>by omega
 | j+1,h1,h2=>by
  have hj:=(h (j+1) h2).2.2 (by omega);simp only [Nat.add_sub_cancel] at hj;by_cases e:i=j
  ·subst e;exact hj
  ·exact cmpL_tr (h.lt j (by omega) (by omega)) hj
theorem wayOf3 (p:List ByteArray):wayOf p 3=(List.range p.length).map fun i=>(gS p i,3):=by
 unfold wayOf;congr 1;funext i;split<;>rfl
theorem gS_take {p q:List ByteArray}(h:p <+:q){i:Nat}(hi:i<p.length):gS q i=gS p i:=by
 obtain⟨r,rfl⟩:=h;simp [gS,List.getD,List.getElem?_append,hi]
theorem way_take {p q:List ByteArray}{k:Int}(h:p <+:q)(hl:p.length<q.length):(wayOf q k).take p.length=wayOf p 3:=by
 apply List.ext_getElem?;intro i;by_cases hi:i<p.length
 ·rw [List.getElem?_take_of_lt hi,wayOf_get (by omega),wayOf3,if_pos (by omega),gS_take h hi];simp [hi]
 ·rw [List.getElem?_take_eq_none (by omega),List.getElem?_eq_none (by rw [wayOf_len];omega)]
noncomputable def nx (p:List ByteArray)(x:Lf):Option Ky:=if yes (p <+:x.p/\ p.length<x.p.length)=true then some (onWay x.p (kd x.fl) p.length) else none
theorem nx_iff {p:List ByteArray}{x:Lf}{y:Ky}:wayOf p 3++[y] <+:Way x↔nx p x=some y:=by
 unfold nx Way;constructor
 ·intro h;have Ha:p.length+1<=x.p.length:=by have:=h.length_le;simpa [wayOf_len] using this
  have ht:=List.prefix_iff_eq_take.1 h;simp only [List.length_append,wayOf_len,List.length_cons,List.length_nil] at ht;rw [wayOf_take (by omega)] at ht;have h1:=List.append_inj' ht rfl;have hp:p <+:x.p:=by
   have e1:p=x.p.take p.length:=by
    refine gS_ext (by simp;omega) fun i hi=> ?_;have:=congrArg (fun l=>l[i]?) h1.1;rw [List.getElem?_take_of_lt hi,wayOf_get hi,wayOf_get (k:=kd x.fl) (show i<x.p.length by omega)] at this;injection this with this;rw [(Prod.mk.inj this).1];simp [gS,List.getD,List.getElem?_take_of_lt hi]
   rw [e1];exact List.take_prefix _ _
  rw [if_pos (yes_t ⟨hp,by omega⟩)];have h2:=h1.2;simp only [List.cons.injEq,and_true] at h2;rw [h2];rfl
 ·intro h;by_cases e:p <+:x.p/\ p.length<x.p.length
  ·rw [if_pos (yes_t e)] at h;injection h with h;have:=wayOf_take (k:=kd x.fl) e.2;rw [way_take e.1 e.2] at this;have h3:(gS x.p p.length,if p.length+1<x.p.length then 3 else kd x.fl)=y:=h;rw [h3] at this;rw [<- this];exact List.take_prefix _ _
  ·rw [yes_f e] at h;simp at h
theorem cmpP_app:∀(p a b:List ByteArray),cmpP (p++a) (p++b)=cmpP a b
 | [],_,_=>rfl
 | s::p,a,b=>by
  simp only [List.cons_append,cmpP];rw [if_pos (cmpS_z.2 rfl)];exact cmpP_app p a b
theorem nx_order {p:List ByteArray}{a b:Lf}{y z:Ky}(h:cmpL a b<0)(ha:nx p a=some y)(hb:nx p b=some z):cmpK y z<=0:=by
 unfold nx at ha hb;by_cases e1:p <+:a.p/\ p.length<a.p.length
 ·by_cases e2:p <+:b.p/\ p.length<b.p.length
  ·rw [if_pos (yes_t e1)] at ha;rw [if_pos (yes_t e2)] at hb;injection ha with ha;injection hb with hb;obtain⟨⟨ra,Ha⟩,Hc⟩:=e1;obtain⟨⟨rb,Hb⟩,Hd⟩:=e2;cases ra with
   | nil=>rw [<- Ha] at Hc;simp at Hc
   | cons s ra=>
    cases rb with
    | nil=>rw [<- Hb] at Hd;simp at Hd
    | cons t rb=>
     have ya:y=(s,if ra=[] then kd a.fl else 3):=by
      rw [<- ha];unfold onWay;rw [<- Ha];have e3:gS (p++s::ra) p.length=s:=by simp [gS,List.getD]
      rw [e3];cases ra<;>simp
     have zb:z=(t,if rb=[] then kd b.fl else 3):=by
      rw [<- hb];unfold onWay;rw [<- Hb];have e3:gS (p++t::rb) p.length=t:=by simp [gS,List.getD]
      rw [e3];cases rb<;>simp
     unfold cmpL at h;rw [<- Ha,<- Hb,cmpP_app] at h;rw [ya,zb];unfold cmpK;simp only [cmpP] at h;by_cases e4:cmpS s t=0
     ·rw [if_pos e4] at h;simp only [orI,e4,if_true];have kb:kd b.fl<=3:=by cases b.fl<;>decide
      have ka:kd a.fl<=3:=by cases a.fl<;>decide
      cases ra with
      | nil=>
       cases rb with
       | nil=>
        simp only [if_true];simp only [cmpP,orI,if_true] at h;by_cases e5:cmpI (kd a.fl) (kd b.fl)=0
        ·omega
        ·rw [if_neg e5] at h;omega
       | cons u rb=>
        simp only [if_true,reduceCtorEq,if_false];unfold cmpI;split
        ·omega
        ·split<;>omega
      | cons u ra=>
       cases rb with
       | nil=>simp [cmpP,orI] at h
       | cons v rb=>simp [cmpI]
     ·rw [if_neg e4] at h;simp only [orI,e4,if_false] at h ⊢;omega
  ·rw [yes_f e2] at hb;simp at hb
 ·rw [yes_f e1] at ha;simp at ha
noncomputable def kS (l:List Lf)(p:List ByteArray):Nat ->List Ky
 | 0=>[]
 | k+1=>match nx p (gL l k) with
  | none=>kS l p k
  | some y=>if yes ((kS l p k).getLast? =some y)=true then kS l p k else kS l p k++[y]
theorem kS_none {l:List Lf}{p:List ByteArray}{k:Nat}(h:nx p (gL l k)=none):kS l p (k+1)=kS l p k:=by simp only [kS,h]
theorem kS_some {l:List Lf}{p:List ByteArray}{k:Nat}{y:Ky}(h:nx p (gL l k)=some y):kS l p (k+1)=if yes ((kS l p k).getLast? =some y)=true then kS l p k else kS l p k++[y]:=by simp only [kS,h]
theorem kS_len (l:List Lf)(p:List ByteArray):∀k,(kS l p k).length<=k
 | 0=>by simp [kS]
 | k+1=>by
  have ih:=kS_len l p k;cases h:nx p (gL l k) with
  | none=>rw [kS_none h];omega
  | some y=>rw [kS_some h];split<;>simp<;>omega
theorem kS_ok {R F T:Nat ->Int}{n:Nat}{l:List Lf}(p:List ByteArray)(h:LvOk R F T n l l.length):∀k,k<=l.length ->(kS l p k).Pairwise (fun x y=>cmpK x y<0)/\∀y,y∈kS l p k↔∃j,j<k/\ nx p (gL l j)=some y
 | 0,_=>⟨List.Pairwise.nil,fun y=>by simp [kS]⟩
 | k+1,hk=>by
  obtain⟨Ha,Hc⟩:=kS_ok p h k (by omega);have Hb:∀y,(∃j,j<k+1/\ nx p (gL l j)=some y)↔y∈kS l p k \/nx p (gL l k)=some y:=fun y=>by
   rw [Hc];constructor
   ·rintro⟨j,hj,e⟩;by_cases ej:j=k
    ·subst ej;exact .inr e
    ·exact .inl ⟨j,by omega,e⟩
   ·rintro(⟨j,hj,e⟩|e)
    ·exact⟨j,by omega,e⟩
    ·exact⟨k,by omega,e⟩
  cases hn:nx p (gL l k) with
  | none=>
   rw [kS_none hn];refine⟨Ha,fun y=> ?_⟩;rw [Hb y,hn];simp
  | some z=>
   have le:∀y∈kS l p k,cmpK y z<=0:=fun y hy=>by
    obtain⟨j,hj,e⟩:=(Hc y).1 hy;exact nx_order (h.lt k hj (by omega)) e hn
   rw [kS_some hn];by_cases e:(kS l p k).getLast? =some z
   ·rw [if_pos (yes_t e)];refine⟨Ha,fun y=> ?_⟩;rw [Hb y,hn];constructor
    ·exact .inl
    ·rintro(h1|h1)
     ·exact h1
     ·injection h1 with h1;subst h1;exact List.mem_of_getLast? e
   ·rw [if_neg (by rw [yes_f e];simp)];have hz:z ∉ kS l p k:=fun hz=>by
     obtain⟨ys,u,hu⟩:∃ys u,kS l p k=ys++[u]:=by
      refine⟨(kS l p k).dropLast,(kS l p k).getLast (List.ne_nil_of_mem hz),(List.dropLast_concat_getLast _).symm⟩
     rw [hu] at hz le e Ha;simp at e;rcases List.mem_append.1 hz with h1|h1
     ·have h2:=(List.pairwise_append.1 Ha).2.2 z h1 u (by simp);have h3:=le u (by simp);have h4:=CmpT.key.neg z u;have:0<cmpK u z:=h4.1 h2;omega
     ·simp at h1;exact e h1.symm
    refine⟨List.pairwise_append.2 ⟨Ha,List.pairwise_singleton _ _,fun x hx y hy=> ?_⟩,fun y=> ?_⟩
    ·simp at hy;subst hy;have h1:=le x hx;have h2:cmpK x y≠0:=fun e=>hz ((CmpT.key.z x y).1 e ▸ hx);omega
    ·rw [Hb y,hn];simp only [List.mem_append,List.mem_singleton,Option.some.injEq];exact⟨fun h=>h.imp id Eq.symm,fun h=>h.imp id Eq.symm⟩
theorem kS_tree {R F T:Nat ->Int}{n:Nat}{l:List Lf}{N:List Ky ->Option (Nat×Nat)}{p:List ByteArray}{ts:List Ky}(h:LvOk R F T n l l.length)(hI:NkI l l.length N)(h1:ts.Pairwise (fun x y=>cmpK x y<0))(h2:∀x,x∈ts↔N (wayOf p 3++[x])≠none):ts=kS l p l.length:=by
 obtain⟨k1,k2⟩:=kS_ok p h l.length zL;refine CmpT.key.uniq h1 k1 fun x=> ?_;rw [h2,k2];have:=hI (wayOf p 3++[x]);rw [Option.isSome_iff_ne_none] at this;rw [this];simp only [List.append_eq_nil_iff,List.cons_ne_self,and_false,false_or,reduceCtorEq];constructor
 ·rintro⟨j,hj,e⟩;exact⟨j,hj,nx_iff.1 e⟩
 ·rintro⟨j,hj,e⟩;exact⟨j,hj,nx_iff.2 e⟩
def OnceOf (vs ts:List ByteArray):Prop:=ts.Pairwise (fun x y=>cmpS x y<0)/\∀s,s∈ts↔s∈vs
noncomputable def rV (l:List Lf)(p:List ByteArray):Nat ->List ByteArray
 | 0=>[]
 | k+1=>if yes ((gL l k).fl=false/\ (gL l k).p=p)=true then rV l p k++[(gL l k).v] else rV l p k
theorem rV_len (l:List Lf)(p:List ByteArray):∀k,(rV l p k).length<=k
 | 0=>by simp [rV]
 | k+1=>by have:=rV_len l p k;simp only [rV];split<;>simp<;>omega
theorem rV_mem {l:List Lf}{p:List ByteArray}{s:ByteArray}:∀{k:Nat},s∈rV l p k↔∃j,j<k/\ (gL l j).fl=false/\ (gL l j).p=p/\ (gL l j).v=s
 | 0=>by simp [rV]
 | k+1=>by
  have ih:=rV_mem (l:=l) (p:=p) (s:=s) (k:=k);simp only [rV];by_cases e:(gL l k).fl=false/\ (gL l k).p=p
  ·rw [if_pos (yes_t e),List.mem_append,ih,List.mem_singleton];constructor
   ·rintro(⟨j,hj,r⟩|r)
    ·exact⟨j,by omega,r⟩
    ·exact⟨k,by omega,e.1,e.2,r.symm⟩
   ·rintro⟨j,hj,r1,r2,r3⟩;by_cases ej:j=k
    ·subst ej;exact .inr r3.symm
    ·exact .inl ⟨j,by omega,r1,r2,r3⟩
  ·rw [if_neg (by rw [yes_f e];simp),ih];constructor
   ·rintro⟨j,hj,r⟩;exact⟨j,by omega,r⟩
   ·rintro⟨j,hj,r1,r2,r3⟩;by_cases ej:j=k
    ·subst ej;exact absurd ⟨r1,r2⟩ e
    ·exact⟨j,by omega,r1,r2,r3⟩
theorem Mk_val {l:List Lf}{p:List Ky}{d:Dt}{s:ByteArray}:∀{k:Nat},Dis l k ->(Mk l k p d=some s↔∃j,j<k/\ Way (gL l j)=p/\ ((gL l j).r,(gL l j).q)=d/\ (gL l j).v=s)
 | 0,_=>⟨fun h=>by simp [Mk] at h,fun⟨j,hj,_⟩=>by omega⟩
 | k+1,hd=>by
  have ih:=Mk_val (l:=l) (p:=p) (d:=d) (s:=s) (k:=k) (fun i hi j hj=>hd i (by omega) j hj);simp only [Mk];by_cases e:p=wayOf (gL l k).p (kd (gL l k).fl)
  ·rw [e,updM_same,<- e];by_cases e2:d=((gL l k).r,(gL l k).q)
   ·rw [e2,updF_same];constructor
    ·intro h;injection h with h;exact⟨k,by omega,e.symm,rfl,h⟩
    ·rintro⟨j,hj,r1,r2,r3⟩;by_cases ej:j=k
     ·subst ej;rw [r3]
     ·have:=hd k (by omega) j (by omega);exact absurd ⟨congrArg Prod.fst r2,congrArg Prod.snd r2⟩ this
   ·rw [updF_other _ _ e2,ih];constructor
    ·rintro⟨j,hj,r⟩;exact⟨j,by omega,r⟩
    ·rintro⟨j,hj,r1,r2,r3⟩;by_cases ej:j=k
     ·subst ej;exact absurd r2.symm e2
     ·exact⟨j,by omega,r1,r2,r3⟩
  ·rw [updM_other _ _ _ e,ih];constructor
   ·rintro⟨j,hj,r⟩;exact⟨j,by omega,r⟩
   ·rintro⟨j,hj,r1,r2,r3⟩;by_cases ej:j=k
    ·subst ej;exact absurd r1.symm e
    ·exact⟨j,by omega,r1,r2,r3⟩
theorem reg_way {l:List Lf}{p:List ByteArray}{s:ByteArray}(hp:PthOk p)(hd:Dis l l.length):(∃d,Mk l l.length (wayOf p 1) d=some s)↔s∈rV l p l.length:=by
 rw [rV_mem];constructor
 ·rintro⟨d,Ha⟩;obtain⟨j,hj,e,_,e3⟩:=(Mk_val hd).1 Ha;obtain⟨e1,e2⟩:=wayOf_inj e.symm (by have:=hp.1;omega);refine⟨j,hj,?_,e1.symm,e3⟩;cases hf:(gL l j).fl with
  | false=>rfl
  | true=>rw [hf] at e2;cases e2
 ·rintro⟨j,hj,e1,e2,e3⟩;refine⟨((gL l j).r,(gL l j).q),(Mk_val hd).2 ⟨j,hj,?_,rfl,e3⟩⟩;unfold Way;rw [e1,e2];rfl
noncomputable def dsK (l:List Lf)(p:List ByteArray)(y:Ky):Nat ->List Lf
 | 0=>[]
 | k+1=>if yes (nx p (gL l k)=some y)=true then dsK l p y k++[gL l k] else dsK l p y k
theorem dsK_yes {l:List Lf}{p:List ByteArray}{y:Ky}{k:Nat}(h:nx p (gL l k)=some y):dsK l p y (k+1)=dsK l p y k++[gL l k]:=by simp only [dsK];rw [if_pos (yes_t h)]
theorem dsK_no {l:List Lf}{p:List ByteArray}{y:Ky}{k:Nat}(h:nx p (gL l k)≠some y):dsK l p y (k+1)=dsK l p y k:=by simp only [dsK];rw [if_neg (by rw [yes_f h];simp)]
theorem dsK_mem {l:List Lf}{p:List ByteArray}{y:Ky}{x:Lf}:∀{k:Nat},x∈dsK l p y k↔∃j,j<k/\ nx p (gL l j)=some y/\ gL l j=x
 | 0=>by simp [dsK]
 | k+1=>by
  have ih:=dsK_mem (l:=l) (p:=p) (y:=y) (x:=x) (k:=k);by_cases h:nx p (gL l k)=some y
  ·rw [dsK_yes h,List.mem_append,List.mem_singleton,ih];constructor
   ·rintro(⟨j,hj,e⟩|rfl)
    ·exact⟨j,by omega,e⟩
    ·exact⟨k,by omega,h,rfl⟩
   ·rintro⟨j,hj,e1,e2⟩;by_cases ej:j=k
    ·subst ej;exact .inr e2.symm
    ·exact .inl ⟨j,by omega,e1,e2⟩
  ·rw [dsK_no h,ih];constructor
   ·rintro⟨j,hj,e⟩;exact⟨j,by omega,e⟩
   ·rintro⟨j,hj,e1,e2⟩;by_cases ej:j=k
    ·subst ej;exact absurd e1 h
    ·exact⟨j,by omega,e1,e2⟩
theorem nx_some {p:List ByteArray}{x:Lf}{y:Ky}:nx p x=some y↔(p <+:x.p/\ p.length<x.p.length)/\ onWay x.p (kd x.fl) p.length=y:=by
 unfold nx;by_cases h:p <+:x.p/\ p.length<x.p.length
 ·rw [if_pos (yes_t h)];simp [h]
 ·rw [if_neg (by rw [yes_f h];simp)];simp [h]
theorem nx_ne {p:List ByteArray}{x:Lf}:nx p x≠none↔p <+:x.p/\ p.length<x.p.length:=by
 unfold nx;by_cases h:p <+:x.p/\ p.length<x.p.length
 ·rw [if_pos (yes_t h)];simp [h]
 ·rw [if_neg (by rw [yes_f h];simp)];simp [h]
theorem kd_or (b:Bool):kd b=1 \/kd b=2:=by cases b<;>simp [kd]
theorem pre_snoc {p q:List ByteArray}{s:ByteArray}:p++[s] <+:q↔(p <+:q/\ p.length<q.length)/\ gS q p.length=s:=by
 constructor
 ·rintro⟨r,rfl⟩;refine⟨⟨⟨s::r,by simp⟩,by simp⟩,?_⟩;simp [gS,List.getD]
 ·rintro⟨⟨⟨r,rfl⟩,h⟩,e⟩;cases r with
  | nil=>simp at h
  | cons t r=>
   simp [gS,List.getD] at e;subst e;exact⟨r,by simp⟩
theorem nx_map {p:List ByteArray}{x:Lf}{s:ByteArray}:nx p x=some (s,3)↔nx (p++[s]) x≠none:=by
 rw [nx_some,nx_ne,pre_snoc];unfold onWay;constructor
 ·rintro⟨h,e⟩;have e1:=congrArg Prod.fst e;have e2:=congrArg Prod.snd e;dsimp only at e1 e2;by_cases hl:p.length+1<x.p.length
  ·exact⟨⟨h,e1⟩,by simpa using hl⟩
  ·rw [if_neg hl] at e2;rcases kd_or x.fl with k|k<;>rw [k] at e2<;>exact absurd e2 (by decide)
 ·rintro⟨⟨h,e⟩,hl⟩;refine⟨h,?_⟩;rw [if_pos (by simpa using hl),e]
theorem nx_leaf {p:List ByteArray}{x:Lf}{y:Ky}(hy:y.2≠3):nx p x=some y↔Way x=wayOf p 3++[y]:=by
 rw [<- nx_iff];constructor
 ·intro h;have h':=nx_iff.1 h;rw [nx_some] at h';obtain⟨⟨_,hl⟩,e⟩:=h';have e2:=congrArg Prod.snd e;unfold onWay at e2;dsimp only at e2;have Ha:¬p.length+1<x.p.length:=fun hh=>by rw [if_pos hh] at e2;exact hy e2.symm
  refine(h.eq_of_length ?_).symm;simp [Way,wayOf_len];omega
 ·intro h;rw [h];exact List.prefix_refl _
theorem nx_leaf_path {p:List ByteArray}{x:Lf}{y:Ky}(hy:y.2≠3)(h:nx p x=some y):x.p=p++[y.1]/\ kd x.fl=y.2:=by
 rw [nx_some] at h;obtain⟨⟨hp,hl⟩,e⟩:=h;have e1:=congrArg Prod.fst e;have e2:=congrArg Prod.snd e;unfold onWay at e1 e2;dsimp only at e1 e2;have Ha:¬p.length+1<x.p.length:=fun hh=>by rw [if_pos hh] at e2;exact hy e2.symm
 rw [if_neg Ha] at e2;exact⟨((pre_snoc.2 ⟨⟨hp,hl⟩,e1⟩).eq_of_length (by simp;omega)).symm,e2⟩
theorem kd_inj {a b:Bool}(h:kd a=kd b):a=b:=by cases a<;>cases b<;>simp [kd] at h ⊢
theorem dsK_sorted {R F T:Nat ->Int}{n:Nat}{l:List Lf}{p:List ByteArray}{y:Ky}(h:LvOk R F T n l l.length)(hy:y.2≠3):∀k,k<=l.length ->((dsK l p y k).map fun x=>((x.r,x.q):Dt)).Pairwise (fun x y=>cmpDt x y<0)
 | 0,_=>by simp [dsK]
 | k+1,hk=>by
  have ih:=dsK_sorted (p:=p) h hy k (by omega);by_cases e:nx p (gL l k)=some y
  ·rw [dsK_yes e,List.map_append];refine List.pairwise_append.2 ⟨ih,by simp,fun a ha b hb=> ?_⟩;simp only [List.map_cons,List.map_nil,List.mem_singleton] at hb;subst hb;obtain⟨x,hx,rfl⟩:=List.mem_map.1 ha;obtain⟨j,hj,e1,rfl⟩:=dsK_mem.1 hx;have Ha:=h.lt (i:=j) k hj (by omega);obtain⟨p1,k1⟩:=nx_leaf_path hy e1;obtain⟨p2,k2⟩:=nx_leaf_path hy e;unfold cmpL at Ha;rw [p1,p2,k1,k2,cmpP_z.2 rfl,show cmpI y.2 y.2=0 from CmpT.int.irr _] at Ha;simpa [orI,cmpD,cmpDt] using Ha
  ·rw [dsK_no e];exact ih
theorem dots_tree {R F T:Nat ->Int}{n:Nat}{l:List Lf}{p:List ByteArray}{y:Ky}{ts:List Dt}(h:LvOk R F T n l l.length)(hy:y.2≠3)(h1:ts.Pairwise (fun x y=>cmpDt x y<0))(h2:∀d,d∈ts↔Mk l l.length (wayOf p 3++[y]) d≠none):ts=(dsK l p y l.length).map fun x=>((x.r,x.q):Dt):=by
 refine CmpT.dot.uniq h1 (dsK_sorted h hy _ zL) fun d=> ?_;rw [h2,Mk_ne,List.mem_map];constructor
 ·rintro⟨j,hj,e1,e2⟩;exact⟨gL l j,dsK_mem.2 ⟨j,hj,(nx_leaf hy).2 e1,rfl⟩,e2⟩
 ·rintro⟨x,hx,e⟩;obtain⟨j,hj,e1,rfl⟩:=dsK_mem.1 hx;exact⟨j,hj,(nx_leaf hy).1 e1,e⟩
theorem mark_tree {l:List Lf}{p:List ByteArray}{y:Ky}{x:Lf}(hy:y.2≠3)(hd:Dis l l.length)(hx:x∈dsK l p y l.length):Mk l l.length (wayOf p 3++[y]) (x.r,x.q)=some x.v:=by
 obtain⟨j,hj,e1,rfl⟩:=dsK_mem.1 hx;exact(Mk_val hd).2 ⟨j,hj,(nx_leaf hy).1 e1,rfl,rfl⟩
theorem way_snoc (p:List ByteArray)(s:ByteArray):wayOf (p++[s]) 3=wayOf p 3++[(s,3)]:=by
 rw [wayOf3,wayOf3,List.length_append,List.length_singleton,List.range_succ,List.map_append];congr 1
 ·refine List.map_congr_left fun i hi=> ?_;rw [gS_take (List.prefix_append p [s]) (by simpa using hi)]
 ·simp [gS,List.getD]
theorem nx_name {p:List ByteArray}{x:Lf}{y:Ky}(hx:LfOk1 x)(h:nx p x=some y):y.1.size<=40:=by
 rw [nx_some] at h;obtain⟨⟨_,hl⟩,e⟩:=h;have e1:=congrArg Prod.fst e;unfold onWay at e1;dsimp only at e1;rw [<- e1];exact(hx.1.2.2 _ hl).2
section
variable {R F T : Nat -> Int} {n : Nat} {l : List Lf} {p : List ByteArray} {i e j g : Nat} {y : Ky}
end
theorem wp_app2 {P:Program}{o:Oper}{a:Act}{w w':World}{K:Act ->World ->Prop}{Q:Exit ->Act ->World ->Prop}(s x:Operand)(t u:TypeId)(ho:o.op=.call {callee:=.builtin .append,args:=#[s,x],argTypes:=#[t,u]}){v x' v':Value}{t':TypeId}(hr:(Builtin.append_ #[t,u] t' #[v,x']).run P w=.ok v' w')(hs:a.eval s=v)(hx:a.eval x=x')(ht:o.type=t')(h:K (a.put o.dst v') w'):Oper.wp P o a w K Q:=by
 subst ht;unfold Oper.wp execOp;simp only [ho,resolve,invoke,builtin,Sem.run_bind,Sem.run_pure,Result.andThen_ok,List.map_toArray,List.map_cons,List.map_nil,hs,hx,hr];exact h
theorem wpList_app2 {P:Program}{ops:Array Oper}{rest:List Oper}{o:Oper}{a:Act}{w w':World}{Q:Exit ->Act ->World ->Prop}(hgd:o.guard=none)(s x:Operand)(t u:TypeId)(ho:o.op=.call {callee:=.builtin .append,args:=#[s,x],argTypes:=#[t,u]}){v x' v':Value}{t':TypeId}(hr:(Builtin.append_ #[t,u] t' #[v,x']).run P w=.ok v' w')(hs:a.eval s=v)(hx:a.eval x=x')(ht:o.type=t')(h:wpList P ops Q rest (a.put o.dst v') w'):wpList P ops Q (o::rest) a w:=by
 refine wpList_plain hgd fun K hK=> ?_;exact wp_app2 s x t u ho hr hs hx ht (hK _ _ h)
structure LvB (l:List Lf):Prop where
 rep:∀i,i<l.length ->0<=(gL l i).r/\ (gL l i).r<8
 seq:∀i,i<l.length ->0<=(gL l i).q/\ (gL l i).q<=1000000000
 val:∀i,i<l.length ->(gL l i).v.size<=200
 len:l.length<=1000
 dis:Dis l l.length
open Go.Deep
theorem own_wrF {w:World}{B g n cap size:Nat}{e:TypeId}{C:Nat ->Value}(h:w.ownsRow B e size (.slice (some ⟨g,0,none⟩) n cap) n ((List.range (n*size)).map C)):Wr w g e (n*size) C:=by
 rcases h.2 with ⟨h0,_⟩|⟨g',Hc,Ha,hv,Hb,hb,h1,h2,h3,h4⟩
 ·cases h0
 ·have eg:g=g':=by injection hv with e1 _ _;exact congrArg Addr.block (Option.some.inj e1)
  rw [<- eg] at hb;refine⟨Ha,hb,?_,fun j hj=> ?_⟩
  ·have:=congrArg List.length h4;simp at this;omega
  ·have e1:(Ha.toList.take (n*size))[j]? =((List.range (n*size)).map C)[j]? :=by rw [h4]
   rw [List.getElem?_take_of_lt hj] at e1;rw [<- Array.getElem?_toList,e1];simp [List.getElem?_range hj]
theorem copyRowE (t e:TypeId)(i:TypeInfo)(z:Value)(size bytes:Nat)(ht:Tryz.prog.underlying t=some (.slice e))(hi:Tryz.prog.info? e=some i)(hz:i.zero=some z)(hsize:i.size=size)(hby:i.bytes=bytes)(hzs:z.cells.size=size)(hsz:0<size)(hb2:bytes<=64)(q g off m c:Nat)(C:Nat ->Value)(w:World)(B:Nat)(hm:m<=1048576)(ho:w.ownsRow B e size (.slice (some ⟨q,0,none⟩) 0 0) 0 [])(hB:B<=w.heap.size)(hC:∀j,j<m*size ->w.cell? ⟨g,off+j,none⟩=some (C j))(h1:∀j,j<m*size ->(C j).oneCell'=true):
  ∃q' Ha w',(Builtin.append_ #[t,t] t #[.slice (some ⟨q,0,none⟩) 0 0,.slice (some ⟨g,off,none⟩) m c]).run Tryz.prog w=.ok (.slice (some ⟨q',0,none⟩) m Ha) w'/\ w'.ownsRow B e size (.slice (some ⟨q',0,none⟩) m Ha) m ((List.range (m*size)).map C)/\ w.grownBy w' (some q)/\ (q'=q \/q'=w.heap.size):=by
 obtain⟨v',w',hr,h2,h3,h4,h5⟩:=run_append_own_at (P:=Tryz.prog) w B t t e i z size bytes ht hi hz hsize hby hzs hsz (.slice (some ⟨q,0,none⟩) 0 0) 0 [] ho ⟨g,off,none⟩ m c ((List.range (m*size)).map C) (by simp) (fun j u hj=>by
  simp only [List.getElem?_map,Option.map_eq_some_iff] at hj;obtain⟨q,hq,rfl⟩:=hj;have Hb:j<m*size:=by
   rcases Nat.lt_or_ge j (m*size) with h|h
   ·exact h
   ·rw [List.getElem?_eq_none (by simpa using h)] at hq;cases hq
  rw [List.getElem?_range Hb] at hq;have hq:=Option.some.inj hq;rw [<- hq,addr_addP];exact hC j Hb) (fun u hu=>by
  obtain⟨j,hj,rfl⟩:=List.mem_map.1 hu;exact h1 j (by simpa using hj)) (by unfold maxLen;omega) (by
   have:m*bytes<=1048576*64:=Nat.mul_le_mul hm hb2;rw [Nat.zero_add];omega) hB
 rw [Nat.zero_add,List.nil_append] at h2;rcases h2.2 with ⟨hv,_⟩|⟨q',Ha,Hc,rfl,r⟩
 ·have:=h4.1 hv;exact absurd this.1 (by simp)
 ·refine⟨q',Ha,w',hr,h2,h3,?_⟩;rcases h5 with h5|h5
  ·exact .inl (by simpa [Value.ownBlock] using h5)
  ·exact .inr (by simpa [Value.ownBlock] using h5)
def lCp (l:List Lf)(P Q:Nat ->Nat)(j:Nat):Value:=
 if j%5=0 then .slice (some ⟨P (j/5),0,none⟩) (gL l (j/5)).p.length (Q (j/5)) else if j%5=1 then .bool (gL l (j/5)).fl else if j%5=2 then .int .i64 (gL l (j/5)).r else if j%5=3 then .int .i64 (gL l (j/5)).q else .string (gL l (j/5)).v
theorem lCp0 (l:List Lf)(P Q:Nat ->Nat)(i:Nat):lCp l P Q (i*5)=.slice (some ⟨P i,0,none⟩) (gL l i).p.length (Q i)/\ lCp l P Q (i*5+1)=.bool (gL l i).fl/\ lCp l P Q (i*5+2)=.int .i64 (gL l i).r/\ lCp l P Q (i*5+3)=.int .i64 (gL l i).q/\ lCp l P Q (i*5+4)=.string (gL l i).v:=by
 unfold lCp;refine⟨?_,?_,?_,?_,?_⟩
 ·rw [if_pos (by omega),show i*5/5=i by omega]
 ·rw [if_neg (by omega),if_pos (by omega),show (i*5+1)/5=i by omega]
 ·rw [if_neg (by omega),if_neg (by omega),if_pos (by omega),show (i*5+2)/5=i by omega]
 ·rw [if_neg (by omega),if_neg (by omega),if_neg (by omega),if_pos (by omega),show (i*5+3)/5=i by omega]
 ·rw [if_neg (by omega),if_neg (by omega),if_neg (by omega),if_neg (by omega),show (i*5+4)/5=i by omega]
theorem lCp_snoc (l:List Lf)(P Q:Nat ->Nat)(k p q:Nat):(List.range ((k+1)*5)).map (lCp l (fun i=>if i=k then p else P i) (fun i=>if i=k then q else Q i))=(List.range (k*5)).map (lCp l P Q)++[.slice (some ⟨p,0,none⟩) (gL l k).p.length q,.bool (gL l k).fl,.int .i64 (gL l k).r,.int .i64 (gL l k).q,.string (gL l k).v]:=by
 rw [show (k+1)*5=k*5+1+1+1+1+1 by omega];simp only [List.range_succ,List.map_append,List.map_cons,List.map_nil,List.append_assoc,List.cons_append,List.nil_append];obtain⟨d0,d1,d2,d3,d4⟩:=lCp0 l (fun i=>if i=k then p else P i) (fun i=>if i=k then q else Q i) k;rw [d0,d1,d2,d3,d4];simp only [if_pos];congr 1;refine List.map_congr_left fun j hj=> ?_;have Hb:j<k*5:=by simpa using hj
 unfold lCp;have Ha:j/5≠k:=by omega
 simp only [if_neg Ha]
theorem cell_five_new (w:World)(v0 v1 v2 v3 v4:Value)(t:TypeId):∀j u,[v0,v1,v2,v3,v4][j]? =some u ->(w.alloc (.cells #[v0,v1,v2,v3,v4] t)).cell? ((⟨w.heap.size,0,none⟩:Addr).add j)=some u:=by
 intro j u hj;have hB:=Bx5.new w v0 v1 v2 v3 v4 t;rw [addr_addP,Nat.zero_add];match j,hj with
 | 0,hj=>rw [hB.c0];simpa using hj
 | 1,hj=>rw [hB.c1];simpa using hj
 | 2,hj=>rw [hB.c2];simpa using hj
 | 3,hj=>rw [hB.c3];simpa using hj
 | 4,hj=>rw [hB.c4];simpa using hj
 | j+5,hj=>simp at hj
structure LC (w:World)(lo:Nat)(v:Value)(l:List Lf)(P Q:Nat ->Nat):Prop where
 row:w.ownsRow lo 60 5 v l.length ((List.range (l.length*5)).map (lCp l P Q))
 pt:∀i,i<l.length ->lo<=P i/\ P i<w.heap.size/\ some (P i)≠v.ownBlock/\ Wr w (P i) 9 (gL l i).p.length (fun t=> .string (gS (gL l i).p t))/\ (gL l i).p.length<=Q i/\ Q i<=9223372036854775807
def Sep (P:Nat ->Nat)(n:Nat):Prop:=∀i j,i<n ->j<n ->i≠j ->P i≠P j
def LB (w:World)(lo:Nat)(v:Value)(l:List Lf):Prop:=∃P Q,LC w lo v l P Q/\ Sep P l.length
section
variable {w w' : World} {lo : Nat} {v : Value} {l : List Lf} {P Q : Nat -> Nat}
theorem LC.nil (w:World)(lo:Nat)(P Q:Nat ->Nat):LC w lo (.slice none 0 0) [] P Q:=⟨⟨rfl,.inl ⟨rfl,rfl⟩⟩,fun i hi=>by simp at hi⟩
theorem LC.move (h:LC w lo v l P Q)(hz:w.heap.size<=w'.heap.size)(hs:∀q,lo<=q ->q<w.heap.size ->w'.heap[q]? =w.heap[q]?):LC w' lo v l P Q:=
 ⟨own_at5 h.row (fun g hg=>hs g (h.row.lt g hg).1 (h.row.lt g hg).2),fun i hi=>by
  obtain⟨e1,e2,e3,e4⟩:=h.pt i hi;exact⟨e1,Nat.lt_of_lt_of_le e2 hz,e3,e4.1.same (hs _ e1 e2),e4.2⟩⟩
theorem LC.below (h:LC w lo v l P Q)(hb:Below w.heap.size w w'):LC w' lo v l P Q:=h.move hb.size (fun q _ h2=>hb.block q h2)
theorem LB.move (h:LB w lo v l)(hz:w.heap.size<=w'.heap.size)(hs:∀q,lo<=q ->q<w.heap.size ->w'.heap[q]? =w.heap[q]?):LB w' lo v l:=by
 obtain⟨P,Q,h1,h2⟩:=h;exact⟨P,Q,h1.move hz hs,h2⟩
theorem LB.below (h:LB w lo v l)(hb:Below w.heap.size w w'):LB w' lo v l:=h.move hb.size (fun q _ h2=>hb.block q h2)
theorem LB.lt (h:LB w lo v l):∀g,v.ownBlock=some g ->lo<=g/\ g<w.heap.size:=by
 obtain⟨P,Q,h1,h2⟩:=h;exact fun g hg=>h1.row.lt g hg
theorem LB.nil (w:World)(lo:Nat):LB w lo (.slice none 0 0) []:=⟨fun _=>0,fun _=>0,LC.nil w lo _ _,fun i j hi=>by simp at hi⟩
end
theorem LB.form {w:World}{lo:Nat}{v:Value}{l:List Lf}(h:LB w lo v l):∃a c,v=.slice a l.length c:=by
 obtain⟨P,Q,h1,_⟩:=h;rcases h1.row.2 with ⟨e,e0⟩|⟨g,Ha,Hb,e,_⟩
 ·exact⟨none,0,by rw [e,e0]⟩
 ·exact⟨_,Ha,e⟩
theorem gL_pre (l:List Lf)(y:Lf){i:Nat}(hi:i<l.length):gL (l++[y]) i=gL l i:=by simp [gL,List.getD,List.getElem?_append_left hi]
theorem gL_end (l:List Lf)(y:Lf):gL (l++[y]) l.length=y:=by simp [gL,List.getD]
theorem lCp_end (l:List Lf)(y:Lf)(P Q:Nat ->Nat)(p q:Nat):(List.range ((l.length+1)*5)).map (lCp (l++[y]) (fun i=>if i=l.length then p else P i) (fun i=>if i=l.length then q else Q i))=(List.range (l.length*5)).map (lCp l P Q)++[.slice (some ⟨p,0,none⟩) y.p.length q,.bool y.fl,.int .i64 y.r,.int .i64 y.q,.string y.v]:=by
 rw [lCp_snoc,gL_end];congr 1;refine List.map_congr_left fun j hj=> ?_;have Ha:j<l.length*5:=by simpa using hj
 unfold lCp;rw [gL_pre l y (show j/5<l.length by omega)]
theorem LC.app {w w1:World}{lo:Nat}{v:Value}{l:List Lf}{P Q:Nat ->Nat}(h:LC w lo v l P Q)(hb:Below w.heap.size w w1)(hlo:lo<=w.heap.size)(hk:l.length<=1048576)(y:Lf)(p pc:Nat)(hp1:lo<=p)(hp2:p<w1.heap.size)(hp3:some p≠v.ownBlock)(hw:Wr w1 p 9 y.p.length (fun t=> .string (gS y.p t)))(hpc:y.p.length<=pc/\ pc<=9223372036854775807):
  ∃q' Ha w3,(Builtin.append_ #[23,23] 23 #[v,.slice (some ⟨w1.heap.size,0,none⟩) 1 1]).run Tryz.prog (w1.alloc (.cells #[.slice (some ⟨p,0,none⟩) y.p.length pc,.bool y.fl,.int .i64 y.r,.int .i64 y.q,.string y.v] 60))=.ok (.slice (some ⟨q',0,none⟩) (l.length+1) Ha) w3/\
   LC w3 lo (.slice (some ⟨q',0,none⟩) (l.length+1) Ha) (l++[y]) (fun i=>if i=l.length then p else P i) (fun i=>if i=l.length then pc else Q i)/\ Gr w1 w3 v (.slice (some ⟨q',0,none⟩) (l.length+1) Ha):=by
 obtain⟨i0,hi,Hi,Hj,Hk⟩:=info_parts infoLeaf;have h1:=h.below hb;have b2:Below w1.heap.size w1 (w1.alloc (.cells #[.slice (some ⟨p,0,none⟩) y.p.length pc,.bool y.fl,.int .i64 y.r,.int .i64 y.q,.string y.v] 60)):=zO _ _;have h2:=h1.below b2;have Hg:=hw.same (b2.block p hp2);have He:=cell_five_new w1 (.slice (some ⟨p,0,none⟩) y.p.length pc) (.bool y.fl) (.int .i64 y.r) (.int .i64 y.q) (.string y.v) 60;obtain⟨W2,Hc⟩:∃W2,w1.alloc (.cells #[.slice (some ⟨p,0,none⟩) y.p.length pc,.bool y.fl,.int .i64 y.r,.int .i64 y.q,.string y.v] 60)=W2:=⟨_,rfl⟩;rw [Hc] at h2 Hg He b2 ⊢;have hz:W2.heap.size=w1.heap.size+1:=by rw [<- Hc];simp
 have Hh:=hb.size;obtain⟨v',w3,hr,g2,g3,g4,g5⟩:=run_append_own_at (P:=Tryz.prog) W2 lo 23 23 60 i0 _ 5 64 Tryz.underlying23 hi Hi Hj Hk rfl (by decide) v l.length _ h2.row ⟨w1.heap.size,0,none⟩ 1 1 [.slice (some ⟨p,0,none⟩) y.p.length pc,.bool y.fl,.int .i64 y.r,.int .i64 y.q,.string y.v] rfl He (fun u hu=>by
  simp only [List.mem_cons,List.not_mem_nil,or_false] at hu;rcases hu with e|e|e|e|e<;>rw [e]<;>rfl) (by unfold maxLen;omega) (by omega) (by omega)
 rcases g2.2 with ⟨hv,h0⟩|⟨q',Ha,Hl,hv,r⟩
 ·omega
 rw [hv] at hr g2 g5;have Hf:some q'=v.ownBlock \/q'=W2.heap.size:=by
  rcases g5 with g5|g5
  ·exact .inl (by simpa [Value.ownBlock] using g5)
  ·exact .inr (by simpa [Value.ownBlock] using g5)
 have Hm:=g3.size;have gr:Gr w1 w3 v (.slice (some ⟨q',0,none⟩) (l.length+1) Ha):=by
  refine(Gr.of_below (b:=v) b2).trans ⟨g3,?_⟩;rcases Hf with e|e
  ·exact .inl e
  ·exact .inr ⟨q',rfl,by omega⟩
 refine⟨q',Ha,w3,hr,⟨?_,fun i hi=> ?_⟩,gr⟩
 ·rw [List.length_append,List.length_singleton,lCp_end];exact g2
 ·have Hb:∀b,some b≠v.ownBlock ->b<W2.heap.size ->some b≠(Value.slice (some ⟨q',0,none⟩) (l.length+1) Ha).ownBlock:=fun b hb1 hb2 e=>by
   have e:b=q':=by simpa [Value.ownBlock] using e
   rcases Hf with e2|e2
   ·exact hb1 (by rw [e];exact e2)
   ·omega
  by_cases e:i=l.length
  ·subst e;simp only [if_pos];rw [gL_end];exact⟨hp1,by omega,Hb p hp3 (by omega),Hg.same (g3.block p (by omega) hp3),hpc⟩
  ·have Hd:i<l.length:=by simp at hi;omega
   simp only [if_neg e];rw [gL_pre l y Hd];obtain⟨e1,e2,e3,e4⟩:=h2.pt i Hd;exact⟨e1,by omega,Hb _ e3 e2,e4.1.same (g3.block _ e2 e3),e4.2⟩
theorem Sep.app {P:Nat ->Nat}{n p:Nat}(h:Sep P n)(hp:∀i,i<n ->P i≠p):Sep (fun i=>if i=n then p else P i) (n+1):=by
 intro i j hi hj Ha;dsimp only;by_cases e:i=n
 ·rw [if_pos e,if_neg (by omega)];exact fun e2=>hp j (by omega) e2.symm
 ·rw [if_neg e];by_cases e2:j=n
  ·rw [if_pos e2];exact hp i (by omega)
  ·rw [if_neg e2];exact h i j (by omega) (by omega) Ha
theorem LB.app {w w1:World}{lo:Nat}{v:Value}{l:List Lf}(h:LB w lo v l)(hb:Below w.heap.size w w1)(hlo:lo<=w.heap.size)(hk:l.length<=1048576)(y:Lf)(p pc:Nat)(hp1:w.heap.size<=p)(hp2:p<w1.heap.size)(hw:Wr w1 p 9 y.p.length (fun t=> .string (gS y.p t)))(hpc:y.p.length<=pc/\ pc<=9223372036854775807):
  ∃q' Ha w3,(Builtin.append_ #[23,23] 23 #[v,.slice (some ⟨w1.heap.size,0,none⟩) 1 1]).run Tryz.prog (w1.alloc (.cells #[.slice (some ⟨p,0,none⟩) y.p.length pc,.bool y.fl,.int .i64 y.r,.int .i64 y.q,.string y.v] 60))=.ok (.slice (some ⟨q',0,none⟩) (l.length+1) Ha) w3/\
   LB w3 lo (.slice (some ⟨q',0,none⟩) (l.length+1) Ha) (l++[y])/\ Gr w1 w3 v (.slice (some ⟨q',0,none⟩) (l.length+1) Ha):=by
 obtain⟨P,Q,h1,h2⟩:=h;obtain⟨q',Ha,w3,e1,e2,e3⟩:=h1.app hb hlo hk y p pc (by omega) hp2 (fun e=>by have:=(h1.row.lt p e.symm).2;omega) hw hpc;exact⟨q',Ha,w3,e1,⟨_,_,e2,by rw [List.length_append,List.length_singleton];exact h2.app (fun i hi=>by have:=(h1.pt i hi).2.1;omega)⟩,e3⟩
def PWay (w:World)(vw:Value)(p:List ByteArray):Prop:=(vw=.slice none 0 0/\ p=[]) \/∃g c,vw=.slice (some ⟨g,0,none⟩) p.length c/\ g<w.heap.size/\∀t,t<p.length ->w.cell? ⟨g,t,none⟩=some (.string (gS p t))
theorem PWay.move {w w':World}{vw:Value}{p:List ByteArray}(h:PWay w vw p)(hz:w.heap.size<=w'.heap.size)(hs:∀g,vw.ownBlock=some g ->w'.heap[g]? =w.heap[g]?):PWay w' vw p:=by
 rcases h with h|⟨g,c,rfl,h1,h2⟩
 ·exact .inl h
 ·exact .inr ⟨g,c,rfl,by omega,fun t ht=>(World.cell?_of_block (a:=⟨g,t,none⟩) (hs g rfl)).trans (h2 t ht)⟩
theorem PWay.lt {w:World}{vw:Value}{p:List ByteArray}(h:PWay w vw p):∀g,vw.ownBlock=some g ->g<w.heap.size:=by
 rcases h with ⟨rfl,_⟩|⟨g,c,rfl,h1,h2⟩
 ·intro g e;cases e
 ·intro g' e;have e:g=g':=by simpa [Value.ownBlock] using e
  omega
theorem PWay.below {w w':World}{vw:Value}{p:List ByteArray}(h:PWay w vw p)(hb:Below w.heap.size w w'):PWay w' vw p:=h.move hb.size (fun g hg=>hb.block g (h.lt g hg))
def sRow (p:List ByteArray):List Value:=(List.range (p.length*1)).map fun t=> .string (gS p t)
theorem gS_pre (p:List ByteArray)(s:ByteArray){i:Nat}(hi:i<p.length):gS (p++[s]) i=gS p i:=by simp [gS,List.getD,List.getElem?_append_left hi]
theorem gS_end (p:List ByteArray)(s:ByteArray):gS (p++[s]) p.length=s:=by simp [gS,List.getD]
theorem sRow_snoc (p:List ByteArray)(s:ByteArray):sRow (p++[s])=sRow p++[.string s]:=by
 unfold sRow;rw [Nat.mul_one,Nat.mul_one,List.length_append,List.length_singleton,List.range_succ,List.map_append,List.map_singleton,gS_end];congr 1;refine List.map_congr_left fun j hj=> ?_;rw [gS_pre p s (by simpa using hj)]
theorem cloneS (g m c:Nat)(p:List ByteArray)(w:World)(hp:p.length=m)(hm:m<=1048576)(hg:g<w.heap.size)(h:∀t,t<m ->w.cell? ⟨g,t,none⟩=some (.string (gS p t))):
  Calls Tryz.prog 135 #[.slice (some ⟨g,0,none⟩) m c] w fun e w'=>∃q Ha,e=.returned (.slice (some ⟨q,0,none⟩) m Ha)/\ Below w.heap.size w w'/\ w'.ownsRow w.heap.size 9 1 (.slice (some ⟨q,0,none⟩) m Ha) m (sRow p):=by
 obtain⟨i0,hi,Hd,He,Hf⟩:=info_parts infoStr;have b0:Below w.heap.size w (w.alloc (.cells #[] 9)):=zO _ _;have ho:(w.alloc (.cells #[] 9)).ownsRow w.heap.size 9 1 (.slice (some ⟨w.heap.size,0,none⟩) 0 0) 0 []:=by
  have:=World.ownsRow_lit (base:=w.heap.size) (e:=9) (size:=1) w #[] 0 zL (by unfold maxLen;omega) rfl;simpa using this
 obtain⟨q,Ha,w',Hb,hw,Hc,hq⟩:=copyRowE 29 9 i0 _ 1 16 Tryz.underlying29 hi Hd He Hf rfl (by decide) (by omega) w.heap.size g 0 m c (fun t=> .string (gS p t)) (w.alloc (.cells #[] 9)) w.heap.size hm ho (by simp) (fun j hj=>by rw [Nat.zero_add];exact(b0.cell (p:=⟨g,j,none⟩) hg).trans (h j (by omega))) (fun _ _=>rfl);have HB:Hid (Below w.heap.size w w'):=hid (b0.grown Hc b0.size (fun k e=>by injection e with e;omega));have HW:Hid (w'.ownsRow w.heap.size 9 1 (.slice (some ⟨q,0,none⟩) m Ha) m (sRow p)):=hid (by unfold sRow;rw [hp];exact hw);have he:∀w:World,(binOp .eql 29 (.slice (some ⟨g,0,none⟩) m c) (.slice none 0 0)).run Tryz.prog w=.ok (.bool false) w:=fun _=>rfl;clear hw Hc hq h ho b0;go_enter Tryz.func135,Tryz.ntmps135;go_wp2_with (at_builtin;refine wpList_app2 rfl _ _ _ _ rfl Hb (by rfl) (by rfl) rfl ?_;clear Hb);go_ret;exact⟨q,Ha,rfl,HB.out,HW.out⟩
theorem cloneN (w:World):Calls Tryz.prog 135 #[.slice none 0 0] w fun e w'=>e=.returned (.slice none 0 0)/\ w'=w:=by
 have he:∀w:World,(binOp .eql 29 (.slice none 0 0) (.slice none 0 0)).run Tryz.prog w=.ok (.bool true) w:=fun _=>rfl;go_enter Tryz.func135,Tryz.ntmps135;go_wp2_with fail;go_ret;exact⟨rfl,rfl⟩
theorem cloneW (vw:Value)(p:List ByteArray)(w:World)(hp:p.length<=1048576)(h:PWay w vw p):
  Calls Tryz.prog 135 #[vw] w fun e w'=>∃v,e=.returned v/\ Below w.heap.size w w'/\ w'.ownsRow w.heap.size 9 1 v p.length (sRow p):=by
 rcases h with ⟨rfl,rfl⟩|⟨g,c,rfl,h1,h2⟩
 ·refine(cloneN w).mono ?_;rintro e w' ⟨rfl,rfl⟩;exact⟨_,rfl,zI,⟨rfl,.inl ⟨rfl,rfl⟩⟩⟩
 ·refine(cloneS g p.length c p w rfl hp h1 h2).mono ?_;rintro e w' ⟨q,Ha,rfl,h3,h4⟩;exact⟨_,rfl,h3,h4⟩
theorem pthAppL {w:World}{lo:Nat}{v:Value}{p:List ByteArray}(h:w.ownsRow lo 9 1 v p.length (sRow p))(hlo:lo<=w.heap.size)(hp:p.length<=1048576)(s:ByteArray)(b:Nat)(hb:w.cell? ⟨b,0,none⟩=some (.string s)):
  ∃q cap w3,(Builtin.append_ #[29,29] 29 #[v,.slice (some ⟨b,0,none⟩) 1 1]).run Tryz.prog w=.ok (.slice (some ⟨q,0,none⟩) (p.length+1) cap) w3/\ w3.ownsRow lo 9 1 (.slice (some ⟨q,0,none⟩) (p.length+1) cap) (p.length+1) (sRow (p++[s]))/\ w.grownBy w3 v.ownBlock/\ lo<=q/\ (v.ownBlock=some q \/q=w.heap.size):=by
 obtain⟨i0,hi,Hb,Hc,Hd⟩:=info_parts infoStr;obtain⟨v',w3,hr,g2,g3,g4,g5⟩:=run_append_own_at (P:=Tryz.prog) w lo 29 29 9 i0 _ 1 16 Tryz.underlying29 hi Hb Hc Hd rfl (by decide) v p.length _ h ⟨b,0,none⟩ 1 1 [.string s] rfl (fun j u hj=>by
  match j,hj with
  | 0,hj=>simp at hj;rw [<- hj,addr_addP];exact hb
  | j+1,hj=>simp at hj) (fun u hu=>by
  simp only [List.mem_cons,List.not_mem_nil,or_false] at hu;rw [hu];rfl) (by unfold maxLen;omega) (by omega) (by omega)
 rcases g2.2 with ⟨hv,h0⟩|⟨q',Ha,He,hv,r⟩
 ·omega
 rw [hv] at hr g2 g5;exact⟨q',Ha,w3,hr,by rw [sRow_snoc];exact g2,g3,(g2.lt q' rfl).1,g5.imp (fun e=>e.symm) (fun e=>by simpa [Value.ownBlock] using e)⟩
theorem pthApp {w:World}{lo:Nat}{v:Value}{p:List ByteArray}(h:w.ownsRow lo 9 1 v p.length (sRow p))(hlo:lo<=w.heap.size)(hp:p.length<=1048576)(s:ByteArray)(b:Nat)(hb:w.cell? ⟨b,0,none⟩=some (.string s)):
  ∃q Ha w3,(Builtin.append_ #[29,29] 29 #[v,.slice (some ⟨b,0,none⟩) 1 1]).run Tryz.prog w=.ok (.slice (some ⟨q,0,none⟩) (p.length+1) Ha) w3/\ w3.ownsRow lo 9 1 (.slice (some ⟨q,0,none⟩) (p.length+1) Ha) (p.length+1) (sRow (p++[s]))/\ w.grownBy w3 v.ownBlock/\ lo<=q:=by
 obtain⟨q,Ha,w3,a1,a2,a3,a4,_⟩:=pthAppL h hlo hp s b hb;exact⟨q,Ha,w3,a1,a2,a3,a4⟩
theorem own_way {w:World}{lo q m cap:Nat}{p:List ByteArray}(h:w.ownsRow lo 9 1 (.slice (some ⟨q,0,none⟩) m cap) m (sRow p))(hp:p.length=m):PWay w (.slice (some ⟨q,0,none⟩) m cap) p/\ Wr w q 9 m (fun t=> .string (gS p t)):=by
 unfold sRow at h;rw [hp] at h;have hw:=own_wrF h;rw [Nat.mul_one] at hw;exact⟨.inr ⟨q,cap,by rw [hp],hw.lt,fun t ht=>hw.cell (by omega)⟩,hw⟩
noncomputable def uL (l:List Lf)(p:List ByteArray):Nat ->List Lf
 | 0=>[]
 | k+1=>if yes (nx p (gL l k)≠none)=true then uL l p k++[gL l k] else uL l p k
noncomputable def wL (l:List Lf):Nat ->List ByteArray ->List Lf
 | 0,_=>[]
 | f+1,p=>(kS l p l.length).flatMap fun y=>if y.2=3 then wL l f (p++[y.1]) else dsK l p y l.length
theorem dsK_uL (l:List Lf)(p:List ByteArray)(s:ByteArray):∀k,dsK l p (s,3) k=uL l (p++[s]) k
 | 0=>rfl
 | k+1=>by
  have ih:=dsK_uL l p s k;by_cases h:nx p (gL l k)=some (s,3)
  ·rw [dsK_yes h];simp only [uL];rw [if_pos (yes_t (nx_map.1 h)),ih]
  ·rw [dsK_no h];simp only [uL];rw [if_neg (by rw [yes_f (fun hh=>h (nx_map.2 hh))];simp),ih]
theorem flat_same {α β:Type}{f g:α ->List β}:∀{ys:List α},(∀y∈ys,f y=g y) ->ys.flatMap f=ys.flatMap g
 | [],_=>rfl
 | a::r,h=>by
  rw [List.flatMap_cons,List.flatMap_cons,h a (List.mem_cons_self),flat_same (fun y hy=>h y (List.mem_cons_of_mem _ hy))]
theorem groups_uL {R F T:Nat ->Int}{n:Nat}{l:List Lf}(p:List ByteArray)(h:LvOk R F T n l l.length):∀k,k<=l.length ->(kS l p k).flatMap (fun y=>dsK l p y k)=uL l p k
 | 0,_=>rfl
 | k+1,hk=>by
  have ih:=groups_uL p h k (by omega);cases e:nx p (gL l k) with
  | none=>
   rw [kS_none e];have:(kS l p k).flatMap (fun y=>dsK l p y (k+1))=(kS l p k).flatMap (fun y=>dsK l p y k):=flat_same fun y _=>dsK_no (by rw [e];simp);rw [this,ih];simp only [uL];rw [if_neg (by rw [yes_f (fun hh=>hh e)];simp)]
  | some y=>
   have hu:uL l p (k+1)=uL l p k++[gL l k]:=by simp only [uL];rw [if_pos (yes_t (by rw [e];simp))]
   obtain⟨k1,k2⟩:=kS_ok p h k (by omega);rw [hu,<- ih,kS_some e];by_cases hl:(kS l p k).getLast? =some y
   ·rw [if_pos (yes_t hl)];obtain⟨ys,Ha⟩:=List.getLast?_eq_some_iff.1 hl;have Hb:y ∉ ys:=fun hm=>by
     rw [Ha] at k1;have:=(List.pairwise_append.1 k1).2.2 y hm y (List.mem_singleton.2 rfl);rw [CmpT.key.irr] at this;omega
    rw [Ha,List.flatMap_append,List.flatMap_append];simp only [List.flatMap_cons,List.flatMap_nil,List.append_nil];rw [dsK_yes e,<- List.append_assoc];congr 2;exact flat_same fun z hz=>dsK_no (by rw [e];simp;exact fun hh=>Hb (hh ▸ hz))
   ·rw [if_neg (by rw [yes_f hl];simp)];have Hb:y ∉ kS l p k:=fun hm=>by
     obtain⟨ys,Ha⟩:∃ys,kS l p k=ys:=⟨_,rfl⟩;rw [Ha] at k1 hl hm;rcases List.eq_nil_or_concat ys with h0|⟨zs,z,hz⟩
     ·rw [h0] at hm;cases hm
     ·rw [hz] at hl hm k1;simp only [List.concat_eq_append] at hl hm k1;have Hd:z≠y:=fun hh=>hl (by rw [hh];simp);rcases List.mem_append.1 hm with h3|h3
      ·have h4:=(List.pairwise_append.1 k1).2.2 y h3 z (List.mem_singleton.2 rfl);obtain⟨j,hj,ej⟩:=(k2 z).1 (by rw [Ha,hz];simp);have h5:=nx_order (h.lt k hj (by omega)) ej e;have h6:=(CmpT.key.neg y z).1 h4;omega
      ·exact Hd (List.mem_singleton.1 h3).symm
    have Hc:dsK l p y k=[]:=by
     cases hd:dsK l p y k with
     | nil=>rfl
     | cons x xs=>
      obtain⟨j,hj,ej,_⟩:=dsK_mem.1 (show x∈dsK l p y k by rw [hd];exact List.mem_cons_self);exact absurd ((k2 y).2 ⟨j,hj,ej⟩) Hb
    rw [List.flatMap_append];simp only [List.flatMap_cons,List.flatMap_nil,List.append_nil];rw [dsK_yes e,Hc,List.nil_append];congr 1;exact flat_same fun z hz=>dsK_no (by rw [e];simp;exact fun hh=>Hb (hh ▸ hz))
theorem wL_uL {R F T:Nat ->Int}{n:Nat}{l:List Lf}(h:LvOk R F T n l l.length):∀f p,p.length+f=8 ->wL l f p=uL l p l.length
 | 0,p,hp=>by
  have:∀k,k<=l.length ->uL l p k=[]:=fun k=>by
   induction k with
   | zero=>intro _;rfl
   | succ k ih=>
    intro hk;simp only [uL];rw [if_neg (by
     rw [yes_f (fun hh=> ?_)]
     ·simp
     ·have:=(nx_ne.1 hh).2;have:=(h k (by omega)).1.1.2.1;omega),ih (by omega)]
  exact(this _ zL).symm
 | f+1,p,hp=>by
  rw [<- groups_uL p h l.length zL];show (kS l p l.length).flatMap _=_;refine flat_same fun y _=> ?_;by_cases e3:y.2=3
  ·rw [if_pos e3,wL_uL h f (p++[y.1]) (by rw [List.length_append];simp;omega),<- dsK_uL];rw [show (y.1,(3:Int))=y by rw [<- e3]]
  ·rw [if_neg e3]
theorem uL_all {R F T:Nat ->Int}{n:Nat}{l:List Lf}(h:LvOk R F T n l l.length):∀k,k<=l.length ->uL l [] k=l.take k
 | 0,_=>by simp [uL]
 | k+1,hk=>by
  simp only [uL];rw [if_pos (yes_t (nx_ne.2 ⟨List.nil_prefix,by have:=(h k (by omega)).1.1.1;simp;omega⟩)),uL_all h k (by omega),List.take_add_one];congr 1;simp [gL,List.getD,show k<l.length by omega]
theorem wL_all {R F T:Nat ->Int}{n:Nat}{l:List Lf}(h:LvOk R F T n l l.length):wL l 8 []=l:=by
 rw [wL_uL h 8 [] rfl,uL_all h _ zL,List.take_length]
end Go.Proofs.YtfidfeilljlbiaaGreat
