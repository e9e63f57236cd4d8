import Derived.Test.YtpfmeafmepgimaaGreatFkg18
import Derived.Shelf.SlSortCmp.WholeK
set_option linter.unusedVariables false
set_option linter.unusedSimpArgs false
set_option maxRecDepth 100000
set_option maxHeartbeats 40000000
namespace Go.Proofs.YtpfmeafmepgimaaGreat
open Go.ChangeShapes Go.WideShapes Go.ChangeAt Go.RowKit Go.Maps
theorem toList_inj {s t:ByteArray}(h:s.toList=t.toList):s=t:=by
 rw [ByteArray.toList_eq,ByteArray.toList_eq] at h;exact bytes_inj h
theorem less_self:∀l:List UInt8,Op.bytesLess l l=false
 | []=>rfl
 | a::l=>by simp [Op.bytesLess,less_self l]
theorem cmpS_z {s t:ByteArray}:cmpS s t=0↔s=t:=by
 unfold cmpS ltS eqS;constructor
 ·intro h;split at h
  ·cases h
  ·split at h
   ·rename_i e;exact toList_inj (by simpa using e)
   ·cases h
 ·rintro rfl;rw [if_neg (by rw [less_self];simp),if_pos (by simp)]
theorem cmpP_z:∀{p q:List ByteArray},cmpP p q=0↔p=q
 | [],[]=>by simp [cmpP]
 | [],_::_=>by simp [cmpP]
 | _::_,[]=>by simp [cmpP]
 | s::p,t::q=>by
  simp only [cmpP];by_cases e:cmpS s t=0
  ·rw [if_pos e,cmpP_z];have:=cmpS_z.1 e;subst this;simp
  ·rw [if_neg e];exact⟨fun h=>absurd h e,fun h=>by injection h with h1 h2;exact absurd (cmpS_z.2 h1) e⟩
end Go.Proofs.YtpfmeafmepgimaaGreat
namespace Go.Proofs.YtpfmeafmepgimaaGreat
open Go.ChangeShapes Go.WideShapes Go.ChangeAt Go.RowKit Go.Maps Go.Sort Go.Lib Go.Shelf
structure CmpT {α:Type}(f:α ->α ->Int):Prop where
 z:∀x y,f x y=0↔x=y
 neg:∀x y,f x y<0↔0<f y x
 tr:∀x y z,f x y<0 ->f y z<0 ->f x z<0
theorem CmpT.irr {α:Type}{f:α ->α ->Int}(h:CmpT f)(x:α):f x x=0:=(h.z x x).2 rfl
theorem CmpT.swo {α:Type}{f:α ->α ->Int}(h:CmpT f):SWO (ltOf f) where
 irrefl x:=by simp [ltOf,h.irr x]
 trans x y z h1 h2:=by simp only [ltOf,decide_eq_true_eq] at*;exact h.tr x y z h1 h2
 ntrans x y z h1 h2:=by
  simp only [ltOf,decide_eq_false_iff_not] at*;intro h3;have e1:0<=f x y:=by omega
  have e2:0<=f y z:=by omega
  rcases Int.lt_or_eq_of_le e1 with e1|e1
  ·have:=h.tr y x z ((h.neg y x).2 e1) h3;omega
  ·have:=(h.z x y).1 e1.symm;subst this;omega
theorem CmpT.int:CmpT cmpI:=⟨fun x y=>cmpI_z,fun x y=>by unfold cmpI;split<;>split<;>(try split)<;>(try split)<;>omega,fun x y z h1 h2=>by rw [cmpI_neg] at*;omega⟩
theorem CmpT.pair {α β:Type}{f:α ->α ->Int}{g:β ->β ->Int}(hf:CmpT f)(hg:CmpT g):CmpT (fun x y:α×β=>orI (f x.1 y.1) (g x.2 y.2)):=by
 refine⟨fun x y=> ?_,fun x y=> ?_,fun x y z=> ?_⟩
 ·simp only [orI];by_cases e:f x.1 y.1=0
  ·rw [if_pos e,hg.z];exact⟨fun h=>Prod.ext ((hf.z _ _).1 e) h,fun h=>by rw [h]⟩
  ·rw [if_neg e];exact⟨fun h=>absurd h e,fun h=>by rw [h] at e;exact absurd (hf.irr _) e⟩
 ·simp only [orI];by_cases e:f x.1 y.1=0
  ·have e':f y.1 x.1=0:=(hf.z _ _).2 ((hf.z _ _).1 e).symm;rw [if_pos e,if_pos e',hg.neg]
  ·have e':f y.1 x.1≠0:=fun h=>e ((hf.z _ _).2 ((hf.z _ _).1 h).symm);rw [if_neg e,if_neg e',hf.neg]
 ·simp only [orI];intro h1 h2;by_cases e:f x.1 y.1=0
  ·rw [if_pos e] at h1;have:=(hf.z _ _).1 e;by_cases e2:f y.1 z.1=0
   ·rw [if_pos e2] at h2;have e3:f x.1 z.1=0:=by rw [this];exact e2
    rw [if_pos e3];exact hg.tr _ _ _ h1 h2
   ·rw [if_neg e2] at h2;have e3:f x.1 z.1≠0:=by rw [this];exact e2
    rw [if_neg e3,this];exact h2
  ·rw [if_neg e] at h1;by_cases e2:f y.1 z.1=0
   ·have:=(hf.z _ _).1 e2;have e3:f x.1 z.1≠0:=by rw [<- this];exact e
    rw [if_neg e3,<- this];exact h1
   ·rw [if_neg e2] at h2;have h3:=hf.tr _ _ _ h1 h2;rw [if_neg (by omega)];exact h3
theorem less_tri:∀x y:List UInt8,Op.bytesLess x y=false ->Op.bytesLess y x=false ->x=y
 | [],[],_,_=>rfl
 | [],_::_,h,_=>by simp [Op.bytesLess] at h
 | _::_,[],_,h=>by simp [Op.bytesLess] at h
 | a::x,b::y,h,h'=>by
  simp only [Op.bytesLess,Bool.or_eq_false_iff,decide_eq_false_iff_not,Bool.and_eq_false_iff] at h h';have e:a=b:=by
   have h1:=h.1;have h2:=h'.1;rcases Nat.lt_trichotomy a.toNat b.toNat with h3|h3|h3
   ·exact absurd (UInt8.lt_iff_toNat_lt.2 h3) h1
   ·exact UInt8.toNat_inj.1 h3
   ·exact absurd (UInt8.lt_iff_toNat_lt.2 h3) h2
  subst e;rw [less_tri x y (by simpa using h.2) (by simpa using h'.2)]
theorem less_asy:∀x y:List UInt8,Op.bytesLess x y=true ->Op.bytesLess y x=false
 | [],[],_=>rfl
 | [],_::_,_=>rfl
 | _::_,[],h=>by simp [Op.bytesLess] at h
 | a::x,b::y,h=>by
  simp only [Op.bytesLess,Bool.or_eq_true,decide_eq_true_eq,Bool.and_eq_true,beq_iff_eq] at h;simp only [Op.bytesLess,Bool.or_eq_false_iff,decide_eq_false_iff_not,Bool.and_eq_false_iff];rcases h with h|⟨rfl,h⟩
  ·have h':=UInt8.lt_iff_toNat_lt.1 h;refine⟨fun h2=>by have:=UInt8.lt_iff_toNat_lt.1 h2;omega,.inl ?_⟩;simp only [beq_eq_false_iff_ne];intro e;subst e;omega
  ·exact⟨fun h2=>by have:=UInt8.lt_iff_toNat_lt.1 h2;omega,.inr (less_asy x y h)⟩
theorem less_trans:∀x y z:List UInt8,Op.bytesLess x y=true ->Op.bytesLess y z=true ->Op.bytesLess x z=true
 | _,_,[],_,h=>by cases ‹List UInt8›<;>simp [Op.bytesLess] at h
 | [],_,_::_,_,_=>rfl
 | _::_,[],_,h,_=>by simp [Op.bytesLess] at h
 | a::x,b::y,c::z,h,h'=>by
  simp only [Op.bytesLess,Bool.or_eq_true,decide_eq_true_eq,Bool.and_eq_true,beq_iff_eq] at h h' ⊢;rcases h with h|⟨rfl,h⟩
  ·rcases h' with h'|⟨rfl,h'⟩
   ·exact .inl (UInt8.lt_iff_toNat_lt.2 (by have:=UInt8.lt_iff_toNat_lt.1 h;have:=UInt8.lt_iff_toNat_lt.1 h';omega))
   ·exact .inl h
  ·rcases h' with h'|⟨rfl,h'⟩
   ·exact .inl h'
   ·exact .inr ⟨rfl,less_trans x y z h h'⟩
theorem cmpS_neg {s t:ByteArray}:cmpS s t<0↔Op.bytesLess s.toList t.toList=true:=by
 unfold cmpS ltS eqS;split
 ·rename_i h;exact⟨fun _=>h,fun _=>by decide⟩
 ·rename_i h;split<;>exact⟨fun h2=>by omega,fun h2=>absurd h2 h⟩
theorem CmpT.str:CmpT cmpS:=by
 refine⟨fun x y=>cmpS_z,fun x y=> ?_,fun x y z h1 h2=> ?_⟩
 ·rw [cmpS_neg];constructor
  ·intro h;have:=less_asy _ _ h;unfold cmpS ltS eqS;rw [if_neg (by rw [this];simp),if_neg]
   ·decide
   ·intro e;rw [toList_inj (by simpa using e:y.toList=x.toList),less_self] at h;cases h
  ·intro h;cases e:Op.bytesLess x.toList y.toList with
   | true=>rfl
   | false=>
    exfalso;cases e':Op.bytesLess y.toList x.toList with
    | true=>have:=cmpS_neg.2 e';omega
    | false=>rw [cmpS_z.2 (toList_inj (less_tri _ _ e' e))] at h;omega
 ·rw [cmpS_neg] at*;exact less_trans _ _ _ h1 h2
def cmpK (x y:Ky):Int:=orI (cmpS x.1 y.1) (cmpI x.2 y.2)
def cmpDt (x y:Dt):Int:=orI (cmpI x.1 y.1) (cmpI x.2 y.2)
theorem CmpT.key:CmpT cmpK:=CmpT.str.pair CmpT.int
theorem CmpT.dot:CmpT cmpDt:=CmpT.int.pair CmpT.int
theorem CmpT.uniq {α:Type}{f:α ->α ->Int}(h:CmpT f):∀{l m:List α},l.Pairwise (fun x y=>f x y<0) ->m.Pairwise (fun x y=>f x y<0) ->(∀x,x∈l↔x∈m) ->l=m
 | [],[],_,_,_=>rfl
 | [],y::m,_,_,hm=>by have:=(hm y).2 (by simp);simp at this
 | x::l,[],_,_,hm=>by have:=(hm x).1 (by simp);simp at this
 | x::l,y::m,hl,hm',hm=>by
  have hl':=List.pairwise_cons.1 hl;have hm'':=List.pairwise_cons.1 hm';have e:x=y:=by
   rcases List.mem_cons.1 ((hm x).1 (by simp)) with e|e
   ·exact e
   ·rcases List.mem_cons.1 ((hm y).2 (by simp)) with e2|e2
    ·exact e2.symm
    ·have h1:=hm''.1 x e;have h2:=hl'.1 y e2;have:=h.tr _ _ _ h1 h2;rw [h.irr] at this;omega
  subst e;congr 1;refine h.uniq hl'.2 hm''.2 fun z=> ?_;have hz:=hm z;simp only [List.mem_cons] at hz;constructor
  ·intro hzl;rcases hz.1 (.inr hzl) with e|e
   ·subst e;have:=hl'.1 _ hzl;rw [h.irr] at this;omega
   ·exact e
  ·intro hzl;rcases hz.2 (.inr hzl) with e|e
   ·subst e;have:=hm''.1 _ hzl;rw [h.irr] at this;omega
   ·exact e
theorem CmpT.rises {α:Type} [Inhabited α]{f:α ->α ->Int}(h:CmpT f){d:Array α}(hs:SortedIn (ltOf f) 0 d.size d)(hn:d.toList.Nodup):d.toList.Pairwise (fun x y=>f x y<0):=by
 rw [List.pairwise_iff_getElem];intro i j hi hj hij;have h1:=hs i j (by omega) hij (by simpa using hj);have hi':i<d.size:=by simpa using hi
 have hj':j<d.size:=by simpa using hj
 have e1:d[i]! =d[i]:=getElem!_pos d i hi';have e2:d[j]! =d[j]:=getElem!_pos d j hj';rw [e1,e2] at h1;simp only [ltOf,decide_eq_false_iff_not] at h1;have hne:d[i]≠d[j]:=by
  have:=(List.nodup_iff_pairwise_ne.1 hn);rw [List.pairwise_iff_getElem] at this;simpa using this i j hi hj hij
 have h2:f d[i] d[j]≠0:=fun e=>hne ((h.z _ _).1 e);have h3:=h.neg (d[j]) (d[i]);have h4:¬0<f d[i] d[j]:=fun e=>h1 (h3.2 e);have:f d[i] d[j]<0:=by omega
 simpa using this
def Bw (w w':World):Prop:=Below w.heap.size w w'/\ w.drawn<=w'.drawn
theorem Bw.grown {w w':World}(h:Bw w w'):∃q os,w'=grow (w.drewN q) os:=by
 obtain⟨hb,hd⟩:=h;refine⟨w'.drawn - w.drawn,w'.heap.extract w.heap.size w'.heap.size,?_⟩;obtain⟨hp,tp,dr,os,out⟩:=w;obtain⟨hp',tp',dr',os',out'⟩:=w';obtain⟨b1,b2,b3,b4,b5⟩:=hb;simp only at b1 b2 b3 b4 b5 hd;subst b1;subst b2;subst b3;simp only [grow,World.drewN,World.mk.injEq,and_true,true_and];refine⟨?_,by omega⟩;apply Array.ext_getElem?;intro i;rw [Array.getElem?_append];split
 ·rename_i hi;exact b5 i hi
 ·rename_i hi;rw [Array.getElem?_extract];by_cases hi2:i<hp'.size
  ·rw [if_pos (by omega)];congr 1;omega
  ·rw [if_neg (by omega)];exact Array.getElem?_eq_none (by omega)
theorem array2' {α:Type}{cs:Array α}(h:cs.size=2):∃c0 c1,cs=#[c0,c1]:=by
 obtain⟨l⟩:=cs;match l,h with
 | [c0,c1],_=>exact⟨c0,c1,rfl⟩
theorem keyOf_key {v:Value}{kl:Lit}(h:keyOf Tryz.prog 102 v=some kl):∃x,v=keyV x:=by
 unfold keyOf at h;rw [Tryz.underlying102] at h;simp only [keyKT,Bool.true_and] at h;have h0:0<Tryz.prog.types.size:=of_decide_eq_true (by kernel_rfl);obtain⟨m,hm⟩:∃m,Tryz.prog.types.size=m+1:=⟨Tryz.prog.types.size - 1,by omega⟩;rw [hm] at h;have e2:Tryz.prog.cellsOf 102=2:=by kernel_rfl
 have ei:Tryz.prog.cellsOf 3=1:=by kernel_rfl
 have es:Tryz.prog.cellsOf 9=1:=by kernel_rfl
 cases v<;>simp [Value.formed,Tryz.underlying102,e2,Program.keyLits,Tryz.underlying3,Tryz.underlying9,ei,es,Value.cells] at h;obtain⟨hsz,a,⟨hx1,h⟩,hx2⟩:=h;clear hx1 hx2;obtain⟨c0,c1,rfl⟩:=array2' hsz;clear hsz;cases c0<;>simp at h;rename_i s;by_cases hs:s.size<=maxLen
 ·cases c1<;>simp [hs] at h;rename_i k n;by_cases hk:k=.i64/\ (Lit.int .i64 n).wf=true
  ·exact⟨(s,n),by rw [hk.1];rfl⟩
  ·rw [if_neg hk] at h;simp at h
 ·cases c1<;>simp [hs] at h
theorem keyOf_dot {v:Value}{kl:Lit}(h:keyOf Tryz.prog 63 v=some kl):∃x,v=dtV x:=by
 unfold keyOf at h;rw [Tryz.underlying63] at h;simp only [dotKT,Bool.true_and] at h;have h0:0<Tryz.prog.types.size:=of_decide_eq_true (by kernel_rfl);obtain⟨m,hm⟩:∃m,Tryz.prog.types.size=m+1:=⟨Tryz.prog.types.size - 1,by omega⟩;rw [hm] at h;have e2:Tryz.prog.cellsOf 63=2:=by kernel_rfl
 have ei:Tryz.prog.cellsOf 3=1:=by kernel_rfl
 cases v<;>simp [Value.formed,Tryz.underlying63,e2,Program.keyLits,Tryz.underlying3,ei,Value.cells] at h;obtain⟨hsz,a,⟨hx1,h⟩,hx2⟩:=h;clear hx1 hx2;obtain⟨c0,c1,rfl⟩:=array2' hsz;clear hsz;cases c0<;>simp at h;rename_i k n;by_cases hk:k=.i64/\ (Lit.int .i64 n).wf=true
 ·rw [if_pos hk] at h;cases c1<;>simp at h;rename_i k' n';by_cases hk':k'=.i64/\ (Lit.int .i64 n').wf=true
  ·exact⟨(n,n'),by rw [hk.1,hk'.1];rfl⟩
  ·rw [if_neg hk'] at h;simp at h
 ·rw [if_neg hk] at h;simp at h
structure CollF {α β:Type}(t:TypeId)(kv:α ->Value)(f:α ->Option β)(left:Lit ->Bool)(ss:List α):Prop where
 nd:ss.Nodup
 old:∀x∈ss,f x≠none/\∀kl,keyOf Tryz.prog t (kv x)=some kl ->left kl=false
 all:∀x,f x≠none ->x∈ss \/∀kl,keyOf Tryz.prog t (kv x)=some kl ->left kl=true
def KeysF {α β:Type}(f:α ->Option β)(ss:List α):Prop:=ss.Nodup/\∀x,x∈ss↔f x≠none
section
variable {α β : Type} {w : World} {t : TypeId} {kv : α -> Value} {vo : Option β -> Value} {b c : Nat} {f : α -> Option β} {D : DataW Value} {left : Lit -> Bool} {ss : List α}
theorem CollF.start (h:FM w t kv vo b c f D):CollF t kv f (has D) ([]:List α):=by
 refine⟨List.nodup_nil,fun x hx=>absurd hx (by simp),fun x hx=>Or.inr fun kl hk=> ?_⟩;rw [(h.at' x kl hk).1];cases e:f x with
 | none=>exact absurd e hx
 | some y=>rfl
theorem CollF.step (hC:CollF t kv f left ss)(h:FM w t kv vo b c f D)(K:Keyed Tryz.prog t)(hi:∀x y,kv x=kv y ->x=y){x:α}{kl:Lit}{y:DataW Value}(hk:keyOf Tryz.prog t (kv x)=some kl)(hl:left kl=true)(hat:∀zd,D.atKey kl zd=y):
  CollF t kv f (fun z=>left z && !z.sameKey kl) (ss++[x]):=by
 have hx:x ∉ ss:=fun hm=>by have:=(hC.old x hm).2 kl hk;rw [hl] at this;cases this
 have hf:f x≠none:=fun e=>by
  have h1:=has_true_of_atKey hat;rw [(h.at' x kl hk).1,e] at h1;cases h1
 refine⟨?_,fun z hz=> ?_,fun z hz=> ?_⟩
 ·rw [List.nodup_append];exact⟨hC.nd,by simp,fun a ha b hb=>by rw [List.mem_singleton] at hb;subst hb;exact fun e=>hx (e ▸ ha)⟩
 ·rcases List.mem_append.1 hz with hz|hz
  ·refine⟨(hC.old z hz).1,fun kl' hk'=> ?_⟩;show (left kl' && !kl'.sameKey kl)=false;rw [(hC.old z hz).2 kl' hk'];rfl
  ·rw [List.mem_singleton] at hz;subst hz;refine⟨hf,fun kl' hk'=> ?_⟩;rw [hk] at hk';injection hk' with hk';subst hk';show (left kl && !kl.sameKey kl)=false;rw [WideAt.sameKey_self (K.key hk)];simp
 ·by_cases e:z=x
  ·subst e;exact .inl (by simp)
  ·rcases hC.all z hz with h1|h1
   ·exact .inl (List.mem_append.2 (.inl h1))
   ·refine .inr fun kl' hk'=> ?_;show (left kl' && !kl'.sameKey kl)=true;rw [h1 kl' hk',sameKey_ne (fun e2=>e (hi _ _ (by subst e2;exact K.inj hk' hk)))];rfl
theorem CollF.done (hC:CollF t kv f left ss)(h:FM w t kv vo b c f D)(hl:∀kl,left kl=false):KeysF f ss:=
 ⟨hC.nd,fun x=>⟨fun hx=>(hC.old x hx).1,fun hx=>by
  rcases hC.all x hx with h1|h1
  ·exact h1
  ·obtain⟨kl,hk⟩:=h.ok x hx;have:=h1 kl hk;rw [hl kl] at this;cases this⟩⟩
end
theorem cmpP_sym:∀p q:List ByteArray,cmpP p q<0↔0<cmpP q p
 | [],[]=>by simp [cmpP]
 | [],_::_=>by simp [cmpP]
 | _::_,[]=>by simp [cmpP]
 | s::p,t::q=>by
  simp only [cmpP];by_cases e:cmpS s t=0
  ·have e':cmpS t s=0:=cmpS_z.2 (cmpS_z.1 e).symm;rw [if_pos e,if_pos e'];exact cmpP_sym p q
  ·have e':cmpS t s≠0:=fun h=>e (cmpS_z.2 (cmpS_z.1 h).symm);rw [if_neg e,if_neg e'];exact CmpT.str.neg s t
theorem cmpP_tr:∀p q r:List ByteArray,cmpP p q<0 ->cmpP q r<0 ->cmpP p r<0
 | [],[],_,h,_=>by simp [cmpP] at h
 | [],_::_,[],_,h=>by simp [cmpP] at h
 | [],_::_,_::_,_,_=>by simp [cmpP]
 | _::_,[],_,h,_=>by simp [cmpP] at h
 | _::_,_::_,[],_,h=>by simp [cmpP] at h
 | s::p,t::q,u::r,h,h'=>by
  simp only [cmpP] at*;by_cases e:cmpS s t=0
  ·rw [if_pos e] at h;have:=cmpS_z.1 e;subst this;by_cases e2:cmpS s u=0
   ·rw [if_pos e2] at h' ⊢;exact cmpP_tr p q r h h'
   ·rw [if_neg e2] at h' ⊢;exact h'
  ·rw [if_neg e] at h;by_cases e2:cmpS t u=0
   ·have:=cmpS_z.1 e2;subst this;rw [if_neg e];exact h
   ·rw [if_neg e2] at h';have h3:=CmpT.str.tr s t u h h';rw [if_neg (by omega)];exact h3
theorem CmpT.path:CmpT cmpP:=⟨fun _ _=>cmpP_z,cmpP_sym,cmpP_tr⟩
theorem cmpL_tr {x y z:Lf}(h:cmpL x y<0)(h':cmpL y z<0):cmpL x z<0:=
 (CmpT.path.pair (CmpT.int.pair CmpT.dot)).tr (x.p,(kd x.fl,(x.r,x.q))) (y.p,(kd y.fl,(y.r,y.q))) (z.p,(kd z.fl,(z.r,z.q))) h h'
theorem LvOk.lt {R F T:Nat ->Int}{n:Nat}{l:List Lf}{k:Nat}(h:LvOk R F T n l k){i:Nat}:∀j,i<j ->j<k ->cmpL (gL l i) (gL l j)<0
 | 0,h1,_=>by omega
 | j+1,h1,h2=>by
  have hj:=(h (j+1) h2).2.2 (by omega);simp only [Nat.add_sub_cancel] at hj;by_cases e:i=j
  ·subst e;exact hj
  ·exact cmpL_tr (h.lt j (by omega) (by omega)) hj
theorem wayOf3 (p:List ByteArray):wayOf p 3=(List.range p.length).map fun i=>(gS p i,3):=by
 unfold wayOf;congr 1;funext i;split<;>rfl
theorem gS_take {p q:List ByteArray}(h:p <+:q){i:Nat}(hi:i<p.length):gS q i=gS p i:=by
 obtain⟨r,rfl⟩:=h;simp [gS,List.getD,List.getElem?_append,hi]
theorem way_take {p q:List ByteArray}{k:Int}(h:p <+:q)(hl:p.length<q.length):(wayOf q k).take p.length=wayOf p 3:=by
 apply List.ext_getElem?;intro i;by_cases hi:i<p.length
 ·rw [List.getElem?_take_of_lt hi,wayOf_get (by omega),wayOf3,if_pos (by omega),gS_take h hi];simp [hi]
 ·rw [List.getElem?_take_eq_none (by omega),List.getElem?_eq_none (by rw [wayOf_len];omega)]
noncomputable def nx (p:List ByteArray)(x:Lf):Option Ky:=if yes (p <+:x.p/\ p.length<x.p.length)=true then some (onWay x.p (kd x.fl) p.length) else none
theorem nx_iff {p:List ByteArray}{x:Lf}{y:Ky}:wayOf p 3++[y] <+:Way x↔nx p x=some y:=by
 unfold nx Way;constructor
 ·intro h;have hlen:p.length+1<=x.p.length:=by have:=h.length_le;simpa [wayOf_len] using this
  have ht:=List.prefix_iff_eq_take.1 h;simp only [List.length_append,wayOf_len,List.length_cons,List.length_nil] at ht;rw [wayOf_take (by omega)] at ht;have h1:=List.append_inj' ht rfl;have hp:p <+:x.p:=by
   have e1:p=x.p.take p.length:=by
    refine gS_ext (by simp;omega) fun i hi=> ?_;have:=congrArg (fun l=>l[i]?) h1.1;rw [List.getElem?_take_of_lt hi,wayOf_get hi,wayOf_get (k:=kd x.fl) (show i<x.p.length by omega)] at this;injection this with this;rw [(Prod.mk.inj this).1];simp [gS,List.getD,List.getElem?_take_of_lt hi]
   rw [e1];exact List.take_prefix _ _
  rw [if_pos (yes_t ⟨hp,by omega⟩)];have h2:=h1.2;simp only [List.cons.injEq,and_true] at h2;rw [h2];rfl
 ·intro h;by_cases e:p <+:x.p/\ p.length<x.p.length
  ·rw [if_pos (yes_t e)] at h;injection h with h;have:=wayOf_take (k:=kd x.fl) e.2;rw [way_take e.1 e.2] at this;have h3:(gS x.p p.length,if p.length+1<x.p.length then 3 else kd x.fl)=y:=h;rw [h3] at this;rw [<- this];exact List.take_prefix _ _
  ·rw [yes_f e] at h;simp at h
theorem cmpP_app:∀(p a b:List ByteArray),cmpP (p++a) (p++b)=cmpP a b
 | [],_,_=>rfl
 | s::p,a,b=>by
  simp only [List.cons_append,cmpP];rw [if_pos (cmpS_z.2 rfl)];exact cmpP_app p a b
theorem nx_order {p:List ByteArray}{a b:Lf}{y z:Ky}(h:cmpL a b<0)(ha:nx p a=some y)(hb:nx p b=some z):cmpK y z<=0:=by
 unfold nx at ha hb;by_cases e1:p <+:a.p/\ p.length<a.p.length
 ·by_cases e2:p <+:b.p/\ p.length<b.p.length
  ·rw [if_pos (yes_t e1)] at ha;rw [if_pos (yes_t e2)] at hb;injection ha with ha;injection hb with hb;obtain⟨⟨ra,hra⟩,hla⟩:=e1;obtain⟨⟨rb,hrb⟩,hlb⟩:=e2;cases ra with
   | nil=>rw [<- hra] at hla;simp at hla
   | cons s ra=>
    cases rb with
    | nil=>rw [<- hrb] at hlb;simp at hlb
    | cons t rb=>
     have ya:y=(s,if ra=[] then kd a.fl else 3):=by
      rw [<- ha];unfold onWay;rw [<- hra];have e3:gS (p++s::ra) p.length=s:=by simp [gS,List.getD]
      rw [e3];cases ra<;>simp
     have zb:z=(t,if rb=[] then kd b.fl else 3):=by
      rw [<- hb];unfold onWay;rw [<- hrb];have e3:gS (p++t::rb) p.length=t:=by simp [gS,List.getD]
      rw [e3];cases rb<;>simp
     unfold cmpL at h;rw [<- hra,<- hrb,cmpP_app] at h;rw [ya,zb];unfold cmpK;simp only [cmpP] at h;by_cases e4:cmpS s t=0
     ·rw [if_pos e4] at h;simp only [orI,e4,if_true];have kb:kd b.fl<=3:=by cases b.fl<;>decide
      have ka:kd a.fl<=3:=by cases a.fl<;>decide
      cases ra with
      | nil=>
       cases rb with
       | nil=>
        simp only [if_true];simp only [cmpP,orI,if_true] at h;by_cases e5:cmpI (kd a.fl) (kd b.fl)=0
        ·omega
        ·rw [if_neg e5] at h;omega
       | cons u rb=>
        simp only [if_true,reduceCtorEq,if_false];unfold cmpI;split
        ·omega
        ·split<;>omega
      | cons u ra=>
       cases rb with
       | nil=>simp [cmpP,orI] at h
       | cons v rb=>simp [cmpI]
     ·rw [if_neg e4] at h;simp only [orI,e4,if_false] at h ⊢;omega
  ·rw [yes_f e2] at hb;simp at hb
 ·rw [yes_f e1] at ha;simp at ha
noncomputable def kS (l:List Lf)(p:List ByteArray):Nat ->List Ky
 | 0=>[]
 | k+1=>match nx p (gL l k) with
  | none=>kS l p k
  | some y=>if yes ((kS l p k).getLast? =some y)=true then kS l p k else kS l p k++[y]
theorem kS_none {l:List Lf}{p:List ByteArray}{k:Nat}(h:nx p (gL l k)=none):kS l p (k+1)=kS l p k:=by simp only [kS,h]
theorem kS_some {l:List Lf}{p:List ByteArray}{k:Nat}{y:Ky}(h:nx p (gL l k)=some y):kS l p (k+1)=if yes ((kS l p k).getLast? =some y)=true then kS l p k else kS l p k++[y]:=by simp only [kS,h]
theorem kS_len (l:List Lf)(p:List ByteArray):∀k,(kS l p k).length<=k
 | 0=>by simp [kS]
 | k+1=>by
  have ih:=kS_len l p k;cases h:nx p (gL l k) with
  | none=>rw [kS_none h];omega
  | some y=>rw [kS_some h];split<;>simp<;>omega
theorem kS_ok {R F T:Nat ->Int}{n:Nat}{l:List Lf}(p:List ByteArray)(h:LvOk R F T n l l.length):∀k,k<=l.length ->(kS l p k).Pairwise (fun x y=>cmpK x y<0)/\∀y,y∈kS l p k↔∃j,j<k/\ nx p (gL l j)=some y
 | 0,_=>⟨List.Pairwise.nil,fun y=>by simp [kS]⟩
 | k+1,hk=>by
  obtain⟨ih1,ih2⟩:=kS_ok p h k (by omega);have mem:∀y,(∃j,j<k+1/\ nx p (gL l j)=some y)↔y∈kS l p k \/nx p (gL l k)=some y:=fun y=>by
   rw [ih2];constructor
   ·rintro⟨j,hj,e⟩;by_cases ej:j=k
    ·subst ej;exact .inr e
    ·exact .inl ⟨j,by omega,e⟩
   ·rintro(⟨j,hj,e⟩|e)
    ·exact⟨j,by omega,e⟩
    ·exact⟨k,by omega,e⟩
  cases hn:nx p (gL l k) with
  | none=>
   rw [kS_none hn];refine⟨ih1,fun y=> ?_⟩;rw [mem y,hn];simp
  | some z=>
   have le:∀y∈kS l p k,cmpK y z<=0:=fun y hy=>by
    obtain⟨j,hj,e⟩:=(ih2 y).1 hy;exact nx_order (h.lt k hj (by omega)) e hn
   rw [kS_some hn];by_cases e:(kS l p k).getLast? =some z
   ·rw [if_pos (yes_t e)];refine⟨ih1,fun y=> ?_⟩;rw [mem y,hn];constructor
    ·exact .inl
    ·rintro(h1|h1)
     ·exact h1
     ·injection h1 with h1;subst h1;exact List.mem_of_getLast? e
   ·rw [if_neg (by rw [yes_f e];simp)];have hz:z ∉ kS l p k:=fun hz=>by
     obtain⟨ys,u,hu⟩:∃ys u,kS l p k=ys++[u]:=by
      refine⟨(kS l p k).dropLast,(kS l p k).getLast (List.ne_nil_of_mem hz),(List.dropLast_concat_getLast _).symm⟩
     rw [hu] at hz le e ih1;simp at e;rcases List.mem_append.1 hz with h1|h1
     ·have h2:=(List.pairwise_append.1 ih1).2.2 z h1 u (by simp);have h3:=le u (by simp);have h4:=CmpT.key.neg z u;have:0<cmpK u z:=h4.1 h2;omega
     ·simp at h1;exact e h1.symm
    refine⟨List.pairwise_append.2 ⟨ih1,List.pairwise_singleton _ _,fun x hx y hy=> ?_⟩,fun y=> ?_⟩
    ·simp at hy;subst hy;have h1:=le x hx;have h2:cmpK x y≠0:=fun e=>hz ((CmpT.key.z x y).1 e ▸ hx);omega
    ·rw [mem y,hn];simp only [List.mem_append,List.mem_singleton,Option.some.injEq];exact⟨fun h=>h.imp id Eq.symm,fun h=>h.imp id Eq.symm⟩
theorem kS_tree {R F T:Nat ->Int}{n:Nat}{l:List Lf}{N:List Ky ->Option (Nat×Nat)}{p:List ByteArray}{ts:List Ky}(h:LvOk R F T n l l.length)(hI:NkI l l.length N)(h1:ts.Pairwise (fun x y=>cmpK x y<0))(h2:∀x,x∈ts↔N (wayOf p 3++[x])≠none):ts=kS l p l.length:=by
 obtain⟨k1,k2⟩:=kS_ok p h l.length (Nat.le_refl _);refine CmpT.key.uniq h1 k1 fun x=> ?_;rw [h2,k2];have:=hI (wayOf p 3++[x]);rw [Option.isSome_iff_ne_none] at this;rw [this];simp only [List.append_eq_nil_iff,List.cons_ne_self,and_false,false_or,reduceCtorEq];constructor
 ·rintro⟨j,hj,e⟩;exact⟨j,hj,nx_iff.1 e⟩
 ·rintro⟨j,hj,e⟩;exact⟨j,hj,nx_iff.2 e⟩
end Go.Proofs.YtpfmeafmepgimaaGreat
