import Derived.Test.YtjdcfkmhmnblbaaGreatDoorFqg04
import Derived.Shelf.SlSortCmp.WholeK
import Derived.Lib.SlicesCompact
import Derived.Test.YtjdcfkmhmnblbaaGreatDoorFqg01
import Derived.Test.YtjdcfkmhmnblbaaGreatDoorFqg03
import Derived.Maps.Range
import Derived.Test.YtjdcfkmhmnblbaaGreatDoorFqg02
set_option linter.unusedVariables false
set_option linter.unusedSimpArgs false
set_option maxRecDepth 100000
set_option maxHeartbeats 40000000
namespace Go.Proofs.YtjdcfkmhmnblbaaGreatDoor
open Go.ChangeShapes Go.WideShapes Go.ChangeAt Go.RowKit Go.Maps
theorem toList_inj {s t:ByteArray}(h:s.toList=t.toList):s=t:=by
 rw [ByteArray.toList_eq,ByteArray.toList_eq] at h;exact bytes_inj h
theorem QdY:∀l:List UInt8,Op.bytesLess l l=false
 | []=>rfl
 | a::l=>by simp [Op.bytesLess,QdY l]
theorem QbY {s t:ByteArray}:QbH s t=0↔s=t:=by
 unfold QbH ltS eqS;constructor
 ·intro h;split at h
  ·cases h
  ·split at h
   ·rename_i e;exact toList_inj (by simpa using e)
   ·cases h
 ·rintro rfl;rw [if_neg (by rw [QdY];simp),if_pos (by simp)]
theorem QdD:∀{p q:List ByteArray},QaC p q=0↔p=q
 | [],[]=>by simp [QaC]
 | [],_::_=>by simp [QaC]
 | _::_,[]=>by simp [QaC]
 | s::p,t::q=>by
  simp only [QaC];by_cases e:QbH s t=0
  ·rw [if_pos e,QdD];have:=QbY.1 e;subst this;simp
  ·rw [if_neg e];exact⟨fun h=>absurd h e,fun h=>by injection h with h1 h2;exact absurd (QbY.2 h1) e⟩
open Go.Sort Go.Lib Go.Shelf
structure QaG {α:Type}(f:α ->α ->Int):Prop where
 z:∀x y,f x y=0↔x=y
 neg:∀x y,f x y<0↔0<f y x
 tr:∀x y z,f x y<0 ->f y z<0 ->f x z<0
theorem QaG.irr {α:Type}{f:α ->α ->Int}(h:QaG f)(x:α):f x x=0:=(h.z x x).2 rfl
theorem QaG.swo {α:Type}{f:α ->α ->Int}(h:QaG f):SWO (ltOf f) where
 irrefl x:=by simp [ltOf,h.irr x]
 trans x y z h1 h2:=by simp only [ltOf,decide_eq_true_eq] at*;exact h.tr x y z h1 h2
 ntrans x y z h1 h2:=by
  simp only [ltOf,decide_eq_false_iff_not] at*;intro k;have j:0<=f x y:=by omega
  have m:0<=f y z:=by omega
  rcases Int.lt_or_eq_of_le j with j|j
  ·have:=h.tr y x z ((h.neg y x).2 j) k;omega
  ·have:=(h.z x y).1 j.symm;subst this;omega
theorem QaG.int:QaG QaV:=⟨fun x y=>Qez,fun x y=>by unfold QaV;split<;>split<;>(try split)<;>(try split)<;>omega,fun x y z h1 h2=>by rw [QeQ] at*;omega⟩
theorem QaG.pair {α β:Type}{f:α ->α ->Int}{g:β ->β ->Int}(hf:QaG f)(hg:QaG g):QaG (fun x y:α×β=>orI (f x.1 y.1) (g x.2 y.2)):=by
 refine⟨fun x y=> ?_,fun x y=> ?_,fun x y z=> ?_⟩
 ·simp only [orI];by_cases e:f x.1 y.1=0
  ·rw [if_pos e,hg.z];exact⟨fun h=>Prod.ext ((hf.z _ _).1 e) h,fun h=>by rw [h]⟩
  ·rw [if_neg e];exact⟨fun h=>absurd h e,fun h=>by rw [h] at e;exact absurd (hf.irr _) e⟩
 ·simp only [orI];by_cases e:f x.1 y.1=0
  ·have r:f y.1 x.1=0:=(hf.z _ _).2 ((hf.z _ _).1 e).symm;rw [if_pos e,if_pos r,hg.neg]
  ·have r:f y.1 x.1≠0:=fun h=>e ((hf.z _ _).2 ((hf.z _ _).1 h).symm);rw [if_neg e,if_neg r,hf.neg]
 ·simp only [orI];intro q k;by_cases e:f x.1 y.1=0
  ·rw [if_pos e] at q;have:=(hf.z _ _).1 e;by_cases j:f y.1 z.1=0
   ·rw [if_pos j] at k;have m:f x.1 z.1=0:=by rw [this];exact j
    rw [if_pos m];exact hg.tr _ _ _ q k
   ·rw [if_neg j] at k;have m:f x.1 z.1≠0:=by rw [this];exact j
    rw [if_neg m,this];exact k
  ·rw [if_neg e] at q;by_cases j:f y.1 z.1=0
   ·have:=(hf.z _ _).1 j;have m:f x.1 z.1≠0:=by rw [<- this];exact e
    rw [if_neg m,<- this];exact q
   ·rw [if_neg j] at k;have u:=hf.tr _ _ _ q k;rw [if_neg (by omega)];exact u
theorem Qh0:∀x y:List UInt8,Op.bytesLess x y=false ->Op.bytesLess y x=false ->x=y
 | [],[],_,_=>rfl
 | [],_::_,h,_=>by simp [Op.bytesLess] at h
 | _::_,[],_,h=>by simp [Op.bytesLess] at h
 | a::x,b::y,h,h'=>by
  simp only [Op.bytesLess,Bool.or_eq_false_iff,decide_eq_false_iff_not,Bool.and_eq_false_iff] at h h';have e:a=b:=by
   have k:=h.1;have m:=h'.1;rcases Nat.lt_trichotomy a.toNat b.toNat with j|j|j
   ·exact absurd (UInt8.lt_iff_toNat_lt.2 j) k
   ·exact UInt8.toNat_inj.1 j
   ·exact absurd (UInt8.lt_iff_toNat_lt.2 j) m
  subst e;rw [Qh0 x y (by simpa using h.2) (by simpa using h'.2)]
theorem Qhz:∀x y:List UInt8,Op.bytesLess x y=true ->Op.bytesLess y x=false
 | [],[],_=>rfl
 | [],_::_,_=>rfl
 | _::_,[],h=>by simp [Op.bytesLess] at h
 | a::x,b::y,h=>by
  simp only [Op.bytesLess,Bool.or_eq_true,decide_eq_true_eq,Bool.and_eq_true,beq_iff_eq] at h;simp only [Op.bytesLess,Bool.or_eq_false_iff,decide_eq_false_iff_not,Bool.and_eq_false_iff];rcases h with h|⟨rfl,h⟩
  ·have j:=UInt8.lt_iff_toNat_lt.1 h;refine⟨fun h2=>by have:=UInt8.lt_iff_toNat_lt.1 h2;omega,.inl ?_⟩;simp only [beq_eq_false_iff_ne];intro e;subst e;omega
  ·exact⟨fun h2=>by have:=UInt8.lt_iff_toNat_lt.1 h2;omega,.inr (Qhz x y h)⟩
theorem QeB:∀x y z:List UInt8,Op.bytesLess x y=true ->Op.bytesLess y z=true ->Op.bytesLess x z=true
 | _,_,[],_,h=>by cases ‹List UInt8›<;>simp [Op.bytesLess] at h
 | [],_,_::_,_,_=>rfl
 | _::_,[],_,h,_=>by simp [Op.bytesLess] at h
 | a::x,b::y,c::z,h,j=>by
  simp only [Op.bytesLess,Bool.or_eq_true,decide_eq_true_eq,Bool.and_eq_true,beq_iff_eq] at h j ⊢;rcases h with h|⟨rfl,h⟩
  ·rcases j with j|⟨rfl,j⟩
   ·exact .inl (UInt8.lt_iff_toNat_lt.2 (by have:=UInt8.lt_iff_toNat_lt.1 h;have:=UInt8.lt_iff_toNat_lt.1 j;omega))
   ·exact .inl h
  ·rcases j with j|⟨rfl,j⟩
   ·exact .inl j
   ·exact .inr ⟨rfl,QeB x y z h j⟩
theorem QeT {s t:ByteArray}:QbH s t<0↔Op.bytesLess s.toList t.toList=true:=by
 unfold QbH ltS eqS;split
 ·rename_i h;exact⟨fun _=>h,fun _=>by decide⟩
 ·rename_i h;split<;>exact⟨fun h2=>by omega,fun h2=>absurd h2 h⟩
theorem QaG.str:QaG QbH:=by
 refine⟨fun x y=>QbY,fun x y=> ?_,fun x y z h1 h2=> ?_⟩
 ·rw [QeT];constructor
  ·intro h;have:=Qhz _ _ h;unfold QbH ltS eqS;rw [if_neg (by rw [this];simp),if_neg]
   ·decide
   ·intro e;rw [toList_inj (by simpa using e:y.toList=x.toList),QdY] at h;cases h
  ·intro h;cases e:Op.bytesLess x.toList y.toList with
   | true=>rfl
   | false=>
    exfalso;cases e':Op.bytesLess y.toList x.toList with
    | true=>have:=QeT.2 e';omega
    | false=>rw [QbY.2 (toList_inj (Qh0 _ _ e' e))] at h;omega
 ·rw [QeT] at*;exact QeB _ _ _ h1 h2
def QbA (x y:Ky):Int:=orI (QbH x.1 y.1) (QaV x.2 y.2)
def Qbh (x y:Dt):Int:=orI (QaV x.1 y.1) (QaV x.2 y.2)
theorem QaG.key:QaG QbA:=QaG.str.pair QaG.int
theorem QaG.dot:QaG Qbh:=QaG.int.pair QaG.int
theorem QaG.uniq {α:Type}{f:α ->α ->Int}(h:QaG f):∀{l m:List α},l.Pairwise (fun x y=>f x y<0) ->m.Pairwise (fun x y=>f x y<0) ->(∀x,x∈l↔x∈m) ->l=m
 | [],[],_,_,_=>rfl
 | [],y::m,_,_,hm=>by have:=(hm y).2 (by simp);simp at this
 | x::l,[],_,_,hm=>by have:=(hm x).1 (by simp);simp at this
 | x::l,y::m,hl,hm',hm=>by
  have q:=List.pairwise_cons.1 hl;have r:=List.pairwise_cons.1 hm';have e:x=y:=by
   rcases List.mem_cons.1 ((hm x).1 (by simp)) with e|e
   ·exact e
   ·rcases List.mem_cons.1 ((hm y).2 (by simp)) with k|k
    ·exact k.symm
    ·have v:=r.1 x e;have g:=q.1 y k;have:=h.tr _ _ _ v g;rw [h.irr] at this;omega
  subst e;congr 1;refine h.uniq q.2 r.2 fun z=> ?_;have u:=hm z;simp only [List.mem_cons] at u;constructor
  ·intro j;rcases u.1 (.inr j) with e|e
   ·subst e;have:=q.1 _ j;rw [h.irr] at this;omega
   ·exact e
  ·intro j;rcases u.2 (.inr j) with e|e
   ·subst e;have:=r.1 _ j;rw [h.irr] at this;omega
   ·exact e
theorem QaG.rises {α:Type} [Inhabited α]{f:α ->α ->Int}(h:QaG f){d:Array α}(hs:SortedIn (ltOf f) 0 d.size d)(hn:d.toList.Nodup):d.toList.Pairwise (fun x y=>f x y<0):=by
 rw [List.pairwise_iff_getElem];intro i j q m r;have k:=hs i j (by omega) r (by simpa using m);have t:i<d.size:=by simpa using q
 have o:j<d.size:=by simpa using m
 have u:d[i]! =d[i]:=getElem!_pos d i t;have v:d[j]! =d[j]:=getElem!_pos d j o;rw [u,v] at k;simp only [ltOf,decide_eq_false_iff_not] at k;have b:d[i]≠d[j]:=by
  have:=(List.nodup_iff_pairwise_ne.1 hn);rw [List.pairwise_iff_getElem] at this;simpa using this i j q m r
 have p:f d[i] d[j]≠0:=fun e=>b ((h.z _ _).1 e);have g:=h.neg (d[j]) (d[i]);have s:¬0<f d[i] d[j]:=fun e=>k (g.2 e);have:f d[i] d[j]<0:=by omega
 simpa using this
def Bw (w w':World):Prop:=Below w.heap.size w w'/\ w.drawn<=w'.drawn
theorem Bw.grown {w w':World}(h:Bw w w'):∃q u,w'=grow (w.drewN q) u:=by
 obtain⟨y,z⟩:=h;refine⟨w'.drawn - w.drawn,w'.heap.extract w.heap.size w'.heap.size,?_⟩;obtain⟨p,E,t,u,out⟩:=w;obtain⟨g,M,o,s,A⟩:=w';obtain⟨j,k,m,v,r⟩:=y;simp only at j k m v r z;subst j;subst k;subst m;simp only [grow,World.drewN,World.mk.injEq,and_true,true_and];refine⟨?_,by omega⟩;apply Array.ext_getElem?;intro i;rw [Array.getElem?_append];split
 ·rename_i hi;exact r i hi
 ·rename_i hi;rw [Array.getElem?_extract];by_cases b:i<g.size
  ·rw [if_pos (by omega)];congr 1;omega
  ·rw [if_neg (by omega)];exact Array.getElem?_eq_none (by omega)
theorem Qi5 {α:Type}{cs:Array α}(h:cs.size=2):∃c0 c1,cs=#[c0,c1]:=by
 obtain⟨l⟩:=cs;match l,h with
 | [c0,c1],_=>exact⟨c0,c1,rfl⟩
theorem QiZ {v:Value}{kl:Lit}(h:keyOf Tryz.prog 113 v=some kl):∃x,v=Qbr x:=by
 unfold keyOf at h;rw [Tryz.underlying113] at h;simp only [QnH,Bool.true_and] at h;have p:0<Tryz.prog.types.size:=of_decide_eq_true (by kernel_rfl);obtain⟨m,o⟩:∃m,Tryz.prog.types.size=m+1:=⟨Tryz.prog.types.size - 1,by omega⟩;rw [o] at h;have z:Tryz.prog.cellsOf 113=2:=by kernel_rfl
 have g:Tryz.prog.cellsOf 3=1:=by kernel_rfl
 have t:Tryz.prog.cellsOf 9=1:=by kernel_rfl
 cases v<;>simp [Value.formed,Tryz.underlying113,z,Program.keyLits,Tryz.underlying3,Tryz.underlying9,g,t,Value.cells] at h;obtain⟨u,a,⟨i,h⟩,b⟩:=h;clear i b;obtain⟨y,j,rfl⟩:=Qi5 u;clear u;cases y<;>simp at h;rename_i s;by_cases r:s.size<=maxLen
 ·cases j<;>simp [r] at h;rename_i k n;by_cases q:k=.i64/\ (Lit.int .i64 n).wf=true
  ·exact⟨(s,n),by rw [q.1];rfl⟩
  ·rw [if_neg q] at h;simp at h
 ·cases j<;>simp [r] at h
theorem QiY {v:Value}{kl:Lit}(h:keyOf Tryz.prog 75 v=some kl):∃x,v=dtV x:=by
 unfold keyOf at h;rw [Tryz.underlying75] at h;simp only [Qnr,Bool.true_and] at h;have b:0<Tryz.prog.types.size:=of_decide_eq_true (by kernel_rfl);obtain⟨m,t⟩:∃m,Tryz.prog.types.size=m+1:=⟨Tryz.prog.types.size - 1,by omega⟩;rw [t] at h;have z:Tryz.prog.cellsOf 75=2:=by kernel_rfl
 have g:Tryz.prog.cellsOf 3=1:=by kernel_rfl
 cases v<;>simp [Value.formed,Tryz.underlying75,z,Program.keyLits,Tryz.underlying3,g,Value.cells] at h;obtain⟨r,a,⟨o,h⟩,i⟩:=h;clear o i;obtain⟨u,y,rfl⟩:=Qi5 r;clear r;cases u<;>simp at h;rename_i k n;by_cases j:k=.i64/\ (Lit.int .i64 n).wf=true
 ·rw [if_pos j] at h;cases y<;>simp at h;rename_i k' n';by_cases q:k'=.i64/\ (Lit.int .i64 n').wf=true
  ·exact⟨(n,n'),by rw [j.1,q.1];rfl⟩
  ·rw [if_neg q] at h;simp at h
 ·rw [if_neg j] at h;simp at h
structure Qd9 {α β:Type}(t:TypeId)(kv:α ->Value)(f:α ->Option β)(left:Lit ->Bool)(ss:List α):Prop where
 nd:ss.Nodup
 old:∀x∈ss,f x≠none/\∀kl,keyOf Tryz.prog t (kv x)=some kl ->left kl=false
 all:∀x,f x≠none ->x∈ss \/∀kl,keyOf Tryz.prog t (kv x)=some kl ->left kl=true
def QdA {α β:Type}(f:α ->Option β)(ss:List α):Prop:=ss.Nodup/\∀x,x∈ss↔f x≠none
section
variable {α β : Type} {w : World} {t : TypeId} {kv : α -> Value} {vo : Option β -> Value} {b c : Nat} {f : α -> Option β} {D : DataW Value} {left : Lit -> Bool} {ss : List α}
theorem Qd9.start (h:FM w t kv vo b c f D):Qd9 t kv f (has D) ([]:List α):=by
 refine⟨List.nodup_nil,fun x hx=>absurd hx (by simp),fun x hx=>Or.inr fun kl hk=> ?_⟩;rw [(h.at' x kl hk).1];cases e:f x with
 | none=>exact absurd e hx
 | some y=>rfl
theorem Qd9.step (hC:Qd9 t kv f left ss)(h:FM w t kv vo b c f D)(K:Keyed Tryz.prog t)(hi:∀x y,kv x=kv y ->x=y){x:α}{kl:Lit}{y:DataW Value}(hk:keyOf Tryz.prog t (kv x)=some kl)(hl:left kl=true)(hat:∀zd,D.atKey kl zd=y):
  Qd9 t kv f (fun z=>left z && !z.sameKey kl) (ss++[x]):=by
 have q:x ∉ ss:=fun hm=>by have:=(hC.old x hm).2 kl hk;rw [hl] at this;cases this
 have m:f x≠none:=fun e=>by
  have k:=has_true_of_atKey hat;rw [(h.at' x kl hk).1,e] at k;cases k
 refine⟨?_,fun z j=> ?_,fun z j=> ?_⟩
 ·rw [List.nodup_append];exact⟨hC.nd,by simp,fun a ha b hb=>by rw [List.mem_singleton] at hb;subst hb;exact fun e=>q (e ▸ ha)⟩
 ·rcases List.mem_append.1 j with j|j
  ·refine⟨(hC.old z j).1,fun kl' hk'=> ?_⟩;show (left kl' && !kl'.sameKey kl)=false;rw [(hC.old z j).2 kl' hk'];rfl
  ·rw [List.mem_singleton] at j;subst j;refine⟨m,fun kl' hk'=> ?_⟩;rw [hk] at hk';injection hk' with hk';subst hk';show (left kl && !kl.sameKey kl)=false;rw [WideAt.sameKey_self (K.key hk)];simp
 ·by_cases e:z=x
  ·subst e;exact .inl (by simp)
  ·rcases hC.all z j with k|k
   ·exact .inl (List.mem_append.2 (.inl k))
   ·refine .inr fun kl' hk'=> ?_;show (left kl' && !kl'.sameKey kl)=true;rw [k kl' hk',sameKey_ne (fun e2=>e (hi _ _ (by subst e2;exact K.inj hk' hk)))];rfl
theorem Qd9.done (hC:Qd9 t kv f left ss)(h:FM w t kv vo b c f D)(hl:∀j,left j=false):QdA f ss:=
 ⟨hC.nd,fun x=>⟨fun hx=>(hC.old x hx).1,fun hx=>by
  rcases hC.all x hx with k|k
  ·exact k
  ·obtain⟨j,m⟩:=h.ok x hx;have:=k j m;rw [hl j] at this;cases this⟩⟩
end
theorem Qhm:∀p q:List ByteArray,QaC p q<0↔0<QaC q p
 | [],[]=>by simp [QaC]
 | [],_::_=>by simp [QaC]
 | _::_,[]=>by simp [QaC]
 | s::p,t::q=>by
  simp only [QaC];by_cases e:QbH s t=0
  ·have j:QbH t s=0:=QbY.2 (QbY.1 e).symm;rw [if_pos e,if_pos j];exact Qhm p q
  ·have j:QbH t s≠0:=fun h=>e (QbY.2 (QbY.1 h).symm);rw [if_neg e,if_neg j];exact QaG.str.neg s t
theorem QiB:∀p q r:List ByteArray,QaC p q<0 ->QaC q r<0 ->QaC p r<0
 | [],[],_,h,_=>by simp [QaC] at h
 | [],_::_,[],_,h=>by simp [QaC] at h
 | [],_::_,_::_,_,_=>by simp [QaC]
 | _::_,[],_,h,_=>by simp [QaC] at h
 | _::_,_::_,[],_,h=>by simp [QaC] at h
 | s::p,t::q,u::r,h,h'=>by
  simp only [QaC] at*;by_cases e:QbH s t=0
  ·rw [if_pos e] at h;have:=QbY.1 e;subst this;by_cases j:QbH s u=0
   ·rw [if_pos j] at h' ⊢;exact QiB p q r h h'
   ·rw [if_neg j] at h' ⊢;exact h'
  ·rw [if_neg e] at h;by_cases j:QbH t u=0
   ·have:=QbY.1 j;subst this;rw [if_neg e];exact h
   ·rw [if_neg j] at h';have k:=QaG.str.tr s t u h h';rw [if_neg (by omega)];exact k
theorem QaG.path:QaG QaC:=⟨fun _ _=>QdD,Qhm,QiB⟩
theorem Qgu {x y z:Lf}(h:QaH x y<0)(h':QaH y z<0):QaH x z<0:=
 (QaG.path.pair (QaG.int.pair QaG.dot)).tr (x.p,(kd x.fl,(x.r,x.q))) (y.p,(kd y.fl,(y.r,y.q))) (z.p,(kd z.fl,(z.r,z.q))) h h'
theorem QbS.lt {R F T:Nat ->Int}{n:Nat}{l:List Lf}{k:Nat}(h:QbS R F T n l k){i:Nat}:∀j,i<j ->j<k ->QaH (gL l i) (gL l j)<0
 | 0,h1,_=>by omega
 | j+1,h1,h2=>by
  have m:=(h (j+1) h2).2.2 (by omega);simp only [Nat.add_sub_cancel] at m;by_cases e:i=j
  ·subst e;exact m
  ·exact Qgu (h.lt j (by omega) (by omega)) m
theorem QjN (p:List ByteArray):Qad p 3=(List.range p.length).map fun i=>(gS p i,3):=by
 unfold Qad;congr 1;funext i;split<;>rfl
theorem QiO {p q:List ByteArray}(h:p <+:q){i:Nat}(hi:i<p.length):gS q i=gS p i:=by
 obtain⟨r,rfl⟩:=h;simp [gS,List.getD,List.getElem?_append,hi]
theorem QkX {p q:List ByteArray}{k:Int}(h:p <+:q)(hl:p.length<q.length):(Qad q k).take p.length=Qad p 3:=by
 apply List.ext_getElem?;intro i;by_cases j:i<p.length
 ·rw [List.getElem?_take_of_lt j,Qbw (by omega),QjN,if_pos (by omega),QiO h j];simp [j]
 ·rw [List.getElem?_take_eq_none (by omega),List.getElem?_eq_none (by rw [QaX];omega)]
noncomputable def nx (p:List ByteArray)(x:Lf):Option Ky:=if yes (p <+:x.p/\ p.length<x.p.length)=true then some (Qau x.p (kd x.fl) p.length) else none
theorem Qh4 {p:List ByteArray}{x:Lf}{y:Ky}:Qad p 3++[y] <+:Way x↔nx p x=some y:=by
 unfold nx Way;constructor
 ·intro h;have z:p.length+1<=x.p.length:=by have:=h.length_le;simpa [QaX] using this
  have j:=List.prefix_iff_eq_take.1 h;simp only [List.length_append,QaX,List.length_cons,List.length_nil] at j;rw [Qdi (by omega)] at j;have m:=List.append_inj' j rfl;have v:p <+:x.p:=by
   have r:p=x.p.take p.length:=by
    refine Qlr (by simp;omega) fun i hi=> ?_;have:=congrArg (fun l=>l[i]?) m.1;rw [List.getElem?_take_of_lt hi,Qbw hi,Qbw (k:=kd x.fl) (show i<x.p.length by omega)] at this;injection this with this;rw [(Prod.mk.inj this).1];simp [gS,List.getD,List.getElem?_take_of_lt hi]
   rw [r];exact List.take_prefix _ _
  rw [if_pos (Qal ⟨v,by omega⟩)];have q:=m.2;simp only [List.cons.injEq,and_true] at q;rw [q];rfl
 ·intro h;by_cases e:p <+:x.p/\ p.length<x.p.length
  ·rw [if_pos (Qal e)] at h;injection h with h;have:=Qdi (k:=kd x.fl) e.2;rw [QkX e.1 e.2] at this;have u:(gS x.p p.length,if p.length+1<x.p.length then 3 else kd x.fl)=y:=h;rw [u] at this;rw [<- this];exact List.take_prefix _ _
  ·rw [Qaj e] at h;simp at h
theorem Qhl:∀(p a b:List ByteArray),QaC (p++a) (p++b)=QaC a b
 | [],_,_=>rfl
 | s::p,a,b=>by
  simp only [List.cons_append,QaC];rw [if_pos (QbY.2 rfl)];exact Qhl p a b
theorem QbM {p:List ByteArray}{a b:Lf}{y z:Ky}(h:QaH a b<0)(ha:nx p a=some y)(hb:nx p b=some z):QbA y z<=0:=by
 unfold nx at ha hb;by_cases q:p <+:a.p/\ p.length<a.p.length
 ·by_cases r:p <+:b.p/\ p.length<b.p.length
  ·rw [if_pos (Qal q)] at ha;rw [if_pos (Qal r)] at hb;injection ha with ha;injection hb with hb;obtain⟨⟨k,o⟩,A⟩:=q;obtain⟨⟨j,i⟩,E⟩:=r;cases k with
   | nil=>rw [<- o] at A;simp at A
   | cons s k=>
    cases j with
    | nil=>rw [<- i] at E;simp at E
    | cons t j=>
     have O:y=(s,if k=[] then kd a.fl else 3):=by
      rw [<- ha];unfold Qau;rw [<- o];have g:gS (p++s::k) p.length=s:=by simp [gS,List.getD]
      rw [g];cases k<;>simp
     have Q:z=(t,if j=[] then kd b.fl else 3):=by
      rw [<- hb];unfold Qau;rw [<- i];have g:gS (p++t::j) p.length=t:=by simp [gS,List.getD]
      rw [g];cases j<;>simp
     unfold QaH at h;rw [<- o,<- i,Qhl] at h;rw [O,Q];unfold QbA;simp only [QaC] at h;by_cases m:QbH s t=0
     ·rw [if_pos m] at h;simp only [orI,m,if_true];have V:kd b.fl<=3:=by cases b.fl<;>decide
      have U:kd a.fl<=3:=by cases a.fl<;>decide
      cases k with
      | nil=>
       cases j with
       | nil=>
        simp only [if_true];simp only [QaC,orI,if_true] at h;by_cases M:QaV (kd a.fl) (kd b.fl)=0
        ·omega
        ·rw [if_neg M] at h;omega
       | cons u j=>
        simp only [if_true,reduceCtorEq,if_false];unfold QaV;split
        ·omega
        ·split<;>omega
      | cons u k=>
       cases j with
       | nil=>simp [QaC,orI] at h
       | cons v j=>simp [QaV]
     ·rw [if_neg m] at h;simp only [orI,m,if_false] at h ⊢;omega
  ·rw [Qaj r] at hb;simp at hb
 ·rw [Qaj q] at ha;simp at ha
noncomputable def kS (l:List Lf)(p:List ByteArray):Nat ->List Ky
 | 0=>[]
 | k+1=>match nx p (gL l k) with
  | none=>kS l p k
  | some y=>if yes ((kS l p k).getLast? =some y)=true then kS l p k else kS l p k++[y]
theorem Qc2 {l:List Lf}{p:List ByteArray}{k:Nat}(h:nx p (gL l k)=none):kS l p (k+1)=kS l p k:=by simp only [kS,h]
theorem Qc3 {l:List Lf}{p:List ByteArray}{k:Nat}{y:Ky}(h:nx p (gL l k)=some y):kS l p (k+1)=if yes ((kS l p k).getLast? =some y)=true then kS l p k else kS l p k++[y]:=by simp only [kS,h]
theorem Qe8 (l:List Lf)(p:List ByteArray):∀k,(kS l p k).length<=k
 | 0=>by simp [kS]
 | k+1=>by
  have j:=Qe8 l p k;cases h:nx p (gL l k) with
  | none=>rw [Qc2 h];omega
  | some y=>rw [Qc3 h];split<;>simp<;>omega
theorem QdT {R F T:Nat ->Int}{n:Nat}{l:List Lf}(p:List ByteArray)(h:QbS R F T n l l.length):∀k,k<=l.length ->(kS l p k).Pairwise (fun x y=>QbA x y<0)/\∀y,y∈kS l p k↔∃j,j<k/\ nx p (gL l j)=some y
 | 0,_=>⟨List.Pairwise.nil,fun y=>by simp [kS]⟩
 | k+1,hk=>by
  obtain⟨r,i⟩:=QdT p h k (by omega);have t:∀y,(∃j,j<k+1/\ nx p (gL l j)=some y)↔y∈kS l p k \/nx p (gL l k)=some y:=fun y=>by
   rw [i];constructor
   ·rintro⟨j,v,e⟩;by_cases s:j=k
    ·subst s;exact .inr e
    ·exact .inl ⟨j,by omega,e⟩
   ·rintro(⟨j,v,e⟩|e)
    ·exact⟨j,by omega,e⟩
    ·exact⟨k,by omega,e⟩
  cases hn:nx p (gL l k) with
  | none=>
   rw [Qc2 hn];refine⟨r,fun y=> ?_⟩;rw [t y,hn];simp
  | some z=>
   have g:∀y∈kS l p k,QbA y z<=0:=fun y hy=>by
    obtain⟨j,v,e⟩:=(i y).1 hy;exact QbM (h.lt k v (by omega)) e hn
   rw [Qc3 hn];by_cases e:(kS l p k).getLast? =some z
   ·rw [if_pos (Qal e)];refine⟨r,fun y=> ?_⟩;rw [t y,hn];constructor
    ·exact .inl
    ·rintro(m|m)
     ·exact m
     ·injection m with m;subst m;exact List.mem_of_getLast? e
   ·rw [if_neg (by rw [Qaj e];simp)];have q:z ∉ kS l p k:=fun q=>by
     obtain⟨b,u,E⟩:∃b u,kS l p k=b++[u]:=by
      refine⟨(kS l p k).dropLast,(kS l p k).getLast (List.ne_nil_of_mem q),(List.dropLast_concat_getLast _).symm⟩
     rw [E] at q g e r;simp at e;rcases List.mem_append.1 q with m|m
     ·have o:=(List.pairwise_append.1 r).2.2 z m u (by simp);have M:=g u (by simp);have A:=QaG.key.neg z u;have:0<QbA u z:=A.1 o;omega
     ·simp at m;exact e m.symm
    refine⟨List.pairwise_append.2 ⟨r,List.pairwise_singleton _ _,fun x hx y hy=> ?_⟩,fun y=> ?_⟩
    ·simp at hy;subst hy;have m:=g x hx;have o:QbA x y≠0:=fun e=>q ((QaG.key.z x y).1 e ▸ hx);omega
    ·rw [t y,hn];simp only [List.mem_append,List.mem_singleton,Option.some.injEq];exact⟨fun h=>h.imp id Eq.symm,fun h=>h.imp id Eq.symm⟩
theorem QiX {R F T:Nat ->Int}{n:Nat}{l:List Lf}{N:List Ky ->Option (Nat×Nat)}{p:List ByteArray}{ts:List Ky}(h:QbS R F T n l l.length)(hI:NkI l l.length N)(h1:ts.Pairwise (fun x y=>QbA x y<0))(h2:∀x,x∈ts↔N (Qad p 3++[x])≠none):ts=kS l p l.length:=by
 obtain⟨m,q⟩:=QdT p h l.length zL;refine QaG.key.uniq h1 m fun x=> ?_;rw [h2,q];have:=hI (Qad p 3++[x]);rw [Option.isSome_iff_ne_none] at this;rw [this];simp only [List.append_eq_nil_iff,List.cons_ne_self,and_false,false_or,reduceCtorEq];constructor
 ·rintro⟨j,k,e⟩;exact⟨j,k,Qh4.1 e⟩
 ·rintro⟨j,k,e⟩;exact⟨j,k,Qh4.2 e⟩
noncomputable def rV (l:List Lf)(p:List ByteArray):Nat ->List ByteArray
 | 0=>[]
 | k+1=>if yes ((gL l k).fl=false/\ (gL l k).p=p)=true then rV l p k++[(gL l k).v] else rV l p k
theorem QnW {l:List Lf}{p:List ByteArray}{s:ByteArray}:∀{k:Nat},s∈rV l p k↔∃j,j<k/\ (gL l j).fl=false/\ (gL l j).p=p/\ (gL l j).v=s
 | 0=>by simp [rV]
 | k+1=>by
  have y:=QnW (l:=l) (p:=p) (s:=s) (k:=k);simp only [rV];by_cases e:(gL l k).fl=false/\ (gL l k).p=p
  ·rw [if_pos (Qal e),List.mem_append,y,List.mem_singleton];constructor
   ·rintro(⟨j,u,r⟩|r)
    ·exact⟨j,by omega,r⟩
    ·exact⟨k,by omega,e.1,e.2,r.symm⟩
   ·rintro⟨j,u,r1,r2,m⟩;by_cases q:j=k
    ·subst q;exact .inr m.symm
    ·exact .inl ⟨j,by omega,r1,r2,m⟩
  ·rw [if_neg (by rw [Qaj e];simp),y];constructor
   ·rintro⟨j,u,r⟩;exact⟨j,by omega,r⟩
   ·rintro⟨j,u,r1,r2,m⟩;by_cases q:j=k
    ·subst q;exact absurd ⟨r1,r2⟩ e
    ·exact⟨j,by omega,r1,r2,m⟩
theorem Qlc {l:List Lf}{p:List Ky}{d:Dt}{s:ByteArray}:∀{k:Nat},Dis l k ->(Mk l k p d=some s↔∃j,j<k/\ Way (gL l j)=p/\ ((gL l j).r,(gL l j).q)=d/\ (gL l j).v=s)
 | 0,_=>⟨fun h=>by simp [Mk] at h,fun⟨j,m,_⟩=>by omega⟩
 | k+1,hd=>by
  have g:=Qlc (l:=l) (p:=p) (d:=d) (s:=s) (k:=k) (fun i hi j m=>hd i (by omega) j m);simp only [Mk];by_cases e:p=Qad (gL l k).p (kd (gL l k).fl)
  ·rw [e,QbG,<- e];by_cases z:d=((gL l k).r,(gL l k).q)
   ·rw [z,Qax];constructor
    ·intro h;injection h with h;exact⟨k,by omega,e.symm,rfl,h⟩
    ·rintro⟨j,m,r1,r2,y⟩;by_cases u:j=k
     ·subst u;rw [y]
     ·have:=hd k (by omega) j (by omega);exact absurd ⟨congrArg Prod.fst r2,congrArg Prod.snd r2⟩ this
   ·rw [Qam _ _ z,g];constructor
    ·rintro⟨j,m,r⟩;exact⟨j,by omega,r⟩
    ·rintro⟨j,m,r1,r2,y⟩;by_cases u:j=k
     ·subst u;exact absurd r2.symm z
     ·exact⟨j,by omega,r1,r2,y⟩
  ·rw [Qbd _ _ _ e,g];constructor
   ·rintro⟨j,m,r⟩;exact⟨j,by omega,r⟩
   ·rintro⟨j,m,r1,r2,y⟩;by_cases u:j=k
    ·subst u;exact absurd r1.symm e
    ·exact⟨j,by omega,r1,r2,y⟩
noncomputable def dsK (l:List Lf)(p:List ByteArray)(y:Ky):Nat ->List Lf
 | 0=>[]
 | k+1=>if yes (nx p (gL l k)=some y)=true then dsK l p y k++[gL l k] else dsK l p y k
theorem Qb6 {l:List Lf}{p:List ByteArray}{y:Ky}{k:Nat}(h:nx p (gL l k)=some y):dsK l p y (k+1)=dsK l p y k++[gL l k]:=by simp only [dsK];rw [if_pos (Qal h)]
theorem QbT {l:List Lf}{p:List ByteArray}{y:Ky}{k:Nat}(h:nx p (gL l k)≠some y):dsK l p y (k+1)=dsK l p y k:=by simp only [dsK];rw [if_neg (by rw [Qaj h];simp)]
theorem Qbc {l:List Lf}{p:List ByteArray}{y:Ky}{x:Lf}:∀{k:Nat},x∈dsK l p y k↔∃j,j<k/\ nx p (gL l j)=some y/\ gL l j=x
 | 0=>by simp [dsK]
 | k+1=>by
  have v:=Qbc (l:=l) (p:=p) (y:=y) (x:=x) (k:=k);by_cases h:nx p (gL l k)=some y
  ·rw [Qb6 h,List.mem_append,List.mem_singleton,v];constructor
   ·rintro(⟨j,u,e⟩|rfl)
    ·exact⟨j,by omega,e⟩
    ·exact⟨k,by omega,h,rfl⟩
   ·rintro⟨j,u,m,q⟩;by_cases r:j=k
    ·subst r;exact .inr q.symm
    ·exact .inl ⟨j,by omega,m,q⟩
  ·rw [QbT h,v];constructor
   ·rintro⟨j,u,e⟩;exact⟨j,by omega,e⟩
   ·rintro⟨j,u,m,q⟩;by_cases r:j=k
    ·subst r;exact absurd m h
    ·exact⟨j,by omega,m,q⟩
theorem Qgw (l:List Lf)(p:List ByteArray)(y:Ky):∀k,(dsK l p y k).length<=k
 | 0=>by simp [dsK]
 | k+1=>by
  have j:=Qgw l p y k;by_cases h:nx p (gL l k)=some y
  ·rw [Qb6 h];simp;exact j
  ·rw [QbT h];omega
def lfB (k:Int)(x:Lf):List Int:=uvF 9 x.r.toNat++(uvF 9 x.q.toNat++if k=1 then Qae x.v else [])
def mB (ls:List Lf)(k:Int):List Int:=uvF 9 ls.length++ls.flatMap (lfB k)
noncomputable def tB (l:List Lf):Nat ->List ByteArray ->List Int
 | 0,_=>[]
 | f+1,p=>uvF 9 (kS l p l.length).length++(kS l p l.length).flatMap fun y=>Qae y.1++([y.2]++if y.2=3 then tB l f (p++[y.1]) else mB (dsK l p y l.length) y.2)
noncomputable def kB (l:List Lf)(f:Nat)(p:List ByteArray)(y:Ky):List Int:=Qae y.1++([y.2]++if y.2=3 then tB l f (p++[y.1]) else mB (dsK l p y l.length) y.2)
theorem Qf1 (l:List Lf)(f:Nat)(p:List ByteArray):tB l (f+1) p=uvF 9 (kS l p l.length).length++(kS l p l.length).flatMap (kB l f p):=rfl
theorem Qbi {p:List ByteArray}{x:Lf}{y:Ky}:nx p x=some y↔(p <+:x.p/\ p.length<x.p.length)/\ Qau x.p (kd x.fl) p.length=y:=by
 unfold nx;by_cases h:p <+:x.p/\ p.length<x.p.length
 ·rw [if_pos (Qal h)];simp [h]
 ·rw [if_neg (by rw [Qaj h];simp)];simp [h]
theorem Qfo {p:List ByteArray}{x:Lf}:nx p x≠none↔p <+:x.p/\ p.length<x.p.length:=by
 unfold nx;by_cases h:p <+:x.p/\ p.length<x.p.length
 ·rw [if_pos (Qal h)];simp [h]
 ·rw [if_neg (by rw [Qaj h];simp)];simp [h]
theorem QgB (b:Bool):kd b=1 \/kd b=2:=by cases b<;>simp [kd]
theorem Qh8 {p q:List ByteArray}{s:ByteArray}:p++[s] <+:q↔(p <+:q/\ p.length<q.length)/\ gS q p.length=s:=by
 constructor
 ·rintro⟨r,rfl⟩;refine⟨⟨⟨s::r,by simp⟩,by simp⟩,?_⟩;simp [gS,List.getD]
 ·rintro⟨⟨⟨r,rfl⟩,h⟩,e⟩;cases r with
  | nil=>simp at h
  | cons t r=>
   simp [gS,List.getD] at e;subst e;exact⟨r,by simp⟩
theorem QcG {p:List ByteArray}{x:Lf}{s:ByteArray}:nx p x=some (s,3)↔nx (p++[s]) x≠none:=by
 rw [Qbi,Qfo,Qh8];unfold Qau;constructor
 ·rintro⟨h,e⟩;have q:=congrArg Prod.fst e;have j:=congrArg Prod.snd e;dsimp only at q j;by_cases m:p.length+1<x.p.length
  ·exact⟨⟨h,q⟩,by simpa using m⟩
  ·rw [if_neg m] at j;rcases QgB x.fl with k|k<;>rw [k] at j<;>exact absurd j (by decide)
 ·rintro⟨⟨h,e⟩,m⟩;refine⟨h,?_⟩;rw [if_pos (by simpa using m),e]
theorem QgI {p:List ByteArray}{x:Lf}{y:Ky}(hy:y.2≠3):nx p x=some y↔Way x=Qad p 3++[y]:=by
 rw [<- Qh4];constructor
 ·intro h;have k:=Qh4.1 h;rw [Qbi] at k;obtain⟨⟨_,m⟩,e⟩:=k;have j:=congrArg Prod.snd e;unfold Qau at j;dsimp only at j;have q:¬p.length+1<x.p.length:=fun hh=>by rw [if_pos hh] at j;exact hy j.symm
  refine(h.eq_of_length ?_).symm;simp [Way,QaX];omega
 ·intro h;rw [h];exact List.prefix_refl _
theorem Qb1 {p:List ByteArray}{x:Lf}{y:Ky}(hy:y.2≠3)(h:nx p x=some y):x.p=p++[y.1]/\ kd x.fl=y.2:=by
 rw [Qbi] at h;obtain⟨⟨r,m⟩,e⟩:=h;have k:=congrArg Prod.fst e;have j:=congrArg Prod.snd e;unfold Qau at k j;dsimp only at k j;have q:¬p.length+1<x.p.length:=fun hh=>by rw [if_pos hh] at j;exact hy j.symm
 rw [if_neg q] at j;exact⟨((Qh8.2 ⟨⟨r,m⟩,k⟩).eq_of_length (by simp;omega)).symm,j⟩
theorem Qly {a b:Bool}(h:kd a=kd b):a=b:=by cases a<;>cases b<;>simp [kd] at h ⊢
theorem Qe2 {R F T:Nat ->Int}{n:Nat}{l:List Lf}{p:List ByteArray}{y:Ky}(h:QbS R F T n l l.length)(hy:y.2≠3):∀k,k<=l.length ->((dsK l p y k).map fun x=>((x.r,x.q):Dt)).Pairwise (fun x y=>Qbh x y<0)
 | 0,_=>by simp [dsK]
 | k+1,hk=>by
  have u:=Qe2 (p:=p) h hy k (by omega);by_cases e:nx p (gL l k)=some y
  ·rw [Qb6 e,List.map_append];refine List.pairwise_append.2 ⟨u,by simp,fun a ha b hb=> ?_⟩;simp only [List.map_cons,List.map_nil,List.mem_singleton] at hb;subst hb;obtain⟨x,g,rfl⟩:=List.mem_map.1 ha;obtain⟨j,z,v,rfl⟩:=Qbc.1 g;have m:=h.lt (i:=j) k z (by omega);obtain⟨s,t⟩:=Qb1 hy v;obtain⟨A,o⟩:=Qb1 hy e;unfold QaH at m;rw [s,A,t,o,QdD.2 rfl,show QaV y.2 y.2=0 from QaG.int.irr _] at m;simpa [orI,Qlj,Qbh] using m
  ·rw [QbT e];exact u
theorem QfK {R F T:Nat ->Int}{n:Nat}{l:List Lf}{p:List ByteArray}{y:Ky}{ts:List Dt}(h:QbS R F T n l l.length)(hy:y.2≠3)(h1:ts.Pairwise (fun x y=>Qbh x y<0))(h2:∀d,d∈ts↔Mk l l.length (Qad p 3++[y]) d≠none):ts=(dsK l p y l.length).map fun x=>((x.r,x.q):Dt):=by
 refine QaG.dot.uniq h1 (Qe2 h hy _ zL) fun d=> ?_;rw [h2,QjW,List.mem_map];constructor
 ·rintro⟨j,m,k,u⟩;exact⟨gL l j,Qbc.2 ⟨j,m,(QgI hy).2 k,rfl⟩,u⟩
 ·rintro⟨x,v,e⟩;obtain⟨j,m,k,rfl⟩:=Qbc.1 v;exact⟨j,m,(QgI hy).1 k,e⟩
theorem QfT {l:List Lf}{p:List ByteArray}{y:Ky}{x:Lf}(hy:y.2≠3)(hd:Dis l l.length)(hx:x∈dsK l p y l.length):Mk l l.length (Qad p 3++[y]) (x.r,x.q)=some x.v:=by
 obtain⟨j,m,k,rfl⟩:=Qbc.1 hx;exact(Qlc hd).2 ⟨j,m,(QgI hy).1 k,rfl,rfl⟩
theorem Qf2 (p:List ByteArray)(s:ByteArray):Qad (p++[s]) 3=Qad p 3++[(s,3)]:=by
 rw [QjN,QjN,List.length_append,List.length_singleton,List.range_succ,List.map_append];congr 1
 ·refine List.map_congr_left fun i hi=> ?_;rw [QiO (List.prefix_append p [s]) (by simpa using hi)]
 ·simp [gS,List.getD]
noncomputable def uK (l:List Lf)(p:List ByteArray):Nat ->Nat
 | 0=>0
 | k+1=>uK l p k+(if yes (nx p (gL l k)≠none)=true then 1 else 0)
theorem Qom (l:List Lf)(p:List ByteArray):∀k,uK l p k<=k
 | 0=>Nat.le_refl _
 | k+1=>by have:=Qom l p k;simp only [uK];split<;>omega
theorem QjH (f:Ky ->Nat)(z:Ky):∀ys:List Ky,ys.Nodup ->(ys.map fun y=>f y+if y=z then 1 else 0).sum<=(ys.map f).sum+(if yes (z∈ys)=true then 1 else 0)
 | [],_=>by simp
 | a::r,h=>by
  have j:=QjH f z r (List.nodup_cons.1 h).2;have k:=(List.nodup_cons.1 h).1;simp only [List.map_cons,List.sum_cons];by_cases e:a=z
  ·subst e;rw [Qaj k] at j;rw [Qal (List.mem_cons_self),if_pos rfl,if_pos rfl];simp at j;omega
  ·rw [if_neg e];have:(z∈a::r)=(z∈r):=by simp [show z≠a from fun h=>e h.symm]
   rw [this];omega
theorem QlE (l:List Lf)(p:List ByteArray)(ys:List Ky)(hn:ys.Nodup):∀k,(ys.map fun y=>(dsK l p y k).length).sum<=uK l p k
 | 0=>by
  have:(ys.map fun y=>(dsK l p y 0).length)=ys.map fun _=>0:=by simp [dsK]
  have u:∀ys:List Ky,(ys.map fun _=>0).sum=0:=fun ys=>by
   induction ys with
   | nil=>rfl
   | cons a r m=>simp only [List.map_cons,List.sum_cons,m]
  rw [this,u];exact Nat.zero_le _
 | k+1=>by
  have m:=QlE l p ys hn k;cases h:nx p (gL l k) with
  | none=>
   have e:(ys.map fun y=>(dsK l p y (k+1)).length)=ys.map fun y=>(dsK l p y k).length:=List.map_congr_left fun y _=>by rw [QbT (by rw [h];simp)]
   rw [e];simp only [uK];omega
  | some z=>
   have e:(ys.map fun y=>(dsK l p y (k+1)).length)=ys.map fun y=>(dsK l p y k).length+if y=z then 1 else 0:=List.map_congr_left fun y _=>by
    by_cases j:y=z
    ·subst j;rw [Qb6 h,if_pos rfl];simp
    ·rw [QbT (by rw [h];simpa using fun e=>j e.symm),if_neg j];omega
   have v:=QjH (fun y=>(dsK l p y k).length) z ys hn;have q:uK l p (k+1)=uK l p k+1:=by simp only [uK];rw [if_pos (Qal (by rw [h];simp))]
   rw [e,q];have g:(if yes (z∈ys)=true then 1 else 0)<=1:=by split<;>omega
   omega
theorem QlI (l:List Lf)(p:List ByteArray)(s:ByteArray):∀k,uK l (p++[s]) k=(dsK l p (s,3) k).length
 | 0=>rfl
 | k+1=>by
  have j:=QlI l p s k;by_cases h:nx p (gL l k)=some (s,3)
  ·rw [Qb6 h];simp only [uK];rw [if_pos (Qal (QcG.1 h)),j];simp
  ·rw [QbT h];simp only [uK];rw [if_neg (by rw [Qaj (fun hh=>h (QcG.2 hh))];simp),j];rfl
theorem Qco {α:Type}(f:α ->List Int)(g:α ->Nat)(C:Nat):∀ys:List α,(∀y∈ys,(f y).length<=C*g y) ->(ys.flatMap f).length<=C*(ys.map g).sum
 | [],_=>by simp
 | a::r,h=>by
  have k:=Qco f g C r (fun y hy=>h y (List.mem_cons_of_mem _ hy));have j:=h a (List.mem_cons_self);simp only [List.flatMap_cons,List.length_append,List.map_cons,List.sum_cons,Nat.mul_add];omega
theorem QaJ (s:ByteArray):(Qae s).length<=10+s.size:=by
 have:=(Qah 9 s.size).1;simp only [Qae,List.length_append,Qar];omega
theorem QnM {ls:List Lf}(k:Int)(h:∀x∈ls,x.v.size<=200):(mB ls k).length<=10+230*ls.length:=by
 have t:=(Qah 9 ls.length).1;have j:=Qco (lfB k) (fun _=>1) 230 ls (fun x hx=>by
  have u:=(Qah 9 x.r.toNat).1;have y:=(Qah 9 x.q.toNat).1;have z:=QaJ x.v;have g:=h x hx;unfold lfB;simp only [List.length_append];split
  ·omega
  ·simp;omega)
 have m:∀ls:List Lf,(ls.map fun _=>1).sum=ls.length:=fun ls=>by
  induction ls with
  | nil=>rfl
  | cons a r ih=>simp only [List.map_cons,List.sum_cons,ih,List.length_cons];omega
 rw [m] at j;unfold mB;simp only [List.length_append];omega
theorem Qeb {p:List ByteArray}{x:Lf}{y:Ky}(hx:QbW x)(h:nx p x=some y):y.1.size<=40:=by
 rw [Qbi] at h;obtain⟨⟨_,k⟩,e⟩:=h;have j:=congrArg Prod.fst e;unfold Qau at j;dsimp only at j;rw [<- j];exact(hx.1.2.2 _ k).2
theorem QlG {R F T:Nat ->Int}{n:Nat}{l:List Lf}(h:QbS R F T n l l.length):∀f p,(tB l f p).length<=10+(400+100*f)*uK l p l.length
 | 0,p=>by simp [tB]
 | f+1,p=>by
  have v:=QlG h f;obtain⟨z,g⟩:=QdT p h l.length zL;have u:(kS l p l.length).Nodup:=z.imp fun{a b} hab e=>by subst e;rw [QaG.key.irr] at hab;omega
  have o:=(Qah 9 (kS l p l.length).length).1;have s:=Qco (kB l f p) (fun y=>(dsK l p y l.length).length) (500+100*f) (kS l p l.length) (fun y hy=>by
   obtain⟨j,m,e⟩:=(g y).1 hy;have O:1<=(dsK l p y l.length).length:=List.length_pos_of_mem (Qbc.2 ⟨j,m,e,rfl⟩);have Q:=QaJ y.1;have U:=Qeb (h j m).1 e;have t:(if y.2=3 then tB l f (p++[y.1]) else mB (dsK l p y l.length) y.2).length<=10+(400+100*f)*(dsK l p y l.length).length:=by
    by_cases k:y.2=3
    ·rw [if_pos k];have:=v (p++[y.1]);rw [QlI,show (y.1,(3:Int))=y by rw [<- k]] at this;exact this
    ·rw [if_neg k];have:=QnM (ls:=dsK l p y l.length) y.2 (fun x hx=>by
      obtain⟨i,r,_,rfl⟩:=Qbc.1 hx;exact(h i r).1.2.1)
     have E:230*(dsK l p y l.length).length<=(400+100*f)*(dsK l p y l.length).length:=Nat.mul_le_mul_right _ (by omega);omega
   unfold kB;simp only [List.length_append,List.length_singleton];have M:(500+100*f)*(dsK l p y l.length).length=(400+100*f)*(dsK l p y l.length).length+100*(dsK l p y l.length).length:=by rw [<- Nat.add_mul];congr 1;omega
   omega)
  have q:=QlE l p _ u l.length;have A:(500+100*f)*((kS l p l.length).map fun y=>(dsK l p y l.length).length).sum<=(500+100*f)*uK l p l.length:=Nat.mul_le_mul_left _ q;rw [Qf1,List.length_append,show 400+100*(f+1)=500+100*f by omega];omega
def Iv (l:List Lf)(p:List ByteArray)(i e:Nat):Prop:=(∀j,j<l.length ->(nx p (gL l j)≠none↔i<=j/\ j<e))/\ i<=e/\ e<=l.length
theorem Iv.start {l:List Lf}{p:List ByteArray}{i e:Nat}(h:Iv l p i e):∀k,k<=i ->kS l p k=[]
 | 0,_=>rfl
 | k+1,hk=>by
  rw [Qc2]
  ·exact h.start k (by omega)
  ·have:=h.1 k (by have:=h.2;omega);cases e1:nx p (gL l k) with
   | none=>rfl
   | some y=>rw [e1] at this;have:=this.1 (by simp);omega
theorem Iv.stop {l:List Lf}{p:List ByteArray}{i e:Nat}(h:Iv l p i e):∀k,e<=k ->k<=l.length ->kS l p k=kS l p e:=by
 intro k m q;induction k with
 | zero=>rw [show e=0 by omega]
 | succ k ih=>
  by_cases j:e=k+1
  ·rw [j]
  ·rw [Qc2,ih (by omega) (by omega)];have:=h.1 k (by omega);cases e1:nx p (gL l k) with
   | none=>rfl
   | some y=>rw [e1] at this;have:=this.1 (by simp);omega
section
variable {R F T : Nat -> Int} {n : Nat} {l : List Lf} {p : List ByteArray} {i e j g : Nat} {y : Ky}
theorem Qfe (hy:y ∉ kS l p j)(hg:∀t,t<g ->nx p (gL l (j+t))=some y):∀t,t<g ->kS l p (j+(t+1))=kS l p j++[y]
 | 0,h=>by
  show kS l p (j+1)=_;have k:=hg 0 h;rw [Nat.add_zero] at k;rw [Qc3 k,if_neg (by rw [Qaj (fun e=>hy (List.mem_of_getLast? e))];simp)]
 | t+1,h=>by
  have m:=Qfe hy hg t (by omega);show kS l p (j+(t+1)+1)=_;rw [Qc3 (hg (t+1) h),m,if_pos (Qal (by simp))]
theorem Qkq (hl:QbS R F T n l l.length)(hI:Iv l p i e)(hj:i<=j)(hy:y ∉ kS l p j)(h1:1<=g)(hge:j+g<=e)(hg:∀t,t<g ->nx p (gL l (j+t))=some y)(hs:j+g<e ->nx p (gL l (j+g))≠some y):
  ∀t,t<l.length ->(nx p (gL l t)=some y↔j<=t/\ t<j+g):=fun t ht=>by
 have M:=hI.2.2;constructor
 ·intro k;obtain⟨_,u⟩:=QdT p hl j (by omega);refine⟨Nat.le_of_not_lt fun h=>hy ((u y).2 ⟨t,h,k⟩),Nat.lt_of_not_le fun h=> ?_⟩;have O:=(hI.1 t ht).1 (by rw [k];simp);have m:=hs (by omega);cases ez:nx p (gL l (j+g)) with
  | none=>have:=(hI.1 (j+g) (by omega)).2 (by omega);exact this ez
  | some z=>
   have r:z≠y:=fun e=>m (by rw [ez,e]);have v:=QbM (hl.lt (i:=j+(g - 1)) (j+g) (by omega) (by omega)) (hg (g - 1) (by omega)) ez;have o:QbA y z≠0:=fun e=>r ((QaG.key.z y z).1 e).symm;by_cases q:t=j+g
   ·subst q;exact m k
   ·have b:=QbM (hl.lt (i:=j+g) t (by omega) ht) ez k;have s:=(QaG.key.neg y z).1 (by omega);omega
 ·rintro⟨A,E⟩;have:=hg (t - j) (by omega);rwa [show j+(t - j)=t by omega] at this
theorem Qkp (hl:QbS R F T n l l.length)(hI:Iv l p i e)(hy:y ∉ kS l p j)(h1:1<=g)(hge:j+g<=e)(hg:∀t,t<g ->nx p (gL l (j+t))=some y)(hs:j+g<e ->nx p (gL l (j+g))≠some y){z:Ky}(hlt:j+g<e)(hz:nx p (gL l (j+g))=some z):z ∉ kS l p (j+g):=fun k=>by
 have E:=hI.2.2;have q:=Qfe hy hg (g - 1) (by omega);rw [show j+(g - 1+1)=j+g by omega] at q;rw [q,List.mem_append,List.mem_singleton] at k;have r:z≠y:=fun e=>hs hlt (by rw [hz,e]);rcases k with k|k
 ·obtain⟨_,h⟩:=QdT p hl j (by omega);obtain⟨t,v,u⟩:=(h z).1 k;have m:=hg 0 (by omega);rw [Nat.add_zero] at m;have o:=QbM (hl.lt (i:=t) j v (by omega)) u m;have b:=QbM (hl.lt (i:=j) (j+g) (by omega) (by omega)) m hz;have s:QbA z y≠0:=fun e=>r ((QaG.key.z z y).1 e);have A:=(QaG.key.neg z y).1 (by omega);omega
 ·exact r k
theorem Qko (ho:∀t,t<l.length ->(nx p (gL l t)=some y↔j<=t/\ t<j+g))(hge:j+g<=l.length):dsK l p y l.length=(List.range g).map fun t=>gL l (j+t):=by
 have q:∀k,k<=l.length ->dsK l p y k=(List.range (min (k - j) g)).map fun t=>gL l (j+t):=by
  intro k;induction k with
  | zero=>intro _;simp [dsK]
  | succ k m=>
   intro u;have m:=m (by omega);by_cases h:nx p (gL l k)=some y
   ·have:=(ho k (by omega)).1 h;rw [Qb6 h,m,show min (k+1 - j) g=(k - j)+1 by omega,show min (k - j) g=k - j by omega,List.range_succ,List.map_append];simp [show j+(k - j)=k by omega]
   ·have r:¬(j<=k/\ k<j+g):=fun hh=>h ((ho k (by omega)).2 hh);rw [QbT h,m];congr 2;omega
 rw [q _ zL,show min (l.length - j) g=g by omega]
theorem Qmn {s:ByteArray}(ho:∀t,t<l.length ->(nx p (gL l t)=some (s,3)↔j<=t/\ t<j+g))(hge:j+g<=l.length):Iv l (p++[s]) j (j+g):=
 ⟨fun t ht=>by rw [<- QcG,ho t ht],by omega,hge⟩
end
theorem QaU (B m0:Nat)(bv:Value)(zs0:List Int)(w:World)(hm:m0<18446744073709551616)(hB:B<=w.heap.size)(hl:zs0.length<=1000000000000)(ho:Own w B bv zs0):
  Calls Tryz.prog 43 #[bv,.int .u64 (m0:Int)] w fun e w'=>∃v,e=.returned v/\ Own w' B v (zs0++uvF 9 m0)/\ Gr w w' bv v/\ w.heap.size<w'.heap.size:=by
 obtain⟨G,O,V,Y,Z⟩:=info_parts Tryz.infoByte;go_enter Tryz.func43,Tryz.ntmps43;go_wp2_with fail;go_loopw [0,1] (fun b v wr=>∃(k m:Nat) (r:List Int),k<=9/\ m<128^(k+1)/\ m<18446744073709551616/\ v=.int .u64 (m:Int)/\ Own wr B b r/\ Gr w wr bv b/\ w.heap.size<=wr.heap.size/\ r.length+k<=zs0.length+9/\ r++uvF k m=zs0++uvF 9 m0) (fun _ v _=>(intOf v).toNat);case atStart=>exact⟨9,m0,zs0,Nat.le_refl _,by omega,hm,rfl,ho,Gr.refl _ _,Nat.le_refl _,Nat.le_refl _,rfl⟩
 case round=>
  obtain⟨k,m,r,N,U,L,rfl,z,E,D,C,M⟩:=hrel;have i:Hid (r++uvF k m=zs0++uvF 9 m0):=M;have p:Hid (m<128^(k+1)):=U;have o:=hid E;clear M ho U E;unfold Own at z;by_cases Q:m<128
  ·go_wp2_with (at_builtin;refine Qai rfl _ _ 22 rfl B 5 G (.int .u8 0) 1 1 Tryz.underlying22 O V Y Z rfl (by decide) _ _ _ rfl (z.alloc _) ⟨wr.heap.size,0,none⟩ 1 1 [.int .u8 (m:Int)] rfl rfl ?c1 ?c2 ?c3 ?c4 ?c5 ?_);case c1=>exact cell_one_new _ _ _
   case c2=>intro u t;simp at t;subst t;rfl
   case c3=>unfold maxLen;omega
   case c4=>omega
   case c5=>simp;omega
   ·intro v' w1 g q y;have R:Own w1 B v' (zs0++uvF 9 m0):=by
     rw [<- i.out,QcO k m Q];unfold Own;rw [List.length_append,List.map_append];exact g
    have s:=hid ((o.alloc _).trans (Gr.app (b':=v') q (by simpa using y)));have A:=q.size;simp at A;clear g q z y o;go_wp2;go_ret;exact⟨v',rfl,R,s.out,by omega⟩
  ·have J:=Qlh m L;have K:bits BinOp.or IntKind.u8 ((m:Int)%128) 128=128+(m:Int)%128:=by
    have:=QnU (m%128) (by omega);simpa using this
   go_wp2_with (at_builtin;refine Qai rfl _ _ 22 rfl B 5 G (.int .u8 0) 1 1 Tryz.underlying22 O V Y Z rfl (by decide) _ _ _ rfl (z.alloc _) ⟨wr.heap.size,0,none⟩ 1 1 [.int .u8 (128+(m:Int)%128)] rfl rfl ?d1 ?d2 ?d3 ?d4 ?d5 ?_);case d1=>exact cell_one_new _ _ _
   case d2=>intro u t;simp at t;subst t;rfl
   case d3=>unfold maxLen;omega
   case d4=>omega
   case d5=>simp;omega
   ·intro v' w1 g q y;have X:1<=k:=by
     have:=p.out;rcases Nat.eq_zero_or_pos k with rfl|h
     ·simp at this;omega
     ·exact h
    obtain⟨j,rfl⟩:∃j,k=j+1:=⟨k - 1,by omega⟩;have R:Own w1 B v' (r++[128+(m:Int)%128]):=by
     unfold Own;rw [List.length_append,List.map_append];exact g
    have H:Hid (r++[128+(m:Int)%128]++uvF j (m/128)=zs0++uvF 9 m0):=by
     have:=i.out;rw [Qet j m Q] at this;show _=_;rw [<- this];simp
    have I:Hid (m/128<128^(j+1)):=by
     have:=p.out;rw [Nat.pow_succ] at this;show _<_;omega
    have s:=hid ((o.alloc _).trans (Gr.app (b':=v') q (by simpa using y)));have A:=q.size;simp at A;clear g q z i p K J y o;go_wp2;go_roundw;case rel=>exact⟨j,m/128,_,by omega,I.out,by omega,by go_num,R,s.out,by omega,by simp;omega,H.out⟩
    case measure=>simp [intOf];omega
theorem Qcj {P:Program}{o:Oper}{a:Act}{w w':World}{K:Act ->World ->Prop}{Q:Exit ->Act ->World ->Prop}(s x:Operand)(t u:TypeId)(ho:o.op=.call {callee:=.builtin .append,args:=#[s,x],argTypes:=#[t,u]}){v x' v':Value}{t':TypeId}(hr:(Builtin.append_ #[t,u] t' #[v,x']).run P w=.ok v' w')(hs:a.eval s=v)(hx:a.eval x=x')(ht:o.type=t')(h:K (a.put o.dst v') w'):Oper.wp P o a w K Q:=by
 subst ht;unfold Oper.wp execOp;simp only [ho,resolve,invoke,builtin,Sem.run_bind,Sem.run_pure,Result.andThen_ok,List.map_toArray,List.map_cons,List.map_nil,hs,hx,hr];exact h
theorem Qaa {P:Program}{ops:Array Oper}{rest:List Oper}{o:Oper}{a:Act}{w w':World}{Q:Exit ->Act ->World ->Prop}(hgd:o.guard=none)(s x:Operand)(t u:TypeId)(ho:o.op=.call {callee:=.builtin .append,args:=#[s,x],argTypes:=#[t,u]}){v x' v':Value}{t':TypeId}(hr:(Builtin.append_ #[t,u] t' #[v,x']).run P w=.ok v' w')(hs:a.eval s=v)(hx:a.eval x=x')(ht:o.type=t')(h:wpList P ops Q rest (a.put o.dst v') w'):wpList P ops Q (o::rest) a w:=by
 refine wpList_plain hgd fun K hK=> ?_;exact Qcj s x t u ho hr hs hx ht (hK _ _ h)
theorem Qoj (B:Nat)(v:Value)(zs:List Int)(s:ByteArray)(w:World)(ho:Own w B v zs)(hB:B<=w.heap.size)(hl:zs.length<=10000000000)(hs:s.size<=1048576):
  ∃v' w',(Builtin.append_ #[22,9] 22 #[v,.string s]).run Tryz.prog w=.ok v' w'/\ Own w' B v' (zs++Qa5 s)/\ Gr w w' v v':=by
 obtain⟨u,k,y,r,z⟩:=info_parts Tryz.infoByte;have m:w.ownsRow B 5 1 v zs.length (zs.map (Value.int .u8)):=ho;obtain⟨v',w',q,i,b,Q⟩:=Lib.run_append_own_string (P:=Tryz.prog) w B 22 9 22 5 u Tryz.underlying22 Tryz.underlying9 k y r z v zs.length _ m s (by unfold maxLen;omega) (by omega) hB;refine⟨v',w',q,?_,b,?_⟩
 ·unfold Own;simp only [List.length_append,List.map_append,Qar,QbO];exact i
 ·rcases m.2 with ⟨rfl,o⟩|⟨g,cap,h,rfl,t,E,V,U,A,Y⟩
  ·have M:w.ownsRow w.heap.size 5 1 (.slice none 0 0) zs.length (zs.map (Value.int .u8)):=⟨m.1,.inl ⟨rfl,o⟩⟩;obtain⟨Z,G,j,p,_,_⟩:=Lib.run_append_own_string (P:=Tryz.prog) w w.heap.size 22 9 22 5 u Tryz.underlying22 Tryz.underlying9 k y r z _ zs.length _ M s (by unfold maxLen;omega) (by omega) zL;rw [q] at j;injection j with e1 e2;subst e1;subst e2;rcases p.2 with ⟨rfl,_⟩|⟨g,cap,h,rfl,t,_⟩
   ·exact .inl rfl
   ·exact .inr ⟨g,rfl,t⟩
  ·by_cases O:zs.length+s.size<=cap
   ·have j:=Lib.run_append_room_string (P:=Tryz.prog) w 22 9 22 5 u Tryz.underlying22 Tryz.underlying9 k r g zs.length cap h E s O (by rw [A];omega);rw [q] at j;injection j with e1 e2;subst e1;exact .inl rfl
   ·have j:=Lib.run_append_grow_string (P:=Tryz.prog) w 22 9 22 5 u (.int .u8 0) Tryz.underlying22 Tryz.underlying9 k y ⟨g,0,none⟩ zs.length cap _ (by rw [r];simp) (m.cells (g:=g) rfl) s (by omega) (by omega) (by rw [z];exact growslice_fits (by omega) (by omega));rw [q] at j;injection j with e1 e2;subst e1;exact .inr ⟨_,rfl,Nat.le_refl _⟩
theorem Qcl (B:Nat)(v:Value)(zs ns:List Int)(a:Addr)(m c:Nat)(w:World)(ho:Own w B v zs)(hm:ns.length=m)(hn:∀i u,(ns.map (Value.int .u8))[i]? =some u ->w.cell? (a.add i)=some u)(hB:B<=w.heap.size)(hl:zs.length+m<=10000000000):
  ∃v' w',(Builtin.append_ #[22,22] 22 #[v,.slice (some a) m c]).run Tryz.prog w=.ok v' w'/\ Own w' B v' (zs++ns)/\ Gr w w' v v':=by
 obtain⟨b,r,g,t,o⟩:=info_parts Tryz.infoByte;have y:w.ownsRow B 5 1 v zs.length (zs.map (Value.int .u8)):=ho;obtain⟨v',w',h,j,k,p,q⟩:=run_append_own_at (P:=Tryz.prog) w B 22 22 5 b (.int .u8 0) 1 1 Tryz.underlying22 r g t o rfl (by decide) v zs.length _ y a m c (ns.map (Value.int .u8)) (by simp [hm]) hn (fun u hu=>by obtain⟨z,_,rfl⟩:=List.mem_map.1 hu;rfl) (by unfold maxLen;omega) (by omega) hB;refine⟨v',w',h,?_,Gr.app k q⟩;unfold Own;rw [List.length_append,List.map_append,hm];exact j
structure LvB (l:List Lf):Prop where
 rep:∀i,i<l.length ->0<=(gL l i).r/\ (gL l i).r<8
 seq:∀i,i<l.length ->0<=(gL l i).q/\ (gL l i).q<=1000000000
 val:∀i,i<l.length ->(gL l i).v.size<=200
 len:l.length<=1000
 dis:Dis l l.length
open Go.Deep
theorem Qed {w:World}{B g n cap size:Nat}{e:TypeId}{C:Nat ->Value}(h:w.ownsRow B e size (.slice (some ⟨g,0,none⟩) n cap) n ((List.range (n*size)).map C)):Wr w g e (n*size) C:=by
 rcases h.2 with ⟨y,_⟩|⟨v,t,m,z,p,r,o,i,b,q⟩
 ·cases y
 ·have u:g=v:=by injection z with k _ _;exact congrArg Addr.block (Option.some.inj k)
  rw [<- u] at r;refine⟨m,r,?_,fun j hj=> ?_⟩
  ·have:=congrArg List.length q;simp at this;omega
  ·have k:(m.toList.take (n*size))[j]? =((List.range (n*size)).map C)[j]? :=by rw [q]
   rw [List.getElem?_take_of_lt hj] at k;rw [<- Array.getElem?_toList,k];simp [List.getElem?_range hj]
theorem QeW (t e:TypeId)(i:TypeInfo)(z:Value)(size bytes:Nat)(ht:Tryz.prog.underlying t=some (.slice e))(hi:Tryz.prog.info? e=some i)(hz:i.zero=some z)(hsize:i.size=size)(hby:i.bytes=bytes)(hzs:z.cells.size=size)(hsz:0<size)(hb2:bytes<=64)(q g off m c:Nat)(C:Nat ->Value)(w:World)(B:Nat)(hm:m<=1048576)(ho:w.ownsRow B e size (.slice (some ⟨q,0,none⟩) 0 0) 0 [])(hB:B<=w.heap.size)(hC:∀j,j<m*size ->w.cell? ⟨g,off+j,none⟩=some (C j))(h1:∀j,j<m*size ->(C j).oneCell'=true):
  ∃v cap w',(Builtin.append_ #[t,t] t #[.slice (some ⟨q,0,none⟩) 0 0,.slice (some ⟨g,off,none⟩) m c]).run Tryz.prog w=.ok (.slice (some ⟨v,0,none⟩) m cap) w'/\ w'.ownsRow B e size (.slice (some ⟨v,0,none⟩) m cap) m ((List.range (m*size)).map C)/\ w.grownBy w' (some q)/\ (v=q \/v=w.heap.size):=by
 obtain⟨v',w',E,b,s,A,y⟩:=run_append_own_at (P:=Tryz.prog) w B t t e i z size bytes ht hi hz hsize hby hzs hsz (.slice (some ⟨q,0,none⟩) 0 0) 0 [] ho ⟨g,off,none⟩ m c ((List.range (m*size)).map C) (by simp) (fun j u o=>by
  simp only [List.getElem?_map,Option.map_eq_some_iff] at o;obtain⟨q,k,rfl⟩:=o;have p:j<m*size:=by
   rcases Nat.lt_or_ge j (m*size) with h|h
   ·exact h
   ·rw [List.getElem?_eq_none (by simpa using h)] at k;cases k
  rw [List.getElem?_range p] at k;have k:=Option.some.inj k;rw [<- k,Qc7];exact hC j p) (fun u hu=>by
  obtain⟨j,o,rfl⟩:=List.mem_map.1 hu;exact h1 j (by simpa using o)) (by unfold maxLen;omega) (by
   have:m*bytes<=1048576*64:=Nat.mul_le_mul hm hb2;rw [Nat.zero_add];omega) hB
 rw [Nat.zero_add,List.nil_append] at b;rcases b.2 with ⟨M,_⟩|⟨v,cap,O,rfl,r⟩
 ·have:=A.1 M;exact absurd this.1 (by simp)
 ·refine⟨v,cap,w',E,b,s,?_⟩;rcases y with y|y
  ·exact .inl (by simpa [Value.ownBlock] using y)
  ·exact .inr (by simpa [Value.ownBlock] using y)
def lCp (l:List Lf)(P Q:Nat ->Nat)(j:Nat):Value:=
 if j%5=0 then .slice (some ⟨P (j/5),0,none⟩) (gL l (j/5)).p.length (Q (j/5)) else if j%5=1 then .bool (gL l (j/5)).fl else if j%5=2 then .int .i64 (gL l (j/5)).r else if j%5=3 then .int .i64 (gL l (j/5)).q else .string (gL l (j/5)).v
theorem Qpi (l:List Lf)(P Q:Nat ->Nat)(i:Nat):lCp l P Q (i*5)=.slice (some ⟨P i,0,none⟩) (gL l i).p.length (Q i)/\ lCp l P Q (i*5+1)=.bool (gL l i).fl/\ lCp l P Q (i*5+2)=.int .i64 (gL l i).r/\ lCp l P Q (i*5+3)=.int .i64 (gL l i).q/\ lCp l P Q (i*5+4)=.string (gL l i).v:=by
 unfold lCp;refine⟨?_,?_,?_,?_,?_⟩
 ·rw [if_pos (by omega),show i*5/5=i by omega]
 ·rw [if_neg (by omega),if_pos (by omega),show (i*5+1)/5=i by omega]
 ·rw [if_neg (by omega),if_neg (by omega),if_pos (by omega),show (i*5+2)/5=i by omega]
 ·rw [if_neg (by omega),if_neg (by omega),if_neg (by omega),if_pos (by omega),show (i*5+3)/5=i by omega]
 ·rw [if_neg (by omega),if_neg (by omega),if_neg (by omega),if_neg (by omega),show (i*5+4)/5=i by omega]
theorem Qk0 (l:List Lf)(P Q:Nat ->Nat)(k p q:Nat):(List.range ((k+1)*5)).map (lCp l (fun i=>if i=k then p else P i) (fun i=>if i=k then q else Q i))=(List.range (k*5)).map (lCp l P Q)++[.slice (some ⟨p,0,none⟩) (gL l k).p.length q,.bool (gL l k).fl,.int .i64 (gL l k).r,.int .i64 (gL l k).q,.string (gL l k).v]:=by
 rw [show (k+1)*5=k*5+1+1+1+1+1 by omega];simp only [List.range_succ,List.map_append,List.map_cons,List.map_nil,List.append_assoc,List.cons_append,List.nil_append];obtain⟨m,u,y,z,h⟩:=Qpi l (fun i=>if i=k then p else P i) (fun i=>if i=k then q else Q i) k;rw [m,u,y,z,h];simp only [if_pos];congr 1;refine List.map_congr_left fun j hj=> ?_;have t:j<k*5:=by simpa using hj
 unfold lCp;have g:j/5≠k:=by omega
 simp only [if_neg g]
theorem QcA (w:World)(v0 v1 v2 v3 v4:Value)(t:TypeId):∀j u,[v0,v1,v2,v3,v4][j]? =some u ->(w.alloc (.cells #[v0,v1,v2,v3,v4] t)).cell? ((⟨w.heap.size,0,none⟩:Addr).add j)=some u:=by
 intro j u k;have m:=Bx5.new w v0 v1 v2 v3 v4 t;rw [Qc7,Nat.zero_add];match j,k with
 | 0,k=>rw [m.c0];simpa using k
 | 1,k=>rw [m.c1];simpa using k
 | 2,k=>rw [m.c2];simpa using k
 | 3,k=>rw [m.c3];simpa using k
 | 4,k=>rw [m.c4];simpa using k
 | j+5,k=>simp at k
structure LC (w:World)(lo:Nat)(v:Value)(l:List Lf)(P Q:Nat ->Nat):Prop where
 row:w.ownsRow lo 77 5 v l.length ((List.range (l.length*5)).map (lCp l P Q))
 pt:∀i,i<l.length ->lo<=P i/\ P i<w.heap.size/\ some (P i)≠v.ownBlock/\ Wr w (P i) 9 (gL l i).p.length (fun t=> .string (gS (gL l i).p t))/\ (gL l i).p.length<=Q i/\ Q i<=9223372036854775807
def Sep (P:Nat ->Nat)(n:Nat):Prop:=∀i j,i<n ->j<n ->i≠j ->P i≠P j
def LB (w:World)(lo:Nat)(v:Value)(l:List Lf):Prop:=∃P Q,LC w lo v l P Q/\ Sep P l.length
section
variable {w w' : World} {lo : Nat} {v : Value} {l : List Lf} {P Q : Nat -> Nat}
theorem LC.nil (w:World)(lo:Nat)(P Q:Nat ->Nat):LC w lo (.slice none 0 0) [] P Q:=⟨⟨rfl,.inl ⟨rfl,rfl⟩⟩,fun i hi=>by simp at hi⟩
theorem LC.move (h:LC w lo v l P Q)(hz:w.heap.size<=w'.heap.size)(hs:∀q,lo<=q ->q<w.heap.size ->w'.heap[q]? =w.heap[q]?):LC w' lo v l P Q:=
 ⟨QaD h.row (fun g hg=>hs g (h.row.lt g hg).1 (h.row.lt g hg).2),fun i hi=>by
  obtain⟨j,k,r,m⟩:=h.pt i hi;exact⟨j,Nat.lt_of_lt_of_le k hz,r,m.1.same (hs _ j k),m.2⟩⟩
theorem LC.below (h:LC w lo v l P Q)(hb:Below w.heap.size w w'):LC w' lo v l P Q:=h.move hb.size (fun q _ h2=>hb.block q h2)
theorem LB.move (h:LB w lo v l)(hz:w.heap.size<=w'.heap.size)(hs:∀q,lo<=q ->q<w.heap.size ->w'.heap[q]? =w.heap[q]?):LB w' lo v l:=by
 obtain⟨P,Q,j,k⟩:=h;exact⟨P,Q,j.move hz hs,k⟩
theorem LB.below (h:LB w lo v l)(hb:Below w.heap.size w w'):LB w' lo v l:=h.move hb.size (fun q _ h2=>hb.block q h2)
theorem LB.lt (h:LB w lo v l):∀g,v.ownBlock=some g ->lo<=g/\ g<w.heap.size:=by
 obtain⟨P,Q,j,k⟩:=h;exact fun g hg=>j.row.lt g hg
theorem LB.nil (w:World)(lo:Nat):LB w lo (.slice none 0 0) []:=⟨fun _=>0,fun _=>0,LC.nil w lo _ _,fun i j hi=>by simp at hi⟩
end
theorem LB.form {w:World}{lo:Nat}{v:Value}{l:List Lf}(h:LB w lo v l):∃a c,v=.slice a l.length c:=by
 obtain⟨P,Q,k,_⟩:=h;rcases k.row.2 with ⟨e,j⟩|⟨g,cap,m,e,_⟩
 ·exact⟨none,0,by rw [e,j]⟩
 ·exact⟨_,cap,e⟩
theorem Qhr (l:List Lf)(y:Lf){i:Nat}(hi:i<l.length):gL (l++[y]) i=gL l i:=by simp [gL,List.getD,List.getElem?_append_left hi]
theorem Qhq (l:List Lf)(y:Lf):gL (l++[y]) l.length=y:=by simp [gL,List.getD]
theorem Qm7 (l:List Lf)(y:Lf)(P Q:Nat ->Nat)(p q:Nat):(List.range ((l.length+1)*5)).map (lCp (l++[y]) (fun i=>if i=l.length then p else P i) (fun i=>if i=l.length then q else Q i))=(List.range (l.length*5)).map (lCp l P Q)++[.slice (some ⟨p,0,none⟩) y.p.length q,.bool y.fl,.int .i64 y.r,.int .i64 y.q,.string y.v]:=by
 rw [Qk0,Qhq];congr 1;refine List.map_congr_left fun j hj=> ?_;have k:j<l.length*5:=by simpa using hj
 unfold lCp;rw [Qhr l y (show j/5<l.length by omega)]
theorem LC.app {w w1:World}{lo:Nat}{v:Value}{l:List Lf}{P Q:Nat ->Nat}(h:LC w lo v l P Q)(hb:Below w.heap.size w w1)(hlo:lo<=w.heap.size)(hk:l.length<=1048576)(y:Lf)(p pc:Nat)(hp1:lo<=p)(hp2:p<w1.heap.size)(hp3:some p≠v.ownBlock)(hw:Wr w1 p 9 y.p.length (fun t=> .string (gS y.p t)))(hpc:y.p.length<=pc/\ pc<=9223372036854775807):
  ∃j k g,(Builtin.append_ #[24,24] 24 #[v,.slice (some ⟨w1.heap.size,0,none⟩) 1 1]).run Tryz.prog (w1.alloc (.cells #[.slice (some ⟨p,0,none⟩) y.p.length pc,.bool y.fl,.int .i64 y.r,.int .i64 y.q,.string y.v] 77))=.ok (.slice (some ⟨j,0,none⟩) (l.length+1) k) g/\
   LC g lo (.slice (some ⟨j,0,none⟩) (l.length+1) k) (l++[y]) (fun i=>if i=l.length then p else P i) (fun i=>if i=l.length then pc else Q i)/\ Gr w1 g v (.slice (some ⟨j,0,none⟩) (l.length+1) k):=by
 obtain⟨R,O,C,D,F⟩:=info_parts Qd0;have B:=h.below hb;have s:Below w1.heap.size w1 (w1.alloc (.cells #[.slice (some ⟨p,0,none⟩) y.p.length pc,.bool y.fl,.int .i64 y.r,.int .i64 y.q,.string y.v] 77)):=zO _ _;have M:=B.below s;have L:=hw.same (s.block p hp2);have G:=QcA w1 (.slice (some ⟨p,0,none⟩) y.p.length pc) (.bool y.fl) (.int .i64 y.r) (.int .i64 y.q) (.string y.v) 77;obtain⟨m,Y⟩:∃m,w1.alloc (.cells #[.slice (some ⟨p,0,none⟩) y.p.length pc,.bool y.fl,.int .i64 y.r,.int .i64 y.q,.string y.v] 77)=m:=⟨_,rfl⟩;rw [Y] at M L G s ⊢;have hz:m.heap.size=w1.heap.size+1:=by rw [<- Y];simp
 have Ha:=hb.size;obtain⟨v',g,J,E,A,T,z⟩:=run_append_own_at (P:=Tryz.prog) m lo 24 24 77 R _ 5 64 Tryz.underlying24 O C D F rfl (by decide) v l.length _ M.row ⟨w1.heap.size,0,none⟩ 1 1 [.slice (some ⟨p,0,none⟩) y.p.length pc,.bool y.fl,.int .i64 y.r,.int .i64 y.q,.string y.v] rfl G (fun u hu=>by
  simp only [List.mem_cons,List.not_mem_nil,or_false] at hu;rcases hu with e|e|e|e|e<;>rw [e]<;>rfl) (by unfold maxLen;omega) (by omega) (by omega)
 rcases E.2 with ⟨K,W⟩|⟨j,k,S,K,r⟩
 ·omega
 rw [K] at J E z;have I:some j=v.ownBlock \/j=m.heap.size:=by
  rcases z with z|z
  ·exact .inl (by simpa [Value.ownBlock] using z)
  ·exact .inr (by simpa [Value.ownBlock] using z)
 have Hb:=A.size;have X:Gr w1 g v (.slice (some ⟨j,0,none⟩) (l.length+1) k):=by
  refine(Gr.of_below (b:=v) s).trans ⟨A,?_⟩;rcases I with e|e
  ·exact .inl e
  ·exact .inr ⟨j,rfl,by omega⟩
 refine⟨j,k,g,J,⟨?_,fun i O=> ?_⟩,X⟩
 ·rw [List.length_append,List.length_singleton,Qm7];exact E
 ·have H:∀b,some b≠v.ownBlock ->b<m.heap.size ->some b≠(Value.slice (some ⟨j,0,none⟩) (l.length+1) k).ownBlock:=fun b hb1 hb2 e=>by
   have e:b=j:=by simpa [Value.ownBlock] using e
   rcases I with o|o
   ·exact hb1 (by rw [e];exact o)
   ·omega
  by_cases e:i=l.length
  ·subst e;simp only [if_pos];rw [Qhq];exact⟨hp1,by omega,H p hp3 (by omega),L.same (A.block p (by omega) hp3),hpc⟩
  ·have Z:i<l.length:=by simp at O;omega
   simp only [if_neg e];rw [Qhr l y Z];obtain⟨N,o,U,V⟩:=M.pt i Z;exact⟨N,by omega,H _ U o,V.1.same (A.block _ o U),V.2⟩
theorem Sep.app {P:Nat ->Nat}{n p:Nat}(h:Sep P n)(hp:∀i,i<n ->P i≠p):Sep (fun i=>if i=n then p else P i) (n+1):=by
 intro i j q r m;dsimp only;by_cases e:i=n
 ·rw [if_pos e,if_neg (by omega)];exact fun k=>hp j (by omega) k.symm
 ·rw [if_neg e];by_cases k:j=n
  ·rw [if_pos k];exact hp i (by omega)
  ·rw [if_neg k];exact h i j (by omega) (by omega) m
theorem LB.app {w w1:World}{lo:Nat}{v:Value}{l:List Lf}(h:LB w lo v l)(hb:Below w.heap.size w w1)(hlo:lo<=w.heap.size)(hk:l.length<=1048576)(y:Lf)(p pc:Nat)(hp1:w.heap.size<=p)(hp2:p<w1.heap.size)(hw:Wr w1 p 9 y.p.length (fun t=> .string (gS y.p t)))(hpc:y.p.length<=pc/\ pc<=9223372036854775807):
  ∃k j m,(Builtin.append_ #[24,24] 24 #[v,.slice (some ⟨w1.heap.size,0,none⟩) 1 1]).run Tryz.prog (w1.alloc (.cells #[.slice (some ⟨p,0,none⟩) y.p.length pc,.bool y.fl,.int .i64 y.r,.int .i64 y.q,.string y.v] 77))=.ok (.slice (some ⟨k,0,none⟩) (l.length+1) j) m/\
   LB m lo (.slice (some ⟨k,0,none⟩) (l.length+1) j) (l++[y])/\ Gr w1 m v (.slice (some ⟨k,0,none⟩) (l.length+1) j):=by
 obtain⟨P,Q,u,b⟩:=h;obtain⟨k,j,m,z,g,o⟩:=u.app hb hlo hk y p pc (by omega) hp2 (fun e=>by have:=(u.row.lt p e.symm).2;omega) hw hpc;exact⟨k,j,m,z,⟨_,_,g,by rw [List.length_append,List.length_singleton];exact b.app (fun i hi=>by have:=(u.pt i hi).2.1;omega)⟩,o⟩
def Qhe (w:World)(vw:Value)(p:List ByteArray):Prop:=(vw=.slice none 0 0/\ p=[]) \/∃g c,vw=.slice (some ⟨g,0,none⟩) p.length c/\ g<w.heap.size/\∀t,t<p.length ->w.cell? ⟨g,t,none⟩=some (.string (gS p t))
theorem Qhe.move {w w':World}{vw:Value}{p:List ByteArray}(h:Qhe w vw p)(hz:w.heap.size<=w'.heap.size)(hs:∀g,vw.ownBlock=some g ->w'.heap[g]? =w.heap[g]?):Qhe w' vw p:=by
 rcases h with h|⟨g,c,rfl,k,j⟩
 ·exact .inl h
 ·exact .inr ⟨g,c,rfl,by omega,fun t ht=>(World.cell?_of_block (a:=⟨g,t,none⟩) (hs g rfl)).trans (j t ht)⟩
theorem Qhe.lt {w:World}{vw:Value}{p:List ByteArray}(h:Qhe w vw p):∀g,vw.ownBlock=some g ->g<w.heap.size:=by
 rcases h with ⟨rfl,_⟩|⟨g,c,rfl,k,m⟩
 ·intro g e;cases e
 ·intro j e;have e:g=j:=by simpa [Value.ownBlock] using e
  omega
theorem Qhe.below {w w':World}{vw:Value}{p:List ByteArray}(h:Qhe w vw p)(hb:Below w.heap.size w w'):Qhe w' vw p:=h.move hb.size (fun g hg=>hb.block g (h.lt g hg))
def Qcw (p:List ByteArray):List Value:=(List.range (p.length*1)).map fun t=> .string (gS p t)
theorem Qn0 (p:List ByteArray)(s:ByteArray){i:Nat}(hi:i<p.length):gS (p++[s]) i=gS p i:=by simp [gS,List.getD,List.getElem?_append_left hi]
theorem Qny (p:List ByteArray)(s:ByteArray):gS (p++[s]) p.length=s:=by simp [gS,List.getD]
theorem Qj5 (p:List ByteArray)(s:ByteArray):Qcw (p++[s])=Qcw p++[.string s]:=by
 unfold Qcw;rw [Nat.mul_one,Nat.mul_one,List.length_append,List.length_singleton,List.range_succ,List.map_append,List.map_singleton,Qny];congr 1;refine List.map_congr_left fun j hj=> ?_;rw [Qn0 p s (by simpa using hj)]
theorem Qi9 (g m c:Nat)(p:List ByteArray)(w:World)(hp:p.length=m)(hm:m<=1048576)(hg:g<w.heap.size)(h:∀t,t<m ->w.cell? ⟨g,t,none⟩=some (.string (gS p t))):
  Calls Tryz.prog 72 #[.slice (some ⟨g,0,none⟩) m c] w fun e w'=>∃q cap,e=.returned (.slice (some ⟨q,0,none⟩) m cap)/\ Below w.heap.size w w'/\ w'.ownsRow w.heap.size 9 1 (.slice (some ⟨q,0,none⟩) m cap) m (Qcw p):=by
 obtain⟨O,b,A,E,M⟩:=info_parts QdP;have r:Below w.heap.size w (w.alloc (.cells #[] 9)):=zO _ _;have y:(w.alloc (.cells #[] 9)).ownsRow w.heap.size 9 1 (.slice (some ⟨w.heap.size,0,none⟩) 0 0) 0 []:=by
  have:=World.ownsRow_lit (base:=w.heap.size) (e:=9) (size:=1) w #[] 0 zL (by unfold maxLen;omega) rfl;simpa using this
 obtain⟨q,cap,w',u,z,v,s⟩:=QeW 49 9 O _ 1 16 Tryz.underlying49 b A E M rfl (by decide) (by omega) w.heap.size g 0 m c (fun t=> .string (gS p t)) (w.alloc (.cells #[] 9)) w.heap.size hm y (by simp) (fun j hj=>by rw [Nat.zero_add];exact(r.cell (p:=⟨g,j,none⟩) hg).trans (h j (by omega))) (fun _ _=>rfl);have o:Hid (Below w.heap.size w w'):=hid (r.grown v r.size (fun k e=>by injection e with e;omega));have i:Hid (w'.ownsRow w.heap.size 9 1 (.slice (some ⟨q,0,none⟩) m cap) m (Qcw p)):=hid (by unfold Qcw;rw [hp];exact z);have Q:∀w:World,(binOp .eql 49 (.slice (some ⟨g,0,none⟩) m c) (.slice none 0 0)).run Tryz.prog w=.ok (.bool false) w:=fun _=>rfl;clear z v s h y r;go_enter Tryz.func72,Tryz.ntmps72;go_wp2_with (at_builtin;refine Qaa rfl _ _ _ _ rfl u (by rfl) (by rfl) rfl ?_;clear u);go_ret;exact⟨q,cap,rfl,o.out,i.out⟩
theorem Qnp (w:World):Calls Tryz.prog 72 #[.slice none 0 0] w fun e w'=>e=.returned (.slice none 0 0)/\ w'=w:=by
 have j:∀w:World,(binOp .eql 49 (.slice none 0 0) (.slice none 0 0)).run Tryz.prog w=.ok (.bool true) w:=fun _=>rfl;go_enter Tryz.func72,Tryz.ntmps72;go_wp2_with fail;go_ret;exact⟨rfl,rfl⟩
theorem Qnq (vw:Value)(p:List ByteArray)(w:World)(hp:p.length<=1048576)(h:Qhe w vw p):
  Calls Tryz.prog 72 #[vw] w fun e w'=>∃v,e=.returned v/\ Below w.heap.size w w'/\ w'.ownsRow w.heap.size 9 1 v p.length (Qcw p):=by
 rcases h with ⟨rfl,rfl⟩|⟨g,c,rfl,j,k⟩
 ·refine(Qnp w).mono ?_;rintro e w' ⟨rfl,rfl⟩;exact⟨_,rfl,zI,⟨rfl,.inl ⟨rfl,rfl⟩⟩⟩
 ·refine(Qi9 g p.length c p w rfl hp j k).mono ?_;rintro e w' ⟨q,cap,rfl,m,r⟩;exact⟨_,rfl,m,r⟩
theorem QmM {w:World}{lo:Nat}{v:Value}{p:List ByteArray}(h:w.ownsRow lo 9 1 v p.length (Qcw p))(hlo:lo<=w.heap.size)(hp:p.length<=1048576)(s:ByteArray)(b:Nat)(hb:w.cell? ⟨b,0,none⟩=some (.string s)):
  ∃q cap k,(Builtin.append_ #[49,49] 49 #[v,.slice (some ⟨b,0,none⟩) 1 1]).run Tryz.prog w=.ok (.slice (some ⟨q,0,none⟩) (p.length+1) cap) k/\ k.ownsRow lo 9 1 (.slice (some ⟨q,0,none⟩) (p.length+1) cap) (p.length+1) (Qcw (p++[s]))/\ w.grownBy k v.ownBlock/\ lo<=q/\ (v.ownBlock=some q \/q=w.heap.size):=by
 obtain⟨Q,A,E,M,O⟩:=info_parts QdP;obtain⟨v',k,z,m,i,V,y⟩:=run_append_own_at (P:=Tryz.prog) w lo 49 49 9 Q _ 1 16 Tryz.underlying49 A E M O rfl (by decide) v p.length _ h ⟨b,0,none⟩ 1 1 [.string s] rfl (fun j u hj=>by
  match j,hj with
  | 0,hj=>simp at hj;rw [<- hj,Qc7];exact hb
  | j+1,hj=>simp at hj) (fun u hu=>by
  simp only [List.mem_cons,List.not_mem_nil,or_false] at hu;rw [hu];rfl) (by unfold maxLen;omega) (by omega) (by omega)
 rcases m.2 with ⟨g,Y⟩|⟨t,o,U,g,r⟩
 ·omega
 rw [g] at z m y;exact⟨t,o,k,z,by rw [Qj5];exact m,i,(m.lt t rfl).1,y.imp (fun e=>e.symm) (fun e=>by simpa [Value.ownBlock] using e)⟩
theorem Qju {w:World}{lo:Nat}{v:Value}{p:List ByteArray}(h:w.ownsRow lo 9 1 v p.length (Qcw p))(hlo:lo<=w.heap.size)(hp:p.length<=1048576)(s:ByteArray)(b:Nat)(hb:w.cell? ⟨b,0,none⟩=some (.string s)):
  ∃q cap j,(Builtin.append_ #[49,49] 49 #[v,.slice (some ⟨b,0,none⟩) 1 1]).run Tryz.prog w=.ok (.slice (some ⟨q,0,none⟩) (p.length+1) cap) j/\ j.ownsRow lo 9 1 (.slice (some ⟨q,0,none⟩) (p.length+1) cap) (p.length+1) (Qcw (p++[s]))/\ w.grownBy j v.ownBlock/\ lo<=q:=by
 obtain⟨q,cap,j,k,m,r,u,_⟩:=QmM h hlo hp s b hb;exact⟨q,cap,j,k,m,r,u⟩
theorem Qcf {w:World}{lo q m cap:Nat}{p:List ByteArray}(h:w.ownsRow lo 9 1 (.slice (some ⟨q,0,none⟩) m cap) m (Qcw p))(hp:p.length=m):Qhe w (.slice (some ⟨q,0,none⟩) m cap) p/\ Wr w q 9 m (fun t=> .string (gS p t)):=by
 unfold Qcw at h;rw [hp] at h;have j:=Qed h;rw [Nat.mul_one] at j;exact⟨.inr ⟨q,cap,by rw [hp],j.lt,fun t ht=>j.cell (by omega)⟩,j⟩
end Go.Proofs.YtjdcfkmhmnblbaaGreatDoor
