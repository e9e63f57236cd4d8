import Derived.Test.YtjdcfkmhmnblbaaGreatDoorFqg03
import Derived.Test.YtjdcfkmhmnblbaaGreatDoorFqg02
import Derived.Deep.Slices
import Derived.Deep.Strs
import Derived.Maps.Own
import Derived.Maps.OwnSet
import Derived.Maps.OwnOps
import Derived.Maps.Views
import Derived.DeepKeys4
import Derived.Maps.Range
set_option linter.unusedVariables false
set_option linter.unusedSimpArgs false
set_option maxRecDepth 100000
set_option maxHeartbeats 40000000
namespace Go.Proofs.YtjdcfkmhmnblbaaGreatDoor
open Go.ChangeShapes Go.WideShapes Go.ChangeAt Go.RowKit Go.Deep
structure Sx where
 l:List Lf
 n:Nat
 R:Nat ->Int
 F:Nat ->Int
 T:Nat ->Int
structure Sx.Sm (S:Sx):Prop where
 l1:S.l.length<=1048576
 p1:LBd S.l
 n1:S.n<=1048576
structure SCt (w:World)(a x:Option Addr)(S:Sx):Prop where
 lf:Qdy w a S.l
 rn:Qb5 w x S.n S.R S.F S.T
theorem SCt.below {w w':World}{a x:Option Addr}{S:Sx}(h:SCt w a x S)(hb:Below w.heap.size w w'):SCt w' a x S:=⟨h.lf.below hb,h.rn.below hb⟩
theorem QaD {w w':World}{B e size n:Nat}{v:Value}{xs:List Value}(h:w.ownsRow B e size v n xs)(hk:∀g,v.ownBlock=some g ->w'.heap[g]? =w.heap[g]?):w'.ownsRow B e size v n xs:=by
 obtain⟨u,j⟩:=h;refine⟨u,?_⟩;rcases j with j|⟨g,cap,k,e,q,m,r⟩
 ·exact .inl j
 ·subst e;exact .inr ⟨g,cap,k,rfl,q,(hk g rfl).trans m,r⟩
theorem QcI {w:World}{B C e size n:Nat}{v:Value}{xs:List Value}(h:w.ownsRow B e size v n xs)(hc:C<=B):w.ownsRow C e size v n xs:=by
 obtain⟨q,j⟩:=h;refine⟨q,?_⟩;rcases j with j|⟨g,cap,k,e,m,r⟩
 ·exact .inl j
 ·exact .inr ⟨g,cap,k,e,Nat.le_trans hc m,r⟩
theorem Bx5.new (w:World)(v0 v1 v2 v3 v4:Value)(t:TypeId):Bx5 (w.alloc (.cells #[v0,v1,v2,v3,v4] t)) w.heap.size v0 v1 v2 v3 v4:=
 ⟨by simp,by simp,by simp,by simp,by simp,fun i=>by simp,by simp⟩
theorem Bx5.up {w:World}{b:Nat}{v0 v1 v2 v3 v4:Value}(h:Bx5 w b v0 v1 v2 v3 v4)(o:Obj):Bx5 (w.alloc o) b v0 v1 v2 v3 v4:=h.below (zO w o) h.lt
open Go.Maps
theorem Qhx:laidOutB Tryz.prog=true:=by kernel_rfl
theorem QaF:Keyed Tryz.prog 75:=Keyed.of_law (deep_law_laid Qhx (m:=3) (by omega) (of_decide_eq_true (by kernel_rfl)) (by kernel_rfl) (by kernel_rfl))
def Qgm (r q:Int):Value:=.agg #[.int .i64 r,.int .i64 q]
theorem Qnr:Tryz.prog.keyType 75=true:=by kernel_rfl
theorem QdF {r q:Int}(hr:(Lit.int .i64 r).wf=true)(hq:(Lit.int .i64 q).wf=true):∃kl,keyOf Tryz.prog 75 (Qgm r q)=some kl:=by
 unfold keyOf;rw [Tryz.underlying75];simp only [Qnr,Bool.true_and];have v:0<Tryz.prog.types.size:=of_decide_eq_true (by kernel_rfl);obtain⟨m,u⟩:∃m,Tryz.prog.types.size=m+1:=⟨Tryz.prog.types.size - 1,by omega⟩;rw [u];have j:Tryz.prog.cellsOf 75=2:=by kernel_rfl
 have k:Tryz.prog.cellsOf 3=1:=by kernel_rfl
 simp [Value.formed,Qgm,Tryz.underlying75,j,Program.keyLits,Tryz.underlying3,k,Value.cells,hr,hq]
theorem Qe0 {r q r' q':Int}{kl:Lit}(h:keyOf Tryz.prog 75 (Qgm r q)=some kl)(h':keyOf Tryz.prog 75 (Qgm r' q')=some kl):r=r'/\ q=q':=by
 have e:=QaF.inj h h';simpa [Qgm] using e
structure QjR (w:World)(bm k:Nat)(l:List Lf)(D:DataW Value):Prop where
 own:w.ownsMap Tryz.prog 75 (plainElem Tryz.prog 3) bm k D
 tidy:Tidy D
 has':∀r q kl,keyOf Tryz.prog 75 (Qgm r q)=some kl ->(has D kl=true↔∃j,j<k/\ (gL l j).r=r/\ (gL l j).q=q)
 le:size D<=k
 eq:size D=k↔∀i,i<k ->∀j,j<i ->¬((gL l j).r=(gL l i).r/\ (gL l j).q=(gL l i).q)
theorem QjR.step {w w':World}{bm k:Nat}{l:List Lf}{D:DataW Value}{kl:Lit}{d:DataW Value}(h:QjR w bm k l D)(hk:keyOf Tryz.prog 75 (Qgm (gL l k).r (gL l k).q)=some kl)
  (ho:w'.ownsMap Tryz.prog 75 (plainElem Tryz.prog 3) bm (k+1) (D.put kl d)):QjR w' bm (k+1) l (D.put kl d):=by
 have y:=QaF.key hk;have z:=size_put (k:=kl) h.tidy d;have v:=h.has' _ _ _ hk;refine⟨ho,h.tidy.put y d,fun r q kl' hk'=> ?_,?_,?_⟩
 ·by_cases e:kl'=kl
  ·subst e;obtain⟨g,t⟩:=Qe0 hk hk';rw [has_put_same h.tidy.isMap y];exact⟨fun _=>⟨k,by omega,g,t⟩,fun _=>rfl⟩
  ·rw [has_put_other e,h.has' r q kl' hk'];constructor
   ·rintro⟨j,m,r1⟩;exact⟨j,by omega,r1⟩
   ·rintro⟨j,m,r1,r2⟩;by_cases b:j=k
    ·subst b;rw [r1,r2,hk'] at hk;injection hk with hk;exact absurd hk e
    ·exact⟨j,by omega,r1,r2⟩
 ·rw [z];have:=h.le;split<;>omega
 ·rw [z];have A:=h.le;by_cases u:has D kl=true
  ·rw [if_pos u];obtain⟨j,m,r1,r2⟩:=v.1 u;constructor
   ·intro e;omega
   ·intro e;exact absurd ⟨r1,r2⟩ (e k (by omega) j m)
  ·rw [if_neg u];have s:=fun j m r1 r2=>u (v.2 ⟨j,m,r1,r2⟩);constructor
   ·intro e i p j m;by_cases o:i=k
    ·subst o;exact fun q=>s j m q.1 q.2
    ·exact h.eq.1 (by omega) i (by omega) j m
   ·intro e;have:=h.eq.2 (fun i p j m=>e i (by omega) j m);omega
theorem QjR.made (w:World)(l:List Lf):QjR (w.alloc (.map #[] 0)) w.heap.size 0 l (.map []):=
 ⟨World.ownsMap_made w _ _ _,tidy_empty,fun r q kl hk=>⟨fun h=>by simp [has] at h,fun⟨j,hj,_⟩=>by omega⟩,by simp [size],⟨fun _ i hi=>by omega,fun _=>rfl⟩⟩
def Qi3 (v:Value):Option (DataW Value×List MemPlace):=some (.held v,[])
theorem QeN {v:Value}{d:DataW Value}{ps:List MemPlace}(h:Qi3 v=some (d,ps)):d=.held v:=by
 unfold Qi3 at h;simp at h;exact h.1.symm
abbrev Ky:=ByteArray×Int
abbrev Dt:=Int×Int
def Qbr (x:Ky):Value:=.agg #[.string x.1,.int .i64 x.2]
def dtV (d:Dt):Value:=Qgm d.1 d.2
def QeC:Option ByteArray ->Value
 | none=> .agg #[.string ByteArray.empty]
 | some s=> .agg #[.string s]
def Qdp:Option (Nat×Nat) ->Value
 | none=> .agg #[.map none,.map none]
 | some x=> .agg #[.map (some x.1),.map (some x.2)]
theorem Qfh {x y:Ky}(h:Qbr x=Qbr y):x=y:=by
 obtain⟨a,b⟩:=x;obtain⟨c,d⟩:=y;simpa [Qbr] using h
theorem Qgx {x y:Dt}(h:dtV x=dtV y):x=y:=by
 obtain⟨a,b⟩:=x;obtain⟨c,d⟩:=y;simpa [dtV,Qgm] using h
theorem Qb0:Keyed Tryz.prog 113:=Keyed.of_law (deep_law_laid Qhx (m:=3) (by omega) (of_decide_eq_true (by kernel_rfl)) (by kernel_rfl) (by kernel_rfl))
theorem QnH:Tryz.prog.keyType 113=true:=by kernel_rfl
theorem Qhu {s:ByteArray}{k:Int}(hs:s.size<=maxLen)(hk:(Lit.int .i64 k).wf=true):∃kl,keyOf Tryz.prog 113 (Qbr (s,k))=some kl:=by
 unfold keyOf;rw [Tryz.underlying113];simp only [QnH,Bool.true_and];have v:0<Tryz.prog.types.size:=of_decide_eq_true (by kernel_rfl);obtain⟨m,u⟩:∃m,Tryz.prog.types.size=m+1:=⟨Tryz.prog.types.size - 1,by omega⟩;rw [u];have j:Tryz.prog.cellsOf 113=2:=by kernel_rfl
 have q:Tryz.prog.cellsOf 3=1:=by kernel_rfl
 have r:Tryz.prog.cellsOf 9=1:=by kernel_rfl
 simp [Value.formed,Qbr,Tryz.underlying113,j,Program.keyLits,Tryz.underlying3,Tryz.underlying9,q,r,Value.cells,hs,hk]
structure FM {α β:Type}(w:World)(t:TypeId)(kv:α ->Value)(vo:Option β ->Value)(b c:Nat)(f:α ->Option β)(D:DataW Value):Prop where
 own:w.ownsMap Tryz.prog t Qi3 b c D
 at':∀x kl,keyOf Tryz.prog t (kv x)=some kl ->has D kl=(f x).isSome/\ D.atKey kl (.held (vo none))=.held (vo (f x))
 cov:∀kl,has D kl=true ->∃x,keyOf Tryz.prog t (kv x)=some kl
 ok:∀x,f x≠none ->∃kl,keyOf Tryz.prog t (kv x)=some kl
def QaZ {α β:Type}(w:World)(t:TypeId)(kv:α ->Value)(vo:Option β ->Value)(b c:Nat)(f:α ->Option β):Prop:=∃D,FM w t kv vo b c f D
section
variable {α β : Type} {w : World} {t : TypeId} {kv : α -> Value} {vo : Option β -> Value} {b c : Nat} {f : α -> Option β}
theorem QbN {w w':World}{k:TypeId}{R:Value ->Option (DataW Value×List MemPlace)}{b n:Nat}{D:DataW Value}(h:w.ownsMap Tryz.prog k R b n D)(e:w'.heap[b]? =w.heap[b]?):w'.ownsMap Tryz.prog k R b n D:=by
 obtain⟨m,j,q,r⟩:=h;exact⟨m,j,e.trans q,r⟩
theorem QaZ.same {w':World}(h:QaZ w t kv vo b c f)(e:w'.heap[b]? =w.heap[b]?):QaZ w' t kv vo b c f:=by
 obtain⟨D,h⟩:=h;exact⟨D,QbN h.own e,h.at',h.cov,h.ok⟩
theorem QaZ.mono {c':Nat}(h:QaZ w t kv vo b c f)(hc:c<=c'):QaZ w t kv vo b c' f:=by
 obtain⟨D,h⟩:=h;exact⟨D,h.own.mono hc,h.at',h.cov,h.ok⟩
theorem QaZ.lt (h:QaZ w t kv vo b c f):b<w.heap.size:=by
 obtain⟨D,h⟩:=h;exact h.own.lt
theorem QaZ.obj (h:QaZ w t kv vo b c f):∃k j,w.heap[b]? =some (.map k j):=by
 obtain⟨D,h⟩:=h;obtain⟨k,j,m,_⟩:=h.own;exact⟨k,j,m⟩
theorem QaZ.ext {g:α ->Option β}(h:QaZ w t kv vo b c f)(e:∀x,f x=g x):QaZ w t kv vo b c g:=by
 obtain rfl:f=g:=funext e;exact h
theorem QaZ.look {mt e:TypeId}(h:QaZ w t kv vo b c f)(K:Keyed Tryz.prog t)(ht:Tryz.prog.underlying mt=some (.map t e))(hz:(zeroValue e).run Tryz.prog w=.ok (vo none) w){x:α}{kl:Lit}(hk:keyOf Tryz.prog t (kv x)=some kl):
  (Instr.lookup mt (.map (some b)) (kv x) false).run Tryz.prog w=.ok (vo (f x)) w:=by
 obtain⟨D,h⟩:=h;obtain⟨v,ps,j,k⟩:=h.own.lookup K ht hz (zd:=.held (vo none)) (zp:=[]) rfl hk;have:=QeN k;rw [(h.at' x kl hk).2] at this;injection this with this;rw [<- this] at j;exact j
theorem QaZ.look_ok {mt e:TypeId}(h:QaZ w t kv vo b c f)(K:Keyed Tryz.prog t)(ht:Tryz.prog.underlying mt=some (.map t e))(hz:(zeroValue e).run Tryz.prog w=.ok (vo none) w){x:α}{kl:Lit}(hk:keyOf Tryz.prog t (kv x)=some kl):
  (Instr.lookup mt (.map (some b)) (kv x) true).run Tryz.prog w=.ok (.tuple #[vo (f x),.bool (f x).isSome]) w:=by
 obtain⟨D,h⟩:=h;obtain⟨v,ps,j,k⟩:=h.own.look_ok K ht hz (zd:=.held (vo none)) (zp:=[]) rfl hk;have:=QeN k;rw [(h.at' x kl hk).2] at this;injection this with this;rw [<- this,(h.at' x kl hk).1] at j;exact j
theorem QaZ.made (w:World)(t:TypeId)(kv:α ->Value)(vo:Option β ->Value):QaZ (w.alloc (.map #[] 0)) t kv vo w.heap.size 0 (fun _=>none):=
 ⟨.map [],World.ownsMap_made w _ _ _,fun x kl _=>⟨by simp [has],rfl⟩,fun kl h=>by simp [has] at h,fun x h=>absurd rfl h⟩
open Classical in
noncomputable def QeJ {α β:Type}(f:α ->Option β)(x:α)(v:Option β)(y:α):Option β:=if y=x then v else f y
theorem Qax (f:α ->Option β)(x:α)(v:Option β):QeJ f x v x=v:=by unfold QeJ;simp
theorem Qam (f:α ->Option β){x y:α}(v:Option β)(h:y≠x):QeJ f x v y=f y:=by unfold QeJ;simp [h]
theorem QaZ.store {mt e:TypeId}(h:QaZ w t kv vo b c f)(K:Keyed Tryz.prog t)(hi:∀x y,kv x=kv y ->x=y)(ht:Tryz.prog.underlying mt=some (.map t e))(hc:c<maxLen){x:α}{y:β}{kl:Lit}(hk:keyOf Tryz.prog t (kv x)=some kl):
  ∃w',(Instr.mapUpdate mt (.map (some b)) (kv x) (vo (some y))).run Tryz.prog w=.ok () w'/\ QaZ w' t kv vo b (c+1) (QeJ f x (some y))/\ w.grownBy w' (some b):=by
 obtain⟨D,h⟩:=h;obtain⟨w',u,r,q⟩:=h.own.update K ht hc hk (val:=vo (some y)) (d:=.held (vo (some y))) (ps:=[]) rfl;have m:=K.key hk;refine⟨w',u,⟨_,r,fun x' kl' hk'=> ?_,fun kl' hh=> ?_,fun x' hx'=> ?_⟩,q⟩
 ·by_cases j:x'=x
  ·subst j;rw [hk] at hk';injection hk' with hk';subst hk';rw [Qax,has_put_same h.own.isMap m,atKey_put_same h.own.isMap m];exact⟨rfl,rfl⟩
  ·have k:kl'≠kl:=fun e=>j (hi _ _ (K.inj (e ▸ hk') hk));rw [Qam _ _ j,has_put_other k,atKey_put_other k];exact h.at' x' kl' hk'
 ·by_cases k:kl'=kl
  ·subst k;exact⟨x,hk⟩
  ·rw [has_put_other k] at hh;exact h.cov kl' hh
 ·by_cases j:x'=x
  ·subst j;exact⟨kl,hk⟩
  ·rw [Qam _ _ j] at hx';exact h.ok x' hx'
end
def Qad (p:List ByteArray)(k:Int):List Ky:=(List.range p.length).map fun i=>(gS p i,if i+1<p.length then 3 else k)
theorem QaX (p:List ByteArray)(k:Int):(Qad p k).length=p.length:=by simp [Qad]
theorem Qbw {p:List ByteArray}{k:Int}{i:Nat}(h:i<p.length):(Qad p k)[i]? =some (gS p i,if i+1<p.length then 3 else k):=by simp [Qad,h]
theorem Qdi {p:List ByteArray}{k:Int}{i:Nat}(h:i<p.length):(Qad p k).take (i+1)=(Qad p k).take i++[(gS p i,if i+1<p.length then 3 else k)]:=by
 have j:i<(Qad p k).length:=by rw [QaX];exact h
 rw [List.take_add_one,Qbw h];rfl
theorem Qlr {p q:List ByteArray}(hl:p.length=q.length)(h:∀i,i<p.length ->gS p i=gS q i):p=q:=by
 refine List.ext_getElem hl fun i h1 h2=> ?_;have:=h i h1;simpa [gS,List.getD,h1,h2] using this
theorem QjO {p q:List ByteArray}{k j:Int}(h:Qad p k=Qad q j)(h0:0<p.length):p=q/\ k=j:=by
 have r:p.length=q.length:=by have:=congrArg List.length h;simpa [QaX] using this
 have m:∀i,i<p.length ->(gS p i,if i+1<p.length then 3 else k)=(gS q i,if i+1<q.length then(3:Int) else j):=fun i hi=>by
  have:=Qbw (k:=k) hi;rw [h,Qbw (by omega)] at this;injection this with this;exact this.symm
 refine⟨Qlr r fun i hi=>(Prod.mk.inj (m i hi)).1,?_⟩;have:=(Prod.mk.inj (m (p.length - 1) (by omega))).2;rw [if_neg (by omega),if_neg (by omega)] at this;exact this
theorem QhS {α:Type}{l:List α}{k:Nat}{x:α}{q:List α}(h:l.take (k+1)=l.take k++[x]):q <+:l.take (k+1)↔q <+:l.take k \/q=l.take k++[x]:=by
 rw [h];constructor
 ·intro j;rcases List.prefix_concat_iff.1 j with e|e
  ·exact .inr e
  ·exact .inl e
 ·rintro(e|e)
  ·exact e.trans (List.prefix_append _ _)
  ·rw [e];exact List.prefix_refl _
structure Tre (w:World)(B:Nat)(N:List Ky ->Option (Nat×Nat))(M:List Ky ->Dt ->Option ByteArray)(c:Nat):Prop where
 kids:∀p x,N p=some x ->QaZ w 113 Qbr Qdp x.1 c (fun y=>N (p++[y]))
 marks:∀p x,N p=some x ->QaZ w 75 dtV QeC x.2 c (M p)
 apart:∀p q x y,N p=some x ->N q=some y ->x.1≠y.2/\ (x.1=y.1 ->p=q)/\ (x.2=y.2 ->p=q)
 lo:∀p x,N p=some x ->B<=x.1/\ B<=x.2
 none':∀p,N p=none ->M p=fun _=>none
 up:∀p y,N p=none ->N (p++[y])=none
section
variable {w w' : World} {B c : Nat} {N : List Ky -> Option (Nat × Nat)} {M : List Ky -> Dt -> Option ByteArray}
theorem Tre.same (h:Tre w B N M c)(hs:∀p x,N p=some x ->w'.heap[x.1]? =w.heap[x.1]? /\ w'.heap[x.2]? =w.heap[x.2]?):Tre w' B N M c:=
 ⟨fun p x hx=>(h.kids p x hx).same (hs p x hx).1,fun p x hx=>(h.marks p x hx).same (hs p x hx).2,h.apart,h.lo,h.none',h.up⟩
theorem Tre.lt (h:Tre w B N M c){p:List Ky}{x:Nat×Nat}(hx:N p=some x):x.1<w.heap.size/\ x.2<w.heap.size:=⟨(h.kids p x hx).lt,(h.marks p x hx).lt⟩
theorem Tre.below (h:Tre w B N M c)(hb:Below w.heap.size w w'):Tre w' B N M c:=h.same fun p x hx=>⟨hb.block _ (h.lt hx).1,hb.block _ (h.lt hx).2⟩
theorem Tre.mono {c':Nat}(h:Tre w B N M c)(hc:c<=c'):Tre w B N M c':=⟨fun p x hx=>(h.kids p x hx).mono hc,fun p x hx=>(h.marks p x hx).mono hc,h.apart,h.lo,h.none',h.up⟩
theorem Qcm {w:World}{q:Addr}{v:Value}(h:w.cell? q=some v):∀k j,w.heap[q.block]? ≠some (.map k j):=by
 intro k j e;simp [World.cell?,e] at h
theorem Tre.set (h:Tre w B N M c){q:Addr}{v:Value}(u:Value)(hc:w.cell? q=some v):Tre (w.setCell q u) B N M c:=by
 refine h.same fun p x hx=>⟨zH _ _ _ _ fun e=> ?_,zH _ _ _ _ fun e=> ?_⟩
 ·obtain⟨m,k,j⟩:=(h.kids p x hx).obj;rw [e] at j;exact Qcm hc _ _ j
 ·obtain⟨m,k,j⟩:=(h.marks p x hx).obj;rw [e] at j;exact Qcm hc _ _ j
structure Gt (B:Nat)(w w':World):Prop where
 os:w'.os=w.os
 tape:w'.tape=w.tape
 output:w'.output=w.output
 size:w.heap.size<=w'.heap.size
 block:∀g,g<w.heap.size ->(g<B \/∀es cl,w.heap[g]? ≠some (.map es cl)) ->w'.heap[g]? =w.heap[g]?
theorem Gt.refl (B:Nat)(w:World):Gt B w w:=⟨rfl,rfl,rfl,Nat.le_refl _,fun _ _ _=>rfl⟩
theorem Gt.trans {a b d:World}(h:Gt B a b)(k:Gt B b d):Gt B a d:=
 ⟨k.os.trans h.os,k.tape.trans h.tape,k.output.trans h.output,Nat.le_trans h.size k.size,fun g hg ho=>by
  have e:=h.block g hg ho;exact(k.block g (Nat.lt_of_lt_of_le hg h.size) (ho.imp id fun hn es cl=>by rw [e];exact hn es cl)).trans e⟩
theorem Gt.of_below (h:Below w.heap.size w w'):Gt B w w':=⟨h.os,h.tape,h.output,h.size,fun g hg _=>h.block g hg⟩
theorem Gt.below (h:Gt B w w')(hB:B<=w.heap.size):Below B w w':=⟨h.os,h.tape,h.output,h.size,fun g hg=>h.block g (by omega) (.inl hg)⟩
theorem Gt.cell (h:Gt B w w'){q:Addr}{v:Value}(hc:w.cell? q=some v):w'.cell? q=some v:=
 (World.cell?_of_block (h.block q.block (block_lt_of_cell hc) (.inr (Qcm hc)))).trans hc
theorem Gt.frozen (h:Gt B w w'){q r:Addr}{v:Value}(hc:w.cell? r=some v)(hr:r.block=q.block):w'.frozen? q=w.frozen? q:=
 World.frozen?_of_block (by rw [<- hr];exact h.block r.block (block_lt_of_cell hc) (.inr (Qcm hc)))
theorem Gt.grown {b:Nat}(hg:w.grownBy w' (some b))(hB:B<=b)(k:∃q m,w.heap[b]? =some (.map q m)):Gt B w w':=
 ⟨hg.os,hg.tape,hg.output,hg.size,fun g h1 j=>hg.block g h1 fun e=>by
  injection e with e;subst e;obtain⟨q,m,k⟩:=k;rcases j with j|j
  ·omega
  ·exact j _ _ k⟩
theorem Tre.add {p:List Ky}{y:Ky}{x:Nat×Nat}{s s':Nat}(h:Tre w B N M c)(hN:N p=some x)(hn:N (p++[y])=none)(hk:QaZ w 113 (α:=Ky) Qbr Qdp s 0 (fun _=>none))(hm:QaZ w 75 (α:=Dt) dtV QeC s' 0 (fun _=>none))(hss:s≠s')
  (hs:∀p x,N p=some x ->x.1<s/\ x.2<s/\ x.1<s'/\ x.2<s') (hB:B<=s/\ B<=s')
  (hu:QaZ w' 113 Qbr Qdp x.1 (c+1) (QeJ (fun z=>N (p++[z])) y (some (s,s')))) (hg:w.grownBy w' (some x.1)):Tre w' B (QeJ N (p++[y]) (some (s,s'))) M (c+1):=by
 have b:∀q z,q≠p ->q++[z]≠p++[y]:=fun q z hq e=>hq (List.append_inj' e rfl).1;have t:∀g,g<w.heap.size ->g≠x.1 ->w'.heap[g]? =w.heap[g]? :=fun g h1 h2=>hg.block g h1 (fun e=>h2 (by injection e));have A:=hs p x hN;refine⟨fun q z hz=> ?_,fun q z hz=> ?_,fun q r u v hu' hv=> ?_,fun q z hz=> ?_,fun q hq=> ?_,fun q z hq=> ?_⟩
 ·by_cases e:q=p++[y]
  ·subst e;rw [Qax] at hz;injection hz with hz;subst hz;refine((hk.same (t _ hk.lt (by simp;omega))).mono (Nat.zero_le _)).ext fun z=> ?_;rw [Qam _ _ (by intro e;have:=congrArg List.length e;simp at this)];exact(h.up _ z hn).symm
  ·rw [Qam _ _ e] at hz;by_cases j:q=p
   ·subst j;rw [hN] at hz;injection hz with hz;subst hz;refine hu.ext fun z=> ?_;by_cases k:z=y
    ·subst k;rw [Qax,Qax]
    ·rw [Qam _ _ k,Qam _ _ (fun e=>k (by simpa using e))]
   ·have o:=h.kids q z hz;refine((o.same (t _ o.lt fun k=>j ((h.apart q p z x hz hN).2.1 k))).mono (Nat.le_succ _)).ext fun z=> ?_;rw [Qam _ _ (b q z j)]
 ·by_cases e:q=p++[y]
  ·subst e;rw [Qax] at hz;injection hz with hz;subst hz;refine((hm.same (t _ hm.lt (by simp;omega))).mono (Nat.zero_le _)).ext fun z=> ?_;rw [h.none' _ hn]
  ·rw [Qam _ _ e] at hz;have i:=h.marks q z hz;exact(i.same (t _ i.lt fun k=>(h.apart p q x z hN hz).1 k.symm)).mono (Nat.le_succ _)
 ·by_cases e:q=p++[y]
  ·by_cases m:r=p++[y]
   ·subst e;subst m;rw [Qax] at hu' hv;injection hu' with hu';injection hv with hv;subst hu';subst hv;exact⟨hss,fun _=>rfl,fun _=>rfl⟩
   ·subst e;rw [Qax] at hu';rw [Qam _ _ m] at hv;injection hu' with hu';subst hu';have:=hs r v hv;exact⟨by simp;omega,fun e=>by simp at e;omega,fun e=>by simp at e;omega⟩
  ·rw [Qam _ _ e] at hu';by_cases m:r=p++[y]
   ·subst m;rw [Qax] at hv;injection hv with hv;subst hv;have:=hs q u hu';exact⟨by simp;omega,fun e=>by simp at e;omega,fun e=>by simp at e;omega⟩
   ·rw [Qam _ _ m] at hv;exact h.apart q r u v hu' hv
 ·by_cases e:q=p++[y]
  ·subst e;rw [Qax] at hz;injection hz with hz;subst hz;exact hB
  ·rw [Qam _ _ e] at hz;exact h.lo q z hz
 ·by_cases e:q=p++[y]
  ·subst e;rw [Qax] at hq;cases hq
  ·rw [Qam _ _ e] at hq;exact h.none' q hq
 ·by_cases e:q=p++[y]
  ·subst e;rw [Qax] at hq;cases hq
  ·rw [Qam _ _ e] at hq;have j:q≠p:=fun j=>by subst j;rw [hN] at hq;cases hq
   rw [Qam _ _ (b q z j)];exact h.up q z hq
noncomputable def QjT (M:List Ky ->Dt ->Option ByteArray)(p:List Ky)(d:Dt)(s:ByteArray)(q:List Ky):Dt ->Option ByteArray:=if yes (q=p)=true then QeJ (M p) d (some s) else M q
theorem QbG (M:List Ky ->Dt ->Option ByteArray)(p:List Ky)(d:Dt)(s:ByteArray):QjT M p d s p=QeJ (M p) d (some s):=by unfold QjT;rw [if_pos (Qal rfl)]
theorem Qbd (M:List Ky ->Dt ->Option ByteArray){p q:List Ky}(d:Dt)(s:ByteArray)(h:q≠p):QjT M p d s q=M q:=by unfold QjT;rw [if_neg (by rw [Qaj h];simp)]
theorem Tre.mark {p:List Ky}{x:Nat×Nat}{d:Dt}{s:ByteArray}(h:Tre w B N M c)(hN:N p=some x)
  (hu:QaZ w' 75 dtV QeC x.2 (c+1) (QeJ (M p) d (some s))) (hg:w.grownBy w' (some x.2)):Tre w' B N (QjT M p d s) (c+1):=by
 have j:∀g,g<w.heap.size ->g≠x.2 ->w'.heap[g]? =w.heap[g]? :=fun g h1 h2=>hg.block g h1 (fun e=>h2 (by injection e));refine⟨fun q z hz=> ?_,fun q z hz=> ?_,h.apart,h.lo,fun q hq=> ?_,h.up⟩
 ·exact((h.kids q z hz).same (j _ (h.lt hz).1 (h.apart q p z x hz hN).1)).mono (Nat.le_succ _)
 ·by_cases e:q=p
  ·subst e;rw [hN] at hz;injection hz with hz;subst hz;rw [QbG];exact hu
  ·rw [Qbd _ _ _ e];exact((h.marks q z hz).same (j _ (h.lt hz).2 fun e2=>e ((h.apart q p z x hz hN).2.2 e2))).mono (Nat.le_succ _)
 ·have e:q≠p:=fun e=>by subst e;rw [hN] at hq;cases hq
  rw [Qbd _ _ _ e];exact h.none' q hq
end
theorem QaT.gt {w w1:World}{B:Nat}{a:Option Addr}{p:List ByteArray}(h:QaT w a p)(hg:Gt B w w1):QaT w1 a p:=by
 refine h.imp id ?_;rintro⟨b,off,e,k,j⟩;exact⟨b,off,e,Nat.lt_of_lt_of_le k hg.size,fun i hi=>hg.cell (j i hi)⟩
theorem Qew.gt {w w1:World}{B:Nat}{a:Option Addr}{l:List Lf}(h:Qew w a l)(hg:Gt B w w1):Qew w1 a l:=by
 refine h.imp id ?_;rintro⟨b,off,e,v,u⟩;refine⟨b,off,e,Nat.lt_of_lt_of_le v hg.size,fun i hi=> ?_⟩;obtain⟨y,pc,j,s,k,m,q,r⟩:=u i hi;exact⟨y,pc,hg.cell j,s.gt hg,hg.cell k,hg.cell m,hg.cell q,hg.cell r⟩
def Qau (p:List ByteArray)(k:Int)(i:Nat):Ky:=(gS p i,if i+1<p.length then 3 else k)
theorem Qky (p:List ByteArray)(a:Option Addr)(c:Nat)(k:Int)(i:Nat)(w:World)(hp:p.length<=1048576)(hi:i<p.length)(h:QaT w a p):
  Calls Tryz.prog 74 #[.slice a p.length c,.int .i64 i,.int .i64 k] w fun e w'=>e=.returned (Qbr (Qau p k i))/\ Below w.heap.size w w':=by
 rcases h with h|⟨b,off,rfl,t,y⟩
 ·omega
 have x0:=y i hi;have A:(0:Int)<=(i:Int):=Int.natCast_nonneg _;have E:(i:Int)<(p.length:Int):=by omega
 obtain⟨s,u⟩:∃s,gS p i=s:=⟨_,rfl⟩;rw [u] at x0;have j:Hid (Qau p k i=(s,if i+1<p.length then 3 else k)):=hid (by unfold Qau;rw [u]);obtain⟨m,z⟩:∃m:Nat,p.length=m+1:=⟨p.length - 1,by omega⟩;have o:IntKind.i64.wrap ((p.length:Int) - 1)=(m:Int):=by rw [IntKind.wrap_i64];omega
 clear u y;by_cases q:i+1<p.length
 ·have g:decide (i<m)=true:=by simp;omega
  have r:=hid (show Qau p k i=(s,3) by rw [j.out,if_pos q]);clear j q z;go_enter Tryz.func74,Tryz.ntmps74;go_wp2_with fail;refine zF (v:=.agg #[.string s,.int .i64 3]) (by simp [results,Tryz.results74,go_sem]) ⟨by rw [r.out];rfl,?_⟩;exact zO _ _
 ·have g:decide (i<m)=false:=by simp;omega
  have r:=hid (show Qau p k i=(s,k) by rw [j.out,if_neg q]);clear j q z;go_enter Tryz.func74,Tryz.ntmps74;go_wp2_with fail;refine zF (v:=.agg #[.string s,.int .i64 k]) (by simp [results,Tryz.results74,go_sem]) ⟨by rw [r.out];rfl,?_⟩;exact zO _ _
theorem Qea (w:World):
  Calls Tryz.prog 39 #[] w fun e w'=>∃s s',e=.returned (.agg #[.map (some s),.map (some s')])/\ s≠s'/\ w.heap.size<=s/\ w.heap.size<=s'/\ QaZ w' 113 (α:=Ky) Qbr Qdp s 0 (fun _=>none)/\ QaZ w' 75 (α:=Dt) dtV QeC s' 0 (fun _=>none)/\ Below w.heap.size w w':=by
 have m:=@run_makeMap Tryz.prog;have j:=hid ((QaZ.made (α:=Ky) (w.alloc (.cells #[.map (some (w.heap.size+1)),.map (some (w.heap.size+1+1))] 53)) 113 Qbr Qdp).same (w':=(((w.alloc (.cells #[.map (some (w.heap.size+1)),.map (some (w.heap.size+1+1))] 53)).alloc (.map #[] 0)).alloc (.map #[] 0))) (Below.heap_alloc _ _ _ (by simp)));have k:=hid (QaZ.made (α:=Dt) ((w.alloc (.cells #[.map (some (w.heap.size+1)),.map (some (w.heap.size+1+1))] 53)).alloc (.map #[] 0)) 75 dtV QeC);go_enter Tryz.func39,Tryz.ntmps39;go_wp2_with fail;refine zF (v:=.agg #[.map (some (w.heap.size+1)),.map (some (w.heap.size+1+1))]) (by simp [results,Tryz.results39,go_sem]) ⟨_,_,rfl,by omega,by omega,by omega,by simpa using j.out,by simpa using k.out,?_⟩;exact((zO _ _).alloc (by simp) _).alloc (by simp;omega) _
structure Bx2 (w:World)(b:Nat)(v0 v1:Value):Prop where
 c0:w.cell? ⟨b,0,none⟩=some v0
 c1:w.cell? ⟨b,1,none⟩=some v1
 f:∀i,w.frozen? ⟨b,i,none⟩=false
 lt:b<w.heap.size
theorem Bx2.below {w w':World}{B b:Nat}{v0 v1:Value}(h:Bx2 w b v0 v1)(hb:Below B w w')(hB:b<B):Bx2 w' b v0 v1:=
 ⟨(hb.cell (p:=⟨b,0,none⟩) hB).trans h.c0,(hb.cell (p:=⟨b,1,none⟩) hB).trans h.c1,fun i=>(hb.frozen (p:=⟨b,i,none⟩) hB).trans (h.f i),Nat.lt_of_lt_of_le h.lt hb.size⟩
theorem Bx2.gt {w w':World}{B b:Nat}{v0 v1:Value}(h:Bx2 w b v0 v1)(hg:Gt B w w'):Bx2 w' b v0 v1:=
 ⟨hg.cell h.c0,hg.cell h.c1,fun i=>(hg.frozen (q:=⟨b,i,none⟩) h.c0 rfl).trans (h.f i),Nat.lt_of_lt_of_le h.lt hg.size⟩
theorem Bx2.setAt {w:World}{b:Nat}{v0 v1:Value}(h:Bx2 w b v0 v1)(q:Addr)(u:Value)(hq:q.block≠b):Bx2 (w.setCell q u) b v0 v1:=
 ⟨by rw [World.cell?_setCell_far _ _ _ _ hq];exact h.c0,by rw [World.cell?_setCell_far _ _ _ _ hq];exact h.c1,fun i=>by rw [World.frozen?_setCell];exact h.f i,by simp [World.setCell];exact h.lt⟩
theorem Bx2.set0 {w:World}{b:Nat}{v0 v1:Value}(h:Bx2 w b v0 v1)(u:Value):Bx2 (w.setCell ⟨b,0,none⟩ u) b u v1:=
 ⟨World.cell?_setCell_same _ _ _ h.c0,by simp [World.cell?_setCell_other,h.c1],fun i=>by rw [World.frozen?_setCell];exact h.f i,by simp [World.setCell];exact h.lt⟩
theorem Bx2.set1 {w:World}{b:Nat}{v0 v1:Value}(h:Bx2 w b v0 v1)(u:Value):Bx2 (w.setCell ⟨b,1,none⟩ u) b v0 u:=
 ⟨by simp [World.cell?_setCell_other,h.c0],World.cell?_setCell_same _ _ _ h.c1,fun i=>by rw [World.frozen?_setCell];exact h.f i,by simp [World.setCell];exact h.lt⟩
theorem Bx2.set {w:World}{b:Nat}{v0 v1:Value}(h:Bx2 w b v0 v1)(u u':Value):Bx2 ((w.setCell ⟨b,0,none⟩ u).setCell ⟨b,1,none⟩ u') b u u':=(h.set0 u).set1 u'
theorem Bx2.made (w:World)(v0 v1:Value)(t:TypeId):Bx2 (w.alloc (.cells #[v0,v1] t)) w.heap.size v0 v1:=⟨by simp,by simp,fun i=>by simp,by simp⟩
theorem Bx2.allocs {w:World}{b:Nat}{v0 v1:Value}(h:Bx2 w b v0 v1)(o:Obj):Bx2 (w.alloc o) b v0 v1:=h.below (zO _ o) h.lt
structure Bx1 (w:World)(b:Nat)(v0:Value):Prop where
 c0:w.cell? ⟨b,0,none⟩=some v0
 f:∀i,w.frozen? ⟨b,i,none⟩=false
 lt:b<w.heap.size
theorem Bx1.below {w w':World}{B b:Nat}{v0:Value}(h:Bx1 w b v0)(hb:Below B w w')(hB:b<B):Bx1 w' b v0:=
 ⟨(hb.cell (p:=⟨b,0,none⟩) hB).trans h.c0,fun i=>(hb.frozen (p:=⟨b,i,none⟩) hB).trans (h.f i),Nat.lt_of_lt_of_le h.lt hb.size⟩
theorem Bx1.gt {w w':World}{B b:Nat}{v0:Value}(h:Bx1 w b v0)(hg:Gt B w w'):Bx1 w' b v0:=
 ⟨hg.cell h.c0,fun i=>(hg.frozen (q:=⟨b,i,none⟩) h.c0 rfl).trans (h.f i),Nat.lt_of_lt_of_le h.lt hg.size⟩
theorem Bx1.setAt {w:World}{b:Nat}{v0:Value}(h:Bx1 w b v0)(q:Addr)(u:Value)(hq:q.block≠b):Bx1 (w.setCell q u) b v0:=
 ⟨by rw [World.cell?_setCell_far _ _ _ _ hq];exact h.c0,fun i=>by rw [World.frozen?_setCell];exact h.f i,by simp [World.setCell];exact h.lt⟩
theorem Bx1.made (w:World)(v0:Value)(t:TypeId):Bx1 (w.alloc (.cells #[v0] t)) w.heap.size v0:=⟨by simp,fun i=>by simp,by simp⟩
theorem Gt.set {B:Nat}{w wr:World}(h:Gt B w wr)(q:Addr)(u:Value)(hq:w.heap.size<=q.block):Gt B w (wr.setCell q u):=
 ⟨h.os,h.tape,h.output,by simpa [World.setCell] using h.size,fun g hg ho=>(zH _ _ _ _ (by omega)).trans (h.block g hg ho)⟩
theorem Gt.keep {B:Nat}{w wr w1:World}(h:Gt B w wr)(hb:Below wr.heap.size wr w1):Gt B w w1:=h.trans (Gt.of_below hb)
theorem Qb4 {α β:Type}(w:World){ops:Array Oper}{rest:List Oper}{o:Oper}{a:Act}{Q:Exit ->Act ->World ->Prop}
  (hg:o.guard=none) (m x v:Operand) (mt:TypeId) (hop:o.op=Op.mapUpdate mt m x v) (t e:TypeId) (K:Keyed Tryz.prog t) (kv:α ->Value) (hi:∀x y,kv x=kv y ->x=y) (ht:Tryz.prog.underlying mt=some (.map t e)) (vo:Option β ->Value) (b c:Nat) (f:α ->Option β)
  (hm:a.eval m=.map (some b)) (h:QaZ w t kv vo b c f) (hc:c<maxLen) (k:α) (y:β) (kl:Lit) (hx:a.eval x=kv k) (hv:a.eval v=vo (some y)) (hk:keyOf Tryz.prog t (kv k)=some kl)
  (hK:∀w',QaZ w' t kv vo b (c+1) (QeJ f k (some y)) ->w.grownBy w' (some b) ->wpList Tryz.prog ops Q rest (a.put o.dst undef) w'):
  wpList Tryz.prog ops Q (o::rest) a w:=by
 refine wpList_plain hg fun K' hK'=> ?_;obtain⟨w',j,r1,r2⟩:=h.store K hi ht hc (y:=y) hk;unfold Oper.wp;simp [execOp,hop,hm,hx,hv,j,Result.andThen];exact hK' _ _ (hK w' r1 r2)
theorem Qf6 (w:World):(zeroValue 53).run Tryz.prog w=.ok (Qdp none) w:=by kernel_rfl
theorem QhV (w:World):(zeroValue 107).run Tryz.prog w=.ok (QeC none) w:=by kernel_rfl
structure PB (w:World)(h:Nat)(x:Nat×Nat)(r q:Int)(s:ByteArray):Prop where
 n:Bx2 w h (.map (some x.1)) (.map (some x.2))
 d:Bx2 w (h+1) (.int .i64 r) (.int .i64 q)
 m:Bx1 w (h+2) (.string s)
theorem PB.below {w w':World}{h:Nat}{x:Nat×Nat}{r q:Int}{s:ByteArray}(p:PB w h x r q s)(hb:Below w.heap.size w w'):PB w' h x r q s:=⟨p.n.below hb p.n.lt,p.d.below hb p.d.lt,p.m.below hb p.m.lt⟩
theorem PB.gt {w w':World}{B h:Nat}{x:Nat×Nat}{r q:Int}{s:ByteArray}(p:PB w h x r q s)(hb:Gt B w w'):PB w' h x r q s:=⟨p.n.gt hb,p.d.gt hb,p.m.gt hb⟩
theorem PB.set {w:World}{h:Nat}{x:Nat×Nat}{r q:Int}{s:ByteArray}(p:PB w h x r q s)(y:Nat×Nat):PB ((w.setCell ⟨h,0,none⟩ (.map (some y.1))).setCell ⟨h,1,none⟩ (.map (some y.2))) h y r q s:=
 ⟨p.n.set _ _,(p.d.setAt _ _ (by simp)).setAt _ _ (by simp),(p.m.setAt _ _ (by simp)).setAt _ _ (by simp)⟩
theorem PB.setAt {w:World}{h:Nat}{x:Nat×Nat}{r q:Int}{s:ByteArray}(p:PB w h x r q s)(a:Addr)(u:Value)(ha:h+2<a.block):PB (w.setCell a u) h x r q s:=
 ⟨p.n.setAt _ _ (by omega),p.d.setAt _ _ (by omega),p.m.setAt _ _ (by omega)⟩
theorem Qp0 (X:Nat)(p:List ByteArray)(a:Option Addr)(cp:Nat)(k:Int)(r q:Int)(s:ByteArray)(B c:Nat)(N:List Ky ->Option (Nat×Nat))(M:List Ky ->Dt ->Option ByteArray)(x0:Nat×Nat)(w:World)
  (hp:p.length<=1048576) (hs:∀i,(gS p i).size<=1048576) (hk:(Lit.int .i64 k).wf=true) (hr:(Lit.int .i64 r).wf=true) (hq:(Lit.int .i64 q).wf=true) (hc:c<=1073741824) (hB:B<=w.heap.size) (h:QaT w a p) (hT:Tre w B N M c) (h0:N []=some x0) (hX:X<w.heap.size) (hXN:∀z x,N z=some x ->x.1≠X/\ x.2≠X):
  Calls Tryz.prog 40 #[.agg #[.map (some x0.1),.map (some x0.2)],.slice a p.length cp,.int .i64 k,.agg #[.int .i64 r,.int .i64 q],.agg #[.string s]] w fun e w'=>e=.returned (.tuple #[])/\ Gt B w w'/\ w'.heap[X]? =w.heap[X]? /\
   ∃N',Tre w' B N' (QjT M (Qad p k) (r,q) s) (c+p.length+1)/\ N' []=some x0/\∀z,(N' z).isSome=true↔(N z).isSome=true \/z <+:Qad p k:=by
 obtain⟨W,hW⟩:∃W,((w.alloc (.cells #[.map (some x0.1),.map (some x0.2)] 53)).alloc (.cells #[.int .i64 r,.int .i64 q] 75)).alloc (.cells #[.string s] 107)=W:=⟨_,rfl⟩;have b0:Below w.heap.size w W:=by rw [<- hW];exact((zO _ _).alloc (by simp) _).alloc (by simp;omega) _
 have P0:PB W w.heap.size x0 r q s:=by
  have d1:=Bx2.made (w.alloc (.cells #[.map (some x0.1),.map (some x0.2)] 53)) (.int .i64 r) (.int .i64 q) 75;have m1:=Bx1.made ((w.alloc (.cells #[.map (some x0.1),.map (some x0.2)] 53)).alloc (.cells #[.int .i64 r,.int .i64 q] 75)) (.string s) 107;rw [<- hW];exact⟨((Bx2.made w _ _ _).allocs _).allocs _,by simpa using d1.allocs _,by simpa using m1⟩
 have Gf:Hid (W.heap[X]? =w.heap[X]?):=hid (b0.block X hX);have Hf:=hid hXN;have Gh:=hid hX;have HS:=hid h;have Gc:=hid P0;have Ge:=hid (hT.below b0);have Gb:=hid (Gt.of_below (B:=B) b0);have H0:=hid h0;have HB:=hid hB;have Hs:=hid hs;clear h hT h0 b0 P0 hs hB hX hXN;go_enter Tryz.func40,Tryz.ntmps40;go_wp2_with fail;try rw [hW]
 clear hW;go_loopw [16] (fun i wr=>∃j:Nat,j<=p.length/\ i=.int .i64 j/\ Hid (Gt B w wr)/\ (∃g x,Hid (Tre wr B g M (c+j))/\ Hid (g []=some x0)/\ Hid (g ((Qad p k).take j)=some x)/\ Hid (∀z,(g z).isSome=true↔(N z).isSome=true \/z <+:(Qad p k).take j)/\ Hid (PB wr w.heap.size x r q s)/\ Hid (wr.heap[X]? =w.heap[X]?)/\ Hid (∀z x,g z=some x ->x.1≠X/\ x.2≠X))) (fun i _=>p.length - (intOf i).toNat);case atStart=>
  refine⟨0,Nat.zero_le _,rfl,Gb,N,x0,Ge,H0,hid (by simpa using H0.out),hid (fun z=> ?_),Gc,Gf,Hf⟩;simp only [List.take_zero,List.prefix_nil];exact⟨fun h=> .inl h,fun h=>h.elim id (fun e=>by rw [e,H0.out];rfl)⟩
 case round=>
  clear Ge Gb Gc Gf Hf;obtain⟨j,hj,rfl,F,g,x,J,H1,U,HI,I,HX,Hr⟩:=hrel;have H7:Hid (X<wr.heap.size):=hid (Nat.lt_of_lt_of_le Gh.out F.size);have Ht:Hid (w.heap.size≠X):=hid (by have:=Gh.out;omega);by_cases Hu:j<p.length
  ·have i1:(0:Int)<=(j:Int):=Int.natCast_nonneg _;have i2:(j:Int)<(p.length:Int):=by omega
   have Hm:=hid (Qky p a cp k j wr hp Hu (HS.gt F.out));obtain⟨nm,t,Ha⟩:∃nm t,Qau p k j=(nm,t):=⟨_,_,rfl⟩;have Hy:=hid Ha;rw [Ha] at Hm;obtain⟨D,Hg⟩:∃D,keyOf Tryz.prog 113 (Qbr (nm,t))=some D:=by
    unfold Qau at Ha;have e1:=(Prod.mk.inj Ha).1;have e2:=(Prod.mk.inj Ha).2;refine Qhu ?_ ?_
    ·rw [<- e1];have:=Hs j;unfold maxLen;omega
    ·rw [<- e2];split
     ·decide
     ·exact hk
   have Hl:=hid Hg;clear Ha Hg;dsimp only [Qbr] at Hm;go_wp2_with fail;refine Hm.mono ?_;rintro e w1 ⟨rfl,b1⟩;obtain⟨u,Ga⟩:∃u,w1.alloc (.cells #[.string nm,.int .i64 t] 113)=u:=⟨_,rfl⟩;have T:Below wr.heap.size wr u:=by rw [<- Ga];exact b1.alloc b1.size _
   have Hk:Bx2 u w1.heap.size (.string nm) (.int .i64 t):=by rw [<- Ga];exact Bx2.made _ _ _ _
   have Ho:=I.below T;have Hq:=hid (J.below T);have Hv:=hid (F.keep T);have Gg:Hid (u.heap[X]? =w.heap[X]?):=hid ((T.block X H7.out).trans HX.out);have Hd:Hid (X<u.heap.size):=hid (Nat.lt_of_lt_of_le H7.out T.size);have e0:=Ho.n.c0;have e1:=Hk.c0;have e2:=Hk.c1;have H3:=hid Ho;have Hx:=hid Hk;have Go:Hid (w.heap.size+2<u.heap.size):=hid Ho.m.lt;have Hh:=(Hq.kids _ x U.out).look_ok (mt:=50) Qb0 Tryz.underlying50 (Qf6 u) Hl.out;clear Hk Ho b1 T Hm J F I;dsimp only [Qbr] at Hh;have Gk:(Qad p k).take (j+1)=(Qad p k).take j++[(nm,t)]:=by rw [Qdi Hu];have:=Hy.out;unfold Qau at this;rw [this]
   have Hp:=hid Gk;clear Gk;cases hNy:g ((Qad p k).take j++[(nm,t)]) with
   | some y=>
    rw [hNy] at Hh;dsimp only [Qdp,Option.isSome] at Hh;have Hn:=hid hNy;clear hNy;obtain⟨O,C⟩:∃O,u.alloc (.cells #[.map (some y.1),.map (some y.2)] 53)=O:=⟨_,rfl⟩;have o:Below u.heap.size u O:=by rw [<- C];exact zO _ _
    have R:Bx2 O u.heap.size (.map (some y.1)) (.map (some y.2)):=by rw [<- C];exact Bx2.made _ _ _ _
    have g0:=R.c0;have g1:=R.c1;have L:=H3.below o;have n0:=L.n.c0;have n1:=L.n.c1;have f0:=L.n.f 0;have f1:=L.n.f 1;have P:=hid ((Hq.below o).set (q:=⟨w.heap.size,0,none⟩) (.map (some y.1)) n0);have Gp:=hid (P.set (q:=⟨w.heap.size,1,none⟩) (.map (some y.2)) ((L.n.set0 _).c1));have Hj:=hid (((Hv.keep o).set ⟨w.heap.size,0,none⟩ (.map (some y.1)) zL).set ⟨w.heap.size,1,none⟩ (.map (some y.2)) zL);have Gn:=hid (L.set y);have Gs:Hid (((O.setCell ⟨w.heap.size,0,none⟩ (.map (some y.1))).setCell ⟨w.heap.size,1,none⟩ (.map (some y.2))).heap[X]? =w.heap[X]?):=hid (by
     rw [zH _ _ _ _ (by exact Ht.symm),zH _ _ _ _ (by exact Ht.symm)];exact(o.block X Hd.out).trans Gg.out)
    clear o R L P;go_wp2_with fail;go_roundw;case rel=>
     refine⟨j+1,Hu,by go_num,Hj,g,y,hid (Gp.mono (by omega)),H1,hid (by rw [Hp.out];exact Hn.out),hid (fun z=> ?_),Gn,Gs,Hr⟩;rw [HI z,QhS Hp.out];constructor
     ·rintro(e|e)
      ·exact .inl e
      ·exact .inr (.inl e)
     ·rintro(e|e|e)
      ·exact .inl e
      ·exact .inr e
      ·exact(HI z).1 (by rw [e,Hn.out];rfl)
    case measure=>simp [intOf];omega
   | none=>
    rw [hNy] at Hh;dsimp only [Qdp,Option.isSome] at Hh;have Hn:=hid hNy;clear hNy;obtain⟨O,C⟩:∃O,u.alloc (.cells #[.map none,.map none] 53)=O:=⟨_,rfl⟩;have o:Below u.heap.size u O:=by rw [<- C];exact zO _ _
    have R:Bx2 O u.heap.size (.map none) (.map none):=by rw [<- C];exact Bx2.made _ _ _ _
    have Hb:=hid R;have Hc:=hid (Hx.below o Hx.lt);have H2:=hid (H3.below o);have P:=hid (Hq.below o);have Hj:=hid (Hv.keep o);have Gx:=hid o.size;have Gr:Hid (O.heap[X]? =w.heap[X]?):=hid ((o.block X Hd.out).trans Gg.out);have He:Hid (X<O.heap.size):=hid (Nat.lt_of_lt_of_le Hd.out o.size);have Gq:=hid C;clear o R H3 Hq Hv Hx C;go_wp2_with fail;rw [Gq.out];refine(Qea O).mono ?_;rintro e w4 ⟨A,E,rfl,Gv,Gy,Gz,m1,m2,H⟩;have K:=Hb.below H Hb.lt;have g0:=K.c0;have g1:=K.c1;have h0:=K.f 0;have h1:=K.f 1;obtain⟨Y,G⟩:∃Y,(w4.setCell ⟨u.heap.size,0,none⟩ (.map (some A))).setCell ⟨u.heap.size,1,none⟩ (.map (some E))=Y:=⟨_,rfl⟩;have G1:w1.heap.size<O.heap.size:=Hc.lt;have G0:=H2.m.lt;have Hi:u.heap.size≠w1.heap.size:=by rw [<- Ga];simp
    have H8:PB Y w.heap.size x r q s/\ w.heap.size+2<u.heap.size:=by
     have hz:w.heap.size+2<u.heap.size:=Go.out;rw [<- G];exact⟨((H2.below H).setAt _ _ hz).setAt _ _ hz,hz⟩
    have K5:Bx2 Y u.heap.size (.map (some A)) (.map (some E)):=by rw [<- G];exact K.set _ _
    have Y5:Bx2 Y w1.heap.size (.string nm) (.int .i64 t):=by rw [<- G];exact((Hc.below H Hc.lt).setAt _ _ Hi).setAt _ _ Hi
    have T5:Tre Y B g M (c+j):=by rw [<- G];exact((P.below H).set _ g0).set _ (K.set0 _).c1
    have G5:Gt B w Y:=by rw [<- G];exact((Hj.keep H).set _ _ (by show w.heap.size<=u.heap.size;omega)).set _ _ (by show w.heap.size<=u.heap.size;omega)
    have X5:Y.heap[X]? =w.heap[X]? :=by
     have Gm:X≠u.heap.size:=by have:=Hd.out;omega
     rw [<- G,zH _ _ _ _ Gm,zH _ _ _ _ Gm];exact(H.block X He.out).trans Gr.out
    have Gw:w4.heap.size=Y.heap.size:=by rw [<- G];simp [World.setCell]
    have H6:Hid (∀z x,QeJ g ((Qad p k).take j++[(nm,t)]) (some (A,E)) z=some x ->x.1≠X/\ x.2≠X):=hid (fun z y hy=>by
     have h3:=He.out;by_cases ez:z=(Qad p k).take j++[(nm,t)]
     ·rw [ez,Qax] at hy;injection hy with hy;subst hy;exact⟨by show A≠X;omega,by show E≠X;omega⟩
     ·rw [Qam _ _ ez] at hy;exact Hr z y hy)
    have Gi:A≠u.heap.size:=by intro e;have:=Hb.lt;omega
    have Gj:E≠u.heap.size:=by intro e;have:=Hb.lt;omega
    have M1:QaZ Y 113 (α:=Ky) Qbr Qdp A 0 (fun _=>none):=by rw [<- G];exact(m1.same (zH _ _ _ _ Gi)).same (zH _ _ _ _ Gi)
    have M2:QaZ Y 75 (α:=Dt) dtV QeC E 0 (fun _=>none):=by rw [<- G];exact(m2.same (zH _ _ _ _ Gj)).same (zH _ _ _ _ Gj)
    have b:=H8.1.n.c0;have c2:=Y5.c0;have c3:=Y5.c1;have c4:=K5.c0;have c5:=K5.c1;have HU:Hid (∀v,QaZ v 113 Qbr Qdp x.1 (c+j+1) (QeJ (fun z=>g ((Qad p k).take j++[z])) (nm,t) (some (A,E))) ->Y.grownBy v (some x.1) ->Tre v B (QeJ g ((Qad p k).take j++[(nm,t)]) (some (A,E))) M (c+j+1)/\ Gt B w v/\ PB v w.heap.size x r q s/\ Bx2 v u.heap.size (.map (some A)) (.map (some E))/\ v.heap[X]? =w.heap[X]?):=hid (fun v Z Q=>by
     have Gu:=(T5.lo _ x U.out).1;have H9:=Gt.grown Q Gu (T5.kids _ x U.out).obj;refine⟨T5.add U.out Hn.out M1 M2 Gv (fun q z hz=> ?_) ⟨by have:=HB.out;omega,by have:=HB.out;omega⟩ Z Q,G5.trans H9,H8.1.gt H9,K5.gt H9,(Q.block X (by have:=He.out;have:=H.size;omega) (fun e=>(Hr _ x U.out).1 (Option.some.inj e).symm)).trans X5⟩;have:=P.lt hz;exact⟨by omega,by omega,by omega,by omega⟩)
    have Hz:=hid (T5.kids _ x U.out);clear H8 X5 Gw K5 Y5 T5 G5 M1 M2 m1 m2 H K Hb Hc H2 P Hj;go_wp2_with (refine Qb4 _ rfl _ _ _ 50 rfl 113 53 Qb0 Qbr (fun _ _=>Qfh) Tryz.underlying50 Qdp x.1 (c+j) (fun z=>g ((Qad p k).take j++[z])) rfl Hz.out (by unfold maxLen;omega) (nm,t) (A,E) D rfl rfl Hl.out ?_;intro v Z Q;obtain⟨T6,G6,S,K6,X6⟩:=HU v Z Q;have H5:=hid X6;clear X6;have H4:=hid T6;have Hw:=hid G6;have Gd:=hid S;have t0:=S.n.c0;have t1:=S.n.c1;have t2:=S.n.f 0;have t3:=S.n.f 1;have t4:=K6.c0;have t5:=K6.c1;clear Z Q T6 G6 S K6);go_roundw;case rel=>
     have T7:=(H4.set (q:=⟨w.heap.size,0,none⟩) (.map (some A)) t0).set (q:=⟨w.heap.size,1,none⟩) (.map (some E)) (Gd.n.set0 _).c1;refine⟨j+1,Hu,by go_num,hid ((Hw.set _ _ zL).set _ _ zL),QeJ g ((Qad p k).take j++[(nm,t)]) (some (A,E)),(A,E),hid T7,hid ?_,hid ?_,hid (fun z=> ?_),hid (Gd.set (A,E)),hid ?_,H6⟩
     ·rw [Qam _ _ (by simp)];exact H1.out
     ·rw [Hp.out,Qax]
     ·rw [QhS Hp.out];by_cases ez:z=(Qad p k).take j++[(nm,t)]
      ·rw [ez,Qax];exact⟨fun _=> .inr (.inr rfl),fun _=>rfl⟩
      ·rw [Qam _ _ ez,HI.out z];constructor
       ·rintro(h|h)
        ·exact .inl h
        ·exact .inr (.inl h)
       ·rintro(h|h|h)
        ·exact .inl h
        ·exact .inr h
        ·exact absurd h ez
     ·rw [zH _ _ _ _ (by exact Ht.symm),zH _ _ _ _ (by exact Ht.symm)];exact H5.out
    case measure=>simp [intOf];omega
  ·obtain rfl:j=p.length:=by omega
   have Gl:(Qad p k).take p.length=Qad p k:=List.take_of_length_le (by rw [QaX];exact Nat.le_refl _);rw [Gl] at U HI;obtain⟨D,Hg⟩:∃D,keyOf Tryz.prog 75 (dtV (r,q))=some D:=QdF hr hq;have Hl:=hid Hg;have V:=I.n.c1;have b:=I.d.c0;have c2:=I.d.c1;have c3:=I.m.c0;have Hz:=hid (J.marks _ x U.out);have HU:Hid (∀v,QaZ v 75 dtV QeC x.2 (c+p.length+1) (QeJ (M (Qad p k)) (r,q) (some s)) ->wr.grownBy v (some x.2) ->Tre v B g (QjT M (Qad p k) (r,q) s) (c+p.length+1)/\ Gt B w v/\ v.heap[X]? =w.heap[X]?):=hid (fun v Z Q=>
     ⟨J.mark U.out Z Q,F.trans (Gt.grown Q (J.lo _ x U.out).2 (J.marks _ x U.out).obj),(Q.block X H7.out (fun e=>(Hr _ x U.out).2 (Option.some.inj e).symm)).trans HX.out⟩)
   clear Gl Hg J F I;go_wp2_with (refine Qb4 _ rfl _ _ _ 51 rfl 75 107 QaF dtV (fun _ _=>Qgx) Tryz.underlying51 QeC x.2 (c+p.length) (M (Qad p k)) rfl Hz.out (by unfold maxLen;omega) (r,q) s D rfl rfl Hl.out ?_;intro v Z Q;obtain⟨T6,G6,X6⟩:=HU v Z Q;have H5:=hid X6;clear X6;have H4:=hid T6;have Hw:=hid G6;clear Z Q T6 G6);go_end0;exact⟨rfl,Hw.out,H5.out,g,H4.out,H1.out,HI.out⟩
theorem QjR.below {w w1:World}{bm k:Nat}{l:List Lf}{D:DataW Value}(h:QjR w bm k l D)(hb:Below w.heap.size w w1):QjR w1 bm k l D:=
 ⟨h.own.kept ⟨hb.os,hb.tape,hb.output,hb.size,fun k hk _=>hb.block k hk⟩ (by simp:some bm≠none),h.tidy,h.has',h.le,h.eq⟩
def Qnd (R F T:Nat ->Int)(n:Nat)(l:List Lf):Prop:=l.length<=1000/\ QbS R F T n l l.length/\ Dis l l.length
theorem Qhy (a:Option Addr)(c:Nat)(l:List Lf)(bm n:Nat)(M:DataW Value)(G:Int ->Value)(R F T:Nat ->Int)(w:World)(hn:l.length<=1048576)(hp:LBd l)(hi:∀i,LfI (gL l i))(h:Qew w a l)
  (hG:QaY w bm n M G (Lk R F T n)) (hs:∀r,Srt (Lk R F T n r)) (hl:∀r,(Lk R F T n r).length<=1000000):
  Calls Tryz.prog 50 #[.slice a l.length c,.map (some bm)] w fun e w'=>e=.returned (.bool (yes (Qnd R F T n l)))/\ Below w.heap.size w w':=by
 have Gi:=@run_makeMap Tryz.prog;obtain⟨Y,hY⟩:∃Y,yes (Qnd R F T n l)=Y:=⟨_,rfl⟩;have HY:=hid hY;rw [hY];clear hY;have HL:=hid h;have HG:=hid hG;clear h hG;by_cases Hq:(1000:Int)<(l.length:Int)
 ·have d0:decide ((1000:Int)<(l.length:Int))=true:=by simpa using Hq
  have HF:Hid (Y=false):=hid (by rw [<- HY.out];exact Qaj (fun h=>by have:=h.1;omega));go_enter Tryz.func50,Tryz.ntmps50;go_wp2_with fail;go_ret;exact⟨Qa8 HF.symm,zI⟩
 ·have d0:decide ((1000:Int)<(l.length:Int))=false:=by simpa using Hq
  go_enter Tryz.func50,Tryz.ntmps50;go_wp2_with fail;clear d0;have Ga:=hid (QjR.made w l);have H7:Hid (Below w.heap.size w (w.alloc (.map #[] 0))):=hid (zO _ _);go_loopw [14] (fun i wr=>∃k:Nat,k<=l.length/\ i=.int .i64 k/\ Hid (Below w.heap.size w wr)/\ (∃D,Hid (QjR wr w.heap.size k l D))/\ Hid (QbS R F T n l k)) (fun i _=>l.length - (intOf i).toNat);case atStart=>exact⟨0,Nat.zero_le _,rfl,H7,⟨_,Ga⟩,hid (fun i hi=>by omega)⟩
  case round=>
   clear Ga H7 Gi;obtain⟨k,hk,rfl,V,⟨D,Hn⟩,HI⟩:=hrel;by_cases Ht:k<l.length
   ·rcases HL.out with h|⟨b,off,rfl,hb,hc⟩
    ·omega
    obtain⟨E,pc,c0,s,c1,c2,c3,c4⟩:=hc k Ht;have x0:=(V.cell (p:=⟨b,off+k*5,none⟩) hb).trans c0;have x1:=(V.cell (p:=⟨b,off+k*5+1,none⟩) hb).trans c1;have x2:=(V.cell (p:=⟨b,off+k*5+2,none⟩) hb).trans c2;have x3:=(V.cell (p:=⟨b,off+k*5+3,none⟩) hb).trans c3;have x4:=(V.cell (p:=⟨b,off+k*5+4,none⟩) hb).trans c4;have HS:=hid (s.below V.out);have i1:(0:Int)<=(k:Int):=Int.natCast_nonneg _;have i2:(k:Int)<(l.length:Int):=by omega
    have Gf:=hid hc;have zr:w.heap.size<=wr.heap.size:=V.size;have Hk:=hi k;clear hc c0 c1 c2 c3 c4 s;obtain⟨y,hy⟩:∃y,gL l k=y:=⟨_,rfl⟩;have Hu:=hp k;rw [hy] at HS x0 x1 x2 x3 x4 Hu Hk;have J:=hid hy;clear hy;obtain⟨p,fl,r,q,v⟩:=y;dsimp only [LfI] at HS x0 x1 x2 x3 x4 Hu Hk;go_wp2_with fail;obtain⟨m,Hs⟩:∃m,wr.alloc (.cells #[.slice E p.length pc,.bool fl,.int .i64 r,.int .i64 q,.string v] 77)=m:=⟨_,rfl⟩;have b2:Below wr.heap.size wr m:=by rw [<- Hs];exact zO _ _
    have B5:Bx5 m wr.heap.size (.slice E p.length pc) (.bool fl) (.int .i64 r) (.int .i64 q) (.string v):=by rw [<- Hs];exact⟨by simp,by simp,by simp,by simp,by simp,fun i=>by simp,by simp⟩
    have y0:=B5.c0;have y1:=B5.c1;have N:=B5.c2;have B:=B5.c3;have y4:=B5.c4;have z:=B5.lt;have Hd:=hid b2;have O:=hid (V.trans (b2.mono V.size));have Gb:=hid (HS.below b2);have Gg:=hid (HG.below O.out);rw [Hs];clear Hs b2 B5 x0 x1 x2 x3 x4 HS;have C:Hid (¬(QbW ⟨p,fl,r,q,v⟩/\ Qct R F T r q q n=true/\ (0<k ->QaH (gL l (k - 1)) ⟨p,fl,r,q,v⟩<0)) ->Y=false):=hid (fun no=>by
     rw [<- HY.out];exact Qaj (fun h=>no (by have:=h.2.1 k Ht;rw [J.out] at this;exact this)))
    obtain⟨Y1,H3⟩:∃Y1,yes (QbW ⟨p,fl,r,q,v⟩)=Y1:=⟨_,rfl⟩;have H2:=hid H3;have Ho:Hid (∀W,Below m.heap.size m W ->Calls Tryz.prog 82 #[.agg #[.slice E p.length pc,.bool fl,.int .i64 r,.int .i64 q,.string v]] W fun e w'=>e=.returned (.bool Y1)/\ Below W.heap.size W w'):=hid (fun W hB=>by rw [<- H3];exact QnK E pc p fl r q v W Hu (Gb.below hB));obtain⟨A,hA⟩:∃A,Qct R F T r q q n=A:=⟨_,rfl⟩;have HA:=hid hA;have Hr:Hid (∀W,Below m.heap.size m W ->Calls Tryz.prog 83 #[.map (some bm),.agg #[.int .i64 r,.int .i64 q]] W fun e w'=>e=.returned (.bool A)/\ Below W.heap.size W w'):=hid (fun W hB=>by rw [<- hA,<- Qg4];exact Qpt (Gg.below hB) r q Hk.1 (hs r) (hl r));clear H3 hA;cases Y1 with
    | false=>
     have g:Hid (∀w',Below m.heap.size m w' ->(Below m.heap.size m w'/\ w'.cell? ⟨wr.heap.size,0,none⟩=some (.slice E p.length pc)/\ w'.cell? ⟨wr.heap.size,1,none⟩=some (.bool fl)/\ w'.cell? ⟨wr.heap.size,2,none⟩=some (.int .i64 r)/\ w'.cell? ⟨wr.heap.size,3,none⟩=some (.int .i64 q)/\ w'.cell? ⟨wr.heap.size,4,none⟩=some (.string v))):=hid (fun w' hB=>⟨hB,(hB.cell (p:=⟨wr.heap.size,0,none⟩) z).trans y0,(hB.cell (p:=⟨wr.heap.size,1,none⟩) z).trans y1,(hB.cell (p:=⟨wr.heap.size,2,none⟩) z).trans N,(hB.cell (p:=⟨wr.heap.size,3,none⟩) z).trans B,(hB.cell (p:=⟨wr.heap.size,4,none⟩) z).trans y4⟩);refine zR (S:=fun w'=>Below m.heap.size m w'/\ w'.cell? ⟨wr.heap.size,0,none⟩=some (.slice E p.length pc)/\ w'.cell? ⟨wr.heap.size,1,none⟩=some (.bool fl)/\ w'.cell? ⟨wr.heap.size,2,none⟩=some (.int .i64 r)/\ w'.cell? ⟨wr.heap.size,3,none⟩=some (.int .i64 q)/\ w'.cell? ⟨wr.heap.size,4,none⟩=some (.string v)) (g _ zI.drew) (fun qh=> ?_);refine tZ 0 19 ?_;refine cZ 1 ?_;intro K u;go_simp;refine(Ho _ qh.1).mono ?_;rintro e w3 ⟨rfl,L⟩;have Z:=qh.1.trans (L.mono qh.1.size);refine u.out _ _ (g _ Z) (fun qh=> ?_);clear u K;try simp only [zP]
     refine tZ 2 21 ?_;refine tZ 3 22 ?_;refine uZ 4 23 ?_;refine uZ 5 24 ?_;refine uZ 6 25 ?_;refine uZ 7 26 ?_;refine uZ 8 27 ?_;refine tZ 9 28 ?_;refine tZ 10 29 ?_;refine uZ 11 30 ?_;refine uZ 12 31 ?_;refine uZ 13 32 ?_;refine uZ 14 33 ?_;refine uZ 15 34 ?_;refine uZ 16 35 ?_;refine uZ 17 36 ?_;refine uZ 18 37 ?_;refine uZ 19 38 ?_;refine uZ 20 39 ?_;refine uZ 21 40 ?_;refine uZ 22 41 ?_;refine tZ 23 42 ?_;refine zD ?_;have HF:=hid (C (fun h=>by have:=Qal h.1;rw [H2.out] at this;cases this));have HZ:=hid (O.trans (Z.mono O.size));clear qh g C;go_wp2_with fail;go_ret;exact⟨Qa8 HF.symm,HZ.out⟩
    | true=>
     cases A with
     | false=>
      have g:Hid (∀w',Below m.heap.size m w' ->(Below m.heap.size m w'/\ w'.cell? ⟨wr.heap.size,0,none⟩=some (.slice E p.length pc)/\ w'.cell? ⟨wr.heap.size,1,none⟩=some (.bool fl)/\ w'.cell? ⟨wr.heap.size,2,none⟩=some (.int .i64 r)/\ w'.cell? ⟨wr.heap.size,3,none⟩=some (.int .i64 q)/\ w'.cell? ⟨wr.heap.size,4,none⟩=some (.string v))):=hid (fun w' hB=>⟨hB,(hB.cell (p:=⟨wr.heap.size,0,none⟩) z).trans y0,(hB.cell (p:=⟨wr.heap.size,1,none⟩) z).trans y1,(hB.cell (p:=⟨wr.heap.size,2,none⟩) z).trans N,(hB.cell (p:=⟨wr.heap.size,3,none⟩) z).trans B,(hB.cell (p:=⟨wr.heap.size,4,none⟩) z).trans y4⟩);refine zR (S:=fun w'=>Below m.heap.size m w'/\ w'.cell? ⟨wr.heap.size,0,none⟩=some (.slice E p.length pc)/\ w'.cell? ⟨wr.heap.size,1,none⟩=some (.bool fl)/\ w'.cell? ⟨wr.heap.size,2,none⟩=some (.int .i64 r)/\ w'.cell? ⟨wr.heap.size,3,none⟩=some (.int .i64 q)/\ w'.cell? ⟨wr.heap.size,4,none⟩=some (.string v)) (g _ zI.drew) (fun qh=> ?_);refine tZ 0 19 ?_;refine cZ 1 ?_;intro K u;go_simp;refine(Ho _ qh.1).mono ?_;rintro e w3 ⟨rfl,L⟩;have Z:=qh.1.trans (L.mono qh.1.size);refine u.out _ _ (g _ Z) (fun qh=> ?_);clear u K;try simp only [zP]
      refine tZ 2 21 ?_;refine tZ 3 22 ?_;refine tZ 4 23 ?_;refine tZ 5 24 ?_;refine tZ 6 25 ?_;refine cZ 7 ?_;intro K u;go_simp;refine(Hr _ qh.1).mono ?_;rintro e w4 ⟨rfl,b4⟩;have U:=qh.1.trans (b4.mono qh.1.size);refine u.out _ _ (g _ U) (fun qh=> ?_);clear u K;try simp only [zP]
      refine tZ 8 27 ?_;refine tZ 9 28 ?_;refine tZ 10 29 ?_;refine uZ 11 30 ?_;refine uZ 12 31 ?_;refine uZ 13 32 ?_;refine uZ 14 33 ?_;refine uZ 15 34 ?_;refine uZ 16 35 ?_;refine uZ 17 36 ?_;refine uZ 18 37 ?_;refine uZ 19 38 ?_;refine uZ 20 39 ?_;refine uZ 21 40 ?_;refine uZ 22 41 ?_;refine tZ 23 42 ?_;refine zD ?_;have HF:=hid (C (fun h=>by have:=h.2.1;rw [HA.out] at this;cases this));have HZ:=hid (O.trans (U.mono O.size));clear qh g C;go_wp2_with fail;go_ret;exact⟨Qa8 HF.symm,HZ.out⟩
     | true=>
      by_cases Ge:k=0
      ·have d2:decide ((0:Int)<(k:Int))=false:=by simp;omega
       have d3:decide (0<k)=false:=by simp;omega
       have He:Hid (0<k ->QaH (gL l (k - 1)) ⟨p,fl,r,q,v⟩<0):=hid (fun h=>by omega);clear Ge;have g:Hid (∀w',Below m.heap.size m w' ->(Below m.heap.size m w'/\ w'.cell? ⟨wr.heap.size,0,none⟩=some (.slice E p.length pc)/\ w'.cell? ⟨wr.heap.size,1,none⟩=some (.bool fl)/\ w'.cell? ⟨wr.heap.size,2,none⟩=some (.int .i64 r)/\ w'.cell? ⟨wr.heap.size,3,none⟩=some (.int .i64 q)/\ w'.cell? ⟨wr.heap.size,4,none⟩=some (.string v))):=hid (fun w' hB=>⟨hB,(hB.cell (p:=⟨wr.heap.size,0,none⟩) z).trans y0,(hB.cell (p:=⟨wr.heap.size,1,none⟩) z).trans y1,(hB.cell (p:=⟨wr.heap.size,2,none⟩) z).trans N,(hB.cell (p:=⟨wr.heap.size,3,none⟩) z).trans B,(hB.cell (p:=⟨wr.heap.size,4,none⟩) z).trans y4⟩);refine zR (S:=fun w'=>Below m.heap.size m w'/\ w'.cell? ⟨wr.heap.size,0,none⟩=some (.slice E p.length pc)/\ w'.cell? ⟨wr.heap.size,1,none⟩=some (.bool fl)/\ w'.cell? ⟨wr.heap.size,2,none⟩=some (.int .i64 r)/\ w'.cell? ⟨wr.heap.size,3,none⟩=some (.int .i64 q)/\ w'.cell? ⟨wr.heap.size,4,none⟩=some (.string v)) (g _ zI.drew) (fun qh=> ?_);refine tZ 0 19 ?_;refine cZ 1 ?_;intro K u;go_simp;refine(Ho _ qh.1).mono ?_;rintro e w3 ⟨rfl,L⟩;have Z:=qh.1.trans (L.mono qh.1.size);refine u.out _ _ (g _ Z) (fun qh=> ?_);clear u K;try simp only [zP]
       refine tZ 2 21 ?_;refine tZ 3 22 ?_;refine tZ 4 23 ?_;refine tZ 5 24 ?_;refine tZ 6 25 ?_;refine cZ 7 ?_;intro K u;go_simp;refine(Hr _ qh.1).mono ?_;rintro e w4 ⟨rfl,b4⟩;have U:=qh.1.trans (b4.mono qh.1.size);refine u.out _ _ (g _ U) (fun qh=> ?_);clear u K;try simp only [zP]
       refine tZ 8 27 ?_;refine tZ 9 28 ?_;refine tZ 10 29 ?_;refine tZ 11 30 ?_;refine tZ 12 31 ?_;refine tZ 13 32 ?_;refine uZ 14 33 ?_;refine uZ 15 34 ?_;refine uZ 16 35 ?_;refine uZ 17 36 ?_;refine uZ 18 37 ?_;refine uZ 19 38 ?_;refine uZ 20 39 ?_;refine uZ 21 40 ?_;refine tZ 22 41 ?_;refine tZ 23 42 ?_;refine zD ?_;have Hw:=hid U;have N:=(U.cell (p:=⟨wr.heap.size,2,none⟩) z).trans N;have B:=(U.cell (p:=⟨wr.heap.size,3,none⟩) z).trans B;obtain⟨kl,Hh⟩:=QdF Hk.1 Hk.2;have H0:=hid Hh;have Ha:=Hn.below (Hd.trans (U.mono Hd.size));have Hb:=Ha.own;have Hj:plainElem (H:=Value) Tryz.prog 3 (.int .i64 (k:Int))=some (.lit (.int .i64 (k:Int)),[]):=plainElem_int Tryz.underlying3 (wfI (by omega) (by omega));have Hi:keyOf Tryz.prog 75 (.agg #[.int .i64 r,.int .i64 q])=some kl:=Hh;have Hx:=hid Ha;clear qh g C Ha Hh;go_wp2_with (refine wpList_mapUpdate_own _ rfl _ _ _ 168 rfl 75 3 QaF Tryz.underlying168 (plainElem Tryz.prog 3) (w.heap.size) k D rfl Hb (by unfold maxLen;omega) _ _ kl rfl rfl Hi (.lit (.int .i64 (k:Int))) [] Hj ?_;intro w6 Hc Hg);have Hy:=hid (Hx.step (by rw [J.out];exact H0.out) Hc);have Hp:=O.trans (Hw.mono O.size);have Hv:=hid (Hp.grown Hg Hp.size (fun t e=>by injection e with e;omega));have HN:Hid (QbS R F T n l (k+1)):=hid (HI.step (by rw [J.out];exact Qb9.1 H2.out) (by rw [J.out];exact HA.out) (fun h=>by rw [J.out];exact He h));go_roundw;case rel=>exact⟨k+1,Ht,by go_num,Hv,⟨_,Hy⟩,HN⟩
       case measure=>simp [intOf];omega
      ·obtain⟨j,hj⟩:∃j,k=j+1:=⟨k - 1,by omega⟩;obtain⟨Hl,Hm,c0,s',c1,c2,c3,c4⟩:=Gf j (by omega);have Q:=fun(o:Nat)=>O.cell (p:=⟨b,o,none⟩) hb;have j0:=(Q _).trans c0;have j1:=(Q _).trans c1;have j2:=(Q _).trans c2;have j3:=(Q _).trans c3;have j4:=(Q _).trans c4;have H1:=hid (s'.below O.out);have H4:=hp j;obtain⟨y',H6⟩:∃y',gL l j=y':=⟨_,rfl⟩;rw [H6] at j0 j1 j2 j3 j4 H1 H4;have H9:=hid H6;obtain⟨p',Hf,r',Q,v'⟩:=y';dsimp only at j0 j1 j2 j3 j4 H1 H4;have I:b<m.heap.size:=by have:=O.size;omega
       have d2:decide ((0:Int)<(k:Int))=true:=by simp;omega
       have d3:decide (0<k)=true:=by simp;omega
       have H5:(k:Int) - 1=(j:Int):=by omega
       have Gj:IntKind.i64.wrap (j:Int)=(j:Int):=by rw [IntKind.wrap_i64];omega
       have Gk:IntKind.i64.wrap ((k:Int) - 1)=(j:Int):=by rw [H5];exact Gj
       have q1:(0:Int)<=(j:Int):=Int.natCast_nonneg _;have q2:(j:Int)<(l.length:Int):=by omega
       have Hz:=hid hj;obtain⟨X,hX⟩:∃X,QaH ⟨p',Hf,r',Q,v'⟩ ⟨p,fl,r,q,v⟩=X:=⟨_,rfl⟩;have Gc:=hid hX;have H8:Hid (∀W,Below m.heap.size m W ->Calls Tryz.prog 84 #[.agg #[.slice Hl p'.length Hm,.bool Hf,.int .i64 r',.int .i64 Q,.string v'],.agg #[.slice E p.length pc,.bool fl,.int .i64 r,.int .i64 q,.string v]] W fun e w'=>e=.returned (.int .i64 X)/\ Below W.heap.size W w'):=hid (fun W hB=>by rw [<- hX];exact QeV Hl E Hm pc p' p Hf fl r' Q r q v' v W H4 Hu (H1.below hB) (Gb.below hB));clear hX hj Ge c0 c1 c2 c3 c4 s' H6;by_cases Gd:(0:Int)<=X
       ·have d4:decide ((0:Int)<=X)=true:=by simpa using Gd
        have g:Hid (∀w',Below m.heap.size m w' ->(Below m.heap.size m w'/\ w'.cell? ⟨wr.heap.size,0,none⟩=some (.slice E p.length pc)/\ w'.cell? ⟨wr.heap.size,1,none⟩=some (.bool fl)/\ w'.cell? ⟨wr.heap.size,2,none⟩=some (.int .i64 r)/\ w'.cell? ⟨wr.heap.size,3,none⟩=some (.int .i64 q)/\ w'.cell? ⟨wr.heap.size,4,none⟩=some (.string v)/\ w'.cell? ⟨b,off+j*5,none⟩=some (.slice Hl p'.length Hm)/\ w'.cell? ⟨b,off+j*5+1,none⟩=some (.bool Hf)/\ w'.cell? ⟨b,off+j*5+2,none⟩=some (.int .i64 r')/\ w'.cell? ⟨b,off+j*5+3,none⟩=some (.int .i64 Q)/\ w'.cell? ⟨b,off+j*5+4,none⟩=some (.string v'))):=hid (fun w' hB=>⟨hB,(hB.cell (p:=⟨wr.heap.size,0,none⟩) z).trans y0,(hB.cell (p:=⟨wr.heap.size,1,none⟩) z).trans y1,(hB.cell (p:=⟨wr.heap.size,2,none⟩) z).trans N,(hB.cell (p:=⟨wr.heap.size,3,none⟩) z).trans B,(hB.cell (p:=⟨wr.heap.size,4,none⟩) z).trans y4,(hB.cell (p:=⟨b,off+j*5,none⟩) I).trans j0,(hB.cell (p:=⟨b,off+j*5+1,none⟩) I).trans j1,(hB.cell (p:=⟨b,off+j*5+2,none⟩) I).trans j2,(hB.cell (p:=⟨b,off+j*5+3,none⟩) I).trans j3,(hB.cell (p:=⟨b,off+j*5+4,none⟩) I).trans j4⟩);refine zR (S:=fun w'=>Below m.heap.size m w'/\ w'.cell? ⟨wr.heap.size,0,none⟩=some (.slice E p.length pc)/\ w'.cell? ⟨wr.heap.size,1,none⟩=some (.bool fl)/\ w'.cell? ⟨wr.heap.size,2,none⟩=some (.int .i64 r)/\ w'.cell? ⟨wr.heap.size,3,none⟩=some (.int .i64 q)/\ w'.cell? ⟨wr.heap.size,4,none⟩=some (.string v)/\ w'.cell? ⟨b,off+j*5,none⟩=some (.slice Hl p'.length Hm)/\ w'.cell? ⟨b,off+j*5+1,none⟩=some (.bool Hf)/\ w'.cell? ⟨b,off+j*5+2,none⟩=some (.int .i64 r')/\ w'.cell? ⟨b,off+j*5+3,none⟩=some (.int .i64 Q)/\ w'.cell? ⟨b,off+j*5+4,none⟩=some (.string v')) (g _ zI.drew) (fun qh=> ?_);refine tZ 0 19 ?_;refine cZ 1 ?_;intro K u;go_simp;refine(Ho _ qh.1).mono ?_;rintro e w3 ⟨rfl,L⟩;have Z:=qh.1.trans (L.mono qh.1.size);refine u.out _ _ (g _ Z) (fun qh=> ?_);clear u K;try simp only [zP]
        refine tZ 2 21 ?_;refine tZ 3 22 ?_;refine tZ 4 23 ?_;refine tZ 5 24 ?_;refine tZ 6 25 ?_;refine cZ 7 ?_;intro K u;go_simp;refine(Hr _ qh.1).mono ?_;rintro e w4 ⟨rfl,b4⟩;have U:=qh.1.trans (b4.mono qh.1.size);refine u.out _ _ (g _ U) (fun qh=> ?_);clear u K;try simp only [zP]
        refine tZ 8 27 ?_;refine tZ 9 28 ?_;refine tZ 10 29 ?_;refine tZ 11 30 ?_;refine tZ 12 31 ?_;refine tZ 13 32 ?_;refine tZ 14 33 ?_;refine tZ 15 34 ?_;refine tZ 16 35 ?_;refine tZ 17 36 ?_;refine tZ 18 37 ?_;refine tZ 19 38 ?_;refine cZ 20 ?_;intro K u;go_simp;refine(H8 _ qh.1).mono ?_;rintro e w5 ⟨rfl,b5⟩;have P:=qh.1.trans (b5.mono qh.1.size);refine u.out _ _ (g _ P) (fun qh=> ?_);clear u K;try simp only [zP]
        refine tZ 21 40 ?_;refine tZ 22 41 ?_;refine tZ 23 42 ?_;refine zD ?_;have HF:=hid (C (fun h=>by have e:=h.2.2 (by have:=Hz.out;omega);rw [show k - 1=j by have:=Hz.out;omega,H9.out,Gc.out] at e;omega));have HZ:=hid (O.trans (P.mono O.size));clear qh g C;go_wp2_with fail;go_ret;exact⟨Qa8 HF.symm,HZ.out⟩
       ·have d4:decide ((0:Int)<=X)=false:=by simpa using Gd
        have He:Hid (0<k ->QaH (gL l (k - 1)) ⟨p,fl,r,q,v⟩<0):=hid (fun _=>by rw [show k - 1=j by have:=Hz.out;omega,H9.out,Gc.out];omega);have g:Hid (∀w',Below m.heap.size m w' ->(Below m.heap.size m w'/\ w'.cell? ⟨wr.heap.size,0,none⟩=some (.slice E p.length pc)/\ w'.cell? ⟨wr.heap.size,1,none⟩=some (.bool fl)/\ w'.cell? ⟨wr.heap.size,2,none⟩=some (.int .i64 r)/\ w'.cell? ⟨wr.heap.size,3,none⟩=some (.int .i64 q)/\ w'.cell? ⟨wr.heap.size,4,none⟩=some (.string v)/\ w'.cell? ⟨b,off+j*5,none⟩=some (.slice Hl p'.length Hm)/\ w'.cell? ⟨b,off+j*5+1,none⟩=some (.bool Hf)/\ w'.cell? ⟨b,off+j*5+2,none⟩=some (.int .i64 r')/\ w'.cell? ⟨b,off+j*5+3,none⟩=some (.int .i64 Q)/\ w'.cell? ⟨b,off+j*5+4,none⟩=some (.string v'))):=hid (fun w' hB=>⟨hB,(hB.cell (p:=⟨wr.heap.size,0,none⟩) z).trans y0,(hB.cell (p:=⟨wr.heap.size,1,none⟩) z).trans y1,(hB.cell (p:=⟨wr.heap.size,2,none⟩) z).trans N,(hB.cell (p:=⟨wr.heap.size,3,none⟩) z).trans B,(hB.cell (p:=⟨wr.heap.size,4,none⟩) z).trans y4,(hB.cell (p:=⟨b,off+j*5,none⟩) I).trans j0,(hB.cell (p:=⟨b,off+j*5+1,none⟩) I).trans j1,(hB.cell (p:=⟨b,off+j*5+2,none⟩) I).trans j2,(hB.cell (p:=⟨b,off+j*5+3,none⟩) I).trans j3,(hB.cell (p:=⟨b,off+j*5+4,none⟩) I).trans j4⟩);refine zR (S:=fun w'=>Below m.heap.size m w'/\ w'.cell? ⟨wr.heap.size,0,none⟩=some (.slice E p.length pc)/\ w'.cell? ⟨wr.heap.size,1,none⟩=some (.bool fl)/\ w'.cell? ⟨wr.heap.size,2,none⟩=some (.int .i64 r)/\ w'.cell? ⟨wr.heap.size,3,none⟩=some (.int .i64 q)/\ w'.cell? ⟨wr.heap.size,4,none⟩=some (.string v)/\ w'.cell? ⟨b,off+j*5,none⟩=some (.slice Hl p'.length Hm)/\ w'.cell? ⟨b,off+j*5+1,none⟩=some (.bool Hf)/\ w'.cell? ⟨b,off+j*5+2,none⟩=some (.int .i64 r')/\ w'.cell? ⟨b,off+j*5+3,none⟩=some (.int .i64 Q)/\ w'.cell? ⟨b,off+j*5+4,none⟩=some (.string v')) (g _ zI.drew) (fun qh=> ?_);refine tZ 0 19 ?_;refine cZ 1 ?_;intro K u;go_simp;refine(Ho _ qh.1).mono ?_;rintro e w3 ⟨rfl,L⟩;have Z:=qh.1.trans (L.mono qh.1.size);refine u.out _ _ (g _ Z) (fun qh=> ?_);clear u K;try simp only [zP]
        refine tZ 2 21 ?_;refine tZ 3 22 ?_;refine tZ 4 23 ?_;refine tZ 5 24 ?_;refine tZ 6 25 ?_;refine cZ 7 ?_;intro K u;go_simp;refine(Hr _ qh.1).mono ?_;rintro e w4 ⟨rfl,b4⟩;have U:=qh.1.trans (b4.mono qh.1.size);refine u.out _ _ (g _ U) (fun qh=> ?_);clear u K;try simp only [zP]
        refine tZ 8 27 ?_;refine tZ 9 28 ?_;refine tZ 10 29 ?_;refine tZ 11 30 ?_;refine tZ 12 31 ?_;refine tZ 13 32 ?_;refine tZ 14 33 ?_;refine tZ 15 34 ?_;refine tZ 16 35 ?_;refine tZ 17 36 ?_;refine tZ 18 37 ?_;refine tZ 19 38 ?_;refine cZ 20 ?_;intro K u;go_simp;refine(H8 _ qh.1).mono ?_;rintro e w5 ⟨rfl,b5⟩;have P:=qh.1.trans (b5.mono qh.1.size);refine u.out _ _ (g _ P) (fun qh=> ?_);clear u K;try simp only [zP]
        refine tZ 21 40 ?_;refine tZ 22 41 ?_;refine tZ 23 42 ?_;refine zD ?_;have Hw:=hid P;have N:=(P.cell (p:=⟨wr.heap.size,2,none⟩) z).trans N;have B:=(P.cell (p:=⟨wr.heap.size,3,none⟩) z).trans B;obtain⟨kl,Hh⟩:=QdF Hk.1 Hk.2;have H0:=hid Hh;have Ha:=Hn.below (Hd.trans (P.mono Hd.size));have Hb:=Ha.own;have Hj:plainElem (H:=Value) Tryz.prog 3 (.int .i64 (k:Int))=some (.lit (.int .i64 (k:Int)),[]):=plainElem_int Tryz.underlying3 (wfI (by omega) (by omega));have Hi:keyOf Tryz.prog 75 (.agg #[.int .i64 r,.int .i64 q])=some kl:=Hh;have Hx:=hid Ha;clear qh g C Ha Hh;go_wp2_with (refine wpList_mapUpdate_own _ rfl _ _ _ 168 rfl 75 3 QaF Tryz.underlying168 (plainElem Tryz.prog 3) (w.heap.size) k D rfl Hb (by unfold maxLen;omega) _ _ kl rfl rfl Hi (.lit (.int .i64 (k:Int))) [] Hj ?_;intro w6 Hc Hg);have Hy:=hid (Hx.step (by rw [J.out];exact H0.out) Hc);have Hp:=O.trans (Hw.mono O.size);have Hv:=hid (Hp.grown Hg Hp.size (fun t e=>by injection e with e;omega));have HN:Hid (QbS R F T n l (k+1)):=hid (HI.step (by rw [J.out];exact Qb9.1 H2.out) (by rw [J.out];exact HA.out) (fun h=>by rw [J.out];exact He h));go_roundw;case rel=>exact⟨k+1,Ht,by go_num,Hv,⟨_,Hy⟩,HN⟩
        case measure=>simp [intOf];omega
   ·obtain rfl:k=l.length:=by omega
    have Hb:=Hn.own;have Gh:Hid (Y=((Maps.size D:Int)==(l.length:Int))):=hid (by
     rw [<- HY.out];by_cases e:Maps.size D=l.length
     ·rw [Qal ⟨by omega,HI.out,fun i hi j hj=>Hn.eq.1 e i hi j hj⟩,e];simp
     ·rw [Qaj (fun h=>e (Hn.eq.2 (fun i hi j hj=>h.2.2 i hi j hj)))];symm;simp;omega)
    have HZ:=hid V.out;go_wp2_with (refine wpList_len_own _ rfl _ 168 rfl 75 3 Tryz.underlying168 _ _ _ _ rfl Hb ?_);go_ret;exact⟨Qa8 Gh.symm,HZ.out⟩
theorem QfX (a:Option Addr)(c:Nat)(l:List Lf)(x:Option Addr)(n d:Nat)(R F T:Nat ->Int)(w:World)(hn:l.length<=1048576)(hp:LBd l)(hi:∀i,LfI (gL l i))(hm:n<=1048576)(h:Qew w a l)(h':Qb5 w x n R F T):
  Calls Tryz.prog 23 #[.agg #[.slice a l.length c,.slice x n d]] w fun e w'=>(∃M,e=.returned (.tuple #[M,.bool (yes (QaQ R F T n l))]))/\ Below w.heap.size w w':=by
 obtain⟨W,k⟩:∃W,w.alloc (.cells #[.slice a l.length c,.slice x n d] 29)=W:=⟨_,rfl⟩;have q:Below w.heap.size w W:=by rw [<- k];exact zO _ _
 have V:w.heap.size<W.heap.size:=by rw [<- k];simp
 have u:W.cell? ⟨w.heap.size,0,none⟩=some (.slice a l.length c):=by rw [<- k];simp
 have U:W.cell? ⟨w.heap.size,1,none⟩=some (.slice x n d):=by rw [<- k];simp
 have Z:=hid (h.below q);have A:=hid (h'.below q);have t:=hid q;clear h h' q;obtain⟨Y,z⟩:∃Y,yes (QaQ R F T n l)=Y:=⟨_,rfl⟩;have v:=hid z;rw [z];clear z;cases hcx:QcR R F T n with
 | false=>
  have s:Hid (Y=false):=hid (by rw [<- v.out];exact Qaj (fun h=>by have:=h.1;rw [hcx] at this;cases this));have m:=hid (Qk9 x n d R F T W hm A.out hcx);have K:=s.out;clear hcx s v;subst K;go_enter Tryz.func23,Tryz.ntmps23;go_wp2_with fail;try rw [k]
  clear k;refine m.mono ?_;rintro e w1 ⟨rfl,j⟩;have N:=(j.cell (p:=⟨w.heap.size,0,none⟩) V).trans u;have y:=hid (Qac t.out j);clear j m u U;go_wp2_with fail;go_ret2;exact⟨⟨_,rfl⟩,y.out⟩
 | true=>
  have g:=Qao.1 hcx;have m:=hid (QnT x n d R F T W hm A.out hcx);have I:Hid (∀r,Srt (Lk R F T n r)):=hid (fun r=>(Qdm n g.1 r).1);have H:Hid (∀r,(Lk R F T n r).length<=1000000):=hid (fun r=>by have:=Qdl R F T n r;have:=g.2;omega);have b:Hid (Y=yes (Qnd R F T n l)):=hid (by
   rw [<- v.out];by_cases e:Qnd R F T n l
   ·rw [Qal e,Qal ⟨hcx,e.1,e.2.1,e.2.2⟩]
   ·rw [Qaj e,Qaj (fun h=>e ⟨h.2.1,h.2.2.1,h.2.2.2⟩)])
  clear g hcx;go_enter Tryz.func23,Tryz.ntmps23;go_wp2_with fail;try rw [k]
  clear k;refine m.mono ?_;rintro e w1 ⟨J,D,G,rfl,Q,L,j⟩;have N:=(j.cell (p:=⟨w.heap.size,0,none⟩) V).trans u;have o:=hid (Qhy a c l J n D G R F T w1 hn hp hi (Z.below j) Q I.out H.out);have y:=hid (Qac t.out j);clear j m u U Q L;go_wp2_with fail;refine o.mono ?_;rintro e X ⟨rfl,O⟩;have E:=hid (Qac y.out O);rw [<- b.out];clear O o b;cases Y with
  | true=>
   go_wp2_with fail;go_ret2;exact⟨⟨_,rfl⟩,E.out⟩
  | false=>
   go_wp2_with fail;go_ret2;exact⟨⟨_,rfl⟩,E.out⟩
theorem Qg3 (a:Option Addr)(c:Nat)(l:List Lf)(x:Option Addr)(n d:Nat)(R F T:Nat ->Int)(w:World)(hn:l.length<=1048576)(hp:LBd l)(hi:∀i,LfI (gL l i))(hm:n<=1048576)(h:Qew w a l)(h':Qb5 w x n R F T):
  Calls Tryz.prog 8 #[.agg #[.slice a l.length c,.slice x n d]] w fun e w'=>e=.returned (.bool (yes (QaQ R F T n l)))/\ Below w.heap.size w w':=by
 obtain⟨W,j⟩:∃W,w.alloc (.cells #[.slice a l.length c,.slice x n d] 29)=W:=⟨_,rfl⟩;have k:Below w.heap.size w W:=by rw [<- j];exact zO _ _
 have y:W.cell? ⟨w.heap.size,0,none⟩=some (.slice a l.length c):=by rw [<- j];simp
 have z:W.cell? ⟨w.heap.size,1,none⟩=some (.slice x n d):=by rw [<- j];simp
 have m:=hid (QfX a c l x n d R F T W hn hp hi hm (h.below k) (h'.below k));have u:=hid k;obtain⟨Y,r⟩:∃Y,yes (QaQ R F T n l)=Y:=⟨_,rfl⟩;rw [r] at m ⊢;clear h h' k r;go_enter Tryz.func8,Tryz.ntmps8;go_wp2_with fail;try rw [j]
 clear j;refine m.mono ?_;rintro e w1 ⟨⟨M,rfl⟩,q⟩;have v:=hid (Qac u.out q);clear q m y z;go_wp2_with fail;go_ret;exact⟨rfl,v.out⟩
noncomputable def Mk (l:List Lf):Nat ->List Ky ->Dt ->Option ByteArray
 | 0=>fun _ _=>none
 | k+1=>QjT (Mk l k) (Qad (gL l k).p (kd (gL l k).fl)) ((gL l k).r,(gL l k).q) (gL l k).v
def Way (x:Lf):List Ky:=Qad x.p (kd x.fl)
theorem QjW {l:List Lf}{p:List Ky}{d:Dt}:∀{k:Nat},Mk l k p d≠none↔∃j,j<k/\ Way (gL l j)=p/\ ((gL l j).r,(gL l j).q)=d
 | 0=>⟨fun h=>absurd rfl h,fun⟨j,m,_⟩=>by omega⟩
 | k+1=>by
  have y:=QjW (l:=l) (p:=p) (d:=d) (k:=k);simp only [Mk];by_cases e:p=Qad (gL l k).p (kd (gL l k).fl)
  ·rw [e,QbG,<- e];by_cases u:d=((gL l k).r,(gL l k).q)
   ·rw [u,Qax];exact⟨fun _=>⟨k,by omega,e.symm,rfl⟩,fun _ h=>by cases h⟩
   ·rw [Qam _ _ u,y];constructor
    ·rintro⟨j,m,r⟩;exact⟨j,by omega,r⟩
    ·rintro⟨j,m,r1,r2⟩;by_cases v:j=k
     ·subst v;exact absurd r2.symm u
     ·exact⟨j,by omega,r1,r2⟩
  ·rw [Qbd _ _ _ e,y];constructor
   ·rintro⟨j,m,r⟩;exact⟨j,by omega,r⟩
   ·rintro⟨j,m,r1,r2⟩;by_cases v:j=k
    ·subst v;exact absurd r1.symm e
    ·exact⟨j,by omega,r1,r2⟩
def NkI (l:List Lf)(k:Nat)(N:List Ky ->Option (Nat×Nat)):Prop:=∀z,(N z).isSome=true↔z=[] \/∃j,j<k/\ z <+:Way (gL l j)
theorem Qjq (a:Option Addr)(c:Nat)(l:List Lf)(x:Option Addr)(n d:Nat)(R F T:Nat ->Int)(w:World)(hn:l.length<=1048576)(hp:LBd l)(hi:∀i,LfI (gL l i))(hm:n<=1048576)(h:Qew w a l)(h':Qb5 w x n R F T)(hok:QaQ R F T n l):
  Calls Tryz.prog 23 #[.agg #[.slice a l.length c,.slice x n d]] w fun e w'=>(∃j D G,e=.returned (.tuple #[.map (some j),.bool true])/\ QaY w' j n D G (Lk R F T n)/\ w.heap.size<=j)/\ Below w.heap.size w w':=by
 obtain⟨W,k⟩:∃W,w.alloc (.cells #[.slice a l.length c,.slice x n d] 29)=W:=⟨_,rfl⟩;have m:Below w.heap.size w W:=by rw [<- k];exact zO _ _
 have E:w.heap.size<W.heap.size:=by rw [<- k];simp
 have A:W.cell? ⟨w.heap.size,0,none⟩=some (.slice a l.length c):=by rw [<- k];simp
 have K:W.cell? ⟨w.heap.size,1,none⟩=some (.slice x n d):=by rw [<- k];simp
 have V:=hid (h.below m);have Z:=hid (h'.below m);have M:=hid m;clear h h' m;have v:=hok.1;have z:=Qao.1 v;have o:=hid (QnT x n d R F T W hm Z.out v);have H:Hid (∀r,Srt (Lk R F T n r)):=hid (fun r=>(Qdm n z.1 r).1);have Y:Hid (∀r,(Lk R F T n r).length<=1000000):=hid (fun r=>by have:=Qdl R F T n r;have:=z.2;omega);have t:Hid (yes (Qnd R F T n l)=true):=hid (Qal ⟨hok.2.1,hok.2.2.1,hok.2.2.2⟩);have b:=hid E;clear z v hok;go_enter Tryz.func23,Tryz.ntmps23;go_wp2_with fail;try rw [k]
 clear k;refine o.mono ?_;rintro e w1 ⟨j,D,G,rfl,y,s,q⟩;have L:=(q.cell (p:=⟨w.heap.size,0,none⟩) b.out).trans A;have g:=hid (Qhy a c l j n D G R F T w1 hn hp hi (V.below q) y H.out Y.out);have I:=hid (Qac M.out q);have U:=hid y;have O:=hid s;clear q o A K y s E;go_wp2_with fail;refine g.mono ?_;rintro e N ⟨rfl,u⟩;have J:=hid (Qac I.out u);have Q:=hid (U.below u);rw [t.out];clear u g t;go_wp2_with fail;go_ret2;exact⟨⟨j,D,G,rfl,Q.out,Nat.le_trans (Nat.le_of_lt b.out) O.out⟩,J.out⟩
structure Bx3 (w:World)(b:Nat)(v0 v1 v2:Value):Prop where
 c0:w.cell? ⟨b,0,none⟩=some v0
 c1:w.cell? ⟨b,1,none⟩=some v1
 c2:w.cell? ⟨b,2,none⟩=some v2
 f:∀i,w.frozen? ⟨b,i,none⟩=false
 lt:b<w.heap.size
theorem Bx3.below {w w':World}{B b:Nat}{v0 v1 v2:Value}(h:Bx3 w b v0 v1 v2)(hb:Below B w w')(hB:b<B):Bx3 w' b v0 v1 v2:=
 ⟨(hb.cell (p:=⟨b,0,none⟩) hB).trans h.c0,(hb.cell (p:=⟨b,1,none⟩) hB).trans h.c1,(hb.cell (p:=⟨b,2,none⟩) hB).trans h.c2,fun i=>(hb.frozen (p:=⟨b,i,none⟩) hB).trans (h.f i),Nat.lt_of_lt_of_le h.lt hb.size⟩
theorem Bx3.gt {w w':World}{B b:Nat}{v0 v1 v2:Value}(h:Bx3 w b v0 v1 v2)(hg:Gt B w w'):Bx3 w' b v0 v1 v2:=
 ⟨hg.cell h.c0,hg.cell h.c1,hg.cell h.c2,fun i=>(hg.frozen (q:=⟨b,i,none⟩) h.c0 rfl).trans (h.f i),Nat.lt_of_lt_of_le h.lt hg.size⟩
theorem Bx3.made (w:World)(v0 v1 v2:Value)(t:TypeId):Bx3 (w.alloc (.cells #[v0,v1,v2] t)) w.heap.size v0 v1 v2:=⟨by simp,by simp,by simp,fun i=>by simp,by simp⟩
theorem Bx3.set0 {w:World}{b:Nat}{v0 v1 v2:Value}(h:Bx3 w b v0 v1 v2)(u:Value):Bx3 (w.setCell ⟨b,0,none⟩ u) b u v1 v2:=
 ⟨World.cell?_setCell_same _ _ _ h.c0,by simp [World.cell?_setCell_other,h.c1],by simp [World.cell?_setCell_other,h.c2],fun i=>by rw [World.frozen?_setCell];exact h.f i,by simp [World.setCell];exact h.lt⟩
theorem Bx3.set1 {w:World}{b:Nat}{v0 v1 v2:Value}(h:Bx3 w b v0 v1 v2)(u:Value):Bx3 (w.setCell ⟨b,1,none⟩ u) b v0 u v2:=
 ⟨by simp [World.cell?_setCell_other,h.c0],World.cell?_setCell_same _ _ _ h.c1,by simp [World.cell?_setCell_other,h.c2],fun i=>by rw [World.frozen?_setCell];exact h.f i,by simp [World.setCell];exact h.lt⟩
theorem Bx3.set2 {w:World}{b:Nat}{v0 v1 v2:Value}(h:Bx3 w b v0 v1 v2)(u:Value):Bx3 (w.setCell ⟨b,2,none⟩ u) b v0 v1 u:=
 ⟨by simp [World.cell?_setCell_other,h.c0],by simp [World.cell?_setCell_other,h.c1],World.cell?_setCell_same _ _ _ h.c2,fun i=>by rw [World.frozen?_setCell];exact h.f i,by simp [World.setCell];exact h.lt⟩
theorem Bx3.set {w:World}{b:Nat}{v0 v1 v2:Value}(h:Bx3 w b v0 v1 v2)(u0 u1 u2:Value):Bx3 (((w.setCell ⟨b,0,none⟩ u0).setCell ⟨b,1,none⟩ u1).setCell ⟨b,2,none⟩ u2) b u0 u1 u2:=((h.set0 u0).set1 u1).set2 u2
theorem NkI.step {l:List Lf}{k:Nat}{N N':List Ky ->Option (Nat×Nat)}(h:NkI l k N)(h':∀z,(N' z).isSome=true↔(N z).isSome=true \/z <+:Way (gL l k)):NkI l (k+1) N':=fun z=>by
 rw [h' z,h z];constructor
 ·rintro((e|⟨j,q,e⟩)|e)
  ·exact .inl e
  ·exact .inr ⟨j,by omega,e⟩
  ·exact .inr ⟨k,by omega,e⟩
 ·rintro(e|⟨j,q,e⟩)
  ·exact .inl (.inl e)
  ·by_cases m:j=k
   ·subst m;exact .inr e
   ·exact .inl (.inr ⟨j,by omega,e⟩)
theorem QoE (fl:Bool):(Lit.int .i64 (kd fl)).wf=true:=by cases fl<;>decide
theorem QgJ (a:Option Addr)(c:Nat)(l:List Lf)(x:Option Addr)(n d:Nat)(R F T:Nat ->Int)(w:World)(hn:l.length<=1048576)(hp:LBd l)(hi:∀i,LfI (gL l i))(hm:n<=1048576)(h:Qew w a l)(h':Qb5 w x n R F T)(hok:¬QaQ R F T n l):
  Calls Tryz.prog 20 #[.agg #[.slice a l.length c,.slice x n d]] w fun e w'=>e=.returned (.tuple #[.agg #[.map none,.map none,.map none],.bool false])/\ Below w.heap.size w w':=by
 obtain⟨W,k⟩:∃W,(w.alloc (.cells #[.slice a l.length c,.slice x n d] 29)).alloc (.cells #[.map none,.map none,.map none] 57)=W:=⟨_,rfl⟩;have m:Below w.heap.size w W:=by rw [<- k];exact Qak _ _ _
 have y:Bx3 W (w.heap.size+1) (.map none) (.map none) (.map none):=by rw [<- k];simpa using Bx3.made (w.alloc (.cells #[.slice a l.length c,.slice x n d] 29)) (.map none) (.map none) (.map none) 57
 have s:W.cell? ⟨w.heap.size,0,none⟩=some (.slice a l.length c):=by rw [<- k];simp
 have A:W.cell? ⟨w.heap.size,1,none⟩=some (.slice x n d):=by rw [<- k];simp
 have r:=hid (QfX a c l x n d R F T W hn hp hi hm (h.below m) (h'.below m));have b:=hid m;have z:=hid y;rw [Qaj hok] at r;clear h h' m y;go_enter Tryz.func20,Tryz.ntmps20;go_wp2_with fail;try rw [k]
 clear k;refine r.mono ?_;rintro e w1 ⟨⟨M,rfl⟩,u⟩;have j:=z.below u z.lt;have g:=j.c0;have t:=j.c1;have o:=j.c2;have O:=j.f 0;have Q:=j.f 1;have U:=j.f 2;have p:=hid (Qac b.out u);have q:=hid (j.set (.map none) (.map none) (.map none));clear u r s A j;go_wp2_with fail;have E:=q.c0;have r1:=q.c1;have r2:=q.c2;refine zF (v:=.tuple #[.agg #[.map none,.map none,.map none],.bool false]) (by simp [results,Tryz.results20,go_sem,E,r1,r2]) ⟨rfl,?_⟩;exact((p.setCell (by simp) _).setCell (by simp) _).setCell (by simp) _
theorem QaY.set {w:World}{bm n:Nat}{D:DataW Value}{G:Int ->Value}{L:Int ->List (Int×Int)}(h:QaY w bm n D G L)(q:Addr)(u:Value)(hq:q.block<bm):QaY (w.setCell q u) bm n D G L:=by
 have j:w.grownBy (w.setCell q u) (some q.block):=⟨rfl,rfl,rfl,by simp [World.setCell],fun k _ hk=>zH _ _ _ _ (fun e=>hk (by rw [e]))⟩;refine⟨h.own.kept j (fun e=>by injection e with e;omega),h.at',h.has',fun r=>(h.rows r).kept j ?_,h.apart⟩;cases e:(G r).ownBlock with
 | none=>exact .inl rfl
 | some g=>exact .inr (fun e2=>by have:=((h.rows r).lt g e).1;injection e2 with e2;omega)
theorem Qih (a:Option Addr)(c:Nat)(l:List Lf)(x:Option Addr)(n d:Nat)(R F T:Nat ->Int)(w:World)(hn:l.length<=1048576)(hp:LBd l)(hi:∀i,LfI (gL l i))(hm:n<=1048576)(h:Qew w a l)(h':Qb5 w x n R F T)(hok:QaQ R F T n l):
  Calls Tryz.prog 20 #[.agg #[.slice a l.length c,.slice x n d]] w fun e w'=>(∃x0 t D G N B,e=.returned (.tuple #[.agg #[.map (some x0.1),.map (some x0.2),.map (some t)],.bool true])/\ QaY w' t n D G (Lk R F T n)/\ w.heap.size<=t/\ w.heap.size<=B/\ t<B/\ Tre w' B N (Mk l l.length) (9*l.length)/\ N []=some x0/\ NkI l l.length N)/\ Below w.heap.size w w':=by
 obtain⟨W,J⟩:∃W,(w.alloc (.cells #[.slice a l.length c,.slice x n d] 29)).alloc (.cells #[.map none,.map none,.map none] 57)=W:=⟨_,rfl⟩;have P:Below w.heap.size w W:=by rw [<- J];exact Qak _ _ _
 have B0:Bx3 W (w.heap.size+1) (.map none) (.map none) (.map none):=by rw [<- J];simpa using Bx3.made (w.alloc (.cells #[.slice a l.length c,.slice x n d] 29)) (.map none) (.map none) (.map none) 57
 have k0:W.cell? ⟨w.heap.size,0,none⟩=some (.slice a l.length c):=by rw [<- J];simp
 have k1:W.cell? ⟨w.heap.size,1,none⟩=some (.slice x n d):=by rw [<- J];simp
 have HO:=hid (Qjq a c l x n d R F T W hn hp hi hm (h.below P) (h'.below P) hok);have Hx:=hid P;have C:=hid B0;have H3:=hid hok;have HL:=hid (h.below P);have Gb:=hok.2.1;clear h h' P B0 hok;go_enter Tryz.func20,Tryz.ntmps20;go_wp2_with fail;try rw [J]
 clear J;refine HO.mono ?_;rintro e w1 ⟨⟨t,D,G,rfl,Hb,H9⟩,b1⟩;have B1:=C.below b1 C.lt;have X:=hid B1;have HZ:=hid (Qac Hx.out b1);have k2:=(b1.cell (p:=⟨w.heap.size,0,none⟩) (show w.heap.size<W.heap.size by have:=C.lt;omega)).trans k0;have Hm:=hid (HL.below b1);have Hl:=hid Hb;have Hc:=hid (show w.heap.size+1<t from by have:=C.lt;omega);clear b1 HO k0 k1 B1 Hb H9 HL C;go_wp2_with fail;refine(Qea w1).mono ?_;rintro e Q ⟨u,g,rfl,Hw,Hu,Hv,m1,m2,b2⟩;obtain⟨o,L⟩:∃o,Q.alloc (.cells #[.map (some u),.map (some g)] 53)=o:=⟨_,rfl⟩;have Y:Below w1.heap.size w1 o:=by rw [<- L];exact b2.alloc b2.size _
 have NB:Bx2 o Q.heap.size (.map (some u)) (.map (some g)):=by rw [<- L];exact Bx2.made _ _ _ _
 have Hn:=hid NB;have T0:Tre o w1.heap.size (fun z=>if z=[] then some (u,g) else none) (Mk l 0) 0:=by
  have e1:o.heap[u]? =Q.heap[u]? :=by rw [<- L];exact Below.heap_alloc _ _ _ m1.lt
  have e2:o.heap[g]? =Q.heap[g]? :=by rw [<- L];exact Below.heap_alloc _ _ _ m2.lt
  refine⟨fun p x hx=> ?_,fun p x hx=> ?_,fun p q x y hx M=> ?_,fun p x hx=> ?_,fun p hp=>rfl,fun p y hp=>by simp⟩
  ·split at hx
   ·injection hx with hx;subst hx;exact(m1.same e1).ext (fun y=>by simp)
   ·cases hx
  ·split at hx
   ·injection hx with hx;subst hx;exact m2.same e2
   ·cases hx
  ·split at hx
   ·rename_i ep;split at M
    ·rename_i eq;injection hx with hx;injection M with M;subst hx;subst M;exact⟨Hw,fun _=>by rw [ep,eq],fun _=>by rw [ep,eq]⟩
    ·cases M
   ·cases hx
  ·split at hx
   ·injection hx with hx;subst hx;exact⟨Hu,Hv⟩
   ·cases hx
 have Hp:=hid T0;have He:=hid (X.below Y X.lt);have H6:=hid (Qac HZ.out Y);have k3:=(Y.cell (p:=⟨w.heap.size,0,none⟩) (show w.heap.size<w1.heap.size by have:=X.lt;omega)).trans k2;have H1:=hid (Hm.below Y);have H8:=hid Y;have U:=hid (show w.heap.size<=w1.heap.size/\ w.heap.size+1<w1.heap.size/\ t<w1.heap.size/\ w1.heap.size<=o.heap.size from⟨HZ.size,X.lt,Hl.own.lt,Y.size⟩);clear m1 m2 b2 Y NB T0 Hw Hu Hv X Hm k2;go_wp2_with fail;try rw [L]
 clear L k3;go_loopw [21] (fun i wr=>∃k:Nat,k<=l.length/\ i=.int .i64 k/\ Hid (Gt w1.heap.size o wr)/\ (∃N,Hid (Tre wr w1.heap.size N (Mk l k) (9*k))/\ Hid (N []=some (u,g))/\ Hid (NkI l k N))) (fun i _=>l.length - (intOf i).toNat);case atStart=>
  refine⟨0,Nat.zero_le _,rfl,hid (Gt.refl _ _),_,Hp,hid (if_pos rfl),hid (fun z=> ?_)⟩;show ((if z=[] then some (u,g) else none:Option (Nat×Nat)).isSome=true↔_);by_cases e:z=[]
  ·rw [if_pos e];exact⟨fun _=> .inl e,fun _=>rfl⟩
  ·rw [if_neg e];exact⟨fun h=>by simp at h,fun h=>by rcases h with h|⟨j,hj,_⟩;exact absurd h e;omega⟩
 case round=>
  clear Hp;obtain⟨k,hk,rfl,A,N,HT,HN,HI⟩:=hrel;by_cases Hj:k<l.length
  ·rcases (H1.gt A.out) with h|⟨b,off,rfl,hb,hc⟩
   ·omega
   obtain⟨pa,pc,x0,s,x1,x2,x3,x4⟩:=hc k Hj;have Hi:=H3.2.2.1 k Hj;have Hd:=hi k;have Hk:=hp k;have i1:(0:Int)<=(k:Int):=Int.natCast_nonneg _;have i2:(k:Int)<(l.length:Int):=by omega
   obtain⟨y,M⟩:∃y,gL l k=y:=⟨_,rfl⟩;rw [M] at s x0 x1 x2 x3 x4 Hk Hd Hi;have HS:=hid s;have HE:=hid M;obtain⟨p,fl,r,q,v⟩:=y;dsimp only [LfI] at HS x0 x1 x2 x3 x4 Hk Hd;have Ho:=hid Hi.1.1;have Ha:=hid (Hn.gt A.out);clear hc s M Hi;obtain⟨E,Ht⟩:∃E,wr.alloc (.cells #[.slice pa p.length pc,.bool fl,.int .i64 r,.int .i64 q,.string v] 77)=E:=⟨_,rfl⟩;have b4:Below wr.heap.size wr E:=by rw [<- Ht];exact zO _ _
   have m:Bx5 E wr.heap.size (.slice pa p.length pc) (.bool fl) (.int .i64 r) (.int .i64 q) (.string v):=by rw [<- Ht];exact⟨by simp,by simp,by simp,by simp,by simp,fun i=>by simp,by simp⟩
   have V:=Ha.below b4 Ha.lt;have y0:=m.c0;have y1:=m.c1;have y2:=m.c2;have y3:=m.c3;have y4:=m.c4;have n0:=V.c0;have n1:=V.c1;have H4:=hid (HS.below b4);have Hq:=hid (HT.below b4);have Hg:=hid (A.keep b4);clear b4 m V HS HT A Ha;go_wp2_with fail;have Hf:Hid (∀w',Gt w1.heap.size E w' ->(Gt w1.heap.size E w'/\ w'.cell? ⟨Q.heap.size,0,none⟩=some (.map (some u))/\ w'.cell? ⟨Q.heap.size,1,none⟩=some (.map (some g))/\ w'.cell? ⟨wr.heap.size,0,none⟩=some (.slice pa p.length pc)/\ w'.cell? ⟨wr.heap.size,1,none⟩=some (.bool fl)/\ w'.cell? ⟨wr.heap.size,2,none⟩=some (.int .i64 r)/\ w'.cell? ⟨wr.heap.size,3,none⟩=some (.int .i64 q)/\ w'.cell? ⟨wr.heap.size,4,none⟩=some (.string v))):=hid (fun w' hB=>⟨hB,hB.cell n0,hB.cell n1,hB.cell y0,hB.cell y1,hB.cell y2,hB.cell y3,hB.cell y4⟩);refine zR (S:=fun w'=>Gt w1.heap.size E w'/\ w'.cell? ⟨Q.heap.size,0,none⟩=some (.map (some u))/\ w'.cell? ⟨Q.heap.size,1,none⟩=some (.map (some g))/\ w'.cell? ⟨wr.heap.size,0,none⟩=some (.slice pa p.length pc)/\ w'.cell? ⟨wr.heap.size,1,none⟩=some (.bool fl)/\ w'.cell? ⟨wr.heap.size,2,none⟩=some (.int .i64 r)/\ w'.cell? ⟨wr.heap.size,3,none⟩=some (.int .i64 q)/\ w'.cell? ⟨wr.heap.size,4,none⟩=some (.string v)) (Hf _ (Gt.of_below zI.drew)) (fun qh=> ?_);refine tZ 0 25 ?_;refine tZ 1 26 ?_;refine tZ 2 27 ?_;refine tZ 3 28 ?_;refine tZ 5 30 ?_;refine tZ 6 31 ?_;refine tZ 7 32 ?_;refine tZ 8 33 ?_;refine tZ 9 34 ?_;refine cZ 4 ?_;intro K hK;go_simp;refine(Qfk _ fl _ _ _ _).mono ?_;rintro e w5 ⟨rfl,Z⟩;have O:Below E.heap.size E w5:=⟨Z.os,Z.tape,Z.output,Z.size,Z.block⟩;refine hK.out _ _ (Hf _ (Gt.of_below O)) (fun qh=> ?_);clear hK K;try simp only [zP]
   refine cZ 10 ?_;intro K hK;go_simp;refine(Qp0 0 p pa pc (kd fl) r q v w1.heap.size (9*k) N (Mk l k) (u,g) w5 Hk (fun i=> ?_) (QoE fl) Hd.1 Hd.2 (by omega) ?_ (H4.below O) (Hq.below O) HN.out ?_ (fun z x hz=> ?_)).mono ?_
   ·by_cases Ga:i<p.length
    ·have:=(Ho.2.2 i Ga).2;omega
    ·rw [Qnz (by omega)];simp
   ·have h1:=U.2.2.2;have h2:=Hg.size;have h3:=O.size;omega
   ·have h1:=U.out;have h2:=Hg.size;have h3:=O.size;omega
   ·have h1:=Hq.lo z x hz;have h2:=U.2.1;exact⟨by omega,by omega⟩
   rintro e w6 ⟨rfl,g6,_,N',T6,Hs,Hr⟩;have Hy:=hid ((Hg.keep O).trans g6);have H5:=hid T6;have H0:=hid Hr;have H2:=hid Hs;refine hK.out _ _ (Hf _ ((Gt.of_below O).trans g6)) (fun qh=> ?_);clear hK K;try simp only [zP]
   refine zD ?_;clear qh Z O g6 T6 Hs Hr;go_wp2_with fail;go_roundw;case rel=>
    have Gc:=Ho.2.1;refine⟨k+1,Hj,by go_num,Hy,N',hid ?_,H2,hid (HI.step ?_)⟩
    ·have e:Mk l (k+1)=QjT (Mk l k) (Qad p (kd fl)) (r,q) v:=by simp only [Mk];rw [HE.out]
     rw [e];exact H5.mono (by omega)
    ·rw [HE.out];exact H0.out
   case measure=>simp [intOf];omega
  ·obtain rfl:k=l.length:=by omega
   have V:=Hn.gt A.out;have n0:=V.c0;have n1:=V.c1;have m:=He.gt A.out;have H:=m.c0;have I:=m.c1;have c2:=m.c2;have f0:=m.f 0;have f1:=m.f 1;have f2:=m.f 2;have HC:=hid (m.set (.map (some u)) (.map (some g)) (.map (some t)));have Hh:Below w1.heap.size o wr:=A.below U.2.2.2;have Hz:=hid (Hl.below (H8.trans Hh));have H7:=hid (H6.trans (Hh.mono U.1));clear V m Hh;go_wp2_with fail;have r0:=HC.c0;have r1:=HC.c1;have r2:=HC.c2;refine zF (v:=.tuple #[.agg #[.map (some u),.map (some g),.map (some t)],.bool true]) (by simp [results,Tryz.results20,go_sem,r0,r1,r2]) ⟨⟨(u,g),t,D,G,N,w1.heap.size,rfl,?_,by have:=Hc.out;omega,U.1,U.2.2.1,?_,HN.out,HI.out⟩,?_⟩
   ·exact((Hz.set _ _ Hc.out).set _ _ Hc.out).set _ _ Hc.out
   ·exact((HT.set _ H).set _ (He.gt A.out|>.set0 _).c1).set _ ((He.gt A.out|>.set0 _).set1 _).c2
   ·exact((H7.setCell (by simp) _).setCell (by simp) _).setCell (by simp) _
theorem Qbu {P:Program}{ops:Array Oper}{Q:Exit ->Act ->World ->Prop}{md:Region.Mode}{S:World ->Prop}{i j:Nat}{d d':Option Tmp}{fuel:Nat}{listed:Array Bool}{a:Act}{w:World}
  (hd:ops[i]?.map (fun o=>o.dst)=some d) (hd':ops[j]?.map (fun o=>o.dst)=some d') (hr:Region.ready md ops listed=[i,j])
  (h:∀o,ops[i]? =some o ->o.dst=d ->∀K':Act ->World ->Prop,Shut (∀a w,S w ->(S w ->wpAnyH P md ops Q S fuel (listed.setIfInBounds i true) a w) ->K' a w) ->if Region.wanted o (yielded ops a.tmps)=true then Oper.wp P o a w K' Q else K' (a.put o.dst undef) w)
  (h':∀o,ops[j]? =some o ->o.dst=d' ->∀K':Act ->World ->Prop,Shut (∀a w,S w ->(S w ->wpAnyH P md ops Q S fuel (listed.setIfInBounds j true) a w) ->K' a w) ->if Region.wanted o (yielded ops a.tmps)=true then Oper.wp P o a w K' Q else K' (a.put o.dst undef) w):
  wpAnyH P md ops Q S (fuel+1) listed a w:=by
 obtain⟨o,k,q⟩:=Option.map_eq_some_iff.1 hd;obtain⟨u,m,r⟩:=Option.map_eq_some_iff.1 hd';exact wpAnyH_ready hr (by simp) (AllReadyH.cons k (h o k q) (AllReadyH.cons m (h' u m r) AllReadyH.nil))
def mF (o:Option (Nat×Nat)):Option Nat:=o.map Prod.fst
def mS (o:Option (Nat×Nat)):Option Nat:=o.map Prod.snd
theorem QmF (o:Option (Nat×Nat)):Qdp o=.agg #[.map (mF o),.map (mS o)]:=by cases o<;>rfl
theorem Tre.look {w:World}{B c:Nat}{N:List Ky ->Option (Nat×Nat)}{M:List Ky ->Dt ->Option ByteArray}(h:Tre w B N M c)(p:List Ky)(y:Ky){kl:Lit}(hk:keyOf Tryz.prog 113 (Qbr y)=some kl):
  (Instr.lookup 50 (.map (mF (N p))) (Qbr y) false).run Tryz.prog w=.ok (.agg #[.map (mF (N (p++[y]))),.map (mS (N (p++[y])))]) w:=by
 rw [<- QmF];cases e:N p with
 | some x=>exact(h.kids p x e).look Qb0 Tryz.underlying50 (Qf6 w) hk
 | none=>
  rw [h.up p y e];exact Maps.look_nil false Qb0 Tryz.underlying50 (Qf6 w) hk
end Go.Proofs.YtjdcfkmhmnblbaaGreatDoor
