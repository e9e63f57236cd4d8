import Derived.Test.YtdeolligikjieaaGreatDoorFkg19
import Derived.Test.YtdeolligikjieaaGreatDoorFkg11
import Derived.Test.YtdeolligikjieaaGreatDoorFkg13
import Derived.Test.YtdeolligikjieaaGreatDoorFkg18
import Derived.Test.YtdeolligikjieaaGreatDoorFkg15
import Derived.Test.YtdeolligikjieaaGreatDoorFkg12
set_option linter.unusedVariables false
set_option linter.unusedSimpArgs false
set_option maxRecDepth 100000
set_option maxHeartbeats 40000000
namespace Go.Proofs.YtdeolligikjieaaGreatDoor
open Go.ChangeShapes Go.WideShapes Go.ChangeAt Go.RowKit
noncomputable def stM (M:List Ky ->Dt ->Option ByteArray)(z:Lf):List Ky ->Dt ->Option ByteArray:=QjN M (Way z) (z.r,z.q) z.v
theorem Qiq (l:List Lf):∀k,k<=l.length ->Mk l k=(l.take k).foldl stM (fun _ _=>none)
 | 0,_=>by simp [Mk]
 | k+1,h=>by
  rw [QiG (by omega),List.foldl_append,<- Qiq l k (by omega)];rfl
theorem Qek (l:List Lf):Mk l l.length=l.foldl stM (fun _ _=>none):=by
 rw [Qiq l _ zL,List.take_length]
theorem Qdx {q:List Ky}:∀(m:List Lf) (M:List Ky ->Dt ->Option ByteArray),(∀z∈m,Way z≠q) ->(m.foldl stM M) q=M q
 | [],M,_=>rfl
 | z::m,M,h=>by
  rw [List.foldl_cons,Qdx m _ (fun y hy=>h y (List.mem_cons_of_mem _ hy))];exact Qbd _ _ _ (Ne.symm (h z (List.mem_cons_self ..)))
theorem QnX {q:List Ky}:∀(m:List Lf) (M M':List Ky ->Dt ->Option ByteArray),M q=M' q ->(m.foldl stM M) q=(m.foldl stM M') q
 | [],M,M',h=>h
 | z::m,M,M',h=>by
  rw [List.foldl_cons,List.foldl_cons];refine QnX m _ _ ?_;unfold stM;by_cases e:q=Way z
  ·subst e;rw [QbD,QbD,h]
  ·rw [Qbd _ _ _ e,Qbd _ _ _ e,h]
theorem Qj8 {q:List Ky}:∀(m:List Lf) (M:List Ky ->Dt ->Option ByteArray),(∀z∈m,Way z=q) ->(m.foldl stM M) q=m.foldl (fun g z=>Qe8 g (z.r,z.q) (some z.v)) (M q)
 | [],M,_=>rfl
 | z::m,M,h=>by
  rw [List.foldl_cons,List.foldl_cons,Qj8 m _ (fun y hy=>h y (List.mem_cons_of_mem _ hy))];have e:=h z (List.mem_cons_self ..);congr 1;unfold stM;rw [e,QbD]
theorem QgR {l m:List Lf}{q:List Ky}(h:∀z∈m,Way z≠q):Mk (l++m) (l++m).length q=Mk l l.length q:=by
 rw [Qek,Qek,List.foldl_append,Qdx m _ h]
theorem QjP {l m:List Lf}{q:List Ky}(h:∀z∈l,Way z≠q):Mk (l++m) (l++m).length q=Mk m m.length q:=by
 rw [Qek,Qek,List.foldl_append];exact QnX m _ _ (Qdx l _ h)
theorem QmQ {l:List Lf}{q:List Ky}(h:∀z∈l,Way z=q):Mk l l.length q=lsM l:=by
 rw [Qek,Qj8 l _ h];rfl
theorem QlK {l:List Lf}{q:List Ky}(h:∀z∈l,Way z≠q):Mk l l.length q=fun _=>none:=by
 rw [Qek,Qdx l _ h]
theorem QeA (p:List ByteArray)(s:ByteArray)(k:Int):Qac (p++[s]) k=Qac p 3++[(s,k)]:=by
 unfold Qac;rw [List.length_append,List.length_singleton,List.range_succ,List.map_append];congr 1
 ·refine List.map_congr_left fun i j=> ?_;have j:=List.mem_range.1 j;rw [if_pos (by omega)];have e:gS (p++[s]) i=gS p i:=by simp [gS,List.getD,List.getElem?_append_left j]
  rw [e];by_cases h:i+1<p.length
  ·rw [if_pos h]
  ·rw [if_neg h]
 ·simp [gS,List.getD]
theorem JF.leaves {w:World}{B:Nat}{l:List Lf}{z:List Ky}{s s':Nat}(hz:∀x∈l,Way x=z)(hss:s≠s')(h1:B<=s)(h2:B<=s')(m1:QaZ w 88 (α:=Ky) Qbs Qdg s 0 (fun _=>none))(m2:QaZ w 67 (α:=Dt) dtV Qey s' l.length (lsM l)):
  JF w B l z (fun r=>if r=[] then some (s,s') else none) l.length (s,s'):=by
 have u:∀y r,∀x∈l,Way x≠z++y::r:=fun y r x j e=>by
  have:=congrArg List.length ((hz x j).symm.trans e);simp at this
 have k:∀p x,(fun r:List Ky=>if r=[] then some (s,s') else none) p=some x ->p=[]/\ x=(s,s'):=fun p x h=>by
  by_cases e:p=[]
  ·simp [e] at h;exact⟨e,h.symm⟩
  ·simp [e] at h
 refine⟨⟨fun p x j=> ?_,fun p x j=> ?_,fun p q x y j hy=> ?_,fun p x j=> ?_,fun p m=> ?_,fun p y m=> ?_⟩,by simp,fun y r=> ?_⟩
 ·obtain⟨rfl,rfl⟩:=k p x j;exact(m1.mono (Nat.zero_le _)).ext (fun y=>by simp)
 ·obtain⟨rfl,rfl⟩:=k p x j;rw [List.append_nil,QmQ hz];exact m2
 ·obtain⟨rfl,rfl⟩:=k p x j;obtain⟨rfl,rfl⟩:=k q y hy;exact⟨hss,fun _=>rfl,fun _=>rfl⟩
 ·obtain⟨rfl,rfl⟩:=k p x j;exact⟨h1,h2⟩
 ·cases p with
  | nil=>simp at m
  | cons y r=>exact QlK (u y r)
 ·simp
 ·constructor
  ·intro h;simp at h
  ·rintro⟨x,j,m⟩;rw [hz x j] at m;have:=m.length_le;simp at this;omega
theorem JF.more {w:World}{B:Nat}{J J':List Lf}{z:List Ky}{N:List Ky ->Option (Nat×Nat)}{c:Nat}{x0:Nat×Nat}(h:JF w B J' z N c x0)(hn:∀x∈J,¬z <+:Way x):JF w B (J++J') z N c x0:=by
 have e:(fun r=>Mk (J++J') (J++J').length (z++r))=fun r=>Mk J' J'.length (z++r):=by
  funext r;exact QjP (fun x j e=>hn x j (by rw [e];exact List.prefix_append _ _))
 refine⟨by rw [e];exact h.tre,h.root,fun y r=>(h.there y r).trans ?_⟩;constructor
 ·rintro⟨x,j,k⟩;exact⟨x,List.mem_append.2 (.inr j),k⟩
 ·rintro⟨x,j,k⟩;rcases List.mem_append.1 j with j|j
  ·exact absurd ((List.prefix_append z (y::r)).trans k) (hn x j)
  ·exact⟨x,j,k⟩
theorem JT.more {w:World}{B:Nat}{J J':List Lf}{z:List Ky}{K:Ky ->Prop}{N:List Ky ->Option (Nat×Nat)}{c:Nat}{x0:Nat×Nat}(h:JT w B J z K N c x0)(h0:∀x∈J',Way x≠z)(hn:∀x∈J',∀y,K y ->¬(z++[y]) <+:Way x):JT w B (J++J') z K N c x0:=by
 have u:∀y r,z++y::r=(z++[y])++r:=fun y r=>by simp
 have e:mJ (J++J') z K=mJ J z K:=by
  funext r;cases r with
  | nil=>exact QgR h0
  | cons y r=>
   simp only [mJ];by_cases k:K y
   ·rw [if_pos (Qal k),if_pos (Qal k)];exact QgR (fun x j e=>hn x j y k (by rw [e,u y r];exact List.prefix_append _ _))
   ·rw [if_neg (by rw [Qaj k];simp),if_neg (by rw [Qaj k];simp)]
 refine⟨by rw [e];exact h.tre,h.root,fun y r=>(h.there y r).trans ?_⟩;constructor
 ·rintro⟨m,x,j,q⟩;exact⟨m,x,List.mem_append.2 (.inl j),q⟩
 ·rintro⟨m,x,j,q⟩;rcases List.mem_append.1 j with j|j
  ·exact⟨m,x,j,q⟩
  ·exact absurd ((by rw [u y r];exact List.prefix_append _ _:(z++[y]) <+:z++y::r).trans q) (hn x j y m)
section
variable {f : Nat -> Int} {n : Nat} {K : Int -> Int -> Bool} {kind : Int} {p : List ByteArray}
theorem Qk5 {before:Dt}{acc:List Lf}{x x':Nat}{z:Lf}(h:Qej f n K kind p before acc x=some (z,x')):z.p=p/\ z.fl=decide (kind=2):=by
 unfold Qej at h;obtain⟨j,m,h⟩:=Qad.1 h;obtain⟨k,q,h⟩:=Qad.1 h;split at h
 ·split at h
  ·rename_i hk;simp only [Option.some.injEq,Prod.mk.injEq] at h;obtain⟨rfl,_⟩:=h;exact⟨rfl,by simp [hk]⟩
  ·rename_i hk;obtain⟨t,_,h⟩:=Qad.1 h;simp only [Option.some.injEq,Prod.mk.injEq] at h;obtain⟨rfl,_⟩:=h;exact⟨rfl,by simp [hk]⟩
 ·cases h
theorem Qh3:∀(k:Nat) (before:Dt) (acc:List Lf) (x:Nat) {acc':List Lf} {x':Nat},Qia f n K kind p k before acc x=some (acc',x') ->∃l,acc'=acc++l/\ l.length=k/\∀z∈l,z.p=p/\ z.fl=decide (kind=2)
 | 0,before,acc,x,acc',x',h=>by
  simp only [Qia,Option.some.injEq,Prod.mk.injEq] at h;exact⟨[],by simp [h.1],rfl,fun z j=>by simp at j⟩
 | k+1,before,acc,x,acc',x',h=>by
  unfold Qia at h;obtain⟨a,m,h⟩:=Qad.1 h;obtain⟨l,e,q,r⟩:=Qh3 k _ _ _ h;refine⟨a.1::l,by rw [e];simp,by simp [q],fun z j=> ?_⟩;rcases List.mem_cons.1 j with rfl|j
  ·exact Qk5 (x':=a.2) m
  ·exact r z j
theorem Qk6 {acc l:List Lf}{x x':Nat}(h:QgE f n K kind p acc x=some (acc++l,x')):l≠[]/\∀z∈l,z.p=p/\ z.fl=decide (kind=2):=by
 unfold QgE at h;obtain⟨a,r,h⟩:=Qad.1 h;by_cases j:a.1=0
 ·rw [if_pos j] at h;cases h
 ·rw [if_neg j] at h;obtain⟨u,e,k,q⟩:=Qh3 a.1 _ _ _ h;have m:=List.append_cancel_left e;subst m;refine⟨fun e=>by rw [e] at k;simp at k;omega,q⟩
end
def NdP (w:World)(tb B kb ub bs hi:Nat)(a:Option Addr)(n c:Nat)(f:Nat ->Int)(aT aS aL aE:Addr)(L:Int ->List (Int×Int))(acc:List Lf)(R:Option (List Lf×Nat))(z:List Ky)(D:Nat)(e:Ending)(w':World):Prop:=G2 tb ub w w'/\
 ((∃(J:List Lf) (x' cnt:Nat) (N:List Ky ->Option (Nat×Nat)) (x0:Nat×Nat),R=some (acc++J,x')/\ e=.returned (.tuple #[.agg #[.map (some x0.1),.map (some x0.2)],.nilIface])/\ TS w' tb B kb ub bs hi a n c f aT aS aL aE L ((x':Nat):Int) (acc++J)/\
   (∀y∈J,z <+:Way y)/\ (J≠[] \/z=[])/\ cnt<=D*J.length/\ (acc++J).length<=1000/\ JF w' w.heap.size J z N cnt x0) \/
  (R=none/\∃t v,e=.returned (.tuple #[.agg #[.map none,.map none],.iface t v])))
section
variable {w w' : World} {B B' c c' tb ub : Nat} {N : List Ky -> Option (Nat × Nat)} {M : List Ky -> Dt -> Option ByteArray} {J : List Lf} {z : List Ky} {K : Ky -> Prop} {x0 : Nat × Nat}
theorem Tre.g2 (h:Tre w B N M c)(g:G2 tb ub w w')(h1:tb<B)(h2:ub<B):Tre w' B N M c:=h.same fun p x hx=>by
 have l:=h.lo p x hx;have k:=h.lt hx;exact⟨g.block _ k.1 (by omega) (by omega),g.block _ k.2 (by omega) (by omega)⟩
theorem Tre.box (h:Tre w B N M c){b i:Nat}{v:Value}(hc:w.cell? ⟨b,i,none⟩=some v)(g:w.grownBy w' (some b)):Tre w' B N M c:=h.same fun p x hx=>by
 refine⟨g.block _ (h.lt hx).1 fun e=> ?_,g.block _ (h.lt hx).2 fun e=> ?_⟩
 ·injection e with e;obtain⟨m,k,j⟩:=(h.kids p x hx).obj;rw [e] at j;exact Qci hc _ _ j
 ·injection e with e;obtain⟨m,k,j⟩:=(h.marks p x hx).obj;rw [e] at j;exact Qci hc _ _ j
theorem JF.lower (h:JF w B J z N c x0)(hb:B'<=B):JF w B' J z N c x0:=⟨h.tre.lower hb,h.root,h.there⟩
theorem JF.mono (h:JF w B J z N c x0)(hc:c<=c'):JF w B J z N c' x0:=⟨h.tre.mono hc,h.root,h.there⟩
theorem JF.box (h:JF w B J z N c x0){b i:Nat}{v:Value}(hc:w.cell? ⟨b,i,none⟩=some v)(g:w.grownBy w' (some b)):JF w' B J z N c x0:=⟨h.tre.box hc g,h.root,h.there⟩
theorem JF.below (h:JF w B J z N c x0)(hb:Below w.heap.size w w'):JF w' B J z N c x0:=⟨h.tre.below hb,h.root,h.there⟩
theorem JT.box (h:JT w B J z K N c x0){b i:Nat}{v:Value}(hc:w.cell? ⟨b,i,none⟩=some v)(g:w.grownBy w' (some b)):JT w' B J z K N c x0:=⟨h.tre.box hc g,h.root,h.there⟩
theorem JT.g2 (h:JT w B J z K N c x0)(g:G2 tb ub w w')(h1:tb<B)(h2:ub<B):JT w' B J z K N c x0:=⟨h.tre.g2 g h1 h2,h.root,h.there⟩
theorem JT.new (z:List Ky)(hk:QaZ w 88 (α:=Ky) Qbs Qdg x0.1 0 (fun _=>none))(hm:QaZ w 67 (α:=Dt) dtV Qey x0.2 0 (fun _=>none))(hne:x0.1≠x0.2)(hB:B<=x0.1/\ B<=x0.2):JT w B [] z (fun _=>False) (fun r=>if r=[] then some x0 else none) 0 x0:=by
 have e:mJ [] z (fun _=>False)=fun _ _=>none:=by
  funext r;cases r with
  | nil=>rfl
  | cons y r=>simp only [mJ];rw [if_neg (by rw [Qaj (fun h=>h)];simp)]
 refine⟨by rw [e];exact Tre.new hk hm hne hB,by simp,fun y r=> ?_⟩;simp
theorem QgB {u v:Ky}{q:List Ky}(h1:z++[u] <+:q)(h2:z++[v] <+:q):u=v:=by
 have e:=List.IsPrefix.eq_of_length (List.prefix_of_prefix_length_le h1 h2 (by simp)) (by simp);simpa using e
end
structure TL (w:World)(B:Nat)(l:List Lf)(z:List Ky)(before:Ky)(D k:Nat)(x0:Nat×Nat):Prop where
 ex:∃(K:Ky ->Prop) (N:List Ky ->Option (Nat×Nat)) (c:Nat),JT w B l z K N c x0/\ (∀u,K u ->Qb7 u before<=0)/\ (∀x∈l,∃v,K v/\ (z++[v]) <+:Way x)/\ c<=D*l.length
 some':k<=l.length
section
variable {w w' v : World} {B D k tb ub : Nat} {J l : List Lf} {z : List Ky} {before y : Ky} {x0 : Nat × Nat}
theorem TL.new (z:List Ky)(before:Ky)(D:Nat)(hk:QaZ w 88 (α:=Ky) Qbs Qdg x0.1 0 (fun _=>none))(hm:QaZ w 67 (α:=Dt) dtV Qey x0.2 0 (fun _=>none))(hne:x0.1≠x0.2)(hB:B<=x0.1/\ B<=x0.2):TL w B [] z before D 0 x0:=
 ⟨⟨_,_,0,JT.new z hk hm hne hB,fun _ h=>h.elim,fun x hx=>by simp at hx,Nat.zero_le _⟩,Nat.zero_le _⟩
theorem TL.box (h:TL w B l z before D k x0){b i:Nat}{v:Value}(hc:w.cell? ⟨b,i,none⟩=some v)(g:w.grownBy w' (some b)):TL w' B l z before D k x0:=by
 obtain⟨⟨K,N,c,j,m⟩,q⟩:=h;exact⟨⟨K,N,c,j.box hc g,m⟩,q⟩
theorem TL.full (h:TL w B l z before D k x0):∃N c,JF w B l z N c x0/\ c<=D*l.length/\∀x∈l,z <+:Way x:=by
 obtain⟨⟨K,N,c,r,g,m,u⟩,_⟩:=h;refine⟨N,c,r.full fun y ⟨x,hx,hp⟩=> ?_,u,fun x hx=> ?_⟩
 ·obtain⟨v,q,j⟩:=m x hx;rw [QgB hp j];exact q
 ·obtain⟨v,q,j⟩:=m x hx;exact(List.prefix_append _ _).trans j
theorem TL.hang {B1 cnt:Nat}{N1:List Ky ->Option (Nat×Nat)}{x1:Nat×Nat}(h:TL w B l z before (D+1) k x0)(g:G2 tb ub w v)(h1:tb<B)(h2:ub<B)(hj:JF v B1 J (z++[y]) N1 cnt x1)(hb1:w.heap.size<=B1)(hb:B<=w.heap.size)(hy:Qb7 before y<0)(hJ:∀x∈J,(z++[y]) <+:Way x)(hne:J≠[])(hc:cnt<=D*J.length):
  ∃(c:Nat) (F:Ky ->Option (Nat×Nat)),c<=(D+1)*(l++J).length/\ QaZ v 88 Qbs Qdg x0.1 c F/\∀w',v.grownBy w' (some x0.1) ->QaZ w' 88 Qbs Qdg x0.1 (c+1) (Qe8 F y (some x1)) ->TL w' B (l++J) z y (D+1) (k+1) x0:=by
 obtain⟨⟨K,N,c,A,i,E,I⟩,L⟩:=h;have Z:1<=J.length:=List.length_pos_iff.2 hne;have G:D*J.length+1<=(D+1)*J.length:=by rw [Nat.succ_mul];omega
 have H:(D+1)*(l++J).length=(D+1)*l.length+(D+1)*J.length:=by rw [List.length_append,Nat.mul_add]
 have t:¬K y:=fun hk=>by
  have:=i y hk;have:=QaF.key.neg y before;have:=QaF.key.irr y;rcases Int.lt_or_eq_of_le (i y hk) with e|e
  ·have:=QaF.key.tr _ _ _ e hy;omega
  ·rw [(QaF.key.z _ _).1 e] at hy;rw [QaF.key.irr] at hy;omega
 have Q:=A.g2 g h1 h2;have s:JT v B (l++J) z K N (c+cnt) x0:=(Q.more (fun x j e=>by
  have:=(hJ x j).length_le;rw [e] at this;simp at this;omega) (fun x j u r hp=>by
  have e:=QgB hp (hJ x j);rw [e] at r;exact t r)).mono (Nat.le_add_right _ _)
 have U:JF v B (l++J) (z++[y]) N1 (c+cnt) x1:=(((hj.lower (Nat.le_trans hb hb1)).more (fun x j hp=>by
  obtain⟨u,r,o⟩:=E x j;rw [QgB hp o] at t;exact t r)).mono (Nat.le_add_left _ _))
 refine⟨c+cnt,fun u=>N [u],by omega,s.tre.kids [] x0 s.root,fun w' gw m=> ?_⟩;have M:ApN N N1:=fun p q a b ha hb'=>by
  have V:=A.tre.lt ha;have Y:=hj.tre.lo q b hb';exact⟨by omega,by omega,by omega,by omega⟩
 have O:=s.hang U t ⟨_,List.mem_append.2 (.inr (List.getLast_mem hne)),hJ _ (List.getLast_mem hne)⟩ M gw (m.ext fun u=>by
  by_cases e:u=y
  ·subst e;rw [Qax,if_pos rfl]
  ·rw [Qan _ _ e,if_neg e])
 refine⟨⟨_,_,_,O,fun u r=> ?_,fun x j=> ?_,by omega⟩,by rw [List.length_append];omega⟩
 ·rcases r with r|rfl
  ·rcases Int.lt_or_eq_of_le (i u r) with e|e
   ·exact Int.le_of_lt (QaF.key.tr _ _ _ e hy)
   ·rw [(QaF.key.z _ _).1 e];exact Int.le_of_lt hy
  ·rw [QaF.key.irr];exact Int.le_refl _
 ·rcases List.mem_append.1 j with j|j
  ·obtain⟨u,r,o⟩:=E x j;exact⟨u,.inl r,o⟩
  ·exact⟨y,.inr rfl,hJ x j⟩
end
section
variable {w W w' : World} {tb B kb ub bs hi : Nat} {a : Option Addr} {n c : Nat} {f : Nat -> Int} {aT aS aL aE : Addr} {L : Int -> List (Int × Int)} {acc : List Lf} {R : Option (List Lf × Nat)} {z : List Ky} {D D' : Nat} {e : Ending}
end
open Go.Maps
section
variable {w W w' : World} {tb B kb ub bs hi : Nat} {a : Option Addr} {n c : Nat} {f : Nat -> Int} {aT aS aL aE : Addr} {L : Int -> List (Int × Int)} {acc : List Lf} {R : Option (List Lf × Nat)} {z : List Ky} {D D' : Nat} {e : Ending}
theorem LvP.node {x:Nat}{kind:Int}{s:ByteArray}{p:List ByteArray}(hk:kind=1 \/kind=2)(hD:1<=D)(h:LvP w tb B kb ub bs hi a n c f aT aS aL aE L x acc kind (p++[s]) e w'):NdP w tb B kb ub bs hi a n c f aT aS aL aE L acc (QgE f n (fun r q=>inB (L r) q q) kind (p++[s]) acc x) (Qac p 3++[(s,kind)]) D e w':=by
 obtain⟨g,⟨l,x',Q,U,j,v,z,t,o,i,b,A,E⟩|h⟩:=h
 ·obtain⟨M,O⟩:=Qk6 j;have k:∀x∈l,Way x=Qac p 3++[(s,kind)]:=fun x hx=>by
   obtain⟨m,u⟩:=O x hx;unfold Way;rw [m,u,QeA];rcases hk with rfl|rfl<;>rfl
  exact⟨g,.inl ⟨l,x',l.length,_,(Q,U),j,v,z,fun y hy=>by rw [k y hy];exact List.prefix_refl _,.inl M,Nat.le_mul_of_pos_left _ hD,t,JF.leaves k o i b A E⟩⟩
 ·exact⟨g,.inr h⟩
end
theorem NB.fill2 {v:World}{b:Nat}(h:NB v b)(s s':Option Nat):
  ∃Z,Z=(v.setCell ⟨b,0,none⟩ (.map s)).setCell ⟨b,1,none⟩ (.map s')/\ Z.cell? ⟨b,0,none⟩=some (.map s)/\ Z.cell? ⟨b,1,none⟩=some (.map s')/\ v.grownBy Z (some b):=by
 obtain⟨r,m⟩:=h.c0;obtain⟨u,q⟩:=h.c1;refine⟨_,rfl,?_,?_,⟨rfl,rfl,rfl,by simp [World.setCell],fun k hk hne=> ?_⟩⟩
 ·rw [World.cell?_setCell_other _ _ _ _ (by simp)];exact World.cell?_setCell_same _ _ _ m
 ·exact World.cell?_setCell_same _ _ _ (by rw [World.cell?_setCell_other _ _ _ _ (by simp)];exact q)
 ·have j:k≠b:=fun e=>hne (by rw [e]);exact(zH _ _ _ _ j).trans (zH _ _ _ _ j)
theorem Qpm (tb B kb ub bs hi:Nat)(a:Option Addr)(n c:Nat)(f:Nat ->Int)(aT aS aL aE:Addr)(L:Int ->List (Int×Int))(x:Nat)(acc:List Lf)(s:ByteArray)(kind dep:Int)(p:List ByteArray)(rec:List ByteArray ->List Lf ->Nat ->Option (List Lf×Nat))(D:Nat)(w:World)(hn:n<=1048576)(hnc:n<=c)(hcc:c<=9223372036854775807)(hf:Byt f)(hD:1<=D)
  (hT:TS w tb B kb ub bs hi a n c f aT aS aL aE L (x:Int) acc) (hhi:hi<=w.heap.size) (hS:∀r,Srt (L r)/\ (L r).length<=1000000) (hl:acc.length<=1000)
  (hrec:kind=3 ->∀W,TS W tb B kb ub bs hi a n c f aT aS aL aE L (x:Int) acc ->hi<=W.heap.size ->Calls Tryz.prog 42 #[.pointer (some ⟨tb,0,none⟩),.int .i64 dep] W fun e w'=>NdP W tb B kb ub bs hi a n c f aT aS aL aE L acc (rec (p++[s]) acc x) (Qac p 3++[(s,kind)]) D e w'):
  Calls Tryz.prog 77 #[.pointer (some ⟨tb,0,none⟩),.int .i64 kind,.int .i64 dep] w fun e w'=>NdP w tb B kb ub bs hi a n c f aT aS aL aE L acc (Qij f n (fun r q=>inB (L r) q q) rec p (s,kind) acc x) (Qac p 3++[(s,kind)]) D e w':=by
 obtain⟨P,hP⟩:∃P,NdP w tb B kb ub bs hi a n c f aT aS aL aE L acc (Qij f n (fun r q=>inB (L r) q q) rec p (s,kind) acc x) (Qac p 3++[(s,kind)]) D=P:=⟨_,rfl⟩;rw [hP];have HP:=hid hP;clear hP;obtain⟨W,b⟩:∃W,w.alloc (.cells #[.map none,.map none] 45)=W:=⟨_,rfl⟩;have b0:Below w.heap.size w W:=by rw [<- b];exact zO _ _
 have zW:W.heap.size=w.heap.size+1:=by rw [<- b];simp
 have H:Hid (NB W w.heap.size):=hid (by rw [<- b];exact NB.made _ _);have F:=hid (hT.below b0);have G:=hid (G2.below (tb:=tb) (ub:=ub) b0);have He:tb<w.heap.size:=hT.cur.lt;have Hi:ub<w.heap.size:=hT.us.lt;have Hd:=hT.bt;have Hf:w.heap.size≠tb:=by omega
 have Hg:w.heap.size≠ub:=by omega
 have Ha:w.heap.size<=w.heap.size:=Nat.le_refl _;have HZ:=hid zW;have V:Hid (∀(R:Option (List Lf×Nat)) (e:Ending) (w1:World),Qij f n (fun r q=>inB (L r) q q) rec p (s,kind) acc x=R ->NdP W tb B kb ub bs hi a n c f aT aS aL aE L acc R (Qac p 3++[(s,kind)]) D e w1 ->
   (∃t v,e=.returned (.tuple #[.agg #[.map none,.map none],.iface t v])/\ NB w1 w.heap.size/\∀Z,G2 tb ub w1 Z \/w1.grownBy Z (some w.heap.size) ->P (.returned (.tuple #[.agg #[.map none,.map none],.iface t v])) Z) \/
   (∃x0:Nat×Nat,e=.returned (.tuple #[.agg #[.map (some x0.1),.map (some x0.2)],.nilIface])/\ NB w1 w.heap.size/\∀Z,w1.grownBy Z (some w.heap.size) ->P (.returned (.tuple #[.agg #[.map (some x0.1),.map (some x0.2)],.nilIface])) Z)):=hid (fun R e w1 hR h=>by
  have j:=H.g2 h.1 Hf Hg;obtain⟨g,⟨J,x',Hb,N,x0,U,k2,k3,k4,k5,k6,k7,k8⟩|⟨h2,t,v,Q⟩⟩:=h
  ·refine .inr ⟨x0,k2,j,fun Z z=> ?_⟩;obtain⟨C,m⟩:=j.c0;rw [<- HP.out];exact⟨(G.trans g).gr z Ha,.inl ⟨J,x',Hb,N,x0,by rw [hR,U],rfl,k3.gr z hhi,k4,k5,k6,k7,(k8.lower G.size).box m z⟩⟩
  ·refine .inl ⟨t,v,Q,j,fun Z z=> ?_⟩;rw [<- HP.out];refine⟨?_,.inr ⟨by rw [hR,h2],t,v,rfl⟩⟩;rcases z with z|z
   ·exact(G.trans g).trans z
   ·exact(G.trans g).gr z Ha)
 clear b0 zW;rcases Decidable.em (kind=1 \/kind=2) with o|o
 ·have A:=hid (Qm0 tb B kb ub bs hi a n c f aT aS aL aE L x acc kind (p++[s]) W hn hnc hcc hf o F.out (by have:=HZ.out;omega) hS hl);have Y:Hid (Qij f n (fun r q=>inB (L r) q q) rec p (s,kind) acc x=QgE f n (fun r q=>inB (L r) q q) kind (p++[s]) acc x):=hid (by
   unfold Qij QgE;rw [if_neg (by rcases o with rfl|rfl<;>simp),if_pos o])
  have HK:=hid o;clear hT hS hrec;have I:∀e w1,LvP W tb B kb ub bs hi a n c f aT aS aL aE L x acc kind (p++[s]) e w1 ->(∃t v,e=.returned (.tuple #[.agg #[.map none,.map none],.iface t v])/\ NB w1 w.heap.size/\∀Z,G2 tb ub w1 Z \/w1.grownBy Z (some w.heap.size) ->P (.returned (.tuple #[.agg #[.map none,.map none],.iface t v])) Z) \/
   (∃x0:Nat×Nat,e=.returned (.tuple #[.agg #[.map (some x0.1),.map (some x0.2)],.nilIface])/\ NB w1 w.heap.size/\∀Z,w1.grownBy Z (some w.heap.size) ->P (.returned (.tuple #[.agg #[.map (some x0.1),.map (some x0.2)],.nilIface])) Z):=fun e w1 h=>V.out _ e w1 Y.out (LvP.node HK.out hD h)
  have E:=hid I;clear I V Y;rcases o with rfl|rfl;all_goals
   go_enter Tryz.func77,Tryz.ntmps77
   go_wp2_with fail
   try rw [b]
   clear b
   refine A.mono ?_
   intro e w1 h
   rcases E.out e w1 h with ⟨t,v,rfl,j,k⟩|⟨x0,rfl,j,k⟩
   ·have u:=hid j
    have M:=hid k
    obtain⟨C,S⟩:=j.c0
    obtain⟨T,U⟩:=j.c1
    have y:=j.f0
    clear h j k A E
    go_wp2_with fail
    obtain⟨Z,k,m,i,O⟩:=u.fill2 none none
    rw [<- k]
    clear k
    refine zF (v:=.tuple #[.agg #[.map none,.map none],.iface t v]) (by simp [results,Tryz.results77,go_sem,m,i]) ?_
    exact M Z (.inr O)
   ·have u:=hid j
    have M:=hid k
    obtain⟨C,S⟩:=j.c0
    obtain⟨T,U⟩:=j.c1
    have y:=j.f0
    obtain⟨K,X⟩:=x0
    clear h j k A E
    go_wp2_with fail
    obtain⟨Z,k,m,i,O⟩:=u.fill2 (some K) (some X)
    rw [<- k]
    clear k
    refine zF (v:=.tuple #[.agg #[.map (some K),.map (some X)],.nilIface]) (by simp [results,Tryz.results77,go_sem,m,i]) ?_
    exact M Z O
 ·by_cases Q:kind=3
  ·have A:=hid (hrec Q W F.out (by have:=HZ.out;omega));have Y:Hid (Qij f n (fun r q=>inB (L r) q q) rec p (s,kind) acc x=rec (p++[s]) acc x):=hid (by
    unfold Qij;rw [if_pos Q])
   have I:∀e w1,NdP W tb B kb ub bs hi a n c f aT aS aL aE L acc (rec (p++[s]) acc x) (Qac p 3++[(s,kind)]) D e w1 ->(∃t v,e=.returned (.tuple #[.agg #[.map none,.map none],.iface t v])/\ NB w1 w.heap.size/\∀Z,G2 tb ub w1 Z \/w1.grownBy Z (some w.heap.size) ->P (.returned (.tuple #[.agg #[.map none,.map none],.iface t v])) Z) \/
    (∃x0:Nat×Nat,e=.returned (.tuple #[.agg #[.map (some x0.1),.map (some x0.2)],.nilIface])/\ NB w1 w.heap.size/\∀Z,w1.grownBy Z (some w.heap.size) ->P (.returned (.tuple #[.agg #[.map (some x0.1),.map (some x0.2)],.nilIface])) Z):=fun e w1 h=>V.out _ e w1 Y.out h
   have E:=hid I;clear I V Y o hrec hT hS;subst Q;go_enter Tryz.func77,Tryz.ntmps77;go_wp2_with fail;try rw [b]
   clear b;refine A.mono ?_;intro e w1 h;rcases E.out e w1 h with ⟨t,v,rfl,j,k⟩|⟨x0,rfl,j,k⟩
   ·have u:=hid j;have M:=hid k;obtain⟨C,S⟩:=j.c0;obtain⟨T,U⟩:=j.c1;have y:=j.f0;clear h j k A E;go_wp2_with fail;obtain⟨Z,k,m,i,O⟩:=u.fill2 none none;rw [<- k];clear k;refine zF (v:=.tuple #[.agg #[.map none,.map none],.iface t v]) (by simp [results,Tryz.results77,go_sem,m,i]) ?_;exact M Z (.inr O)
   ·have u:=hid j;have M:=hid k;obtain⟨C,S⟩:=j.c0;obtain⟨T,U⟩:=j.c1;have y:=j.f0;obtain⟨K,X⟩:=x0;clear h j k A E;go_wp2_with fail;obtain⟨Z,k,m,i,O⟩:=u.fill2 (some K) (some X);rw [<- k];clear k;refine zF (v:=.tuple #[.agg #[.map (some K),.map (some X)],.nilIface]) (by simp [results,Tryz.results77,go_sem,m,i]) ?_;exact M Z O
  ·have u:Hid (Qij f n (fun r q=>inB (L r) q q) rec p (s,kind) acc x=none):=hid (by
    unfold Qij;rw [if_neg Q,if_neg o])
   have e1:(kind==1)=false:=by simp;omega
   have e2:(kind==2)=false:=by simp;omega
   have e3:(kind==3)=false:=by simp;omega
   obtain⟨ev,ge⟩:=F.err.x3;have lo:6<w.heap.size:=Nat.lt_of_lt_of_le (Nat.lt_of_lt_of_le (by decide) F.err.lG) (Nat.le_trans Hd (Nat.le_of_lt He));obtain⟨C,S⟩:=H.c0;obtain⟨T,U⟩:=H.c1;have y:=H.f0;have Hc:(W.setCell ⟨w.heap.size,0,none⟩ (.map none)).cell? ⟨6,0,none⟩=some (.iface 261 ev):=by rw [World.cell?_setCell_far _ _ _ _ (by simp;omega)];exact ge
   have Hh:((W.setCell ⟨w.heap.size,0,none⟩ (.map none)).setCell ⟨w.heap.size,1,none⟩ (.map none)).cell? ⟨6,0,none⟩=some (.iface 261 ev):=by rw [World.cell?_setCell_far _ _ _ _ (by simp;omega)];exact Hc
   clear lo o Q hrec hT hS V;go_enter Tryz.func77,Tryz.ntmps77;go_wp2_with fail;try rw [b]
   go_region;all_goals go_wp2_with fail
   all_goals (
    obtain⟨Z,k,m,i,gZ,bZ,_⟩:=H.fill G.out Ha none none;rw [<- k];clear k;refine zF (v:=.tuple #[.agg #[.map none,.map none],.iface 261 ev]) (by simp [results,Tryz.results77,go_sem,m,i]) ?_;rw [<- HP.out];exact⟨gZ.trans (G2.below zI.drew),.inr ⟨u.out,_,_,rfl⟩⟩)
theorem Qjr {f:Nat ->Int}(hf:Byt f){n:Nat}{before y:Ky}{x x':Nat}(h:QfN f n before x=some (y,x')):Qb7 before y<0/\ y.1.size<=40/\ 0<=y.2/\ y.2<256:=by
 unfold QfN at h;obtain⟨a,j,h⟩:=Qad.1 h;have m:=((QcF hf (by decide) (s:=a.1) (x':=a.2)).1 j).1;split at h
 ·rename_i hy;simp only [Option.some.injEq,Prod.mk.injEq] at h;obtain⟨rfl,_⟩:=h;have k:Qb7 before (a.1,f a.2)<0:=by
   by_cases e:a.1.size≠0/\ a.2<n/\ Qb7 before (a.1,f a.2)<0
   ·exact e.2.2
   ·rw [Qaj e] at hy;cases hy
  have:=hf a.2;exact⟨k,by show a.1.size<=40;omega,this.1,by have:=this.2;omega⟩
 ·cases h
theorem QhF (tb B kb ub bs hi:Nat)(a:Option Addr)(n c:Nat)(f:Nat ->Int)(aT aS aL aE:Addr)(L:Int ->List (Int×Int))(d:Nat)(p:List ByteArray)(Kg:p.length+d=8)(hn:n<=1048576)(hnc:n<=c)(hcc:c<=9223372036854775807)(hf:Byt f)(hS:∀r,Srt (L r)/\ (L r).length<=1000000)
  (hrec:p.length<8 ->∀(s:ByteArray) (x:Nat) (acc:List Lf) (W:World),TS W tb B kb ub bs hi a n c f aT aS aL aE L (x:Int) acc ->hi<=W.heap.size ->acc.length<=1000 ->Calls Tryz.prog 42 #[.pointer (some ⟨tb,0,none⟩),.int .i64 ((p.length:Int)+1)] W fun e w'=>NdP W tb B kb ub bs hi a n c f aT aS aL aE L acc (Qcz f n (fun r q=>inB (L r) q q) d (p++[s]) acc x) (Qac (p++[s]) 3) (d+1) e w')
  (x:Nat) (acc:List Lf) (w:World) (O:TS w tb B kb ub bs hi a n c f aT aS aL aE L (x:Int) acc) (hhi:hi<=w.heap.size) (hl:acc.length<=1000):
  Calls Tryz.prog 42 #[.pointer (some ⟨tb,0,none⟩),.int .i64 (p.length:Int)] w fun e w'=>NdP w tb B kb ub bs hi a n c f aT aS aL aE L acc (Qcz f n (fun r q=>inB (L r) q q) (d+1) p acc x) (Qac p 3) (d+2) e w':=by
 obtain⟨P,hP⟩:∃P,NdP w tb B kb ub bs hi a n c f aT aS aL aE L acc (Qcz f n (fun r q=>inB (L r) q q) (d+1) p acc x) (Qac p 3) (d+2)=P:=⟨_,rfl⟩;rw [hP];have HP:=hid hP;clear hP;obtain⟨dp,Gp⟩:∃dp:Int,(p.length:Int)=dp:=⟨_,rfl⟩;rw [Gp] at hrec ⊢;have Jd:0<=dp:=by omega
 have Je:dp<=8:=by omega
 have Hm:=hid (And.intro Gp Kg);have Gf:=hid hrec;clear Gp Kg hrec;obtain⟨W,hW⟩:∃W,w.alloc (.cells #[.map none,.map none] 45)=W:=⟨_,rfl⟩;have b0:Below w.heap.size w W:=by rw [<- hW];exact zO _ _
 have zW:W.heap.size=w.heap.size+1:=by rw [<- hW];simp
 have H0:Hid (NB W w.heap.size):=hid (by rw [<- hW];exact NB.made _ _);have Hp:=hid (O.below b0);have Hz:=hid (G2.below (tb:=tb) (ub:=ub) b0);have Gt:tb<w.heap.size:=O.cur.lt;have K1:ub<w.heap.size:=O.us.lt;have Gn:=O.bt;have HU:=hid (QbG tb B a n c x 1000 f aT aS aL aE W hn hf Hp.cur Hp.seg (fun y hy=>(O.ab y hy).1) Hp.err O.bt (by omega) (by omega));have HZ:=hid zW;have HF:=hid hf;have HS:=hid hS;have Hj:w.heap.size≠tb:=by omega
 have Hk:w.heap.size≠ub:=by omega
 have Hl:w.heap.size<=w.heap.size:=Nat.le_refl _;clear O b0 zW hf hS;go_enter Tryz.func42,Tryz.ntmps42;go_wp2_with fail;try rw [hW]
 clear hW;refine HU.mono ?_;clear HU;rintro e w1 ⟨g1,⟨V,x1,hr,hV,rfl,cu⟩|⟨hr,t,v,y,rfl,cu⟩⟩
 ·rw [Qa4] at hr;have Hh:=hid (Hp.t g1 cu);have Hd:=hid (Hz.trans (G2.t g1));have M:=hid (H0.g2 (G2.t (ub:=ub) g1) Hj Hk);have H3:=hid hr;clear g1 hr cu Hp Hz H0;by_cases H5:V=0/\ 0<dp
  ·obtain⟨h0,Jg⟩:=H5;subst h0;have HN:Hid (Qcz f n (fun r q=>inB (L r) q q) (d+1) p acc x=none):=hid (by
    unfold Qcz;rw [H3.out];simp only [Option.bind_some];rw [if_pos trivial,if_neg (by have:=Hm.1;omega)])
   obtain⟨ev,ge⟩:=Hh.err.x5;have lo:2<w.heap.size:=Nat.lt_of_lt_of_le (Nat.lt_of_lt_of_le (by decide) Hh.err.lG) (Nat.le_trans Gn (Nat.le_of_lt Gt));obtain⟨u0,k0⟩:=M.c0;obtain⟨u1,k1⟩:=M.c1;have X:=M.f0;have Gj:(w1.setCell ⟨w.heap.size,0,none⟩ (.map none)).cell? ⟨2,0,none⟩=some (.iface 261 ev):=by rw [World.cell?_setCell_far _ _ _ _ (by simp;omega)];exact ge
   have Kt:((w1.setCell ⟨w.heap.size,0,none⟩ (.map none)).setCell ⟨w.heap.size,1,none⟩ (.map none)).cell? ⟨2,0,none⟩=some (.iface 261 ev):=by rw [World.cell?_setCell_far _ _ _ _ (by simp;omega)];exact Gj
   clear lo;go_wp2_with fail;go_region;all_goals go_wp2_with fail
   all_goals (
    obtain⟨Z,E,I,K,U,bZ,_⟩:=M.fill Hd.out Hl none none;rw [<- E];clear E;refine zF (v:=.tuple #[.agg #[.map none,.map none],.iface 261 ev]) (by simp [results,Tryz.results42,go_sem,I,K]) ?_;rw [<- HP.out];exact⟨U.trans (G2.below zI.drew),.inr ⟨HN.out,_,_,rfl⟩⟩)
  ·by_cases Gk:V≠0/\ dp=8
   ·obtain⟨h0,rfl⟩:=Gk;have HN:Hid (Qcz f n (fun r q=>inB (L r) q q) (d+1) p acc x=none):=hid (by
     unfold Qcz;rw [H3.out];simp only [Option.bind_some];rw [if_neg h0,if_pos (by have:=Hm.1;omega)])
    obtain⟨ev,ge⟩:=Hh.err.x4;have lo:3<w.heap.size:=Nat.lt_of_lt_of_le (Nat.lt_of_lt_of_le (by decide) Hh.err.lG) (Nat.le_trans Gn (Nat.le_of_lt Gt));obtain⟨u0,k0⟩:=M.c0;obtain⟨u1,k1⟩:=M.c1;have X:=M.f0;have Gj:(w1.setCell ⟨w.heap.size,0,none⟩ (.map none)).cell? ⟨3,0,none⟩=some (.iface 261 ev):=by rw [World.cell?_setCell_far _ _ _ _ (by simp;omega)];exact ge
    have Kt:((w1.setCell ⟨w.heap.size,0,none⟩ (.map none)).setCell ⟨w.heap.size,1,none⟩ (.map none)).cell? ⟨3,0,none⟩=some (.iface 261 ev):=by rw [World.cell?_setCell_far _ _ _ _ (by simp;omega)];exact Gj
    have d0:((V:Int)==0)=false:=by simp;omega
    have d1:decide (0<(V:Int))=true:=by simp;omega
    clear lo H5;go_wp2_with fail;go_region;all_goals go_wp2_with fail
    all_goals (
     obtain⟨Z,E,I,K,U,bZ,_⟩:=M.fill Hd.out Hl none none;rw [<- E];clear E;refine zF (v:=.tuple #[.agg #[.map none,.map none],.iface 261 ev]) (by simp [results,Tryz.results42,go_sem,I,K]) ?_;rw [<- HP.out];exact⟨U.trans (G2.below zI.drew),.inr ⟨HN.out,_,_,rfl⟩⟩)
   ·have Gw:Hid (Qcz f n (fun r q=>inB (L r) q q) (d+1) p acc x=Qk4 f n (fun r q=>inB (L r) q q) (Qcz f n (fun r q=>inB (L r) q q) d) p V (ByteArray.empty,0) acc x1):=hid (by
     have hh:=Hm.out;unfold Qcz;rw [H3.out];simp only [Option.bind_some];by_cases h0:V=0
     ·subst h0;rw [if_pos rfl,if_pos (by omega)];rfl
     ·rw [if_neg h0,if_neg (by omega)])
    have Jf:V=0 \/dp<8:=by omega
    have G4:Hid (V=0 ->p=[]):=hid (fun h0=>List.length_eq_zero_iff.1 (by have:=Hm.1;omega));clear H3;by_cases Ht:V=0
    ·have Kr:=hid Ht;have g:((V:Int)==0)=true:=by simp [Ht]
     have c2:¬(0:Int)<dp:=by omega
     have c3:¬(0:Int)<(V:Int):=by omega
     clear Ht;go_wp2_with fail;refine(QdN w1).mono ?_;rintro e h ⟨s,o,rfl,Gs,Kx,Ky,m1,m2,b2⟩;clear g c2 c3 H5 Gk;obtain⟨D,Hb⟩:∃D,(h.alloc (.cells #[.map (some s),.map (some o)] 45)).alloc (.cells #[.string ⟨#[]⟩,.int .i64 0] 88)=D:=⟨_,rfl⟩;have b3:Below h.heap.size h D:=by rw [<- Hb];exact Qak _ _ _
     have Gi:Hid (Bx2 D h.heap.size (.map (some s)) (.map (some o))):=hid (by rw [<- Hb];exact(Bx2.made h _ _ _).allocs _);have Hr:Hid (Bx2 D (h.heap.size+1) (.string ⟨#[]⟩) (.int .i64 0)):=hid (by rw [<- Hb];simpa using Bx2.made (h.alloc (.cells #[.map (some s),.map (some o)] 45)) (.string ⟨#[]⟩) (.int .i64 0) 88);have Hf:=Qab b2 b3;have Gg:=hid (Hh.below Hf);have H9:=hid (Hd.trans (G2.below Hf));have Gc:=hid (M.g2 (G2.below (tb:=tb) (ub:=ub) Hf) Hj Hk);have K4:=Hd.size;have K3:=M.lt;have K5:=b2.size;have Hx:=m1.lt;have Gr:=m2.lt;have Gb:Hid (TL D w.heap.size [] (Qac p 3) (⟨#[]⟩,0) (d+2) 0 (s,o)):=hid (TL.new (x0:=(s,o)) _ _ _ (m1.same (b3.block s m1.lt)) (m2.same (b3.block o m2.lt)) Gs ⟨by show w.heap.size<=s;omega,by show w.heap.size<=o;omega⟩);clear m1 m2 b2 b3 Hf Hh Hd M;go_wp2_with fail;try rw [Hb]
     clear Hb;go_loopw [42] (fun iv wr=>∃(k y:Nat) (l:List Lf) (H:ByteArray) (G:Int),k<=V/\ iv=.int .i64 (k:Int)/\ (acc++l).length<=1000/\ h.heap.size+1<wr.heap.size/\ Hid (TS wr tb B kb ub bs hi a n c f aT aS aL aE L (y:Int) (acc++l))/\ Hid (G2 tb ub w wr)/\ Hid (NB wr w.heap.size)/\
      Hid (Bx2 wr h.heap.size (.map (some s)) (.map (some o)))/\ Hid (Bx2 wr (h.heap.size+1) (.string H) (.int .i64 G))/\ Hid (TL wr w.heap.size l (Qac p 3) (H,G) (d+2) k (s,o))/\
      Hid (Qcz f n (fun r q=>inB (L r) q q) (d+1) p acc x=Qk4 f n (fun r q=>inB (L r) q q) (Qcz f n (fun r q=>inB (L r) q q) d) p (V - k) (H,G) (acc++l) y)) (fun iv _=>V - (intOf iv).toNat)
     case atStart=>exact⟨0,x1,[],⟨#[]⟩,0,Nat.zero_le _,rfl,by simpa using hl,Hr.lt,by simpa using Gg,H9,Gc,Gi,Hr,Gb,hid (by rw [Gw.out];simp;rfl)⟩
     case round=>
      obtain⟨k,y,l,H,G,Ku,rfl,Hv,K6,O,hG,Y,hX,hD,hM,Hc⟩:=hrel;by_cases Gq:k<V
      ·exact absurd Gq (by have:=Kr.out;omega)
      ·obtain rfl:k=V:=by omega
       have HY:Hid (Qcz f n (fun r q=>inB (L r) q q) (d+1) p acc x=some (acc++l,y)):=hid (by
        rw [Hc.out,Nat.sub_self];rfl)
       have x0:=hX.c0;have Kj:=hX.c1;obtain⟨u0,k0⟩:=Y.c0;obtain⟨u1,k1⟩:=Y.c1;have X:=Y.f0;have H7:=hid k0;clear Hc;go_wp2_with fail;obtain⟨Z,E,I,K,U,bZ,gg⟩:=Y.fill hG.out Hl (some s) (some o);rw [<- E];clear E;refine zF (v:=.tuple #[.agg #[.map (some s),.map (some o)],.nilIface]) (by simp [results,Tryz.results42,go_sem,I,K]) ?_;rw [<- HP.out];obtain⟨N,H4,j1,j2,j3⟩:=hM.full;have j4:=hM.some';refine⟨U,.inl ⟨l,y,H4,N,(s,o),HY.out,rfl,O.gr gg hhi,j3,?_,j2,Hv,j1.box H7.out gg⟩⟩;by_cases h0:k=0
       ·exact .inr (by rw [G4 h0];rfl)
       ·exact .inl (fun e=>by rw [e] at j4;simp at j4;omega)
    ·have g:((V:Int)==0)=false:=by simp [Ht]
     have c2:(0:Int)<(V:Int):=by omega
     have c3:(dp==8)=false:=by simp;omega
     clear Ht;go_wp2_with fail;refine(QdN w1).mono ?_;rintro e h ⟨s,o,rfl,Gs,Kx,Ky,m1,m2,b2⟩;clear g c2 c3 H5 Gk;obtain⟨D,Hb⟩:∃D,(h.alloc (.cells #[.map (some s),.map (some o)] 45)).alloc (.cells #[.string ⟨#[]⟩,.int .i64 0] 88)=D:=⟨_,rfl⟩;have b3:Below h.heap.size h D:=by rw [<- Hb];exact Qak _ _ _
     have Gi:Hid (Bx2 D h.heap.size (.map (some s)) (.map (some o))):=hid (by rw [<- Hb];exact(Bx2.made h _ _ _).allocs _);have Hr:Hid (Bx2 D (h.heap.size+1) (.string ⟨#[]⟩) (.int .i64 0)):=hid (by rw [<- Hb];simpa using Bx2.made (h.alloc (.cells #[.map (some s),.map (some o)] 45)) (.string ⟨#[]⟩) (.int .i64 0) 88);have Hf:=Qab b2 b3;have Gg:=hid (Hh.below Hf);have H9:=hid (Hd.trans (G2.below Hf));have Gc:=hid (M.g2 (G2.below (tb:=tb) (ub:=ub) Hf) Hj Hk);have K4:=Hd.size;have K3:=M.lt;have K5:=b2.size;have Hx:=m1.lt;have Gr:=m2.lt;have Gb:Hid (TL D w.heap.size [] (Qac p 3) (⟨#[]⟩,0) (d+2) 0 (s,o)):=hid (TL.new (x0:=(s,o)) _ _ _ (m1.same (b3.block s m1.lt)) (m2.same (b3.block o m2.lt)) Gs ⟨by show w.heap.size<=s;omega,by show w.heap.size<=o;omega⟩);clear m1 m2 b2 b3 Hf Hh Hd M;go_wp2_with fail;try rw [Hb]
     clear Hb;go_loopw [42] (fun iv wr=>∃(k y:Nat) (l:List Lf) (H:ByteArray) (G:Int),k<=V/\ iv=.int .i64 (k:Int)/\ (acc++l).length<=1000/\ h.heap.size+1<wr.heap.size/\ Hid (TS wr tb B kb ub bs hi a n c f aT aS aL aE L (y:Int) (acc++l))/\ Hid (G2 tb ub w wr)/\ Hid (NB wr w.heap.size)/\
      Hid (Bx2 wr h.heap.size (.map (some s)) (.map (some o)))/\ Hid (Bx2 wr (h.heap.size+1) (.string H) (.int .i64 G))/\ Hid (TL wr w.heap.size l (Qac p 3) (H,G) (d+2) k (s,o))/\
      Hid (Qcz f n (fun r q=>inB (L r) q q) (d+1) p acc x=Qk4 f n (fun r q=>inB (L r) q q) (Qcz f n (fun r q=>inB (L r) q q) d) p (V - k) (H,G) (acc++l) y)) (fun iv _=>V - (intOf iv).toNat)
     case atStart=>exact⟨0,x1,[],⟨#[]⟩,0,Nat.zero_le _,rfl,by simpa using hl,Hr.lt,by simpa using Gg,H9,Gc,Gi,Hr,Gb,hid (by rw [Gw.out];simp;rfl)⟩
     case round=>
      obtain⟨k,y,l,H,G,Ku,rfl,Hv,K6,O,hG,Y,hX,hD,hM,Hc⟩:=hrel;by_cases Gq:k<V
      ·obtain⟨m,hm⟩:∃m,V - k=m+1:=⟨V - k - 1,by omega⟩;have Jh:dp<8:=by omega
       have Gz:=hid (Qpl (EX:=exT kb ub) tb B a n c f aT aS aL aE y H G wr hn hnc hcc HF.out O.seg O.cur O.err Gn (fun z hz=>(O.ab z hz).1));have d0:=hD.c0;have d1:=hD.c1;go_wp2_with fail;clear d0 d1;refine Gz.mono ?_;clear Gz;rintro e Q ⟨g4,⟨yk,x2,hz,rfl,G6⟩|⟨hz,t,v,rfl⟩⟩
       ·obtain⟨C,S⟩:=yk;obtain⟨Hw,K0,Kv,Kw⟩:=Qjr HF.out hz;obtain⟨kl,Kd⟩:=Qhi (s:=C) (k:=S) (by simp only at K0;unfold maxLen;omega) (wfI (by omega) (by omega));have Ga:=hid Kd;have H8:=hid Hw;simp only at Kv Kw;obtain⟨W5,Hu⟩:∃W5,Q.alloc (.cells #[.string C,.int .i64 S] 88)=W5:=⟨_,rfl⟩;have b5:Below Q.heap.size Q W5:=by rw [<- Hu];exact zO _ _
        have z5:W5.heap.size=Q.heap.size+1:=by rw [<- Hu];simp
        have g5:G2 tb ub wr W5:=(G2.t g4).trans (G2.below b5);have Y5:Bx2 W5 Q.heap.size (.string C) (.int .i64 S):=by rw [<- Hu];exact Bx2.made Q _ _ _
        have Kh:=g4.size;have Gu:=hG.size;have Gh:=hid ((O.t g4 G6).below b5);have Gy:=hid (Qpm tb B kb ub bs hi a n c f aT aS aL aE L x2 (acc++l) C S (dp+1) p (Qcz f n (fun r q=>inB (L r) q q) d) (d+1) W5 hn hnc hcc HF.out (by omega) Gh.out (by omega) HS.out Hv (fun e3 W' hW' hs'=>by
         subst e3;have:=Gf (by have:=Hm.1;omega) C x2 (acc++l) W' hW' hs' Hv;rw [QeA] at this;exact this))
        have y0:=Y5.c0;have y1:=Y5.c1;have He:=hid Y5;have G5:=hid z5;have Hn:=hid g5;clear Y5 g5 b5 z5 G6 Kd Hw;go_wp2_with fail;try rw [Hu]
        clear Hu y0 y1;refine Gy.mono ?_;clear Gy;rintro e R ⟨g6,⟨J,x3,H4,N1,Ja,r1,rfl,t6,G7,G8,G9,Ka,Kb⟩|⟨r1,t,v,rfl⟩⟩
        ·obtain⟨s1,s2⟩:=Ja;have H6:J≠[]:=G8.resolve_right (by simp);have Ge:Hid (Qcz f n (fun r q=>inB (L r) q q) (d+1) p acc x=Qk4 f n (fun r q=>inB (L r) q q) (Qcz f n (fun r q=>inB (L r) q q) d) p (V - (k+1)) (C,S) (acc++(l++J)) x3):=hid (by
          rw [Hc.out,hm,show V - (k+1)=m by omega];show (QfN f n (H,G) y).bind _=_;rw [hz];simp only [Option.bind_some];rw [r1];simp only [Option.bind_some,List.append_assoc])
         obtain⟨A,Hq⟩:∃A,R.alloc (.cells #[.map (some s1),.map (some s2)] 45)=A:=⟨_,rfl⟩;have b7:Below R.heap.size R A:=by rw [<- Hq];exact zO _ _
         have V7:Bx2 A R.heap.size (.map (some s1)) (.map (some s2)):=by rw [<- Hq];exact Bx2.made R _ _ _
         have T:G2 tb ub W5 A:=g6.trans (G2.below b7);have g7:G2 tb ub wr A:=Hn.trans T;have Ki:=G5.out;have Ji:=g6.size;have X7:Bx2 A h.heap.size (.map (some s)) (.map (some o)):=⟨(g7.cell (by omega) (by omega) (by omega)).trans hX.c0,(g7.cell (by omega) (by omega) (by omega)).trans hX.c1,fun i=>(g7.frozen (by omega) (by omega) (by omega)).trans (hX.f i),Nat.lt_of_lt_of_le hX.lt g7.size⟩;have D7:Bx2 A (h.heap.size+1) (.string H) (.int .i64 G):=⟨(g7.cell (by omega) (by omega) (by omega)).trans hD.c0,(g7.cell (by omega) (by omega) (by omega)).trans hD.c1,fun i=>(g7.frozen (by omega) (by omega) (by omega)).trans (hD.f i),Nat.lt_of_lt_of_le hD.lt g7.size⟩;have Y7:Bx2 A Q.heap.size (.string C) (.int .i64 S):=⟨(T.cell (by omega) (by omega) (by omega)).trans He.c0,(T.cell (by omega) (by omega) (by omega)).trans He.c1,fun i=>(T.frozen (by omega) (by omega) (by omega)).trans (He.f i),Nat.lt_of_lt_of_le He.lt T.size⟩;have G1:=hid (t6.below b7);have Ho:=hid (hG.trans g7);have Ha:=hid (Y.g2 g7 Hj Hk);obtain⟨cc,F,Go,Kf,Hi⟩:=hM.hang g7 Gt K1 (Kb.below b7) (by omega) Gu H8.out G7 H6 G9;have Kc:cc<maxLen:=by
          have h1:(acc++l++J).length=acc.length+(l++J).length:=by simp [Nat.add_assoc]
          have h2:(l++J).length<=1000:=by omega
          have h3:d+1+1<=10:=by have:=Hm.2;omega
          have h4:=Nat.mul_le_mul h3 h2;unfold maxLen;omega
         have Hg:=hid Hi;obtain⟨w9,r9,m9,g9⟩:=Kf.store Qbz (fun _ _=>QeZ) Tryz.underlying42 Kc (x:=(C,S)) (y:=(s1,s2)) Ga.out;have Kz:s<h.heap.size:=Hx;have cg:∀b i,b≠s ->b<A.heap.size ->w9.cell? ⟨b,i,none⟩=A.cell? ⟨b,i,none⟩:=fun b i h1 h2=>World.cell?_of_block (a:=⟨b,i,none⟩) (g9.block b h2 (fun e=>h1 (by injection e)));have fg:∀b i,b≠s ->b<A.heap.size ->w9.frozen? ⟨b,i,none⟩=A.frozen? ⟨b,i,none⟩:=fun b i h1 h2=>World.frozen?_of_block (a:=⟨b,i,none⟩) (g9.block b h2 (fun e=>h1 (by injection e)));have v0:=(cg Q.heap.size 0 (by omega) Y7.lt).trans Y7.c0;have v1:=(cg Q.heap.size 1 (by omega) Y7.lt).trans Y7.c1;have D9:Bx2 w9 (h.heap.size+1) (.string H) (.int .i64 G):=⟨(cg _ 0 (by omega) D7.lt).trans D7.c0,(cg _ 1 (by omega) D7.lt).trans D7.c1,fun i=>(fg _ i (by omega) D7.lt).trans (D7.f i),Nat.lt_of_lt_of_le D7.lt g9.size⟩;have X9:Bx2 w9 h.heap.size (.map (some s)) (.map (some o)):=⟨(cg _ 0 (by omega) X7.lt).trans X7.c0,(cg _ 1 (by omega) X7.lt).trans X7.c1,fun i=>(fg _ i (by omega) X7.lt).trans (X7.f i),Nat.lt_of_lt_of_le X7.lt g9.size⟩;have G3:=hid (G1.gr g9 (by omega));have Gx:=hid (Ho.gr g9 (by omega));have Gd:=hid (Ha.same (g9.block w.heap.size Ha.lt (fun e=>by injection e with e;omega)) g9.size);have G0:=hid (Hg w9 g9 m9);obtain⟨Zw,Gl⟩:∃Zw,(w9.setCell ⟨h.heap.size+1,0,none⟩ (.string C)).setCell ⟨h.heap.size+1,1,none⟩ (.int .i64 S)=Zw:=⟨_,rfl⟩;have gz:w9.grownBy Zw (some (h.heap.size+1)):=by
          rw [<- Gl];exact⟨rfl,rfl,rfl,by simp [World.setCell],fun j hj H6=>(zH _ _ _ _ (fun e=>H6 (by rw [e]))).trans (zH _ _ _ _ (fun e=>H6 (by rw [e])))⟩
         have DZ:Bx2 Zw (h.heap.size+1) (.string C) (.int .i64 S):=by
          rw [<- Gl];refine⟨?_,?_,fun i=> ?_,by simpa [World.setCell] using D9.lt⟩
          ·rw [World.cell?_setCell_other _ _ _ _ (by simp)];exact World.cell?_setCell_same _ _ _ D9.c0
          ·exact World.cell?_setCell_same _ _ _ (by rw [World.cell?_setCell_other _ _ _ _ (by simp)];exact D9.c1)
          ·simpa using D9.f i
         have Gv:=hid DZ;have Ks:Hid (Bx2 Zw h.heap.size (.map (some s)) (.map (some o))):=hid (by
          have e:=gz.block h.heap.size X9.lt (fun e=>by injection e with e;omega);exact⟨(World.cell?_of_block (a:=⟨h.heap.size,0,none⟩) e).trans X9.c0,(World.cell?_of_block (a:=⟨h.heap.size,1,none⟩) e).trans X9.c1,fun i=>(World.frozen?_of_block (a:=⟨h.heap.size,i,none⟩) e).trans (X9.f i),Nat.lt_of_lt_of_le X9.lt gz.size⟩)
         have Kq:=hid (G3.gr gz (by omega));have Km:=hid (Gx.gr gz (by omega));have Kp:=hid (Gd.same (gz.block w.heap.size Gd.lt (fun e=>by injection e with e;omega)) gz.size);have Kn:=hid (G0.box D9.c0 gz);have x0:=X7.c0;have Kj:=X7.c1;have y0:=Y7.c0;have y1:=Y7.c1;have n0:=V7.c0;have n1:=V7.c1;have e0:=D9.c0;have e1:=D9.c1;have ef:=D9.f;have Gm:(acc++(l++J)).length<=1000:=by rw [<- List.append_assoc];exact Ka
         unfold Qbs Qdg at r9;dsimp only at r9;clear m9 g9 cg fg D9 X9 gz DZ G3 Gx Gd G0 Hg Hi Kf X7 D7 Y7 V7 T g7 b7 He Gh Hn G1 Ho Ha Ga G7 G8 G9 Ka Kb t6 g6 r1 hz O hG Y hX hD hM Hc hm Kc Go;go_wp2_with fail;try rw [Gl]
         go_roundw;case rel=>exact⟨k+1,x3,l++J,C,S,Gq,by go_num,Gm,Gv.lt,by rw [<- List.append_assoc];exact Kq,Km,Kp,Ks,Gv,Kn,Ge⟩
         case measure=>simp [intOf];omega
        ·have HN:Hid (Qcz f n (fun r q=>inB (L r) q q) (d+1) p acc x=none):=hid (by
          rw [Hc.out,hm];show (QfN f n (H,G) y).bind _=_;rw [hz];simp only [Option.bind_some];rw [r1];rfl)
         have b7:Below R.heap.size R (R.alloc (.cells #[.map none,.map none] 45)):=zO _ _;have T:G2 tb ub W5 (R.alloc (.cells #[.map none,.map none] 45)):=g6.trans (G2.below b7);have Ho:=hid (hG.trans (Hn.trans T));have Ha:=hid (Y.g2 (Hn.trans T) Hj Hk);have Ki:=G5.out;have K7:=g6.size;have K2:=hG.size;have Kh:=Hn.size;have y0:(R.alloc (.cells #[.map none,.map none] 45)).cell? ⟨Q.heap.size,0,none⟩=some (.string C):=(T.cell He.lt (by omega) (by omega)).trans He.c0;have y1:(R.alloc (.cells #[.map none,.map none] 45)).cell? ⟨Q.heap.size,1,none⟩=some (.int .i64 S):=(T.cell He.lt (by omega) (by omega)).trans He.c1;have Hy:Q.heap.size≠w.heap.size:=by have:=g4.size;omega
         have Ko:=hid Hy;clear Ki K7 K2 Kh Hy g6 T b7 r1 hz hX hD hM O hG Y Hc hm Hn He Gh Ga;go_wp2_with fail;obtain⟨A,Hq⟩:∃A,R.alloc (.cells #[.map none,.map none] 45)=A:=⟨_,rfl⟩;have z7:R.heap.size+1=A.heap.size:=by rw [<- Hq];simp
         rw [Hq] at Ho Ha y0 y1 ⊢;clear Hq;have Hs:∀(v:World) (i:Nat) (u:Value) (j:Nat),(v.setCell ⟨w.heap.size,i,none⟩ u).cell? ⟨Q.heap.size,j,none⟩=v.cell? ⟨Q.heap.size,j,none⟩:=fun v i u j=>World.cell?_setCell_far _ _ _ _ (by have:=Ko.out;simpa using this.symm);have Jb:=(Hs A 0 (.map none) 0).trans y0;have Jj:=(Hs _ 1 (.map none) 0).trans Jb;have Jc:=(Hs A 0 (.map none) 1).trans y1;have Jk:=(Hs _ 1 (.map none) 1).trans Jc;have bP:Below A.heap.size A (A.alloc (.cells #[.string C,.int .i64 S,.iface t v] 159)):=zO _ _;have Kl:=hid (Ho.trans (G2.below bP));have H2:=hid (Ha.g2 (G2.below (tb:=tb) (ub:=ub) bP) Hj Hk);obtain⟨u0,k0⟩:=Ha.c0;obtain⟨u1,k1⟩:=Ha.c1;have X:=Ha.f0;obtain⟨v0,l0⟩:=H2.c0;obtain⟨v1,l1⟩:=H2.c1;have fP:=H2.f0;clear Hs bP;go_region;all_goals go_wp2_with fail
         ·obtain⟨Z,E,I,K,U,bZ,_⟩:=H2.fill Kl.out Hl none none;rw [<- E];clear E;refine zF (v:=.tuple #[.agg #[.map none,.map none],.iface 157 (.pointer (some ⟨A.heap.size,0,none⟩))]) (by simp [results,Tryz.results42,go_sem,I,K]) ?_;rw [<- HP.out];exact⟨U.trans (G2.below zI.drew),.inr ⟨HN.out,_,_,rfl⟩⟩
         ·obtain⟨Z,E,I,K,U,bZ,gg⟩:=Ha.fill Ho.out Hl none none;rw [<- E];clear E;have Ke:w.heap.size<Z.heap.size:=Nat.lt_of_lt_of_le Ha.lt gg.size;have bQ:Below Z.heap.size Z (Z.alloc (.cells #[.string C,.int .i64 S,.iface t v] 159)):=zO _ _;have K8:=(bQ.cell (p:=⟨w.heap.size,0,none⟩) Ke).trans I;have K9:=(bQ.cell (p:=⟨w.heap.size,1,none⟩) Ke).trans K;have gQ:=U.trans (G2.below bQ);refine zF (v:=.tuple #[.agg #[.map none,.map none],.iface 157 (.pointer (some ⟨A.heap.size,0,none⟩))]) (by simp [results,Tryz.results42,go_sem,K8,K9]) ?_;rw [<- HP.out];exact⟨gQ.trans (G2.below zI.drew),.inr ⟨HN.out,_,_,rfl⟩⟩
       ·have HN:Hid (Qcz f n (fun r q=>inB (L r) q q) (d+1) p acc x=none):=hid (by
         rw [Hc.out,hm];show (QfN f n (H,G) y).bind _=_;rw [hz];rfl)
        have bA:Below Q.heap.size Q (Q.alloc (.cells #[.string ⟨#[]⟩,.int .i64 0] 88)):=zO _ _;have gA:=(G2.t (ub:=ub) g4).trans (G2.below bA);have Kk:=hid (hG.trans gA);have H1:=hid (Y.g2 gA Hj Hk);obtain⟨u0,k0⟩:=H1.c0;obtain⟨u1,k1⟩:=H1.c1;have X:=H1.f0;clear g4 gA bA hz hX hD hM O hG Y Hc hm;go_wp2_with fail;obtain⟨Z,E,I,K,U,bZ,_⟩:=H1.fill Kk.out Hl none none;rw [<- E];clear E;refine zF (v:=.tuple #[.agg #[.map none,.map none],.iface t v]) (by simp [results,Tryz.results42,go_sem,I,K]) ?_;rw [<- HP.out];exact⟨U,.inr ⟨HN.out,_,_,rfl⟩⟩
      ·obtain rfl:k=V:=by omega
       have HY:Hid (Qcz f n (fun r q=>inB (L r) q q) (d+1) p acc x=some (acc++l,y)):=hid (by
        rw [Hc.out,Nat.sub_self];rfl)
       have x0:=hX.c0;have Kj:=hX.c1;obtain⟨u0,k0⟩:=Y.c0;obtain⟨u1,k1⟩:=Y.c1;have X:=Y.f0;have H7:=hid k0;clear Hc;go_wp2_with fail;obtain⟨Z,E,I,K,U,bZ,gg⟩:=Y.fill hG.out Hl (some s) (some o);rw [<- E];clear E;refine zF (v:=.tuple #[.agg #[.map (some s),.map (some o)],.nilIface]) (by simp [results,Tryz.results42,go_sem,I,K]) ?_;rw [<- HP.out];obtain⟨N,H4,j1,j2,j3⟩:=hM.full;have j4:=hM.some';refine⟨U,.inl ⟨l,y,H4,N,(s,o),HY.out,rfl,O.gr gg hhi,j3,?_,j2,Hv,j1.box H7.out gg⟩⟩;by_cases h0:k=0
       ·exact .inr (by rw [G4 h0];rfl)
       ·exact .inl (fun e=>by rw [e] at j4;simp at j4;omega)
 ·rw [Qa4] at hr;have HN:Hid (Qcz f n (fun r q=>inB (L r) q q) (d+1) p acc x=none):=hid (by unfold Qcz;rw [hr];rfl);have Hd:=hid (Hz.trans (G2.t g1));have M:=hid (H0.g2 (G2.t (ub:=ub) g1) Hj Hk);obtain⟨u0,k0⟩:=M.c0;obtain⟨u1,k1⟩:=M.c1;have X:=M.f0;clear g1 hr cu Hz H0 Hp;go_wp2_with fail;obtain⟨Z,E,I,K,U,bZ,_⟩:=M.fill Hd.out Hl none none;rw [<- E];clear E;refine zF (v:=.tuple #[.agg #[.map none,.map none],.iface t v]) (by simp [results,Tryz.results42,go_sem,I,K]) ?_;rw [<- HP.out];exact⟨U,.inr ⟨HN.out,_,_,rfl⟩⟩
theorem Qod (tb B kb ub bs hi:Nat)(a:Option Addr)(n c:Nat)(f:Nat ->Int)(aT aS aL aE:Addr)(L:Int ->List (Int×Int))(hn:n<=1048576)(hnc:n<=c)(hcc:c<=9223372036854775807)(hf:Byt f)(hS:∀r,Srt (L r)/\ (L r).length<=1000000):
  ∀(d:Nat) (p:List ByteArray),p.length+d=8 ->∀(x:Nat) (acc:List Lf) (w:World),TS w tb B kb ub bs hi a n c f aT aS aL aE L (x:Int) acc ->hi<=w.heap.size ->acc.length<=1000 ->
  Calls Tryz.prog 42 #[.pointer (some ⟨tb,0,none⟩),.int .i64 (p.length:Int)] w fun e w'=>NdP w tb B kb ub bs hi a n c f aT aS aL aE L acc (Qcz f n (fun r q=>inB (L r) q q) (d+1) p acc x) (Qac p 3) (d+2) e w'
 | 0,p,hp,x,acc,w,hT,hh,hl=>QhF tb B kb ub bs hi a n c f aT aS aL aE L 0 p hp hn hnc hcc hf hS (fun h=>absurd h (by omega)) x acc w hT hh hl
 | d+1,p,hp,x,acc,w,hT,hh,hl=>QhF tb B kb ub bs hi a n c f aT aS aL aE L (d+1) p hp hn hnc hcc hf hS (fun h s x' acc' W hT' hh' hl'=>by
   have:=Qod tb B kb ub bs hi a n c f aT aS aL aE L hn hnc hcc hf hS d (p++[s]) (by simp;omega) x' acc' W hT' hh' hl';rw [show ((p++[s]).length:Int)=(p.length:Int)+1 by simp] at this;exact this) x acc w hT hh hl
def By (zs:List Int):Prop:=∀z∈zs,0<=z/\ z<256
theorem By.nil:By []:=fun z h=>by cases h
theorem By.app {a b:List Int}(h:By a)(k:By b):By (a++b):=fun z hz=>by
 rcases List.mem_append.1 hz with j|j
 ·exact h z j
 ·exact k z j
theorem By.flat {α:Type}{f:α ->List Int}:∀{ys:List α},(∀y∈ys,By (f y)) ->By (ys.flatMap f):=fun{ys} h z j=>by
 obtain⟨y,k,j⟩:=List.mem_flatMap.1 j;exact h y k z j
theorem By.uv {v:Nat}(h:v<=10000000000):By (uvF 9 v):=QkJ 9 v (by omega)
theorem By.text {s:ByteArray}(h:s.size<=10000000000):By (Qae s):=By.app (By.uv h) (Qdi s)
theorem QlA {l:List (Int×Int)}(h:∀p∈l,1<=p.1/\ p.1<=p.2/\ p.2<=1000000000)(i:Nat):(0<=sF l i/\ sF l i<=1000000000)/\ 0<=sT l i/\ sT l i<=1000000000:=by
 unfold sF sT;by_cases j:i<l.length
 ·have e:l.getD i (0,0)=l[i]:=by simp [List.getD,j]
  have:=h _ (List.getElem_mem j);rw [e];omega
 ·have e:l.getD i (0,0)=(0,0):=by simp [List.getD,List.getElem?_eq_none (Nat.le_of_not_lt j)]
  rw [e];simp
theorem Qh9 {l:List (Int×Int)}(h:∀p∈l,1<=p.1/\ p.1<=p.2/\ p.2<=1000000000):∀k,By (spK l k)
 | 0=>By.nil
 | k+1=>by
  have j:=QlA h k;have m:0<=loK l k:=by
   cases k with
   | zero=>simp [loK]
   | succ k=>have:=QlA h k;simp only [loK];omega
  exact By.app (Qh9 h k) (By.app (By.uv (by omega)) (By.uv (by omega)))
theorem Qjp {R F T:Nat ->Int}{n:Nat}(h:QcL R F T n=true):By (QdR (Lk R F T n)):=by
 have j:=Qam.1 h;rw [Qfi];have m:=Qfz (Lk R F T n) 8;refine By.app (By.uv (by omega)) (By.flat fun r hr=> ?_);have q:=(Qdb (Lk R F T n) 8 r).1 hr;have u:=Qdc R F T n r;have k:=(Qdd n j.1 r).1.2;have v:=j.2;exact By.app (By.uv (by omega)) (By.app (By.uv (by omega)) (Qh9 k _))
theorem QjB {R F T:Nat ->Int}{n:Nat}{l:List Lf}(h:QbQ R F T n l l.length)(hb:LvB l):∀f p,By (tB l f p)
 | 0,p=>by intro z k;simp [tB] at k
 | f+1,p=>by
  obtain⟨s,v⟩:=QdJ p h l.length zL;have g:=Qev l p l.length;have t:=hb.len;rw [Qfp];refine By.app (By.uv (by omega)) (By.flat fun y hy=> ?_);obtain⟨j,u,e⟩:=(v y).1 hy;have E:=QdO (h j u).1 e;have r:=(Qbi.1 e).2;have b:y.2=1 \/y.2=2 \/y.2=3:=by
   rw [<- r];unfold Qat;dsimp only;split
   ·exact .inr (.inr rfl)
   ·rcases Qg0 (gL l j).fl with h|h
    ·exact .inl h
    ·exact .inr (.inl h)
  unfold kB;refine By.app (By.text (by omega)) (By.app (fun z k=>by rw [List.mem_singleton] at k;subst k;omega) ?_);by_cases q:y.2=3
  ·rw [if_pos q];exact QjB h hb f _
  ·rw [if_neg q];unfold mB;have o:=Qgl l p y l.length;refine By.app (By.uv (by omega)) (By.flat fun x hx=> ?_);obtain⟨i,m,_,rfl⟩:=Qbc.1 hx;have r1:=hb.rep i m;have r2:=hb.seq i m;have A:=hb.val i m;unfold lfB;refine By.app (By.uv (by omega)) (By.app (By.uv (by omega)) ?_);split
   ·exact By.text (by omega)
   ·exact By.nil
theorem By.byt {zs:List Int}(h:By zs):Byt (fun i=>zs.getD i 0):=fun i=>by
 by_cases j:i<zs.length
 ·have e:zs.getD i 0=zs[i]:=by simp [List.getD,j]
  have:=h _ (List.getElem_mem j);dsimp only;rw [e];omega
 ·have e:zs.getD i 0=0:=by simp [List.getD,List.getElem?_eq_none (Nat.le_of_not_lt j)]
  dsimp only;rw [e];omega
noncomputable def gsR (f:Nat ->Int)(n:Nat):Option (List (Int×List (Int×Int))×List Lf):=
 if 4000<n then none else(rdC f n 0).bind fun a=>(Qcz f n (fun r q=>inB (lkS a.1 r) q q) 9 [] [] a.2).bind fun b=>if b.2<n then none else some (a.1,b.1)
theorem Qde {α β:Type}{f g:α ->List β}:∀{ys:List α},(∀y∈ys,f y=g y) ->ys.flatMap f=ys.flatMap g
 | [],_=>rfl
 | y::ys,h=>by
  rw [List.flatMap_cons,List.flatMap_cons,h y List.mem_cons_self,Qde fun z hz=>h z (List.mem_cons_of_mem _ hz)]
theorem QjC {R F T:Nat ->Int}{n:Nat}{l:List Lf}(h:QbQ R F T n l l.length):∀(d:Nat) (p:List ByteArray),p.length+(d+1)=8 ->tB l (d+1) p=tB l (d+2) p
 | d,p,hp=>by
  rw [Qfp,Qfp];congr 1;refine Qde fun y hy=> ?_;unfold kB;by_cases k:y.2=3
  ·obtain⟨j,q,u⟩:=((QdJ p h l.length zL).2 y).1 hy;have m:y=(y.1,3):=by rw [<- k]
   have r:nx (p++[y.1]) (gL l j)≠none:=QcC.1 (by rw [<- m];exact u);have v:=(Qff.1 r).2;have z:=(h j q).1.1.2.1;simp at v;rw [if_pos k,if_pos k];match d,hp with
   | 0,hp=>omega
   | d+1,hp=>rw [QjC h d (p++[y.1]) (by simp;omega)]
  ·rw [if_neg k,if_neg k]
theorem Qnc {R F T:Nat ->Int}{m:Nat}(h:QcL R F T m=true):KOk (fun r q=>Qco R F T r q q m):=fun r q hq=>by
 obtain⟨k,j,u,v,y⟩:=QiO R F T r q q m hq;have:=((Qam.1 h).1 k j).1;simp only [QaJ,Bool.and_eq_true,decide_eq_true_eq] at this;omega
theorem Qnn {g:List (Int×List (Int×Int))}(hok:okR (-1) 1000 g):(fun r q=>inB (lkS g r) q q)=fun r q=>Qco (lR (Qa7 g)) (lF (Qa7 g)) (lT (Qa7 g)) r q q (Qa7 g).length:=by
 funext r q;rw [Qlu hok,<- (QcR hok).2.1,Qgu]
structure LX (v:World)(b:Nat):Prop where
 c0:∃u,v.cell? ⟨b,0,none⟩=some (.map u)
 c1:∃u,v.cell? ⟨b,1,none⟩=some (.map u)
 c2:∃u,v.cell? ⟨b,2,none⟩=some (.map u)
 f0:∀i,v.frozen? ⟨b,i,none⟩=false
 lt:b<v.heap.size
section
variable {w v v' : World} {tb ub : Nat}
theorem LX.same {b:Nat}(h:LX v b)(e:v'.heap[b]? =v.heap[b]?)(hz:v.heap.size<=v'.heap.size):LX v' b:=by
 obtain⟨q,j⟩:=h.c0;obtain⟨r,k⟩:=h.c1;obtain⟨u,m⟩:=h.c2;exact⟨⟨q,(World.cell?_of_block (a:=⟨b,0,none⟩) e).trans j⟩,⟨r,(World.cell?_of_block (a:=⟨b,1,none⟩) e).trans k⟩,⟨u,(World.cell?_of_block (a:=⟨b,2,none⟩) e).trans m⟩,fun i=>(World.frozen?_of_block (a:=⟨b,i,none⟩) e).trans (h.f0 i),Nat.lt_of_lt_of_le h.lt hz⟩
theorem LX.fill {b:Nat}(h:LX v b)(s0 s1 s2:Option Nat):
  ∃Z,Z=((v.setCell ⟨b,0,none⟩ (.map s0)).setCell ⟨b,1,none⟩ (.map s1)).setCell ⟨b,2,none⟩ (.map s2)/\ Z.cell? ⟨b,0,none⟩=some (.map s0)/\ Z.cell? ⟨b,1,none⟩=some (.map s1)/\ Z.cell? ⟨b,2,none⟩=some (.map s2)/\ v.grownBy Z (some b):=by
 obtain⟨u,m⟩:=h.c0;obtain⟨y,q⟩:=h.c1;obtain⟨z,r⟩:=h.c2;refine⟨_,rfl,?_,?_,?_,⟨rfl,rfl,rfl,by simp [World.setCell],fun k hk hne=> ?_⟩⟩
 ·rw [World.cell?_setCell_other _ _ _ _ (by simp),World.cell?_setCell_other _ _ _ _ (by simp)];exact World.cell?_setCell_same _ _ _ m
 ·rw [World.cell?_setCell_other _ _ _ _ (by simp)];exact World.cell?_setCell_same _ _ _ (by rw [World.cell?_setCell_other _ _ _ _ (by simp)];exact q)
 ·exact World.cell?_setCell_same _ _ _ (by rw [World.cell?_setCell_other _ _ _ _ (by simp),World.cell?_setCell_other _ _ _ _ (by simp)];exact r)
 ·have j:k≠b:=fun e=>hne (by rw [e]);exact(zH _ _ _ _ j).trans ((zH _ _ _ _ j).trans (zH _ _ _ _ j))
end
def RsP (f:Nat ->Int)(n:Nat)(w:World)(e:Ending)(w':World):Prop:=Below w.heap.size w w'/\
 ((∃(g:List (Int×List (Int×Int))) (J:List Lf) (z0:Nat×Nat) (bd:Nat),gsR f n=some (g,J)/\ e=.returned (.tuple #[.agg #[.map (some z0.1),.map (some z0.2),.map (some bd)],.nilIface])/\ LvJ w' z0 bd J (Qa7 g)/\ okR (-1) 1000 g) \/
  (gsR f n=none/\∃t v,e=.returned (.tuple #[.agg #[.map none,.map none,.map none],.iface t v])))
theorem Qib (B:Nat)(a:Option Addr)(n c:Nat)(f:Nat ->Int)(aT aS aL aE:Addr)(w:World)(hn:n<=9223372036854775807)(hnc:n<=c)(hcc:c<=9223372036854775807)(hf:Byt f)(hs:Seg w a n f)(hE:QcK w B aT aS aL aE)(hB:B<=w.heap.size)(hab:∀y,a=some y ->y.block<w.heap.size):
    Calls Tryz.prog 16 #[.slice a n c] w fun e w'=>RsP f n w e w':=by
  obtain⟨P,hP⟩:∃P,RsP f n w=P:=⟨_,rfl⟩;rw [hP];have HP:=hid hP;clear hP;have bR:Below w.heap.size w (w.alloc (.cells #[.map none,.map none,.map none] 49)):=zO _ _;have H:LX (w.alloc (.cells #[.map none,.map none,.map none] 49)) w.heap.size:=⟨⟨none,by simp⟩,⟨none,by simp⟩,⟨none,by simp⟩,fun i=>by rw [World.frozen?_alloc_at _ _ _ _ rfl],by simp⟩;by_cases h4:4000<n
  · have I:Hid (gsR f n=none):=hid (if_pos h4);obtain⟨WR,H6⟩:∃WR,w.alloc (.cells #[.map none,.map none,.map none] 49)=WR:=⟨_,rfl⟩;rw [H6] at bR H;have Gf:=hid H;have Hv:=hid bR;have HE:=hE.below (bR.mono hB);obtain⟨F,ge⟩:=HE.x0;have lo:0<w.heap.size:=Nat.lt_of_lt_of_le (Nat.lt_of_lt_of_le (by decide) HE.lG) hB;obtain⟨u0,k0⟩:=H.c0;obtain⟨u1,k1⟩:=H.c1;obtain⟨u2,k2⟩:=H.c2;have L:=H.f0;have Hn:(WR.setCell ⟨w.heap.size,0,none⟩ (.map none)).cell? ⟨0,0,none⟩=some (.iface 261 F):=by rw [World.cell?_setCell_far _ _ _ _ (show w.heap.size≠0 by omega)];exact ge
    have Ho:((WR.setCell ⟨w.heap.size,0,none⟩ (.map none)).setCell ⟨w.heap.size,1,none⟩ (.map none)).cell? ⟨0,0,none⟩=some (.iface 261 F):=by rw [World.cell?_setCell_far _ _ _ _ (show w.heap.size≠0 by omega)];exact Hn
    have Gh:(((WR.setCell ⟨w.heap.size,0,none⟩ (.map none)).setCell ⟨w.heap.size,1,none⟩ (.map none)).setCell ⟨w.heap.size,2,none⟩ (.map none)).cell? ⟨0,0,none⟩=some (.iface 261 F):=by rw [World.cell?_setCell_far _ _ _ _ (show w.heap.size≠0 by omega)];exact Ho
    have Gj:(4000:Int)<(n:Int):=by omega
    clear lo HE hs hE H bR;go_enter Tryz.func16,Tryz.ntmps16;go_wp2_with fail;try rw [H6]
    go_region;all_goals go_wp2_with fail
    all_goals (
      obtain⟨Z,z,Q,A,E,h⟩:=Gf.fill none none none;rw [<- z];clear z;refine zF (v:=.tuple #[.agg #[.map none,.map none,.map none],.iface 261 F]) (by simp [results,Tryz.results16,go_sem,Q,A,E]) ?_;rw [<- HP.out];exact⟨(Hv.grown h Hv.size (fun k e=>by injection e with e;omega)).drew,.inr ⟨I.out,_,_,rfl⟩⟩)
  · have Gq:=@run_makeMap Tryz.prog;replace hn:n<=1048576:=by omega
    have Gj:¬(4000:Int)<(n:Int):=by omega
    obtain⟨W,V⟩:∃W,((w.alloc (.cells #[.map none,.map none,.map none] 49)).alloc (.map #[] 0)).alloc (.cells #[.slice a n c,.int .i64 0,.map none,.map (some (w.heap.size+1))] 102)=W:=⟨_,rfl⟩;have bW:Below w.heap.size w W:=by rw [<- V];exact(bR.alloc (by simp) _).alloc (by simp;omega) _
    have zW:W.heap.size=w.heap.size+3:=by rw [<- V];simp
    have xW:LX W w.heap.size:=H.same (by rw [<- V];exact(Below.heap_alloc _ _ _ (by simp;omega)).trans (Below.heap_alloc _ _ _ (by simp))) (by rw [<- V];simp);have uW:UsM W (w.heap.size+1) []:=by
      have:=(UsM.made (w.alloc (.cells #[.map none,.map none,.map none] 49)));rw [<- V];have h2:UsM ((w.alloc (.cells #[.map none,.map none,.map none] 49)).alloc (.map #[] 0)) (w.heap.size+1) []:=by simpa using this
      exact h2.same (Below.heap_alloc _ _ _ (by simp))
    have cW:Cur (fun i=>if i=2 then some (.map none) else if i=3 then some (.map (some (w.heap.size+1))) else none) W (w.heap.size+2) a n c ((0:Nat):Int):=by
      rw [<- V];refine⟨?_,?_,?_,fun i hi=> ?_⟩
      · rw [World.cell?_alloc_at _ _ _ _ (by simp)];rfl
      · rw [World.cell?_alloc_at _ _ _ _ (by simp)];rfl
      · rw [World.frozen?_alloc_at _ _ _ _ (by simp)]
      · rw [World.cell?_alloc_at _ _ _ _ (by simp),World.frozen?_alloc_at _ _ _ _ (by simp)];refine⟨?_,rfl⟩;match i,hi with
        | 2,_=>rfl
        | 3,_=>rfl
        | j+4,_=>simp
    have fW:∀i,W.frozen? ⟨w.heap.size+2,i,none⟩=false:=fun i=>by rw [<- V,World.frozen?_alloc_at _ _ _ _ (by simp)]
    have Hf:∀y,a=some y ->y.block≠w.heap.size+2:=fun y hy=>by have:=hab y hy;omega
    have Ha:=hid (QoP (EX:=fun i=>if i=2 then some (.map none) else if i=3 then some (.map (some (w.heap.size+1))) else none) (w.heap.size+2) B a n c ((0:Nat):Int) f aT aS aL aE W hn hf cW (hs.below bW) Hf (hE.below (bW.mono hB)) (by omega));have HF:=hid hf;have Gc:=hid (hs.below bW);have H7:=hid (hE.below (bW.mono hB));have HX:=hid xW;have Ge:=hid uW;have Hg:=hid bW;have HZ:=hid zW;have Hs:=hid hab;have Gy:=hid fW;clear hf hs hE xW uW bW zW cW bR H Hf hab fW;go_enter Tryz.func16,Tryz.ntmps16;go_wp2_with fail;try rw [V]
    clear V Gq;refine Ha.mono ?_;clear Ha;rintro e w1 ⟨S,⟨g,x1,K,nn,D,G,C,rfl,Hj,cu,Gp,Hq⟩|⟨C,pb,u,y,rfl,Gr,Gl,cu⟩⟩
    · have X:=(QnN HF.out C).2.2;have Hp:=Qlu X;have H9:Hid (∀r,Srt (lkS g r)/\ (lkS g r).length<=1000000):=hid (fun r=>by
        rw [Hp];have:=Qg6 g _ _ X (by omega) r;exact⟨(QdM g _ _ X r).1,by omega⟩)
      have Hk:Hid (Qdm (lkS g) 8=Qa7 g/\ (∀r,lkS g r≠[] ->0<=r/\ r<8)/\∀r,(lkS g r).length<=4000):=hid (by
        rw [Hp];refine⟨(QcR X).2.2.2,fun r C=> ?_,fun r=> ?_⟩
        · have:=(QdM g _ _ X r).2.1 C;omega
        · have:=Qg6 g _ _ X (by omega) r;omega)
      have Gb:=hid X;have Hl:Hid (gsR f n=(Qcz f n (fun r q=>inB (lkS g r) q q) 9 [] [] x1).bind fun b=>if b.2<n then none else some (g,b.1)):=hid (by
        unfold gsR;rw [if_neg h4,show ((0:Int))=((0:Nat):Int) from rfl,C];rfl)
      have zz:=HZ.out;have z1:=S.size;have Gx:w.heap.size+2<w1.heap.size:=by omega
      obtain⟨Hy,Hz,H0,Hd⟩:=cu;have cm:w1.cell? ⟨w.heap.size+1+1,2,none⟩=some (.map none):=(Hd 2 (by omega)).1;obtain⟨O,He⟩:∃O,w1.setCell ⟨w.heap.size+2,2,none⟩ (.map (some K))=O:=⟨_,rfl⟩;have Hm:w1.grownBy O (some (w.heap.size+2)):=by rw [<- He];exact Qbw w1 ⟨w.heap.size+2,2,none⟩ _
      have z2:O.heap.size=w1.heap.size:=by rw [<- He];simp [World.setCell]
      have T:=Qaf S Hm;have Gd:Hid (TS O (w.heap.size+2) B K (w.heap.size+1) (w.heap.size+3) w1.heap.size a n c f aT aS aL aE (lkS g) (x1:Int) []):=hid (by
        refine⟨?_,Gc.grown T (fun y hy=>by have:=Hs y hy;omega),H7.grown T (by omega) (by omega),Ge.same (T.block (w.heap.size+1) (by omega) (fun e=>by injection e with e;omega)),⟨nn,D,G,Hj.gr Hm (fun e=>by injection e with e;omega) (fun r k hk e=>by injection e with e;have:=Hq r k hk;omega),fun r k hk=> ?_⟩,fun y hy=> ?_,by omega,by omega,by omega,by omega,by omega,by omega,Hj.own.lt⟩
        · rw [<- He];refine⟨?_,?_,?_,fun i hi=> ?_⟩
          · rw [World.cell?_setCell_other _ _ _ _ (by simp)];exact Hy
          · rw [World.cell?_setCell_other _ _ _ _ (by simp)];exact Hz
          · rw [World.frozen?_setCell];exact H0
          · unfold exT;by_cases e2:i=2
            · subst e2;rw [if_pos rfl];exact⟨World.cell?_setCell_same _ _ _ cm,by rw [World.frozen?_setCell];exact(Hd 2 (by omega)).2⟩
            · have h3:=Hd i hi;dsimp only at h3;rw [if_neg e2] at h3;rw [if_neg e2,World.cell?_setCell_other _ _ _ _ (by intro e;injection e with e1 e3 e4;exact e2 e3.symm),World.frozen?_setCell];exact h3
        · have:=(World.ownsRow.lt (Hj.rows r) k hk).2;have:=Hq r k hk;omega
        · have:=Hs y hy;omega)
      have Hx:Hid (Calls Tryz.prog 42 #[.pointer (some ⟨w.heap.size+2,0,none⟩),.int .i64 0] O fun e w'=>NdP O (w.heap.size+2) B K (w.heap.size+1) (w.heap.size+3) w1.heap.size a n c f aT aS aL aE (lkS g) [] (Qcz f n (fun r q=>inB (lkS g r) q q) 9 [] [] x1) [] 10 e w'):=
        hid (Qod (w.heap.size+2) B K (w.heap.size+1) (w.heap.size+3) w1.heap.size a n c f aT aS aL aE (lkS g) hn hnc hcc HF.out H9.out 8 [] rfl x1 [] O Gd.out (by omega) (by simp))
      have Hh:=hid (HX.same (T.block w.heap.size HX.lt (fun e=>by injection e with e;omega)) T.size);have M:=hid (Hg.grown T Hg.size (fun k e=>by injection e with e;omega));have fz:w1.frozen? ⟨w.heap.size+1+1,2,none⟩=false:=(Hd 2 (by omega)).2;have H8:Hid (w1.heap.size<=O.heap.size):=hid (by omega);clear S C Hj Gp Hq Hm T Hy Hz H0 Hd X Hp zz z1 Gx;go_wp2_with fail;try rw [He]
      clear He cm fz;refine Hx.mono ?_;clear Hx;rintro e Y ⟨g3,⟨J,x3,Gg,N,x0,hJ,rfl,t3,H2,H3,Gk,H4,H5⟩|⟨hJ,t,v,rfl⟩⟩
      · obtain⟨s1,s2⟩:=x0;obtain⟨s,Hi⟩:∃s,Y.alloc (.cells #[.map (some s1),.map (some s2)] 45)=s:=⟨_,rfl⟩;have b4:Below Y.heap.size Y s:=by rw [<- Hi];exact zO _ _
        have V4:Bx2 s Y.heap.size (.map (some s1)) (.map (some s2)):=by rw [<- Hi];exact Bx2.made Y _ _ _
        have T4:=t3.below b4;have m:G2 (w.heap.size+2) (w.heap.size+1) O s:=g3.trans (G2.below b4);have o:=hid (Hh.same (m.block w.heap.size Hh.lt (by omega) (by omega)) m.size);have U:Hid (Below w.heap.size w s):=hid ⟨m.os.trans M.os,m.tape.trans M.tape,m.output.trans M.output,Nat.le_trans M.size m.size,fun k hk=>(m.block k (Nat.lt_of_lt_of_le hk M.size) (by omega) (by omega)).trans (M.block k hk)⟩;have Go:s.cell? ⟨w.heap.size+1+1,1,none⟩=some (.int .i64 (x3:Int)):=T4.cur.2.1;have n0:=V4.c0;have n1:=V4.c1;have Hw:=hid T4;obtain⟨u0,k0⟩:=o.c0;obtain⟨u1,k1⟩:=o.c1;obtain⟨u2,k2⟩:=o.c2;have L:=o.f0;have Gs:=g3.size;have G0:=H8.out;by_cases h3:x3<n
        · have I:Hid (gsR f n=none):=hid (by rw [Hl.out,hJ];simp only [List.nil_append,Option.bind_some];rw [if_pos h3]);have Gi:(x3:Int)<(n:Int):=by omega
          obtain⟨F,ge⟩:=T4.err.x1;have lo:1<w.heap.size:=Nat.lt_of_lt_of_le (Nat.lt_of_lt_of_le (by decide) T4.err.lG) hB;have R:∀(v:World) (i:Nat) (u:Value) (b j:Nat),b≠w.heap.size ->(v.setCell ⟨w.heap.size,i,none⟩ u).cell? ⟨b,j,none⟩=v.cell? ⟨b,j,none⟩:=fun v i u b j hne=>World.cell?_setCell_far _ _ _ _ (by simpa using hne.symm);have Hn:=(R s 0 (.map none) 1 0 (by omega)).trans ge;have Ho:=(R _ 1 (.map none) 1 0 (by omega)).trans Hn;have Gh:=(R _ 2 (.map none) 1 0 (by omega)).trans Ho;have Gm:=(R s 0 (.map none) (w.heap.size+1+1) 1 (by omega)).trans Go;have Gn:=(R _ 1 (.map none) (w.heap.size+1+1) 1 (by omega)).trans Gm;have Gz:=(R _ 2 (.map none) (w.heap.size+1+1) 1 (by omega)).trans Gn;have bP:Below s.heap.size s (s.alloc (.cells #[.string ⟨#[101,110,100]⟩,.int .i64 (x3:Int),.iface 261 F] 109)):=zO _ _;have Hc:=hid (o.same (bP.block w.heap.size o.lt) bP.size);have Hu:=hid (U.trans (bP.mono U.size));obtain⟨v0,l0⟩:=Hc.c0;obtain⟨v1,l1⟩:=Hc.c1;obtain⟨v2,l2⟩:=Hc.c2;have fP:=Hc.f0;clear R lo b4 V4 T4 m g3 t3 hJ H2 H3 Gk H4 H5 bP;go_wp2_with fail;try rw [Hi]
          go_region;all_goals go_wp2_with fail
          all_goals first
            | (obtain⟨Z,z,Q,A,E,h⟩:=Hc.fill none none none
               rw [<- z]
               clear z
               refine zF (v:=.tuple #[.agg #[.map none,.map none,.map none],.iface 107 (.pointer (some ⟨s.heap.size,0,none⟩))]) (by simp [results,Tryz.results16,go_sem,Q,A,E]) ?_
               rw [<- HP.out]
               exact⟨(Hu.grown h Hu.size (fun k e=>by injection e with e;omega)).drew,.inr ⟨I.out,_,_,rfl⟩⟩)
            | (obtain⟨Z,z,Q,A,E,h⟩:=o.fill none none none
               rw [<- z]
               clear z
               have Hr:w.heap.size<Z.heap.size:=Nat.lt_of_lt_of_le o.lt h.size
               have bQ:Below Z.heap.size Z (Z.alloc (.cells #[.string ⟨#[101,110,100]⟩,.int .i64 (x3:Int),.iface 261 F] 109)):=zO _ _
               have Gu:=(bQ.cell (p:=⟨w.heap.size,0,none⟩) Hr).trans Q
               have Gv:=(bQ.cell (p:=⟨w.heap.size,1,none⟩) Hr).trans A
               have Gw:=(bQ.cell (p:=⟨w.heap.size,2,none⟩) Hr).trans E
               have H1:=U.grown h U.size (fun k e=>by injection e with e;omega)
               refine zF (v:=.tuple #[.agg #[.map none,.map none,.map none],.iface 107 (.pointer (some ⟨s.heap.size,0,none⟩))]) (by simp [results,Tryz.results16,go_sem,Gu,Gv,Gw]) ?_
               rw [<- HP.out]
               exact⟨(H1.trans (bQ.mono H1.size)).drew,.inr ⟨I.out,_,_,rfl⟩⟩)
        · have HY:Hid (gsR f n=some (g,J)):=hid (by rw [Hl.out,hJ];simp only [List.nil_append,Option.bind_some];rw [if_neg h3]);have Gi:¬(x3:Int)<(n:Int):=by omega
          have Ga:Hid (∀Z,s.grownBy Z (some w.heap.size) ->LvJ Z (s1,s2) K J (Qa7 g)):=hid (fun Z h=>by
            obtain⟨Gt,D',G',A,E⟩:=Hw.grp;refine⟨N,O.heap.size,Gg,Gt,D',G',lkS g,(H5.below b4).box k0 h,?_,A.gr h (fun e=>by injection e with e;have:=Hw.kl;omega) (fun r k hk e=>by injection e with e;have:=(E r k hk).1;omega),Hk.1,Hk.2.1,Hk.2.2⟩;simp only [List.nil_append] at H4;omega)
          clear b4 V4 T4 m g3 t3 hJ H2 H3;go_wp2_with fail;try rw [Hi]
          obtain⟨Z,z,Q,A,E,h⟩:=o.fill (some s1) (some s2) (some K);rw [<- z];clear z;refine zF (v:=.tuple #[.agg #[.map (some s1),.map (some s2),.map (some K)],.nilIface]) (by simp [results,Tryz.results16,go_sem,Q,A,E]) ?_;rw [<- HP.out];exact⟨U.grown h U.size (fun k e=>by injection e with e;omega),.inl ⟨g,J,(s1,s2),K,HY.out,rfl,Ga.out Z h,Gb.out⟩⟩
      · have I:Hid (gsR f n=none):=hid (by rw [Hl.out,hJ];rfl);have b4:Below Y.heap.size Y (Y.alloc (.cells #[.map none,.map none] 45)):=zO _ _;have m:=g3.trans (G2.below b4);have o:=hid (Hh.same (m.block w.heap.size Hh.lt (by omega) (by omega)) m.size);have U:Hid (Below w.heap.size w (Y.alloc (.cells #[.map none,.map none] 45))):=hid ⟨m.os.trans M.os,m.tape.trans M.tape,m.output.trans M.output,Nat.le_trans M.size m.size,fun k hk=>(m.block k (Nat.lt_of_lt_of_le hk M.size) (by omega) (by omega)).trans (M.block k hk)⟩;obtain⟨u0,k0⟩:=o.c0;obtain⟨u1,k1⟩:=o.c1;obtain⟨u2,k2⟩:=o.c2;have L:=o.f0;clear g3 m b4 hJ;go_wp2_with fail;obtain⟨Z,z,Q,A,E,h⟩:=o.fill none none none;rw [<- z];clear z;refine zF (v:=.tuple #[.agg #[.map none,.map none,.map none],.iface t v]) (by simp [results,Tryz.results16,go_sem,Q,A,E]) ?_;rw [<- HP.out];exact⟨U.grown h U.size (fun k e=>by injection e with e;omega),.inr ⟨I.out,_,_,rfl⟩⟩
    · have I:Hid (gsR f n=none):=hid (by unfold gsR;rw [if_neg h4,show ((0:Int))=((0:Nat):Int) from rfl,C];rfl);have Hb:=hid (HX.same (S.block w.heap.size HX.lt (fun e=>by injection e with e;omega)) S.size);have Ht:=hid (Hg.grown S Hg.size (fun k e=>by injection e with e;omega));obtain⟨u0,k0⟩:=Hb.c0;obtain⟨u1,k1⟩:=Hb.c1;obtain⟨u2,k2⟩:=Hb.c2;have L:=Hb.f0;clear S C cu Gl Gr;go_wp2_with fail;obtain⟨Z,z,Q,A,E,h⟩:=Hb.fill none none none;rw [<- z];clear z;refine zF (v:=.tuple #[.agg #[.map none,.map none,.map none],.iface 107 (.pointer (some ⟨pb,0,none⟩))]) (by simp [results,Tryz.results16,go_sem,Q,A,E]) ?_;rw [<- HP.out];exact⟨Ht.grown h Ht.size (fun k e=>by injection e with e;omega),.inr ⟨I.out,_,_,rfl⟩⟩
open Go.Deep
theorem Ql8 {w:World}{pa:Option Addr}{L:Nat}{f:Nat ->Int}(h:Seg w pa L f)(hf:Byt f)(cap:Nat):(convert 22 9 (.slice pa L cap)).run Tryz.prog w=.ok (.string (Qeb f 0 L)) w:=by
 by_cases j:L=0
 ·subst j;have e:Qeb f 0 0=⟨#[]⟩:=by simp [Qeb]
  cases pa with
  | none=>
   rw [e,run_convert_bytes_string _ _ _ 5 none 0 cap Tryz.underlying22 Tryz.underlying5 Tryz.underlying9];rfl
  | some ad=>exact QfY ad 0 cap f
 ·rcases h with h|⟨b,off,rfl,m,k⟩
  ·exact absurd h j
  ·exact QfX (off:=off) (p:=0) hf (fun i hi=>by rw [Nat.zero_add];exact k i hi)
theorem QnJ (R F T:Nat ->Int)(n:Nat)(l:List Lf):By (psZ R F T n l).1:=by
 by_cases h:Qbe R F T n l
 ·by_cases j:(psB R F T n l).length<=4000
  ·rw [Qfh h j];exact By.app (Qjp h.1) (QjB h.2.2.1 h.lvB _ _)
  ·rw [Qdt h j];exact By.nil
 ·rw [Qhu h];exact By.nil
theorem Bx2.fill {v:World}{b:Nat}{v0 v1:Value}(h:Bx2 v b v0 v1)(u0 u1:Value):∃Z,Z=(v.setCell ⟨b,0,none⟩ u0).setCell ⟨b,1,none⟩ u1/\ Z.cell? ⟨b,0,none⟩=some u0/\ Z.cell? ⟨b,1,none⟩=some u1/\ v.grownBy Z (some b):=by
 refine⟨_,rfl,?_,?_,⟨rfl,rfl,rfl,by simp [World.setCell],fun k hk hne=> ?_⟩⟩
 ·rw [World.cell?_setCell_other _ _ _ _ (by simp)];exact World.cell?_setCell_same _ _ _ h.c0
 ·exact World.cell?_setCell_same _ _ _ (by rw [World.cell?_setCell_other _ _ _ _ (by simp)];exact h.c1)
 ·have j:k≠b:=fun e=>hne (by rw [e]);exact(zH _ _ _ _ j).trans (zH _ _ _ _ j)
theorem Qno {f:Nat ->Int}(hf:Byt f){n:Nat}{g:List (Int×List (Int×Int))}{J:List Lf}(h:gsR f n=some (g,J)):Qbe (lR (Qa7 g)) (lF (Qa7 g)) (lT (Qa7 g)) (Qa7 g).length J:=by
 unfold gsR at h;by_cases m:4000<n
 ·rw [if_pos m] at h;cases h
 ·rw [if_neg m] at h;obtain⟨a,q,h⟩:=Qad.1 h;obtain⟨b,j,h⟩:=Qad.1 h;split at h
  ·cases h
  ·simp only [Option.some.injEq,Prod.mk.injEq] at h;obtain⟨rfl,rfl⟩:=h;obtain⟨g,A⟩:=a;obtain⟨J,x'⟩:=b;simp only at j ⊢;rw [show ((0:Int))=((0:Nat):Int) from rfl,QgD] at q;obtain⟨r,p,s,u⟩:=(QdS hf (Nat.zero_le _)).1 q;obtain⟨k,t,o,i⟩:=QcR r;rw [Qnn r] at j;obtain⟨⟨v,y,z⟩,_⟩:=(Qe7 hf (Qnc k)).1 ⟨j,u⟩;exact⟨k,z,v,y⟩
def ImP (f:Nat ->Int)(n:Nat)(w:World)(e:Ending)(w':World):Prop:=Below w.heap.size w w'/\
 ((∃(g:List (Int×List (Int×Int))) (l:List Lf) (va:Option Addr) (vc:Nat) (xa:Option Addr) (xc:Nat),gsR f n=some (g,l)/\ e=.returned (.tuple #[.agg #[.slice va l.length vc,.slice xa (Qa7 g).length xc],.int .i64 0])/\ LB w' (w.heap.size+1) (.slice va l.length vc) l/\ FR w' (w.heap.size+1) (.slice xa (Qa7 g).length xc) (Qa7 g)) \/
  (gsR f n=none/\ e=.returned (.tuple #[.agg #[.slice none 0 0,.slice none 0 0],.int .i64 1])))
theorem Qkl (B:Nat)(a:Option Addr)(n c:Nat)(f:Nat ->Int)(aT aS aL aE:Addr)(w:World)(hn:n<=9223372036854775807)(hnc:n<=c)(hcc:c<=9223372036854775807)(hf:Byt f)(hs:Seg w a n f)(hE:QcK w B aT aS aL aE)(hB:B<=w.heap.size)(hab:∀y,a=some y ->y.block<w.heap.size):
  Calls Tryz.prog 7 #[.slice a n c] w fun e w'=>ImP f n w e w':=by
 obtain⟨P,G⟩:∃P,ImP f n w=P:=⟨_,rfl⟩;rw [G];have R:=hid G;clear G;obtain⟨W,b⟩:∃W,w.alloc (.cells #[.slice none 0 0,.slice none 0 0] 28)=W:=⟨_,rfl⟩;have O:Below w.heap.size w W:=by rw [<- b];exact zO _ _
 have zW:W.heap.size=w.heap.size+1:=by rw [<- b];simp
 have A:Hid (Bx2 W w.heap.size (.slice none 0 0) (.slice none 0 0)):=hid (by rw [<- b];exact Bx2.made w _ _ _);have S:=hid (Qib B a n c f aT aS aL aE W hn hnc hcc hf (hs.below O) (hE.below (O.mono hB)) (by omega) (fun y hy=>by have:=hab y hy;omega));have s:=hid O;have He:=hid zW;have HF:=hid hf;clear O zW hs hE hab hf;go_enter Tryz.func7,Tryz.ntmps7;go_wp2_with fail;try rw [b]
 clear b;refine S.mono ?_;clear S;rintro e w1 ⟨M,⟨g,J,z0,bd,h,rfl,Hc,Hg⟩|⟨h,t,v,rfl⟩⟩
 ·obtain⟨s1,s2⟩:=z0;obtain⟨r,V⟩:∃r,w1.alloc (.cells #[.map (some s1),.map (some s2),.map (some bd)] 49)=r:=⟨_,rfl⟩;have u:Below w1.heap.size w1 r:=by rw [<- V];exact zO _ _
  have j:Bx3 r w1.heap.size (.map (some s1)) (.map (some s2)) (.map (some bd)):=by rw [<- V];exact Bx3.made _ _ _ _ _
  have m:=Qab M u;have H:=Qno HF.out h;have T:=hid (QnZ r (Hc.below u) H.2.2.1 H.lvB);have x0:=j.c0;have x1:=j.c1;have x2:=j.c2;have E:=hid (A.below m A.lt);have o:=hid (s.trans (m.mono s.size));have Y:=hid h;have Hh:w.heap.size+1<=r.heap.size:=by have:=He.out;have:=m.size;omega
  clear M u m j h Hc Hg H;go_wp2_with fail;try rw [V]
  clear V;refine T.mono ?_;clear T;rintro e w3 ⟨⟨L,N,X,C,rfl,Hb,Ha,Hi⟩,b3⟩;have i:=E.below b3 E.lt;have Q:=i.c0;have U:=i.c1;have cf:=i.f;have Hd:=hid i;have HL:=hid Hb;have F:=hid Ha;have D:=hid (o.trans (b3.mono o.size));clear i Hb Ha b3 x0 x1 x2;go_wp2_with fail;obtain⟨Z,p,I,K,z⟩:=Hd.fill (.slice L J.length N) (.slice X (Qa7 g).length C);rw [<- p];clear p;refine zF (v:=.tuple #[.agg #[.slice L J.length N,.slice X (Qa7 g).length C],.int .i64 0]) (by simp [results,Tryz.results7,go_sem,I,K]) ?_;rw [<- R.out];refine⟨D.grown z D.size (fun k e=>by injection e with e;omega),.inl ⟨g,J,L,N,X,C,Y.out,rfl,(HL.move z.size (fun q h1 h2=>z.block q h2 (fun e=>by injection e with e;omega))).low (by omega),FR.weak (Qaq F.out (fun k hk=> ?_)) (by omega)⟩⟩;have Hf:=World.ownsRow.lt F.out k hk;exact z.block k Hf.2 (fun e=>by injection e with e;omega)
 ·have u:Below w1.heap.size w1 (w1.alloc (.cells #[.map none,.map none,.map none] 49)):=zO _ _;have m:=Qab M u;have j:=A.below m A.lt;have E:=hid j;have o:=hid (s.trans (m.mono s.size));have Q:=j.c0;have U:=j.c1;have cf:=j.f;have Y:=hid h;clear M u m j h;go_wp2_with fail;obtain⟨Z,p,I,K,z⟩:=E.fill (.slice none 0 0) (.slice none 0 0);rw [<- p];clear p;refine zF (v:=.tuple #[.agg #[.slice none 0 0,.slice none 0 0],.int .i64 1]) (by simp [results,Tryz.results7,go_sem,I,K]) ?_;rw [<- R.out];exact⟨o.grown z o.size (fun k e=>by injection e with e;omega),.inr ⟨Y.out,rfl⟩⟩
end Go.Proofs.YtdeolligikjieaaGreatDoor
