import Derived.Test.YtjdcfkmhmnblbaaGreatDoorFqg18
import Derived.Test.YtjdcfkmhmnblbaaGreatDoorFqg10
import Derived.Test.YtjdcfkmhmnblbaaGreatDoorFqg17
import Derived.Test.YtjdcfkmhmnblbaaGreatDoorFqg14
import Derived.Test.YtjdcfkmhmnblbaaGreatDoorFqg05
import Derived.Test.YtjdcfkmhmnblbaaGreatDoorFqg16
import Derived.Test.YtjdcfkmhmnblbaaGreatDoorFqg09
import Derived.Test.YtjdcfkmhmnblbaaGreatDoorFqg04
import Derived.Test.YtjdcfkmhmnblbaaGreatDoorFqg11
set_option linter.unusedVariables false
set_option linter.unusedSimpArgs false
set_option maxRecDepth 100000
set_option maxHeartbeats 40000000
namespace Go.Proofs.YtjdcfkmhmnblbaaGreatDoor
open Go.ChangeShapes Go.WideShapes Go.ChangeAt Go.RowKit
def NdP (w:World)(tb B kb ub bs hi:Nat)(a:Option Addr)(n c:Nat)(f:Nat ->Int)(aT aS aL aE:Addr)(L:Int ->List (Int×Int))(acc:List Lf)(R:Option (List Lf×Nat))(z:List Ky)(D:Nat)(e:Ending)(w':World):Prop:=G2 tb ub w w'/\
 ((∃(J:List Lf) (x' cnt:Nat) (N:List Ky ->Option (Nat×Nat)) (x0:Nat×Nat),R=some (acc++J,x')/\ e=.returned (.tuple #[.agg #[.map (some x0.1),.map (some x0.2)],.nilIface])/\ TS w' tb B kb ub bs hi a n c f aT aS aL aE L ((x':Nat):Int) (acc++J)/\
   (∀y∈J,z <+:Way y)/\ (J≠[] \/z=[])/\ cnt<=D*J.length/\ (acc++J).length<=1000/\ JF w' w.heap.size J z N cnt x0) \/
  (R=none/\∃t v,e=.returned (.tuple #[.agg #[.map none,.map none],.iface t v])))
section
variable {w w' : World} {B B' c c' tb ub : Nat} {N : List Ky -> Option (Nat × Nat)} {M : List Ky -> Dt -> Option ByteArray} {J : List Lf} {z : List Ky} {K : Ky -> Prop} {x0 : Nat × Nat}
theorem Tre.g2 (h:Tre w B N M c)(g:G2 tb ub w w')(h1:tb<B)(h2:ub<B):Tre w' B N M c:=h.same fun p x hx=>by
 have l:=h.lo p x hx;have k:=h.lt hx;exact⟨g.block _ k.1 (by omega) (by omega),g.block _ k.2 (by omega) (by omega)⟩
theorem Tre.box (h:Tre w B N M c){b i:Nat}{v:Value}(hc:w.cell? ⟨b,i,none⟩=some v)(g:w.grownBy w' (some b)):Tre w' B N M c:=h.same fun p x hx=>by
 refine⟨g.block _ (h.lt hx).1 fun e=> ?_,g.block _ (h.lt hx).2 fun e=> ?_⟩
 ·injection e with e;obtain⟨m,k,j⟩:=(h.kids p x hx).obj;rw [e] at j;exact Qcm hc _ _ j
 ·injection e with e;obtain⟨m,k,j⟩:=(h.marks p x hx).obj;rw [e] at j;exact Qcm hc _ _ j
theorem JF.lower (h:JF w B J z N c x0)(hb:B'<=B):JF w B' J z N c x0:=⟨h.tre.lower hb,h.root,h.there⟩
theorem JF.mono (h:JF w B J z N c x0)(hc:c<=c'):JF w B J z N c' x0:=⟨h.tre.mono hc,h.root,h.there⟩
theorem JF.box (h:JF w B J z N c x0){b i:Nat}{v:Value}(hc:w.cell? ⟨b,i,none⟩=some v)(g:w.grownBy w' (some b)):JF w' B J z N c x0:=⟨h.tre.box hc g,h.root,h.there⟩
theorem JF.below (h:JF w B J z N c x0)(hb:Below w.heap.size w w'):JF w' B J z N c x0:=⟨h.tre.below hb,h.root,h.there⟩
theorem JT.box (h:JT w B J z K N c x0){b i:Nat}{v:Value}(hc:w.cell? ⟨b,i,none⟩=some v)(g:w.grownBy w' (some b)):JT w' B J z K N c x0:=⟨h.tre.box hc g,h.root,h.there⟩
theorem JT.g2 (h:JT w B J z K N c x0)(g:G2 tb ub w w')(h1:tb<B)(h2:ub<B):JT w' B J z K N c x0:=⟨h.tre.g2 g h1 h2,h.root,h.there⟩
theorem JT.new (z:List Ky)(hk:QaZ w 113 (α:=Ky) Qbr Qdp x0.1 0 (fun _=>none))(hm:QaZ w 75 (α:=Dt) dtV QeC x0.2 0 (fun _=>none))(hne:x0.1≠x0.2)(hB:B<=x0.1/\ B<=x0.2):JT w B [] z (fun _=>False) (fun r=>if r=[] then some x0 else none) 0 x0:=by
 have e:mJ [] z (fun _=>False)=fun _ _=>none:=by
  funext r;cases r with
  | nil=>rfl
  | cons y r=>simp only [mJ];rw [if_neg (by rw [Qaj (fun h=>h)];simp)]
 refine⟨by rw [e];exact Tre.new hk hm hne hB,by simp,fun y r=> ?_⟩;simp
theorem QgM {u v:Ky}{q:List Ky}(h1:z++[u] <+:q)(h2:z++[v] <+:q):u=v:=by
 have e:=List.IsPrefix.eq_of_length (List.prefix_of_prefix_length_le h1 h2 (by simp)) (by simp);simpa using e
end
structure TL (w:World)(B:Nat)(l:List Lf)(z:List Ky)(before:Ky)(D k:Nat)(x0:Nat×Nat):Prop where
 ex:∃(K:Ky ->Prop) (N:List Ky ->Option (Nat×Nat)) (c:Nat),JT w B l z K N c x0/\ (∀u,K u ->QbA u before<=0)/\ (∀x∈l,∃v,K v/\ (z++[v]) <+:Way x)/\ c<=D*l.length
 some':k<=l.length
section
variable {w w' v : World} {B D k tb ub : Nat} {J l : List Lf} {z : List Ky} {before y : Ky} {x0 : Nat × Nat}
theorem TL.new (z:List Ky)(before:Ky)(D:Nat)(hk:QaZ w 113 (α:=Ky) Qbr Qdp x0.1 0 (fun _=>none))(hm:QaZ w 75 (α:=Dt) dtV QeC x0.2 0 (fun _=>none))(hne:x0.1≠x0.2)(hB:B<=x0.1/\ B<=x0.2):TL w B [] z before D 0 x0:=
 ⟨⟨_,_,0,JT.new z hk hm hne hB,fun _ h=>h.elim,fun x hx=>by simp at hx,Nat.zero_le _⟩,Nat.zero_le _⟩
theorem TL.box (h:TL w B l z before D k x0){b i:Nat}{v:Value}(hc:w.cell? ⟨b,i,none⟩=some v)(g:w.grownBy w' (some b)):TL w' B l z before D k x0:=by
 obtain⟨⟨K,N,c,j,m⟩,q⟩:=h;exact⟨⟨K,N,c,j.box hc g,m⟩,q⟩
theorem TL.full (h:TL w B l z before D k x0):∃N c,JF w B l z N c x0/\ c<=D*l.length/\∀x∈l,z <+:Way x:=by
 obtain⟨⟨K,N,c,r,g,m,u⟩,_⟩:=h;refine⟨N,c,r.full fun y ⟨x,hx,hp⟩=> ?_,u,fun x hx=> ?_⟩
 ·obtain⟨v,q,j⟩:=m x hx;rw [QgM hp j];exact q
 ·obtain⟨v,q,j⟩:=m x hx;exact(List.prefix_append _ _).trans j
theorem TL.hang {B1 cnt:Nat}{N1:List Ky ->Option (Nat×Nat)}{x1:Nat×Nat}(h:TL w B l z before (D+1) k x0)(g:G2 tb ub w v)(h1:tb<B)(h2:ub<B)(hj:JF v B1 J (z++[y]) N1 cnt x1)(hb1:w.heap.size<=B1)(hb:B<=w.heap.size)(hy:QbA before y<0)(hJ:∀x∈J,(z++[y]) <+:Way x)(hne:J≠[])(hc:cnt<=D*J.length):
  ∃(c:Nat) (F:Ky ->Option (Nat×Nat)),c<=(D+1)*(l++J).length/\ QaZ v 113 Qbr Qdp x0.1 c F/\∀w',v.grownBy w' (some x0.1) ->QaZ w' 113 Qbr Qdp x0.1 (c+1) (QeJ F y (some x1)) ->TL w' B (l++J) z y (D+1) (k+1) x0:=by
 obtain⟨⟨K,N,c,A,i,E,I⟩,L⟩:=h;have Z:1<=J.length:=List.length_pos_iff.2 hne;have G:D*J.length+1<=(D+1)*J.length:=by rw [Nat.succ_mul];omega
 have H:(D+1)*(l++J).length=(D+1)*l.length+(D+1)*J.length:=by rw [List.length_append,Nat.mul_add]
 have t:¬K y:=fun hk=>by
  have:=i y hk;have:=QaG.key.neg y before;have:=QaG.key.irr y;rcases Int.lt_or_eq_of_le (i y hk) with e|e
  ·have:=QaG.key.tr _ _ _ e hy;omega
  ·rw [(QaG.key.z _ _).1 e] at hy;rw [QaG.key.irr] at hy;omega
 have Q:=A.g2 g h1 h2;have s:JT v B (l++J) z K N (c+cnt) x0:=(Q.more (fun x j e=>by
  have:=(hJ x j).length_le;rw [e] at this;simp at this;omega) (fun x j u r hp=>by
  have e:=QgM hp (hJ x j);rw [e] at r;exact t r)).mono (Nat.le_add_right _ _)
 have U:JF v B (l++J) (z++[y]) N1 (c+cnt) x1:=(((hj.lower (Nat.le_trans hb hb1)).more (fun x j hp=>by
  obtain⟨u,r,o⟩:=E x j;rw [QgM hp o] at t;exact t r)).mono (Nat.le_add_left _ _))
 refine⟨c+cnt,fun u=>N [u],by omega,s.tre.kids [] x0 s.root,fun w' gw m=> ?_⟩;have M:ApN N N1:=fun p q a b ha hb'=>by
  have V:=A.tre.lt ha;have Y:=hj.tre.lo q b hb';exact⟨by omega,by omega,by omega,by omega⟩
 have O:=s.hang U t ⟨_,List.mem_append.2 (.inr (List.getLast_mem hne)),hJ _ (List.getLast_mem hne)⟩ M gw (m.ext fun u=>by
  by_cases e:u=y
  ·subst e;rw [Qax,if_pos rfl]
  ·rw [Qam _ _ e,if_neg e])
 refine⟨⟨_,_,_,O,fun u r=> ?_,fun x j=> ?_,by omega⟩,by rw [List.length_append];omega⟩
 ·rcases r with r|rfl
  ·rcases Int.lt_or_eq_of_le (i u r) with e|e
   ·exact Int.le_of_lt (QaG.key.tr _ _ _ e hy)
   ·rw [(QaG.key.z _ _).1 e];exact Int.le_of_lt hy
  ·rw [QaG.key.irr];exact Int.le_refl _
 ·rcases List.mem_append.1 j with j|j
  ·obtain⟨u,r,o⟩:=E x j;exact⟨u,.inl r,o⟩
  ·exact⟨y,.inr rfl,hJ x j⟩
end
section
variable {w W w' : World} {tb B kb ub bs hi : Nat} {a : Option Addr} {n c : Nat} {f : Nat -> Int} {aT aS aL aE : Addr} {L : Int -> List (Int × Int)} {acc : List Lf} {R : Option (List Lf × Nat)} {z : List Ky} {D D' : Nat} {e : Ending}
end
open Go.Maps
section
variable {w W w' : World} {tb B kb ub bs hi : Nat} {a : Option Addr} {n c : Nat} {f : Nat -> Int} {aT aS aL aE : Addr} {L : Int -> List (Int × Int)} {acc : List Lf} {R : Option (List Lf × Nat)} {z : List Ky} {D D' : Nat} {e : Ending}
theorem LvP.node {x:Nat}{kind:Int}{s:ByteArray}{p:List ByteArray}(hk:kind=1 \/kind=2)(hD:1<=D)(h:LvP w tb B kb ub bs hi a n c f aT aS aL aE L x acc kind (p++[s]) e w'):NdP w tb B kb ub bs hi a n c f aT aS aL aE L acc (QgQ f n (fun r q=>inB (L r) q q) kind (p++[s]) acc x) (Qad p 3++[(s,kind)]) D e w':=by
 obtain⟨g,⟨l,x',Q,U,j,v,z,t,o,i,b,A,E⟩|h⟩:=h
 ·obtain⟨M,O⟩:=QkE j;have k:∀x∈l,Way x=Qad p 3++[(s,kind)]:=fun x hx=>by
   obtain⟨m,u⟩:=O x hx;unfold Way;rw [m,u,QeK];rcases hk with rfl|rfl<;>rfl
  exact⟨g,.inl ⟨l,x',l.length,_,(Q,U),j,v,z,fun y hy=>by rw [k y hy];exact List.prefix_refl _,.inl M,Nat.le_mul_of_pos_left _ hD,t,JF.leaves k o i b A E⟩⟩
 ·exact⟨g,.inr h⟩
end
theorem NB.fill2 {v:World}{b:Nat}(h:NB v b)(s s':Option Nat):
  ∃Z,Z=(v.setCell ⟨b,0,none⟩ (.map s)).setCell ⟨b,1,none⟩ (.map s')/\ Z.cell? ⟨b,0,none⟩=some (.map s)/\ Z.cell? ⟨b,1,none⟩=some (.map s')/\ v.grownBy Z (some b):=by
 obtain⟨r,m⟩:=h.c0;obtain⟨u,q⟩:=h.c1;refine⟨_,rfl,?_,?_,⟨rfl,rfl,rfl,by simp [World.setCell],fun k hk hne=> ?_⟩⟩
 ·rw [World.cell?_setCell_other _ _ _ _ (by simp)];exact World.cell?_setCell_same _ _ _ m
 ·exact World.cell?_setCell_same _ _ _ (by rw [World.cell?_setCell_other _ _ _ _ (by simp)];exact q)
 ·have j:k≠b:=fun e=>hne (by rw [e]);exact(zH _ _ _ _ j).trans (zH _ _ _ _ j)
theorem Qpw (tb B kb ub bs hi:Nat)(a:Option Addr)(n c:Nat)(f:Nat ->Int)(aT aS aL aE:Addr)(L:Int ->List (Int×Int))(x:Nat)(acc:List Lf)(s:ByteArray)(kind dep:Int)(p:List ByteArray)(rec:List ByteArray ->List Lf ->Nat ->Option (List Lf×Nat))(D:Nat)(w:World)(hn:n<=1048576)(hnc:n<=c)(hcc:c<=9223372036854775807)(hf:Byt f)(hD:1<=D)
  (hT:TS w tb B kb ub bs hi a n c f aT aS aL aE L (x:Int) acc) (hhi:hi<=w.heap.size) (hS:∀r,Srt (L r)/\ (L r).length<=1000000) (hl:acc.length<=1000)
  (hrec:kind=3 ->∀W,TS W tb B kb ub bs hi a n c f aT aS aL aE L (x:Int) acc ->hi<=W.heap.size ->Calls Tryz.prog 36 #[.pointer (some ⟨tb,0,none⟩),.int .i64 dep] W fun e w'=>NdP W tb B kb ub bs hi a n c f aT aS aL aE L acc (rec (p++[s]) acc x) (Qad p 3++[(s,kind)]) D e w'):
  Calls Tryz.prog 71 #[.pointer (some ⟨tb,0,none⟩),.int .i64 kind,.int .i64 dep] w fun e w'=>NdP w tb B kb ub bs hi a n c f aT aS aL aE L acc (QhE f n (fun r q=>inB (L r) q q) rec p (s,kind) acc x) (Qad p 3++[(s,kind)]) D e w':=by
 obtain⟨P,hP⟩:∃P,NdP w tb B kb ub bs hi a n c f aT aS aL aE L acc (QhE f n (fun r q=>inB (L r) q q) rec p (s,kind) acc x) (Qad p 3++[(s,kind)]) D=P:=⟨_,rfl⟩;rw [hP];have HP:=hid hP;clear hP;obtain⟨W,b⟩:∃W,w.alloc (.cells #[.map none,.map none] 53)=W:=⟨_,rfl⟩;have b0:Below w.heap.size w W:=by rw [<- b];exact zO _ _
 have zW:W.heap.size=w.heap.size+1:=by rw [<- b];simp
 have H:Hid (NB W w.heap.size):=hid (by rw [<- b];exact NB.made _ _);have F:=hid (hT.below b0);have G:=hid (G2.below (tb:=tb) (ub:=ub) b0);have He:tb<w.heap.size:=hT.cur.lt;have Hi:ub<w.heap.size:=hT.us.lt;have Hd:=hT.bt;have Hf:w.heap.size≠tb:=by omega
 have Hg:w.heap.size≠ub:=by omega
 have Ha:w.heap.size<=w.heap.size:=Nat.le_refl _;have HZ:=hid zW;have V:Hid (∀(R:Option (List Lf×Nat)) (e:Ending) (w1:World),QhE f n (fun r q=>inB (L r) q q) rec p (s,kind) acc x=R ->NdP W tb B kb ub bs hi a n c f aT aS aL aE L acc R (Qad p 3++[(s,kind)]) D e w1 ->
   (∃t v,e=.returned (.tuple #[.agg #[.map none,.map none],.iface t v])/\ NB w1 w.heap.size/\∀Z,G2 tb ub w1 Z \/w1.grownBy Z (some w.heap.size) ->P (.returned (.tuple #[.agg #[.map none,.map none],.iface t v])) Z) \/
   (∃x0:Nat×Nat,e=.returned (.tuple #[.agg #[.map (some x0.1),.map (some x0.2)],.nilIface])/\ NB w1 w.heap.size/\∀Z,w1.grownBy Z (some w.heap.size) ->P (.returned (.tuple #[.agg #[.map (some x0.1),.map (some x0.2)],.nilIface])) Z)):=hid (fun R e w1 hR h=>by
  have j:=H.g2 h.1 Hf Hg;obtain⟨g,⟨J,x',Hb,N,x0,U,k2,k3,k4,k5,k6,k7,k8⟩|⟨h2,t,v,Q⟩⟩:=h
  ·refine .inr ⟨x0,k2,j,fun Z z=> ?_⟩;obtain⟨C,m⟩:=j.c0;rw [<- HP.out];exact⟨(G.trans g).gr z Ha,.inl ⟨J,x',Hb,N,x0,by rw [hR,U],rfl,k3.gr z hhi,k4,k5,k6,k7,(k8.lower G.size).box m z⟩⟩
  ·refine .inl ⟨t,v,Q,j,fun Z z=> ?_⟩;rw [<- HP.out];refine⟨?_,.inr ⟨by rw [hR,h2],t,v,rfl⟩⟩;rcases z with z|z
   ·exact(G.trans g).trans z
   ·exact(G.trans g).gr z Ha)
 clear b0 zW;rcases Decidable.em (kind=1 \/kind=2) with o|o
 ·have A:=hid (QmB tb B kb ub bs hi a n c f aT aS aL aE L x acc kind (p++[s]) W hn hnc hcc hf o F.out (by have:=HZ.out;omega) hS hl);have Y:Hid (QhE f n (fun r q=>inB (L r) q q) rec p (s,kind) acc x=QgQ f n (fun r q=>inB (L r) q q) kind (p++[s]) acc x):=hid (by
   unfold QhE QgQ;rw [if_neg (by rcases o with rfl|rfl<;>simp),if_pos o])
  have HK:=hid o;clear hT hS hrec;have I:∀e w1,LvP W tb B kb ub bs hi a n c f aT aS aL aE L x acc kind (p++[s]) e w1 ->(∃t v,e=.returned (.tuple #[.agg #[.map none,.map none],.iface t v])/\ NB w1 w.heap.size/\∀Z,G2 tb ub w1 Z \/w1.grownBy Z (some w.heap.size) ->P (.returned (.tuple #[.agg #[.map none,.map none],.iface t v])) Z) \/
   (∃x0:Nat×Nat,e=.returned (.tuple #[.agg #[.map (some x0.1),.map (some x0.2)],.nilIface])/\ NB w1 w.heap.size/\∀Z,w1.grownBy Z (some w.heap.size) ->P (.returned (.tuple #[.agg #[.map (some x0.1),.map (some x0.2)],.nilIface])) Z):=fun e w1 h=>V.out _ e w1 Y.out (LvP.node HK.out hD h)
  have E:=hid I;clear I V Y;rcases o with rfl|rfl;all_goals
   go_enter Tryz.func71,Tryz.ntmps71
   go_wp2_with fail
   try rw [b]
   clear b
   refine A.mono ?_
   intro e w1 h
   rcases E.out e w1 h with ⟨t,v,rfl,j,k⟩|⟨x0,rfl,j,k⟩
   ·have u:=hid j
    have M:=hid k
    obtain⟨C,S⟩:=j.c0
    obtain⟨T,U⟩:=j.c1
    have y:=j.f0
    clear h j k A E
    go_wp2_with fail
    obtain⟨Z,k,m,i,O⟩:=u.fill2 none none
    rw [<- k]
    clear k
    refine zF (v:=.tuple #[.agg #[.map none,.map none],.iface t v]) (by simp [results,Tryz.results71,go_sem,m,i]) ?_
    exact M Z (.inr O)
   ·have u:=hid j
    have M:=hid k
    obtain⟨C,S⟩:=j.c0
    obtain⟨T,U⟩:=j.c1
    have y:=j.f0
    obtain⟨K,X⟩:=x0
    clear h j k A E
    go_wp2_with fail
    obtain⟨Z,k,m,i,O⟩:=u.fill2 (some K) (some X)
    rw [<- k]
    clear k
    refine zF (v:=.tuple #[.agg #[.map (some K),.map (some X)],.nilIface]) (by simp [results,Tryz.results71,go_sem,m,i]) ?_
    exact M Z O
 ·by_cases Q:kind=3
  ·have A:=hid (hrec Q W F.out (by have:=HZ.out;omega));have Y:Hid (QhE f n (fun r q=>inB (L r) q q) rec p (s,kind) acc x=rec (p++[s]) acc x):=hid (by
    unfold QhE;rw [if_pos Q])
   have I:∀e w1,NdP W tb B kb ub bs hi a n c f aT aS aL aE L acc (rec (p++[s]) acc x) (Qad p 3++[(s,kind)]) D e w1 ->(∃t v,e=.returned (.tuple #[.agg #[.map none,.map none],.iface t v])/\ NB w1 w.heap.size/\∀Z,G2 tb ub w1 Z \/w1.grownBy Z (some w.heap.size) ->P (.returned (.tuple #[.agg #[.map none,.map none],.iface t v])) Z) \/
    (∃x0:Nat×Nat,e=.returned (.tuple #[.agg #[.map (some x0.1),.map (some x0.2)],.nilIface])/\ NB w1 w.heap.size/\∀Z,w1.grownBy Z (some w.heap.size) ->P (.returned (.tuple #[.agg #[.map (some x0.1),.map (some x0.2)],.nilIface])) Z):=fun e w1 h=>V.out _ e w1 Y.out h
   have E:=hid I;clear I V Y o hrec hT hS;subst Q;go_enter Tryz.func71,Tryz.ntmps71;go_wp2_with fail;try rw [b]
   clear b;refine A.mono ?_;intro e w1 h;rcases E.out e w1 h with ⟨t,v,rfl,j,k⟩|⟨x0,rfl,j,k⟩
   ·have u:=hid j;have M:=hid k;obtain⟨C,S⟩:=j.c0;obtain⟨T,U⟩:=j.c1;have y:=j.f0;clear h j k A E;go_wp2_with fail;obtain⟨Z,k,m,i,O⟩:=u.fill2 none none;rw [<- k];clear k;refine zF (v:=.tuple #[.agg #[.map none,.map none],.iface t v]) (by simp [results,Tryz.results71,go_sem,m,i]) ?_;exact M Z (.inr O)
   ·have u:=hid j;have M:=hid k;obtain⟨C,S⟩:=j.c0;obtain⟨T,U⟩:=j.c1;have y:=j.f0;obtain⟨K,X⟩:=x0;clear h j k A E;go_wp2_with fail;obtain⟨Z,k,m,i,O⟩:=u.fill2 (some K) (some X);rw [<- k];clear k;refine zF (v:=.tuple #[.agg #[.map (some K),.map (some X)],.nilIface]) (by simp [results,Tryz.results71,go_sem,m,i]) ?_;exact M Z O
  ·have u:Hid (QhE f n (fun r q=>inB (L r) q q) rec p (s,kind) acc x=none):=hid (by
    unfold QhE;rw [if_neg Q,if_neg o])
   have e1:(kind==1)=false:=by simp;omega
   have e2:(kind==2)=false:=by simp;omega
   have e3:(kind==3)=false:=by simp;omega
   obtain⟨ev,ge⟩:=F.err.x3;have lo:6<w.heap.size:=Nat.lt_of_lt_of_le (Nat.lt_of_lt_of_le (by decide) F.err.lG) (Nat.le_trans Hd (Nat.le_of_lt He));obtain⟨C,S⟩:=H.c0;obtain⟨T,U⟩:=H.c1;have y:=H.f0;have Hc:(W.setCell ⟨w.heap.size,0,none⟩ (.map none)).cell? ⟨6,0,none⟩=some (.iface 270 ev):=by rw [World.cell?_setCell_far _ _ _ _ (by simp;omega)];exact ge
   have Hh:((W.setCell ⟨w.heap.size,0,none⟩ (.map none)).setCell ⟨w.heap.size,1,none⟩ (.map none)).cell? ⟨6,0,none⟩=some (.iface 270 ev):=by rw [World.cell?_setCell_far _ _ _ _ (by simp;omega)];exact Hc
   clear lo o Q hrec hT hS V;go_enter Tryz.func71,Tryz.ntmps71;go_wp2_with fail;try rw [b]
   go_region;all_goals go_wp2_with fail
   all_goals (
    obtain⟨Z,k,m,i,gZ,bZ,_⟩:=H.fill G.out Ha none none;rw [<- k];clear k;refine zF (v:=.tuple #[.agg #[.map none,.map none],.iface 270 ev]) (by simp [results,Tryz.results71,go_sem,m,i]) ?_;rw [<- HP.out];exact⟨gZ.trans (G2.below zI.drew),.inr ⟨u.out,_,_,rfl⟩⟩)
theorem Qjy {f:Nat ->Int}(hf:Byt f){n:Nat}{before y:Ky}{x x':Nat}(h:Qf9 f n before x=some (y,x')):QbA before y<0/\ y.1.size<=40/\ 0<=y.2/\ y.2<256:=by
 unfold Qf9 at h;obtain⟨a,j,h⟩:=Qab.1 h;have m:=((QcK hf (by decide) (s:=a.1) (x':=a.2)).1 j).1;split at h
 ·rename_i hy;simp only [Option.some.injEq,Prod.mk.injEq] at h;obtain⟨rfl,_⟩:=h;have k:QbA before (a.1,f a.2)<0:=by
   by_cases e:a.1.size≠0/\ a.2<n/\ QbA before (a.1,f a.2)<0
   ·exact e.2.2
   ·rw [Qaj e] at hy;cases hy
  have:=hf a.2;exact⟨k,by show a.1.size<=40;omega,this.1,by have:=this.2;omega⟩
 ·cases h
theorem QhU (tb B kb ub bs hi:Nat)(a:Option Addr)(n c:Nat)(f:Nat ->Int)(aT aS aL aE:Addr)(L:Int ->List (Int×Int))(d:Nat)(p:List ByteArray)(Kg:p.length+d=8)(hn:n<=1048576)(hnc:n<=c)(hcc:c<=9223372036854775807)(hf:Byt f)(hS:∀r,Srt (L r)/\ (L r).length<=1000000)
  (hrec:p.length<8 ->∀(s:ByteArray) (x:Nat) (acc:List Lf) (W:World),TS W tb B kb ub bs hi a n c f aT aS aL aE L (x:Int) acc ->hi<=W.heap.size ->acc.length<=1000 ->Calls Tryz.prog 36 #[.pointer (some ⟨tb,0,none⟩),.int .i64 ((p.length:Int)+1)] W fun e w'=>NdP W tb B kb ub bs hi a n c f aT aS aL aE L acc (Qcv f n (fun r q=>inB (L r) q q) d (p++[s]) acc x) (Qad (p++[s]) 3) (d+1) e w')
  (x:Nat) (acc:List Lf) (w:World) (O:TS w tb B kb ub bs hi a n c f aT aS aL aE L (x:Int) acc) (hhi:hi<=w.heap.size) (hl:acc.length<=1000):
  Calls Tryz.prog 36 #[.pointer (some ⟨tb,0,none⟩),.int .i64 (p.length:Int)] w fun e w'=>NdP w tb B kb ub bs hi a n c f aT aS aL aE L acc (Qcv f n (fun r q=>inB (L r) q q) (d+1) p acc x) (Qad p 3) (d+2) e w':=by
 obtain⟨P,hP⟩:∃P,NdP w tb B kb ub bs hi a n c f aT aS aL aE L acc (Qcv f n (fun r q=>inB (L r) q q) (d+1) p acc x) (Qad p 3) (d+2)=P:=⟨_,rfl⟩;rw [hP];have HP:=hid hP;clear hP;obtain⟨dp,Gp⟩:∃dp:Int,(p.length:Int)=dp:=⟨_,rfl⟩;rw [Gp] at hrec ⊢;have Jd:0<=dp:=by omega
 have Je:dp<=8:=by omega
 have Hm:=hid (And.intro Gp Kg);have Gf:=hid hrec;clear Gp Kg hrec;obtain⟨W,hW⟩:∃W,w.alloc (.cells #[.map none,.map none] 53)=W:=⟨_,rfl⟩;have b0:Below w.heap.size w W:=by rw [<- hW];exact zO _ _
 have zW:W.heap.size=w.heap.size+1:=by rw [<- hW];simp
 have H0:Hid (NB W w.heap.size):=hid (by rw [<- hW];exact NB.made _ _);have Hp:=hid (O.below b0);have Hz:=hid (G2.below (tb:=tb) (ub:=ub) b0);have Gt:tb<w.heap.size:=O.cur.lt;have K1:ub<w.heap.size:=O.us.lt;have Gn:=O.bt;have HU:=hid (QbL tb B a n c x 1000 f aT aS aL aE W hn hf Hp.cur Hp.seg (fun y hy=>(O.ab y hy).1) Hp.err O.bt (by omega) (by omega));have HZ:=hid zW;have HF:=hid hf;have HS:=hid hS;have Hj:w.heap.size≠tb:=by omega
 have Hk:w.heap.size≠ub:=by omega
 have Hl:w.heap.size<=w.heap.size:=Nat.le_refl _;clear O b0 zW hf hS;go_enter Tryz.func36,Tryz.ntmps36;go_wp2_with fail;try rw [hW]
 clear hW;refine HU.mono ?_;clear HU;rintro e w1 ⟨g1,⟨V,x1,hr,hV,rfl,cu⟩|⟨hr,t,v,y,rfl,cu⟩⟩
 ·rw [Qa4] at hr;have Hh:=hid (Hp.t g1 cu);have Hd:=hid (Hz.trans (G2.t g1));have M:=hid (H0.g2 (G2.t (ub:=ub) g1) Hj Hk);have H3:=hid hr;clear g1 hr cu Hp Hz H0;by_cases H5:V=0/\ 0<dp
  ·obtain⟨h0,Jg⟩:=H5;subst h0;have HN:Hid (Qcv f n (fun r q=>inB (L r) q q) (d+1) p acc x=none):=hid (by
    unfold Qcv;rw [H3.out];simp only [Option.bind_some];rw [if_pos trivial,if_neg (by have:=Hm.1;omega)])
   obtain⟨ev,ge⟩:=Hh.err.x5;have lo:2<w.heap.size:=Nat.lt_of_lt_of_le (Nat.lt_of_lt_of_le (by decide) Hh.err.lG) (Nat.le_trans Gn (Nat.le_of_lt Gt));obtain⟨u0,k0⟩:=M.c0;obtain⟨u1,k1⟩:=M.c1;have X:=M.f0;have Gj:(w1.setCell ⟨w.heap.size,0,none⟩ (.map none)).cell? ⟨2,0,none⟩=some (.iface 270 ev):=by rw [World.cell?_setCell_far _ _ _ _ (by simp;omega)];exact ge
   have Kt:((w1.setCell ⟨w.heap.size,0,none⟩ (.map none)).setCell ⟨w.heap.size,1,none⟩ (.map none)).cell? ⟨2,0,none⟩=some (.iface 270 ev):=by rw [World.cell?_setCell_far _ _ _ _ (by simp;omega)];exact Gj
   clear lo;go_wp2_with fail;go_region;all_goals go_wp2_with fail
   all_goals (
    obtain⟨Z,E,I,K,U,bZ,_⟩:=M.fill Hd.out Hl none none;rw [<- E];clear E;refine zF (v:=.tuple #[.agg #[.map none,.map none],.iface 270 ev]) (by simp [results,Tryz.results36,go_sem,I,K]) ?_;rw [<- HP.out];exact⟨U.trans (G2.below zI.drew),.inr ⟨HN.out,_,_,rfl⟩⟩)
  ·by_cases Gk:V≠0/\ dp=8
   ·obtain⟨h0,rfl⟩:=Gk;have HN:Hid (Qcv f n (fun r q=>inB (L r) q q) (d+1) p acc x=none):=hid (by
     unfold Qcv;rw [H3.out];simp only [Option.bind_some];rw [if_neg h0,if_pos (by have:=Hm.1;omega)])
    obtain⟨ev,ge⟩:=Hh.err.x4;have lo:3<w.heap.size:=Nat.lt_of_lt_of_le (Nat.lt_of_lt_of_le (by decide) Hh.err.lG) (Nat.le_trans Gn (Nat.le_of_lt Gt));obtain⟨u0,k0⟩:=M.c0;obtain⟨u1,k1⟩:=M.c1;have X:=M.f0;have Gj:(w1.setCell ⟨w.heap.size,0,none⟩ (.map none)).cell? ⟨3,0,none⟩=some (.iface 270 ev):=by rw [World.cell?_setCell_far _ _ _ _ (by simp;omega)];exact ge
    have Kt:((w1.setCell ⟨w.heap.size,0,none⟩ (.map none)).setCell ⟨w.heap.size,1,none⟩ (.map none)).cell? ⟨3,0,none⟩=some (.iface 270 ev):=by rw [World.cell?_setCell_far _ _ _ _ (by simp;omega)];exact Gj
    have d0:((V:Int)==0)=false:=by simp;omega
    have d1:decide (0<(V:Int))=true:=by simp;omega
    clear lo H5;go_wp2_with fail;go_region;all_goals go_wp2_with fail
    all_goals (
     obtain⟨Z,E,I,K,U,bZ,_⟩:=M.fill Hd.out Hl none none;rw [<- E];clear E;refine zF (v:=.tuple #[.agg #[.map none,.map none],.iface 270 ev]) (by simp [results,Tryz.results36,go_sem,I,K]) ?_;rw [<- HP.out];exact⟨U.trans (G2.below zI.drew),.inr ⟨HN.out,_,_,rfl⟩⟩)
   ·have Gw:Hid (Qcv f n (fun r q=>inB (L r) q q) (d+1) p acc x=Qjw f n (fun r q=>inB (L r) q q) (Qcv f n (fun r q=>inB (L r) q q) d) p V (ByteArray.empty,0) acc x1):=hid (by
     have hh:=Hm.out;unfold Qcv;rw [H3.out];simp only [Option.bind_some];by_cases h0:V=0
     ·subst h0;rw [if_pos rfl,if_pos (by omega)];rfl
     ·rw [if_neg h0,if_neg (by omega)])
    have Jf:V=0 \/dp<8:=by omega
    have G4:Hid (V=0 ->p=[]):=hid (fun h0=>List.length_eq_zero_iff.1 (by have:=Hm.1;omega));clear H3;by_cases Ht:V=0
    ·have Kr:=hid Ht;have g:((V:Int)==0)=true:=by simp [Ht]
     have c2:¬(0:Int)<dp:=by omega
     have c3:¬(0:Int)<(V:Int):=by omega
     clear Ht;go_wp2_with fail;refine(Qea w1).mono ?_;rintro e h ⟨s,o,rfl,Gs,Kx,Ky,m1,m2,b2⟩;clear g c2 c3 H5 Gk;obtain⟨D,Hb⟩:∃D,(h.alloc (.cells #[.map (some s),.map (some o)] 53)).alloc (.cells #[.string ⟨#[]⟩,.int .i64 0] 113)=D:=⟨_,rfl⟩;have b3:Below h.heap.size h D:=by rw [<- Hb];exact Qak _ _ _
     have Gi:Hid (Bx2 D h.heap.size (.map (some s)) (.map (some o))):=hid (by rw [<- Hb];exact(Bx2.made h _ _ _).allocs _);have Hr:Hid (Bx2 D (h.heap.size+1) (.string ⟨#[]⟩) (.int .i64 0)):=hid (by rw [<- Hb];simpa using Bx2.made (h.alloc (.cells #[.map (some s),.map (some o)] 53)) (.string ⟨#[]⟩) (.int .i64 0) 113);have Hf:=Qac b2 b3;have Gg:=hid (Hh.below Hf);have H9:=hid (Hd.trans (G2.below Hf));have Gc:=hid (M.g2 (G2.below (tb:=tb) (ub:=ub) Hf) Hj Hk);have K4:=Hd.size;have K3:=M.lt;have K5:=b2.size;have Hx:=m1.lt;have Gr:=m2.lt;have Gb:Hid (TL D w.heap.size [] (Qad p 3) (⟨#[]⟩,0) (d+2) 0 (s,o)):=hid (TL.new (x0:=(s,o)) _ _ _ (m1.same (b3.block s m1.lt)) (m2.same (b3.block o m2.lt)) Gs ⟨by show w.heap.size<=s;omega,by show w.heap.size<=o;omega⟩);clear m1 m2 b2 b3 Hf Hh Hd M;go_wp2_with fail;try rw [Hb]
     clear Hb;go_loopw [42] (fun iv wr=>∃(k y:Nat) (l:List Lf) (H:ByteArray) (G:Int),k<=V/\ iv=.int .i64 (k:Int)/\ (acc++l).length<=1000/\ h.heap.size+1<wr.heap.size/\ Hid (TS wr tb B kb ub bs hi a n c f aT aS aL aE L (y:Int) (acc++l))/\ Hid (G2 tb ub w wr)/\ Hid (NB wr w.heap.size)/\
      Hid (Bx2 wr h.heap.size (.map (some s)) (.map (some o)))/\ Hid (Bx2 wr (h.heap.size+1) (.string H) (.int .i64 G))/\ Hid (TL wr w.heap.size l (Qad p 3) (H,G) (d+2) k (s,o))/\
      Hid (Qcv f n (fun r q=>inB (L r) q q) (d+1) p acc x=Qjw f n (fun r q=>inB (L r) q q) (Qcv f n (fun r q=>inB (L r) q q) d) p (V - k) (H,G) (acc++l) y)) (fun iv _=>V - (intOf iv).toNat)
     case atStart=>exact⟨0,x1,[],⟨#[]⟩,0,Nat.zero_le _,rfl,by simpa using hl,Hr.lt,by simpa using Gg,H9,Gc,Gi,Hr,Gb,hid (by rw [Gw.out];simp;rfl)⟩
     case round=>
      obtain⟨k,y,l,H,G,Ku,rfl,Hv,K6,O,hG,Y,hX,hD,hM,Hc⟩:=hrel;by_cases Gq:k<V
      ·exact absurd Gq (by have:=Kr.out;omega)
      ·obtain rfl:k=V:=by omega
       have HY:Hid (Qcv f n (fun r q=>inB (L r) q q) (d+1) p acc x=some (acc++l,y)):=hid (by
        rw [Hc.out,Nat.sub_self];rfl)
       have x0:=hX.c0;have Kj:=hX.c1;obtain⟨u0,k0⟩:=Y.c0;obtain⟨u1,k1⟩:=Y.c1;have X:=Y.f0;have H7:=hid k0;clear Hc;go_wp2_with fail;obtain⟨Z,E,I,K,U,bZ,gg⟩:=Y.fill hG.out Hl (some s) (some o);rw [<- E];clear E;refine zF (v:=.tuple #[.agg #[.map (some s),.map (some o)],.nilIface]) (by simp [results,Tryz.results36,go_sem,I,K]) ?_;rw [<- HP.out];obtain⟨N,H4,j1,j2,j3⟩:=hM.full;have j4:=hM.some';refine⟨U,.inl ⟨l,y,H4,N,(s,o),HY.out,rfl,O.gr gg hhi,j3,?_,j2,Hv,j1.box H7.out gg⟩⟩;by_cases h0:k=0
       ·exact .inr (by rw [G4 h0];rfl)
       ·exact .inl (fun e=>by rw [e] at j4;simp at j4;omega)
    ·have g:((V:Int)==0)=false:=by simp [Ht]
     have c2:(0:Int)<(V:Int):=by omega
     have c3:(dp==8)=false:=by simp;omega
     clear Ht;go_wp2_with fail;refine(Qea w1).mono ?_;rintro e h ⟨s,o,rfl,Gs,Kx,Ky,m1,m2,b2⟩;clear g c2 c3 H5 Gk;obtain⟨D,Hb⟩:∃D,(h.alloc (.cells #[.map (some s),.map (some o)] 53)).alloc (.cells #[.string ⟨#[]⟩,.int .i64 0] 113)=D:=⟨_,rfl⟩;have b3:Below h.heap.size h D:=by rw [<- Hb];exact Qak _ _ _
     have Gi:Hid (Bx2 D h.heap.size (.map (some s)) (.map (some o))):=hid (by rw [<- Hb];exact(Bx2.made h _ _ _).allocs _);have Hr:Hid (Bx2 D (h.heap.size+1) (.string ⟨#[]⟩) (.int .i64 0)):=hid (by rw [<- Hb];simpa using Bx2.made (h.alloc (.cells #[.map (some s),.map (some o)] 53)) (.string ⟨#[]⟩) (.int .i64 0) 113);have Hf:=Qac b2 b3;have Gg:=hid (Hh.below Hf);have H9:=hid (Hd.trans (G2.below Hf));have Gc:=hid (M.g2 (G2.below (tb:=tb) (ub:=ub) Hf) Hj Hk);have K4:=Hd.size;have K3:=M.lt;have K5:=b2.size;have Hx:=m1.lt;have Gr:=m2.lt;have Gb:Hid (TL D w.heap.size [] (Qad p 3) (⟨#[]⟩,0) (d+2) 0 (s,o)):=hid (TL.new (x0:=(s,o)) _ _ _ (m1.same (b3.block s m1.lt)) (m2.same (b3.block o m2.lt)) Gs ⟨by show w.heap.size<=s;omega,by show w.heap.size<=o;omega⟩);clear m1 m2 b2 b3 Hf Hh Hd M;go_wp2_with fail;try rw [Hb]
     clear Hb;go_loopw [42] (fun iv wr=>∃(k y:Nat) (l:List Lf) (H:ByteArray) (G:Int),k<=V/\ iv=.int .i64 (k:Int)/\ (acc++l).length<=1000/\ h.heap.size+1<wr.heap.size/\ Hid (TS wr tb B kb ub bs hi a n c f aT aS aL aE L (y:Int) (acc++l))/\ Hid (G2 tb ub w wr)/\ Hid (NB wr w.heap.size)/\
      Hid (Bx2 wr h.heap.size (.map (some s)) (.map (some o)))/\ Hid (Bx2 wr (h.heap.size+1) (.string H) (.int .i64 G))/\ Hid (TL wr w.heap.size l (Qad p 3) (H,G) (d+2) k (s,o))/\
      Hid (Qcv f n (fun r q=>inB (L r) q q) (d+1) p acc x=Qjw f n (fun r q=>inB (L r) q q) (Qcv f n (fun r q=>inB (L r) q q) d) p (V - k) (H,G) (acc++l) y)) (fun iv _=>V - (intOf iv).toNat)
     case atStart=>exact⟨0,x1,[],⟨#[]⟩,0,Nat.zero_le _,rfl,by simpa using hl,Hr.lt,by simpa using Gg,H9,Gc,Gi,Hr,Gb,hid (by rw [Gw.out];simp;rfl)⟩
     case round=>
      obtain⟨k,y,l,H,G,Ku,rfl,Hv,K6,O,hG,Y,hX,hD,hM,Hc⟩:=hrel;by_cases Gq:k<V
      ·obtain⟨m,hm⟩:∃m,V - k=m+1:=⟨V - k - 1,by omega⟩;have Jh:dp<8:=by omega
       have Gz:=hid (Qpv (EX:=exT kb ub) tb B a n c f aT aS aL aE y H G wr hn hnc hcc HF.out O.seg O.cur O.err Gn (fun z hz=>(O.ab z hz).1));have d0:=hD.c0;have d1:=hD.c1;go_wp2_with fail;clear d0 d1;refine Gz.mono ?_;clear Gz;rintro e Q ⟨g4,⟨yk,x2,hz,rfl,G6⟩|⟨hz,t,v,rfl⟩⟩
       ·obtain⟨C,S⟩:=yk;obtain⟨Hw,K0,Kv,Kw⟩:=Qjy HF.out hz;obtain⟨kl,Kd⟩:=Qhu (s:=C) (k:=S) (by simp only at K0;unfold maxLen;omega) (wfI (by omega) (by omega));have Ga:=hid Kd;have H8:=hid Hw;simp only at Kv Kw;obtain⟨W5,Hu⟩:∃W5,Q.alloc (.cells #[.string C,.int .i64 S] 113)=W5:=⟨_,rfl⟩;have b5:Below Q.heap.size Q W5:=by rw [<- Hu];exact zO _ _
        have z5:W5.heap.size=Q.heap.size+1:=by rw [<- Hu];simp
        have g5:G2 tb ub wr W5:=(G2.t g4).trans (G2.below b5);have Y5:Bx2 W5 Q.heap.size (.string C) (.int .i64 S):=by rw [<- Hu];exact Bx2.made Q _ _ _
        have Kh:=g4.size;have Gu:=hG.size;have Gh:=hid ((O.t g4 G6).below b5);have Gy:=hid (Qpw tb B kb ub bs hi a n c f aT aS aL aE L x2 (acc++l) C S (dp+1) p (Qcv f n (fun r q=>inB (L r) q q) d) (d+1) W5 hn hnc hcc HF.out (by omega) Gh.out (by omega) HS.out Hv (fun e3 W' hW' hs'=>by
         subst e3;have:=Gf (by have:=Hm.1;omega) C x2 (acc++l) W' hW' hs' Hv;rw [QeK] at this;exact this))
        have y0:=Y5.c0;have y1:=Y5.c1;have He:=hid Y5;have G5:=hid z5;have Hn:=hid g5;clear Y5 g5 b5 z5 G6 Kd Hw;go_wp2_with fail;try rw [Hu]
        clear Hu y0 y1;refine Gy.mono ?_;clear Gy;rintro e R ⟨g6,⟨J,x3,H4,N1,Ja,r1,rfl,t6,G7,G8,G9,Ka,Kb⟩|⟨r1,t,v,rfl⟩⟩
        ·obtain⟨s1,s2⟩:=Ja;have H6:J≠[]:=G8.resolve_right (by simp);have Ge:Hid (Qcv f n (fun r q=>inB (L r) q q) (d+1) p acc x=Qjw f n (fun r q=>inB (L r) q q) (Qcv f n (fun r q=>inB (L r) q q) d) p (V - (k+1)) (C,S) (acc++(l++J)) x3):=hid (by
          rw [Hc.out,hm,show V - (k+1)=m by omega];show (Qf9 f n (H,G) y).bind _=_;rw [hz];simp only [Option.bind_some];rw [r1];simp only [Option.bind_some,List.append_assoc])
         obtain⟨A,Hq⟩:∃A,R.alloc (.cells #[.map (some s1),.map (some s2)] 53)=A:=⟨_,rfl⟩;have b7:Below R.heap.size R A:=by rw [<- Hq];exact zO _ _
         have V7:Bx2 A R.heap.size (.map (some s1)) (.map (some s2)):=by rw [<- Hq];exact Bx2.made R _ _ _
         have T:G2 tb ub W5 A:=g6.trans (G2.below b7);have g7:G2 tb ub wr A:=Hn.trans T;have Ki:=G5.out;have Ji:=g6.size;have X7:Bx2 A h.heap.size (.map (some s)) (.map (some o)):=⟨(g7.cell (by omega) (by omega) (by omega)).trans hX.c0,(g7.cell (by omega) (by omega) (by omega)).trans hX.c1,fun i=>(g7.frozen (by omega) (by omega) (by omega)).trans (hX.f i),Nat.lt_of_lt_of_le hX.lt g7.size⟩;have D7:Bx2 A (h.heap.size+1) (.string H) (.int .i64 G):=⟨(g7.cell (by omega) (by omega) (by omega)).trans hD.c0,(g7.cell (by omega) (by omega) (by omega)).trans hD.c1,fun i=>(g7.frozen (by omega) (by omega) (by omega)).trans (hD.f i),Nat.lt_of_lt_of_le hD.lt g7.size⟩;have Y7:Bx2 A Q.heap.size (.string C) (.int .i64 S):=⟨(T.cell (by omega) (by omega) (by omega)).trans He.c0,(T.cell (by omega) (by omega) (by omega)).trans He.c1,fun i=>(T.frozen (by omega) (by omega) (by omega)).trans (He.f i),Nat.lt_of_lt_of_le He.lt T.size⟩;have G1:=hid (t6.below b7);have Ho:=hid (hG.trans g7);have Ha:=hid (Y.g2 g7 Hj Hk);obtain⟨cc,F,Go,Kf,Hi⟩:=hM.hang g7 Gt K1 (Kb.below b7) (by omega) Gu H8.out G7 H6 G9;have Kc:cc<maxLen:=by
          have h1:(acc++l++J).length=acc.length+(l++J).length:=by simp [Nat.add_assoc]
          have h2:(l++J).length<=1000:=by omega
          have h3:d+1+1<=10:=by have:=Hm.2;omega
          have h4:=Nat.mul_le_mul h3 h2;unfold maxLen;omega
         have Hg:=hid Hi;obtain⟨w9,r9,m9,g9⟩:=Kf.store Qb0 (fun _ _=>Qfh) Tryz.underlying50 Kc (x:=(C,S)) (y:=(s1,s2)) Ga.out;have Kz:s<h.heap.size:=Hx;have cg:∀b i,b≠s ->b<A.heap.size ->w9.cell? ⟨b,i,none⟩=A.cell? ⟨b,i,none⟩:=fun b i h1 h2=>World.cell?_of_block (a:=⟨b,i,none⟩) (g9.block b h2 (fun e=>h1 (by injection e)));have fg:∀b i,b≠s ->b<A.heap.size ->w9.frozen? ⟨b,i,none⟩=A.frozen? ⟨b,i,none⟩:=fun b i h1 h2=>World.frozen?_of_block (a:=⟨b,i,none⟩) (g9.block b h2 (fun e=>h1 (by injection e)));have v0:=(cg Q.heap.size 0 (by omega) Y7.lt).trans Y7.c0;have v1:=(cg Q.heap.size 1 (by omega) Y7.lt).trans Y7.c1;have D9:Bx2 w9 (h.heap.size+1) (.string H) (.int .i64 G):=⟨(cg _ 0 (by omega) D7.lt).trans D7.c0,(cg _ 1 (by omega) D7.lt).trans D7.c1,fun i=>(fg _ i (by omega) D7.lt).trans (D7.f i),Nat.lt_of_lt_of_le D7.lt g9.size⟩;have X9:Bx2 w9 h.heap.size (.map (some s)) (.map (some o)):=⟨(cg _ 0 (by omega) X7.lt).trans X7.c0,(cg _ 1 (by omega) X7.lt).trans X7.c1,fun i=>(fg _ i (by omega) X7.lt).trans (X7.f i),Nat.lt_of_lt_of_le X7.lt g9.size⟩;have G3:=hid (G1.gr g9 (by omega));have Gx:=hid (Ho.gr g9 (by omega));have Gd:=hid (Ha.same (g9.block w.heap.size Ha.lt (fun e=>by injection e with e;omega)) g9.size);have G0:=hid (Hg w9 g9 m9);obtain⟨Zw,Gl⟩:∃Zw,(w9.setCell ⟨h.heap.size+1,0,none⟩ (.string C)).setCell ⟨h.heap.size+1,1,none⟩ (.int .i64 S)=Zw:=⟨_,rfl⟩;have gz:w9.grownBy Zw (some (h.heap.size+1)):=by
          rw [<- Gl];exact⟨rfl,rfl,rfl,by simp [World.setCell],fun j hj H6=>(zH _ _ _ _ (fun e=>H6 (by rw [e]))).trans (zH _ _ _ _ (fun e=>H6 (by rw [e])))⟩
         have DZ:Bx2 Zw (h.heap.size+1) (.string C) (.int .i64 S):=by
          rw [<- Gl];refine⟨?_,?_,fun i=> ?_,by simpa [World.setCell] using D9.lt⟩
          ·rw [World.cell?_setCell_other _ _ _ _ (by simp)];exact World.cell?_setCell_same _ _ _ D9.c0
          ·exact World.cell?_setCell_same _ _ _ (by rw [World.cell?_setCell_other _ _ _ _ (by simp)];exact D9.c1)
          ·simpa using D9.f i
         have Gv:=hid DZ;have Ks:Hid (Bx2 Zw h.heap.size (.map (some s)) (.map (some o))):=hid (by
          have e:=gz.block h.heap.size X9.lt (fun e=>by injection e with e;omega);exact⟨(World.cell?_of_block (a:=⟨h.heap.size,0,none⟩) e).trans X9.c0,(World.cell?_of_block (a:=⟨h.heap.size,1,none⟩) e).trans X9.c1,fun i=>(World.frozen?_of_block (a:=⟨h.heap.size,i,none⟩) e).trans (X9.f i),Nat.lt_of_lt_of_le X9.lt gz.size⟩)
         have Kq:=hid (G3.gr gz (by omega));have Km:=hid (Gx.gr gz (by omega));have Kp:=hid (Gd.same (gz.block w.heap.size Gd.lt (fun e=>by injection e with e;omega)) gz.size);have Kn:=hid (G0.box D9.c0 gz);have x0:=X7.c0;have Kj:=X7.c1;have y0:=Y7.c0;have y1:=Y7.c1;have n0:=V7.c0;have n1:=V7.c1;have e0:=D9.c0;have e1:=D9.c1;have ef:=D9.f;have Gm:(acc++(l++J)).length<=1000:=by rw [<- List.append_assoc];exact Ka
         unfold Qbr Qdp at r9;dsimp only at r9;clear m9 g9 cg fg D9 X9 gz DZ G3 Gx Gd G0 Hg Hi Kf X7 D7 Y7 V7 T g7 b7 He Gh Hn G1 Ho Ha Ga G7 G8 G9 Ka Kb t6 g6 r1 hz O hG Y hX hD hM Hc hm Kc Go;go_wp2_with fail;try rw [Gl]
         go_roundw;case rel=>exact⟨k+1,x3,l++J,C,S,Gq,by go_num,Gm,Gv.lt,by rw [<- List.append_assoc];exact Kq,Km,Kp,Ks,Gv,Kn,Ge⟩
         case measure=>simp [intOf];omega
        ·have HN:Hid (Qcv f n (fun r q=>inB (L r) q q) (d+1) p acc x=none):=hid (by
          rw [Hc.out,hm];show (Qf9 f n (H,G) y).bind _=_;rw [hz];simp only [Option.bind_some];rw [r1];rfl)
         have b7:Below R.heap.size R (R.alloc (.cells #[.map none,.map none] 53)):=zO _ _;have T:G2 tb ub W5 (R.alloc (.cells #[.map none,.map none] 53)):=g6.trans (G2.below b7);have Ho:=hid (hG.trans (Hn.trans T));have Ha:=hid (Y.g2 (Hn.trans T) Hj Hk);have Ki:=G5.out;have K7:=g6.size;have K2:=hG.size;have Kh:=Hn.size;have y0:(R.alloc (.cells #[.map none,.map none] 53)).cell? ⟨Q.heap.size,0,none⟩=some (.string C):=(T.cell He.lt (by omega) (by omega)).trans He.c0;have y1:(R.alloc (.cells #[.map none,.map none] 53)).cell? ⟨Q.heap.size,1,none⟩=some (.int .i64 S):=(T.cell He.lt (by omega) (by omega)).trans He.c1;have Hy:Q.heap.size≠w.heap.size:=by have:=g4.size;omega
         have Ko:=hid Hy;clear Ki K7 K2 Kh Hy g6 T b7 r1 hz hX hD hM O hG Y Hc hm Hn He Gh Ga;go_wp2_with fail;obtain⟨A,Hq⟩:∃A,R.alloc (.cells #[.map none,.map none] 53)=A:=⟨_,rfl⟩;have z7:R.heap.size+1=A.heap.size:=by rw [<- Hq];simp
         rw [Hq] at Ho Ha y0 y1 ⊢;clear Hq;have Hs:∀(v:World) (i:Nat) (u:Value) (j:Nat),(v.setCell ⟨w.heap.size,i,none⟩ u).cell? ⟨Q.heap.size,j,none⟩=v.cell? ⟨Q.heap.size,j,none⟩:=fun v i u j=>World.cell?_setCell_far _ _ _ _ (by have:=Ko.out;simpa using this.symm);have Jb:=(Hs A 0 (.map none) 0).trans y0;have Jj:=(Hs _ 1 (.map none) 0).trans Jb;have Jc:=(Hs A 0 (.map none) 1).trans y1;have Jk:=(Hs _ 1 (.map none) 1).trans Jc;have bP:Below A.heap.size A (A.alloc (.cells #[.string C,.int .i64 S,.iface t v] 153)):=zO _ _;have Kl:=hid (Ho.trans (G2.below bP));have H2:=hid (Ha.g2 (G2.below (tb:=tb) (ub:=ub) bP) Hj Hk);obtain⟨u0,k0⟩:=Ha.c0;obtain⟨u1,k1⟩:=Ha.c1;have X:=Ha.f0;obtain⟨v0,l0⟩:=H2.c0;obtain⟨v1,l1⟩:=H2.c1;have fP:=H2.f0;clear Hs bP;go_region;all_goals go_wp2_with fail
         ·obtain⟨Z,E,I,K,U,bZ,_⟩:=H2.fill Kl.out Hl none none;rw [<- E];clear E;refine zF (v:=.tuple #[.agg #[.map none,.map none],.iface 151 (.pointer (some ⟨A.heap.size,0,none⟩))]) (by simp [results,Tryz.results36,go_sem,I,K]) ?_;rw [<- HP.out];exact⟨U.trans (G2.below zI.drew),.inr ⟨HN.out,_,_,rfl⟩⟩
         ·obtain⟨Z,E,I,K,U,bZ,gg⟩:=Ha.fill Ho.out Hl none none;rw [<- E];clear E;have Ke:w.heap.size<Z.heap.size:=Nat.lt_of_lt_of_le Ha.lt gg.size;have bQ:Below Z.heap.size Z (Z.alloc (.cells #[.string C,.int .i64 S,.iface t v] 153)):=zO _ _;have K8:=(bQ.cell (p:=⟨w.heap.size,0,none⟩) Ke).trans I;have K9:=(bQ.cell (p:=⟨w.heap.size,1,none⟩) Ke).trans K;have gQ:=U.trans (G2.below bQ);refine zF (v:=.tuple #[.agg #[.map none,.map none],.iface 151 (.pointer (some ⟨A.heap.size,0,none⟩))]) (by simp [results,Tryz.results36,go_sem,K8,K9]) ?_;rw [<- HP.out];exact⟨gQ.trans (G2.below zI.drew),.inr ⟨HN.out,_,_,rfl⟩⟩
       ·have HN:Hid (Qcv f n (fun r q=>inB (L r) q q) (d+1) p acc x=none):=hid (by
         rw [Hc.out,hm];show (Qf9 f n (H,G) y).bind _=_;rw [hz];rfl)
        have bA:Below Q.heap.size Q (Q.alloc (.cells #[.string ⟨#[]⟩,.int .i64 0] 113)):=zO _ _;have gA:=(G2.t (ub:=ub) g4).trans (G2.below bA);have Kk:=hid (hG.trans gA);have H1:=hid (Y.g2 gA Hj Hk);obtain⟨u0,k0⟩:=H1.c0;obtain⟨u1,k1⟩:=H1.c1;have X:=H1.f0;clear g4 gA bA hz hX hD hM O hG Y Hc hm;go_wp2_with fail;obtain⟨Z,E,I,K,U,bZ,_⟩:=H1.fill Kk.out Hl none none;rw [<- E];clear E;refine zF (v:=.tuple #[.agg #[.map none,.map none],.iface t v]) (by simp [results,Tryz.results36,go_sem,I,K]) ?_;rw [<- HP.out];exact⟨U,.inr ⟨HN.out,_,_,rfl⟩⟩
      ·obtain rfl:k=V:=by omega
       have HY:Hid (Qcv f n (fun r q=>inB (L r) q q) (d+1) p acc x=some (acc++l,y)):=hid (by
        rw [Hc.out,Nat.sub_self];rfl)
       have x0:=hX.c0;have Kj:=hX.c1;obtain⟨u0,k0⟩:=Y.c0;obtain⟨u1,k1⟩:=Y.c1;have X:=Y.f0;have H7:=hid k0;clear Hc;go_wp2_with fail;obtain⟨Z,E,I,K,U,bZ,gg⟩:=Y.fill hG.out Hl (some s) (some o);rw [<- E];clear E;refine zF (v:=.tuple #[.agg #[.map (some s),.map (some o)],.nilIface]) (by simp [results,Tryz.results36,go_sem,I,K]) ?_;rw [<- HP.out];obtain⟨N,H4,j1,j2,j3⟩:=hM.full;have j4:=hM.some';refine⟨U,.inl ⟨l,y,H4,N,(s,o),HY.out,rfl,O.gr gg hhi,j3,?_,j2,Hv,j1.box H7.out gg⟩⟩;by_cases h0:k=0
       ·exact .inr (by rw [G4 h0];rfl)
       ·exact .inl (fun e=>by rw [e] at j4;simp at j4;omega)
 ·rw [Qa4] at hr;have HN:Hid (Qcv f n (fun r q=>inB (L r) q q) (d+1) p acc x=none):=hid (by unfold Qcv;rw [hr];rfl);have Hd:=hid (Hz.trans (G2.t g1));have M:=hid (H0.g2 (G2.t (ub:=ub) g1) Hj Hk);obtain⟨u0,k0⟩:=M.c0;obtain⟨u1,k1⟩:=M.c1;have X:=M.f0;clear g1 hr cu Hz H0 Hp;go_wp2_with fail;obtain⟨Z,E,I,K,U,bZ,_⟩:=M.fill Hd.out Hl none none;rw [<- E];clear E;refine zF (v:=.tuple #[.agg #[.map none,.map none],.iface t v]) (by simp [results,Tryz.results36,go_sem,I,K]) ?_;rw [<- HP.out];exact⟨U,.inr ⟨HN.out,_,_,rfl⟩⟩
theorem Qol (tb B kb ub bs hi:Nat)(a:Option Addr)(n c:Nat)(f:Nat ->Int)(aT aS aL aE:Addr)(L:Int ->List (Int×Int))(hn:n<=1048576)(hnc:n<=c)(hcc:c<=9223372036854775807)(hf:Byt f)(hS:∀r,Srt (L r)/\ (L r).length<=1000000):
  ∀(d:Nat) (p:List ByteArray),p.length+d=8 ->∀(x:Nat) (acc:List Lf) (w:World),TS w tb B kb ub bs hi a n c f aT aS aL aE L (x:Int) acc ->hi<=w.heap.size ->acc.length<=1000 ->
  Calls Tryz.prog 36 #[.pointer (some ⟨tb,0,none⟩),.int .i64 (p.length:Int)] w fun e w'=>NdP w tb B kb ub bs hi a n c f aT aS aL aE L acc (Qcv f n (fun r q=>inB (L r) q q) (d+1) p acc x) (Qad p 3) (d+2) e w'
 | 0,p,hp,x,acc,w,hT,hh,hl=>QhU tb B kb ub bs hi a n c f aT aS aL aE L 0 p hp hn hnc hcc hf hS (fun h=>absurd h (by omega)) x acc w hT hh hl
 | d+1,p,hp,x,acc,w,hT,hh,hl=>QhU tb B kb ub bs hi a n c f aT aS aL aE L (d+1) p hp hn hnc hcc hf hS (fun h s x' acc' W hT' hh' hl'=>by
   have:=Qol tb B kb ub bs hi a n c f aT aS aL aE L hn hnc hcc hf hS d (p++[s]) (by simp;omega) x' acc' W hT' hh' hl';rw [show ((p++[s]).length:Int)=(p.length:Int)+1 by simp] at this;exact this) x acc w hT hh hl
noncomputable def gsR (f:Nat ->Int)(n:Nat):Option (List (Int×List (Int×Int))×List Lf):=
 if 4000<n then none else(rdC f n 0).bind fun a=>(Qcv f n (fun r q=>inB (lkS a.1 r) q q) 9 [] [] a.2).bind fun b=>if b.2<n then none else some (a.1,b.1)
noncomputable def gsS (f:Nat ->Int)(n:Nat):Option (List Rn×List Lf):=
 if 4000<n then none else(QdW f n 0).bind fun a=>(Qdu f n 9 [] [] a.2).bind fun b=>
  if yes (b.2=n/\ (psZ (lR a.1) (lF a.1) (lT a.1) a.1.length b.1).2=0/\ Qb2 (fun i=>(psZ (lR a.1) (lF a.1) (lT a.1) a.1.length b.1).1.getD i 0) 0 (psZ (lR a.1) (lF a.1) (lT a.1) a.1.length b.1).1.length=Qb2 f 0 n)=true then some (a.1,b.1) else none
theorem Qdn {α β:Type}{f g:α ->List β}:∀{ys:List α},(∀y∈ys,f y=g y) ->ys.flatMap f=ys.flatMap g
 | [],_=>rfl
 | y::ys,h=>by
  rw [List.flatMap_cons,List.flatMap_cons,h y List.mem_cons_self,Qdn fun z hz=>h z (List.mem_cons_of_mem _ hz)]
theorem QgZ {R F T:Nat ->Int}{n:Nat}{l:List Lf}(h:QbS R F T n l l.length):∀(d:Nat) (p:List ByteArray),p.length+(d+1)=8 ->tB l (d+1) p=tB l (d+2) p
 | d,p,hp=>by
  rw [Qf1,Qf1];congr 1;refine Qdn fun y hy=> ?_;unfold kB;by_cases k:y.2=3
  ·obtain⟨j,q,u⟩:=((QdT p h l.length zL).2 y).1 hy;have m:y=(y.1,3):=by rw [<- k]
   have r:nx (p++[y.1]) (gL l j)≠none:=QcG.1 (by rw [<- m];exact u);have v:=(Qfo.1 r).2;have z:=(h j q).1.1.2.1;simp at v;rw [if_pos k,if_pos k];match d,hp with
   | 0,hp=>omega
   | d+1,hp=>rw [QgZ h d (p++[y.1]) (by simp;omega)]
  ·rw [if_neg k,if_neg k]
theorem Qmg {R F T:Nat ->Int}{m:Nat}(h:QcR R F T m=true):KOk (fun r q=>Qct R F T r q q m):=fun r q hq=>by
 obtain⟨k,j,u,v,y⟩:=QiS R F T r q q m hq;have:=((Qao.1 h).1 k j).1;simp only [QaL,Bool.and_eq_true,decide_eq_true_eq] at this;omega
theorem Qml {g:List (Int×List (Int×Int))}(hok:okR (-1) 1000 g):(fun r q=>inB (lkS g r) q q)=fun r q=>Qct (lR (Qat g)) (lF (Qat g)) (lT (Qat g)) r q q (Qat g).length:=by
 funext r q;rw [Ql2 hok,<- (Qcp hok).2.1,Qg4]
theorem Qni {f:Nat ->Int}{U:List Int}(h:At f 0 U)(hb:Byt f):Qb2 (fun i=>U.getD i 0) 0 U.length=Qb2 f 0 U.length:=by
 have e:(List.range U.length).map (fun i=>UInt8.ofNat ((fun i=>U.getD i 0) (0+i)).toNat)=(List.range U.length).map (fun i=>UInt8.ofNat (f (0+i)).toNat):=by
  refine List.map_congr_left fun i hi=> ?_;have:=h i (List.mem_range.1 hi);dsimp only;rw [this,Nat.zero_add]
 unfold Qb2;rw [e]
theorem Qnh {f:Nat ->Int}{n:Nat}{U:List Int}(hf:Byt f)(hU:By U)(h:Qb2 (fun i=>U.getD i 0) 0 U.length=Qb2 f 0 n):U.length=n/\ At f 0 U:=by
 have k:U.length=n:=by
  have:=congrArg ByteArray.size h;rwa [QcM,QcM] at this
 subst k;refine⟨rfl,fun i hi=> ?_⟩;have:=congrArg Qa5 h;rw [Qb3 hU.byt,Qb3 hf] at this;have j:=congrArg (fun l=>l[i]?) this;simp [hi] at j;rw [Nat.zero_add,<- j];simp [List.getD,hi]
theorem Qmo {f:Nat ->Int}(hf:Byt f)(n:Nat):gsS f n=(gsR f n).map fun a=>(Qat a.1,a.2):=by
 have F:∀g J,gsR f n=some (g,J) ->gsS f n=some (Qat g,J):=fun g J h=>by
  unfold gsR at h;unfold gsS;by_cases k:4000<n
  ·rw [if_pos k] at h;cases h
  ·rw [if_neg k] at h ⊢;obtain⟨a,u,h⟩:=Qab.1 h;obtain⟨b,q,h⟩:=Qab.1 h;split at h
   ·cases h
   ·rename_i t;simp only [Option.some.injEq,Prod.mk.injEq] at h;obtain⟨rfl,rfl⟩:=h;obtain⟨g,T⟩:=a;obtain⟨J,x'⟩:=b;simp only at q t ⊢;rw [show ((0:Int))=((0:Nat):Int) from rfl,Qfs] at u;obtain⟨Q,m,Y,C⟩:=(Qcg hf (Nat.zero_le _)).1 u;rw [Qk1 hf (Nat.zero_le _) u];simp only [Option.bind_some];obtain⟨s,G,H,W⟩:=Qcp Q;rw [Qml Q] at q;rw [Qjh hf 9 q];simp only [Option.bind_some];obtain⟨⟨Z,R,S⟩,K,Hb,Ha⟩:=(Qde hf (Qmg s)).1 ⟨q,C⟩;have j:QaQ (lR (Qat g)) (lF (Qat g)) (lT (Qat g)) (Qat g).length J:=⟨s,S,Z,R⟩;have V:psB (lR (Qat g)) (lF (Qat g)) (lT (Qat g)) (Qat g).length J=QhZ g++tB J 9 []:=by
     unfold psB;rw [G,H,QgZ Z 7 [] rfl]
    have o:(QhZ g++tB J 9 []).length=n:=by rw [List.length_append];omega
    have D:=Qdd j (by rw [V,o];omega);have L:At f 0 (QhZ g++tB J 9 []):=At.app.2 ⟨m,by rw [Nat.zero_add] at Y ⊢;rw [<- Y];exact K⟩;rw [Qal]
    ·rfl
    ·rw [D,V];refine⟨by omega,rfl,?_⟩;have:=Qni L hf;rw [o] at this;rw [o];exact this
 have P:∀rl J,gsS f n=some (rl,J) ->∃g,gsR f n=some (g,J)/\ Qat g=rl:=fun rl J h=>by
  unfold gsS at h;by_cases k:4000<n
  ·rw [if_pos k] at h;cases h
  ·rw [if_neg k] at h;obtain⟨a,u,h⟩:=Qab.1 h;obtain⟨b,q,h⟩:=Qab.1 h;by_cases p:b.2=n/\ (psZ (lR a.1) (lF a.1) (lT a.1) a.1.length b.1).2=0/\ Qb2 (fun i=>(psZ (lR a.1) (lF a.1) (lT a.1) a.1.length b.1).1.getD i 0) 0 (psZ (lR a.1) (lF a.1) (lT a.1) a.1.length b.1).1.length=Qb2 f 0 n
   ·rw [Qal p] at h;simp only [if_true,Option.some.injEq,Prod.mk.injEq] at h;obtain⟨rfl,rfl⟩:=h;obtain⟨t,r,v⟩:=p;obtain⟨rl,T⟩:=a;obtain⟨J,x'⟩:=b;simp only at r v t ⊢;have j:QaQ (lR rl) (lF rl) (lT rl) rl.length J:=by
     by_cases e:QaQ (lR rl) (lF rl) (lT rl) rl.length J
     ·exact e
     ·rw [QfZ e] at r;cases r
    have I:(psB (lR rl) (lF rl) (lT rl) rl.length J).length<=4000:=by
     by_cases e:(psB (lR rl) (lF rl) (lT rl) rl.length J).length<=4000
     ·exact e
     ·rw [QcJ j e] at r;cases r
    rw [Qdd j I] at v;simp only at v;obtain⟨E,y,z⟩:=QhY j.1;rw [QfN] at z;have N:LvB J:=j.lvB;obtain⟨O,m⟩:=Qnh hf (U:=psB (lR rl) (lF rl) (lT rl) rl.length J) (By.app (Qef j.1) (Qf0 j.2.2.1 N _ _)) v;unfold psB at O m;rw [List.length_append] at O;rw [At.app,Nat.zero_add] at m;have X:QgO f n 0=some (Qis (Lk (lR rl) (lF rl) (lT rl) rl.length),0+(QhZ (Qis (Lk (lR rl) (lF rl) (lT rl) rl.length))).length):=(Qcg hf (Nat.zero_le _)).2 ⟨E,by rw [y];exact m.1,rfl,by rw [y];omega⟩;refine⟨Qis (Lk (lR rl) (lF rl) (lT rl) rl.length),?_,z⟩;unfold gsR;rw [if_neg k,show ((0:Int))=((0:Nat):Int) from rfl,Qfs,X];simp only [Option.bind_some];rw [Qml E,z,y,Nat.zero_add];have A:tB J 9 []=tB J 8 []:=(QgZ j.2.2.1 7 [] rfl).symm;have B:=((Qde (n:=n) hf (Qmg j.1) (x:=(Qee (Lk (lR rl) (lF rl) (lT rl) rl.length)).length) (x':=n) (l:=J)).2 ⟨⟨j.2.2.1,j.2.2.2,j.2.1⟩,by rw [A];exact m.2,by rw [A];omega,Nat.le_refl _⟩).1;rw [B];simp
   ·rw [Qaj p] at h;cases h
 cases h:gsR f n with
 | none=>
  cases h2:gsS f n with
  | none=>rfl
  | some b=>
   obtain⟨g,M,_⟩:=P b.1 b.2 h2;rw [h] at M;cases M
 | some a=>exact F a.1 a.2 h
structure TJ (w:World)(B:Nat)(J:List Lf)(N:List Ky ->Option (Nat×Nat))(c:Nat):Prop where
 tre:Tre w B N (fun r=>Mk J J.length r) c
 there:∀z y,(N (z++[y])).isSome=true↔Ah J (z++[y])
 dis:Dis J J.length
theorem JF.tj {w:World}{B:Nat}{J:List Lf}{N:List Ky ->Option (Nat×Nat)}{c:Nat}{x0:Nat×Nat}(h:JF w B J [] N c x0)(hd:Dis J J.length):TJ w B J N c:=
 ⟨by simpa using h.tre,fun z y=>by
  cases z with
  | nil=>simpa using h.there y []
  | cons u r=>simpa using h.there u (r++[y]),hd⟩
theorem Qmt {w:World}{B g m cap:Nat}{ts:List Dt}(h:w.ownsRow B 75 2 (.slice (some ⟨g,0,none⟩) m cap) m (Ds.kRow ts))(hl:ts.length=m):∀i,i<m ->∃d,ts[i]? =some d/\ w.cell? ⟨g,i*2,none⟩=some (.int .i64 d.1)/\ w.cell? ⟨g,i*2+1,none⟩=some (.int .i64 d.2):=by
 rcases h.2 with ⟨y,_⟩|⟨o,t,k,z,A,u,b,p,s,r⟩
 ·cases y
 ·cases z;intro i E;have v:i<ts.length:=by omega
  have q:ts.toArray[i]! =ts[i]:=by rw [getElem!_pos _ _ (by simpa using v)];simp
  refine⟨ts[i],by simp [v],?_,?_⟩
  ·have j:(k.toList.take (m*2))[i*2]? =(Ds.kRow ts)[i*2]? :=by rw [r]
   rw [List.getElem?_take_of_lt (by omega),Ds.kRow_get ts (i*2) (by omega)] at j;rw [show i*2/2=i by omega,show i*2%2=0 by omega,q] at j;simp [World.cell?,u,<- Array.getElem?_toList,j,Ds.kCells]
  ·have j:(k.toList.take (m*2))[i*2+1]? =(Ds.kRow ts)[i*2+1]? :=by rw [r]
   rw [List.getElem?_take_of_lt (by omega),Ds.kRow_get ts (i*2+1) (by omega)] at j;rw [show (i*2+1)/2=i by omega,show (i*2+1)%2=1 by omega,q] at j;simp [World.cell?,u,<- Array.getElem?_toList,j,Ds.kCells]
theorem QnA {w:World}{B:Nat}{v:Value}{ts:List Dt}(h:w.ownsRow B 75 2 v ts.length (Ds.kRow ts)):∃a cap,v=.slice a ts.length cap/\ ts.length<=cap/\ cap<=9223372036854775807/\ (0<ts.length ->∃g,a=some ⟨g,0,none⟩/\ B<=g/\ g<w.heap.size/\∀i,i<ts.length ->∃d,ts[i]? =some d/\ w.cell? ⟨g,i*2,none⟩=some (.int .i64 d.1)/\ w.cell? ⟨g,i*2+1,none⟩=some (.int .i64 d.2)):=by
 rcases h.2 with ⟨rfl,j⟩|⟨g,cap,u,rfl,r,q,k,m,y,z⟩
 ·exact⟨none,0,by rw [j],by omega,by omega,fun hh=>by omega⟩
 ·exact⟨_,cap,rfl,k,by unfold maxLen at m;omega,fun _=>⟨g,rfl,r,(Array.getElem?_eq_some_iff.1 q).1,Qmt h rfl⟩⟩
theorem Qmu {w:World}{B g m cap:Nat}{ts:List Ky}(h:w.ownsRow B 113 2 (.slice (some ⟨g,0,none⟩) m cap) m (kRow ts))(hl:ts.length=m):∀i,i<m ->∃d,ts[i]? =some d/\ w.cell? ⟨g,i*2,none⟩=some (.string d.1)/\ w.cell? ⟨g,i*2+1,none⟩=some (.int .i64 d.2):=by
 rcases h.2 with ⟨y,_⟩|⟨o,t,k,z,A,u,b,p,s,r⟩
 ·cases y
 ·cases z;intro i E;have v:i<ts.length:=by omega
  have q:ts.toArray[i]! =ts[i]:=by rw [getElem!_pos _ _ (by simpa using v)];simp
  refine⟨ts[i],by simp [v],?_,?_⟩
  ·have j:(k.toList.take (m*2))[i*2]? =(kRow ts)[i*2]? :=by rw [r]
   rw [List.getElem?_take_of_lt (by omega),kRow_get ts (i*2) (by omega)] at j;rw [show i*2/2=i by omega,show i*2%2=0 by omega,q] at j;simp [World.cell?,u,<- Array.getElem?_toList,j,kCells]
  ·have j:(k.toList.take (m*2))[i*2+1]? =(kRow ts)[i*2+1]? :=by rw [r]
   rw [List.getElem?_take_of_lt (by omega),kRow_get ts (i*2+1) (by omega)] at j;rw [show (i*2+1)/2=i by omega,show (i*2+1)%2=1 by omega,q] at j;simp [World.cell?,u,<- Array.getElem?_toList,j,kCells]
theorem QnB {w:World}{B:Nat}{v:Value}{ts:List Ky}(h:w.ownsRow B 113 2 v ts.length (kRow ts)):∃a cap,v=.slice a ts.length cap/\ ts.length<=cap/\ cap<=9223372036854775807/\ (0<ts.length ->∃g,a=some ⟨g,0,none⟩/\ B<=g/\ g<w.heap.size/\∀i,i<ts.length ->∃d,ts[i]? =some d/\ w.cell? ⟨g,i*2,none⟩=some (.string d.1)/\ w.cell? ⟨g,i*2+1,none⟩=some (.int .i64 d.2)):=by
 rcases h.2 with ⟨rfl,j⟩|⟨g,cap,u,rfl,r,q,k,m,y,z⟩
 ·exact⟨none,0,by rw [j],by omega,by omega,fun hh=>by omega⟩
 ·exact⟨_,cap,rfl,k,by unfold maxLen at m;omega,fun _=>⟨g,rfl,r,(Array.getElem?_eq_some_iff.1 q).1,Qmu h rfl⟩⟩
theorem Qkv {p:List ByteArray}{x:Lf}{y:Ky}(hx:QbW x)(h:nx p x=some y):(y.2=1 \/y.2=2) \/(y.2=3/\ p.length+2<=8):=by
 rw [Qbi] at h;obtain⟨⟨_,q⟩,e⟩:=h;have j:=congrArg Prod.snd e;unfold Qau at j;dsimp only at j;by_cases m:p.length+1<x.p.length
 ·rw [if_pos m] at j;have:=hx.1.2.1;exact .inr ⟨j.symm,by omega⟩
 ·rw [if_neg m] at j;rcases QgB x.fl with k|k<;>rw [k] at j
  ·exact .inl (.inl j.symm)
  ·exact .inl (.inr j.symm)
theorem TJ.nki {w:World}{B:Nat}{J:List Lf}{N:List Ky ->Option (Nat×Nat)}{c:Nat}(h:TJ w B J N c)(h0:N []≠none):NkI J J.length N:=fun z=>by
 by_cases e:z=[]
 ·rw [e];refine⟨fun _=> .inl rfl,fun _=> ?_⟩;cases hv:N [] with
  | none=>exact absurd hv h0
  | some v=>rfl
 ·obtain⟨u,y,rfl⟩:∃u y,z=u++[y]:=⟨z.dropLast,z.getLast e,(List.dropLast_concat_getLast e).symm⟩;rw [h.there u y];constructor
  ·rintro⟨x,g,m⟩;obtain⟨j,k,q⟩:=Qa2.1 g;exact .inr ⟨j,k,by rw [q];exact m⟩
  ·rintro(r|⟨j,k,m⟩)
   ·exact absurd r e
   ·exact⟨gL J j,Qa2.2 ⟨j,k,rfl⟩,m⟩
theorem Qk6 (l:List Lf)(p:List ByteArray)(s:ByteArray)(d:Dt):Mk l l.length (Qad p 3++[(s,3)]) d=none:=by
 refine Classical.byContradiction fun hn=> ?_;obtain⟨j,k,e,_⟩:=QjW.1 hn;rw [<- Qf2] at e;have:=(QjO e.symm (by simp)).2;rcases QgB (gL l j).fl with h|h<;>omega
theorem QmE {l:List Lf}{N:List Ky ->Option (Nat×Nat)}(hN:NkI l l.length N)(p:List ByteArray)(y u:Ky)(hy:y.2≠3):N (Qad p 3++[y]++[u])=none:=by
 cases hv:N (Qad p 3++[y]++[u]) with
 | none=>rfl
 | some v=>
  exfalso;have q:(N (Qad p 3++[y]++[u])).isSome=true:=by rw [hv];rfl
  rcases (hN _).1 q with h|⟨j,o,m⟩
  ·simp at h
  ·have z:=m.length_le;simp only [List.length_append,List.length_singleton,QaX,Way] at z;have k:(Way (gL l j))[p.length]? =some y:=by
    obtain⟨t,g⟩:=m;rw [<- g];simp [QaX]
   unfold Way at k;rw [Qbw (by omega),if_pos (by omega)] at k;have r:=congrArg Prod.snd (Option.some.inj k);exact hy r.symm
noncomputable def gK (l:List Lf)(f:Nat)(p:List ByteArray)(y:Ky):List Lf:=if y.2=3 then wL l f (p++[y.1]) else dsK l p y l.length
theorem Qpf (l:List Lf)(f:Nat)(p:List ByteArray):wL l (f+1) p=(kS l p l.length).flatMap (gK l f p):=rfl
theorem Qia {α:Type}(g:α ->List Lf)(ts:List α)(k:Nat):((ts.take k).flatMap g).length<=(ts.flatMap g).length:=by
 have:ts.flatMap g=(ts.take k).flatMap g++(ts.drop k).flatMap g:=by rw [<- List.flatMap_append,List.take_append_drop]
 rw [this,List.length_append];omega
theorem QeP (Bt c:Nat)(N:List Ky ->Option (Nat×Nat))(M:List Ky ->Dt ->Option ByteArray)(z:List Ky)(w:World)(hT:Tre w Bt N M c)(hc:c<=1048576)(hz:∀u,N (z++[u])=none)(bv vw:Value):
  Calls Tryz.prog 37 #[.agg #[.map (mF (N z)),.map (mS (N z))],bv,vw] w fun e w'=>e=.returned bv/\ Below w.heap.size w w':=by
 obtain⟨W,j⟩:∃W,w.alloc (.cells #[.map (mF (N z)),.map (mS (N z))] 53)=W:=⟨_,rfl⟩;have q:Below w.heap.size w W:=by rw [<- j];exact zO _ _
 have k:Bx2 W w.heap.size (.map (mF (N z))) (.map (mS (N z))):=by rw [<- j];exact Bx2.made _ _ _ _
 have m:=hid (Qc6 Bt c N M z W (hT.below q) hc);obtain⟨Z,r⟩:∃u,mF (N z)=u:=⟨_,rfl⟩;obtain⟨G,v⟩:∃u,mS (N z)=u:=⟨_,rfl⟩;rw [r,v] at k m j;rw [r,v];have E:=k.c0;have O:=k.c1;have t:=hid q;have i:=hid hz;clear k q hT r v hz;go_enter Tryz.func37,Tryz.ntmps37;go_wp2_with fail;try rw [j]
 clear j;refine m.mono ?_;rintro e w1 ⟨H,Q,rfl,A,g,s,h,y⟩;obtain rfl:Q=[]:=List.eq_nil_iff_forall_not_mem.2 fun x hx=>(g x).1 hx (by unfold Qjc;exact i x);obtain⟨U,V,rfl,b,Y,p⟩:=QnB h;have o:=hid (Qac t.out y);simp only [List.length_nil] at b ⊢;clear A g s h y p E O m;go_wp2_with fail;refine wp_loop_rounds 1 ?_;rw [rounds_succ];go_wp2_with fail;go_ret;exact⟨rfl,o.out⟩
theorem Qc8 {R F T:Nat ->Int}{n:Nat}(l:List Lf)(w0:World)(Bt c:Nat)(N:List Ky ->Option (Nat×Nat))(hT:Tre w0 Bt N (Mk l l.length) c)(hN:NkI l l.length N)(hc:c<=1048576)(hlv:QbS R F T n l l.length)(hbd:LvB l):∀(f:Nat) (p:List ByteArray),p.length+f=8 ->1<=f ->∀(bv:Value) (l0:List Lf) (vw:Value) (w:World),Below w0.heap.size w0 w ->LB w w0.heap.size bv l0 ->Qhe w vw p ->(∀g,vw.ownBlock=some g ->bv.ownBlock≠some g) ->l0.length+(wL l f p).length<=1000000 ->
  Calls Tryz.prog 37 #[.agg #[.map (mF (N (Qad p 3))),.map (mS (N (Qad p 3)))],bv,vw] w fun e w'=>∃v,e=.returned v/\ LB w' w0.heap.size v (l0++wL l f p)/\ Gr w w' bv v
 | 0,_,_,Q,_,_,_,_,_,_,_,_,_=>by omega
 | f+1,p,hpf,_,bv,l0,vw,w,hb,ho,hvw,hne,hl=>by
  obtain⟨k1,k2⟩:=QdT p hlv l.length zL;rw [Qpf] at hl ⊢;have Lj:Hid (∀s,p.length+2<=8 ->∀(bv:Value) (l0:List Lf) (vw:Value) (w:World),Below w0.heap.size w0 w ->LB w w0.heap.size bv l0 ->Qhe w vw (p++[s]) ->(∀g,vw.ownBlock=some g ->bv.ownBlock≠some g) ->l0.length+(wL l f (p++[s])).length<=1000000 ->Calls Tryz.prog 37 #[.agg #[.map (mF (N (Qad p 3++[(s,3)]))),.map (mS (N (Qad p 3++[(s,3)])))],bv,vw] w fun e w'=>∃v,e=.returned v/\ LB w' w0.heap.size v (l0++wL l f (p++[s]))/\ Gr w w' bv v):=hid (fun s Lg bv l0 vw w Q z h3 h4 h5=>by
   rw [<- Qf2];exact Qc8 l w0 Bt c N hT hN hc hlv hbd f (p++[s]) (by simp;omega) (by omega) bv l0 vw w Q z h3 h4 h5)
  obtain⟨W,hW⟩:∃W,w.alloc (.cells #[.map (mF (N (Qad p 3))),.map (mS (N (Qad p 3)))] 53)=W:=⟨_,rfl⟩;have b0:Below w.heap.size w W:=by rw [<- hW];exact zO _ _
  have X0:Bx2 W w.heap.size (.map (mF (N (Qad p 3)))) (.map (mS (N (Qad p 3)))):=by rw [<- hW];exact Bx2.made _ _ _ _
  have zW:W.heap.size=w.heap.size+1:=by rw [<- hW];simp
  have Jr:Below w0.heap.size w0 W:=hb.trans (b0.mono hb.size);have Ji:=hid (Qc6 Bt c N (Mk l l.length) (Qad p 3) W (hT.below Jr) hc);obtain⟨m0,K2⟩:∃u,mF (N (Qad p 3))=u:=⟨_,rfl⟩;obtain⟨m1,Gc⟩:∃u,mS (N (Qad p 3))=u:=⟨_,rfl⟩;rw [K2,Gc] at X0 Ji hW;rw [K2,Gc];have q0:=X0.c0;have q1:=X0.c1;have HX:=hid X0;have Li:=hid b0;have K6:=hid Jr;have HO:=hid (ho.below b0);have J7:=hid (hvw.below b0);have HT:=hid hT;have J5:=hid hN;have Lm:=hid K2;have Ln:=hid hne;have Lq:Hid (∀g,vw.ownBlock=some g ->g<w.heap.size):=hid hvw.lt;have Gm:Hid (∀g,bv.ownBlock=some g ->w0.heap.size<=g/\ g<w.heap.size):=hid ho.lt;have Gg:=hid k2;have J4:=hid hl;have J8:=hid zW;have L6:Hid (w0.heap.size<=w.heap.size):=hid hb.size;clear X0 b0 Jr ho K2 Gc k1 k2 hvw hne hl zW hb hN;go_enter Tryz.func37,Tryz.ntmps37;go_wp2_with fail;try rw [hW]
  clear hW;refine Ji.mono ?_;rintro e w1 ⟨vd,V,rfl,Kl,He,Gx,K3,b1⟩;have Kg:=QiX (p:=p) hlv J5.out Kl He;obtain⟨da,dc,rfl,Lv,Lw,Lb⟩:=QnB K3;have Lz:V.length<=1000:=by rw [Kg];have:=Qe8 l p l.length;have:=hbd.len;omega
  have HD:Hid (0<V.length ->∃g,da=some ⟨g,0,none⟩/\ W.heap.size<=g/\ g<w1.heap.size/\∀i,i<V.length ->∃y∈V,V[i]? =some y/\ w1.cell? ⟨g,i*2,none⟩=some (.string y.1)/\ w1.cell? ⟨g,i*2+1,none⟩=some (.int .i64 y.2)):=hid (fun h0=>by
   obtain⟨g,e1,e2,e3,e4⟩:=Lb h0;refine⟨g,e1,e2,e3,fun i hi=> ?_⟩;obtain⟨d,f1,f2,f3⟩:=e4 i hi;exact⟨d,List.mem_of_getElem? f1,f1,f2,f3⟩)
  have J3:Hid (∀y∈V,y.1.size<=40/\ ((y.2=1 \/y.2=2) \/(y.2=3/\ p.length+2<=8))):=hid (fun y hy=>by
   rw [Kg] at hy;obtain⟨j,hj,e⟩:=(Gg y).1 hy;exact⟨Qeb (hlv j hj).1 e,Qkv (hlv j hj).1 e⟩)
  have Lp:Hid (kS l p l.length=V):=hid Kg.symm;rw [<- Kg] at J4;have Ll:Hid (∀y∈V,∀w',Below w0.heap.size w0 w' ->(Instr.lookup 50 (.map m0) (.agg #[.string y.1,.int .i64 y.2]) false).run Tryz.prog w'=.ok (.agg #[.map (mF (N (Qad p 3++[y]))),.map (mS (N (Qad p 3++[y])))]) w'):=hid (fun y hy w' hb'=>by
   have hl:=J3 y hy;obtain⟨kl,Jt⟩:=Qhu (s:=y.1) (k:=y.2) (by unfold maxLen;omega) (wfI (by omega) (by omega));have:=(HT.below hb').look (Qad p 3) y Jt;rw [Lm.out] at this;exact this)
  have X1:=HX.below b1 HX.lt;have Lr:=hid X1;have J6:=hid (HO.below b1);have Jh:=hid (J7.below b1);have J2:=hid (K6.trans (b1.mono K6.size));have K4:=hid (Qac Li.out b1);have Jj:Hid (w0.heap.size<=w1.heap.size/\ w.heap.size<w1.heap.size):=hid (by have Q:=J2.size;have z:=b1.size;have h3:=J8.out;omega);clear q0 q1 K3 Kl He Gx Lb Kg b1 Ji X1 HX HO K6 J7;go_wp2_with fail;go_loopw [1,16] (fun b' i wr=>∃(k:Nat),k<=V.length/\ i=.int .i64 k/\ Hid (LB wr w0.heap.size b' (l0++(V.take k).flatMap (gK l f p)))/\ Hid (Gr w1 wr bv b')) (fun _ i _=>V.length - (intOf i).toNat);case atStart=>exact⟨0,Nat.zero_le _,rfl,hid (by simpa using J6.out),hid (Gr.refl _ _)⟩
  case round=>
   clear J6;obtain⟨k,hk,rfl,Ka,Hz⟩:=hrel;by_cases Jv:k<V.length
   ·obtain⟨g,rfl,L8,L9,Lc⟩:=HD (by omega);obtain⟨y,J0,Lh,Ga,Gb⟩:=Lc k Jv;have Gw:some g≠bv.ownBlock:=fun e=>by have Q:=(Gm g e.symm).2;have z:=J8.out;omega
    have Ke:some w.heap.size≠bv.ownBlock:=fun e=>by have:=(Gm _ e.symm).2;omega
    have P:=Hz.g.cell Ga Gw;have c2:=Hz.g.cell Gb Gw;have n0:=Hz.g.cell Lr.c0 Ke;have Jz:=J3 y J0;have Kt:Hid (Below w0.heap.size w0 wr):=hid (J2.trans (Hz.below Jj.1 (fun k hk=>(Gm k hk).1)));have Lo:Hid (Qhe wr vw p):=hid (Jh.move Hz.g.size (fun g hg=>Hz.g.block g (by have Q:=Lq g hg;have z:=Jj.2;omega) (fun e=>Ln.out g hg e.symm)));have G1:Hid (∀g,u1.ownBlock=some g ->w0.heap.size<=g/\ g<wr.heap.size):=hid Ka.lt;have Kz:Hid ((V.take (k+1)).flatMap (gK l f p)=(V.take k).flatMap (gK l f p)++gK l f p y):=hid (by rw [List.take_add_one,Lh];simp);have H9:Hid ((l0++(V.take k).flatMap (gK l f p)).length+(gK l f p y).length<=1000000):=hid (by
     have Q:=Qia (gK l f p) V (k+1);rw [Kz.out,List.length_append] at Q;have z:=J4.out;simp only [List.length_append] at z ⊢;omega)
    obtain⟨L0,Jn⟩:∃L0,l0++(V.take k).flatMap (gK l f p)=L0:=⟨_,rfl⟩;have H1:Hid (∀w',Below w0.heap.size w0 w' ->(Instr.lookup 50 (.map m0) (.agg #[.string y.1,.int .i64 y.2]) false).run Tryz.prog w'=.ok (.agg #[.map (mF (N (Qad p 3++[y]))),.map (mS (N (Qad p 3++[y])))]) w'):=hid (fun w' h=>Ll.out y J0 w' h);obtain⟨ls,Kr,Ld,Kh,Le,Kj⟩:∃ls Kr:List Lf,gK l f p y=ls++Kr/\ (∀Hn:List Dt,Hn.Pairwise (fun x y=>Qbh x y<0) ->(∀d,d∈Hn↔Mk l l.length (Qad p 3++[y]) d≠none) ->Hn=ls.map fun x=>((x.r,x.q):Dt))/\ (∀x∈ls,x=⟨p++[y.1],decide (y.2=2),x.r,x.q,x.v⟩/\ Mk l l.length (Qad p 3++[y]) (x.r,x.q)=some x.v/\ (0<=x.r/\ x.r<8)/\ (0<=x.q/\ x.q<=1000000000))/\
      (∀(bv:Value) (l0:List Lf) (vw:Value) (w:World),Below w0.heap.size w0 w ->LB w w0.heap.size bv l0 ->Qhe w vw (p++[y.1]) ->(∀g,vw.ownBlock=some g ->bv.ownBlock≠some g) ->l0.length+Kr.length<=1000000 ->Calls Tryz.prog 37 #[.agg #[.map (mF (N (Qad p 3++[y]))),.map (mS (N (Qad p 3++[y])))],bv,vw] w fun e w'=>∃v,e=.returned v/\ LB w' w0.heap.size v (l0++Kr)/\ Gr w w' bv v):=by
     rcases Jz.2 with L7|⟨h3,Lg⟩
     ·have Ko:y.2≠3:=by omega
      refine⟨dsK l p y l.length,[],by unfold gK;rw [if_neg Ko,List.append_nil],fun Hn Q z=>QfK hlv Ko Q z,fun x hx=> ?_,fun bv l0 vw w Q z h3 h4 h5=> ?_⟩
      ·have hv:=QfT Ko hbd.dis hx;obtain⟨j,hj,e,rfl⟩:=Qbc.1 hx;have hp:=Qb1 Ko e;refine⟨?_,hv,hbd.rep j hj,hbd.seq j hj⟩;obtain⟨x,hx⟩:∃x,gL l j=x:=⟨_,rfl⟩;rw [hx] at hp ⊢;obtain⟨xp,xf,H,G,xv⟩:=x;have e1:xp=p++[y.1]:=hp.1;have e2:kd xf=y.2:=hp.2;have e3:xf=decide (y.2=2):=by rw [<- e2];cases xf<;>simp [kd]
       rw [<- e1,<- e3]
      ·refine(QeP Bt c N (Mk l l.length) (Qad p 3++[y]) w (HT.below Q) hc (fun u=>QmE J5.out p y u Ko) bv vw).mono ?_;rintro e w' ⟨rfl,b⟩;exact⟨bv,rfl,by rw [List.append_nil];exact z.below b,Gr.of_below b⟩
     ·obtain⟨s,Y⟩:=y;have h3:Y=3:=h3;subst h3;refine⟨[],wL l f (p++[s]),by unfold gK;rw [if_pos rfl,List.nil_append],fun Hn Q z=> ?_,fun x hx=>(by cases hx),Lj.out s Lg⟩;exact List.eq_nil_iff_forall_not_mem.2 fun d hd=>(z d).1 hd (Qk6 l p s d)
    have Lk:=hid Kh;have Kv:=hid Le;have Kx:=hid Kj;have Kw:Hid (∀w',Below w0.heap.size w0 w' ->∀x∈ls,(Instr.lookup 51 (.map (mS (N (Qad p 3++[y])))) (.agg #[.int .i64 x.r,.int .i64 x.q]) false).run Tryz.prog w'=.ok (.agg #[.string x.v]) w'):=hid (fun w' hb' x hx=>by
     have hv:=Kv x hx;have T':=HT.below hb';cases e:N (Qad p 3++[y]) with
     | none=>have h:=hv.2.1;rw [T'.none' _ e] at h;cases h
     | some x1=>
      obtain⟨kl,Jt⟩:=QdF (r:=x.r) (q:=x.q) (wfI (by omega) (by omega)) (wfI (by omega) (by omega));have:=(T'.marks _ x1 e).look QaF Tryz.underlying51 (QhV w') (x:=(x.r,x.q)) Jt;rw [hv.2.1] at this;exact this)
    have Hs:Hid (∀w',Below w0.heap.size w0 w' ->Calls Tryz.prog 73 #[.agg #[.map (mF (N (Qad p 3++[y]))),.map (mS (N (Qad p 3++[y])))]] w' fun e Ho=>∃(v:Value) (V:List Dt),e=.returned v/\ V=(ls.map fun x=>((x.r,x.q):Dt))/\ Ho.ownsRow w'.heap.size 75 2 v V.length (Ds.kRow V)/\ Below w'.heap.size w' Ho):=hid (fun w' hb'=>by
     refine(Ds.sortedDotsC Bt c N (Mk l l.length) (Qad p 3++[y]) w' (HT.below hb') hc).mono ?_;rintro e Ho ⟨v,Hn,rfl,Q,z,_,h4,h5⟩;exact⟨v,Hn,rfl,Lk.out Hn Q z,h4,h5⟩)
    obtain⟨a1,J9⟩:∃a1,mF (N (Qad p 3++[y]))=a1:=⟨_,rfl⟩;obtain⟨C,Jq⟩:∃C,mS (N (Qad p 3++[y]))=C:=⟨_,rfl⟩;rw [J9,Jq] at H1 Kx Hs;rw [Jq] at Kw;rw [Ld] at Kz H9;rw [Jn] at H9 Ka;have G5:Hid (l0++(V.take (k+1)).flatMap (gK l f p)=L0++(ls++Kr)):=hid (by rw [Kz.out,<- Jn];simp);obtain⟨s,Y⟩:=y;dsimp only at P c2 Jz H1 Kw Kx Kv;have L5:Hid (s.size<=40):=hid Jz.1;obtain⟨A,Jo⟩:∃A,wr.alloc (.cells #[.string s,.int .i64 Y] 113)=A:=⟨_,rfl⟩;have D1:Bx2 A wr.heap.size (.string s) (.int .i64 Y):=by rw [<- Jo];exact Bx2.made _ _ _ _
    have K1:Below wr.heap.size wr A:=by rw [<- Jo];exact zO _ _
    obtain⟨E,Jp⟩:∃E,A.alloc (.cells #[.map a1,.map C] 53)=E:=⟨_,rfl⟩;have Jk:Below A.heap.size A E:=by rw [<- Jp];exact zO _ _
    have Hi:Hid (Bx2 E A.heap.size (.map a1) (.map C)):=hid (by rw [<- Jp];exact Bx2.made _ _ _ _);have H8:=hid (D1.below Jk D1.lt);have Ks:=hid (Qac K1 Jk);have H0:Hid (Below w0.heap.size w0 E):=hid (Kt.trans (Ks.mono Kt.size));have Jg:=hid (Lo.below Ks.out);have K0:Hid (wr.heap.size<A.heap.size/\ A.heap.size<E.heap.size):=hid ⟨D1.lt,Hi.lt⟩;have Ku:Hid (∀w',Below E.heap.size E w' ->Calls Tryz.prog 72 #[vw] w' fun e Ho=>∃v,e=.returned v/\ Below w'.heap.size w' Ho/\ Ho.ownsRow w'.heap.size 9 1 v p.length (Qcw p)):=hid (fun w' hb'=>Qnq vw p w' (by omega) (Jg.below hb'));have q0:=D1.c0;have q1:=D1.c1;have L3:=(K1.cell (p:=⟨w.heap.size,0,none⟩) (by have Q:=Jj.2;have z:=Hz.g.size;show w.heap.size<wr.heap.size;omega)).trans n0;have L1:=H1 A (Kt.trans (K1.mono Kt.size));have H5:Hid (∀w',Below E.heap.size E w' ->w'.cell? ⟨wr.heap.size,0,none⟩=some (.string s)):=hid (fun w' b=>(H8.below b H8.lt).c0);clear D1 K1 Jk Ga Gb Lc J0 Lh Ke Gw Le Kh Kj Ld Jn J9 Jq H1 Kz;go_wp2_with fail;refine zR (S:=fun w'=>w'.cell? ⟨wr.heap.size,0,none⟩=some (.string s)) (H5 _ zI.drew) (fun qh=> ?_);clear q0 q1 L3 L1 n0 P c2 Jo Jp;refine tZ 0 24 ?_;refine tZ 2 26 ?_;refine tZ 3 27 ?_;refine Qbu (i:=1) (j:=4) (d:=some 25) (d':=some 28) (by kernel_rfl) (by kernel_rfl) (by kernel_rfl) ?_ ?_
    ·
     intro o ho K3 K M;simp only [gZa,gZb,gZc,gZd] at ho;subst ho;go_simp;refine(Ku _ zI.drew).mono ?_;rintro e w3 ⟨v3,rfl,b3,o3⟩;have H6:Below E.heap.size E w3:=⟨b3.os,b3.tape,b3.output,b3.size,b3.block⟩;refine M.out _ _ (H5 _ H6) (fun qh=> ?_);clear M K;try simp only [zP]
     refine cZ 4 ?_;intro K M;go_simp;have Ht:Below E.heap.size E (w3.alloc (.cells #[.string s] 9)):=H6.alloc H6.size _;refine M.out _ _ (H5 _ Ht) (fun qh=> ?_);clear M K;try simp only [zP]
     have o4:(w3.alloc (.cells #[.string s] 9)).ownsRow E.heap.size 9 1 v3 p.length (Qcw p):=World.ownsRow.alloc o3 _;obtain⟨X,Hd,w5,Hc,o5,g5,Jw⟩:=Qju o4 Ht.size (by omega) s w3.heap.size (by simp);have Gq:Below E.heap.size E w5:=Ht.grown g5 Ht.size (fun k e=>(World.ownsRow.lt o4 k e).1);refine cZ 5 ?_;intro K M;refine Qcj _ _ _ _ rfl Hc (by rfl) (by rfl) rfl ?_;refine M.out _ _ (H5 _ Gq) (fun qh=> ?_);clear M K;try simp only [zP]
     refine tZ 6 10 ?_;refine zD ?_;have H2:=hid o5;have Hk:=hid Gq;clear qh b3 H6 Ht o3 o4 o5 g5 Gq Hc H5 Ku Jw;obtain⟨bu,Js⟩:∃b,b=u1:=⟨_,rfl⟩;subst Js;obtain⟨O,Jx⟩:∃b,b=wr:=⟨_,rfl⟩;subst Jx;have Hg:Hid (Below w0.heap.size w0 w5):=hid (H0.trans (Hk.mono H0.size));have K5:=Hi.below Hk.out Hi.lt;have Gz:=K5.c0;have G0:=K5.c1;have Gi:=hid K5;have Gf:=hid (H8.below Hk.out H8.lt);have Jf:Hid (E.heap.size<=X/\ X<w5.heap.size):=hid (World.ownsRow.lt H2.out X rfl);clear K5;go_wp2_with fail;refine(Hs w5 Hg.out).mono ?_;rintro e Z ⟨L4,Hn,rfl,He,Hy,b6⟩;obtain⟨Jm,Lu,rfl,Hv,Kf,Hw⟩:=QnA Hy;have Kk:Hn.length=ls.length:=by rw [He];simp
     have K8:Hid (0<ls.length ->∃L,Jm=some ⟨L,0,none⟩/\ w5.heap.size<=L/\ L<Z.heap.size/\∀i,i<ls.length ->∃x∈ls,ls[i]? =some x/\ Z.cell? ⟨L,i*2,none⟩=some (.int .i64 x.r)/\ Z.cell? ⟨L,i*2+1,none⟩=some (.int .i64 x.q)):=hid (fun h0=>by
      obtain⟨L,e1,e2,e3,e4⟩:=Hw (by omega);refine⟨L,e1,e2,e3,fun i hi=> ?_⟩;obtain⟨d,f1,f2,f3⟩:=e4 i (by omega);rw [He] at f1;simp only [List.getElem?_map,Option.map_eq_some_iff] at f1;obtain⟨x,f4,f5⟩:=f1;subst f5;exact⟨x,List.mem_of_getElem? f4,f4,f2,f3⟩)
     rw [Kk] at Hv ⊢;have Ju:ls.length<=1000000:=by have:=H9.out;simp only [List.length_append] at this;omega
     have G2:=Qac Hk.out b6;have Gd:=Qac Ks.out G2;have Ge:=hid Gd;have G9:Hid (LB Z w0.heap.size bu L0):=hid (Ka.below Gd);have Gn:Hid (Z.ownsRow E.heap.size 9 1 (.slice (some ⟨X,0,none⟩) (p.length+1) Hd) (p.length+1) (Qcw (p++[s]))):=hid (QaD H2.out (fun g hg=>b6.block g (World.ownsRow.lt H2.out g hg).2));have K7:=hid (Gf.below b6 Gf.lt);have G7:=hid (Gi.below b6 Gi.lt);have Hp:Hid (Below w0.heap.size w0 Z):=hid (Hg.trans (b6.mono Hg.size));have U:Hid (O.heap.size<A.heap.size/\ A.heap.size<E.heap.size/\ E.heap.size<=w5.heap.size/\ w5.heap.size<=Z.heap.size/\ w0.heap.size<=Z.heap.size):=hid ⟨K0.1,K0.2,Hk.size,b6.size,Hp.size⟩;clear Hy Hw He Kk b6 G2 Gd Gz G0 Gf Gi H2 Hk Hi H8 Hs;go_wp2_with fail;go_loopw [1,33] (fun b' i wr=>∃(t:Nat),t<=ls.length/\ i=.int .i64 t/\ Hid (LB wr w0.heap.size b' (L0++ls.take t))/\ Hid (Gr Z wr bu b')) (fun _ i _=>ls.length - (intOf i).toNat);case atStart=>exact⟨0,Nat.zero_le _,rfl,hid (by simpa using G9.out),hid (Gr.refl _ _)⟩
     case round=>
      clear G9;obtain⟨t,ht,rfl,H3,I⟩:=hrel;have Hm:Hid (∀b,O.heap.size<=b ->some b≠bu.ownBlock):=hid (fun b hb e=>by have:=(G1 b e.symm).2;omega);have Hb:Hid (∀b,((O.heap.size<=b/\ b<Z.heap.size) \/wr.heap.size<=b) ->some b≠u1.ownBlock):=hid (fun b hb e=>by
       have Q:=(H3.lt b e.symm).2;rcases I.l with z|⟨j,z,h3⟩
       ·rw [z] at e;have:=(G1 b e.symm).2;have:=U.out;omega
       ·rw [z] at e;have e:b=j:=by injection e
        omega)
      have L2:=I.g.size;have Gg:=hid (I.g.cell G7.c0 (Hm _ (by have:=U.out;show O.heap.size<=A.heap.size;omega)));have Gh:=hid (I.g.cell G7.c1 (Hm _ (by have:=U.out;show O.heap.size<=A.heap.size;omega)));have G6:=hid (I.g.cell K7.c1 (Hm _ zL));have Hh:Hid (Below w0.heap.size w0 wr):=hid (Hp.trans (I.below U.2.2.2.2 (fun k hk=>(G1 k hk).1)));have H4:Hid (wr.ownsRow E.heap.size 9 1 (.slice (some ⟨X,0,none⟩) (p.length+1) Hd) (p.length+1) (Qcw (p++[s]))):=hid (QaD Gn.out (fun g hg=>I.g.block g (World.ownsRow.lt Gn.out g hg).2 (Hm g (by have Q:=(World.ownsRow.lt Gn.out g hg).1;have z:=U.out;omega))));by_cases Gx:t<ls.length
      ·obtain⟨L,rfl,Gu,Gv,Hx⟩:=K8 (by omega);obtain⟨x,Gy,Kn,Ga,Gb⟩:=Hx t Gx;have P:=I.g.cell Ga (Hm L (by have z:=U.out;show O.heap.size<=L;omega));have c2:=I.g.cell Gb (Hm L (by have z:=U.out;show O.heap.size<=L;omega));have H7:=Kv x Gy;have Gl:Hid (∀w',Below w0.heap.size w0 w' ->(Instr.lookup 51 (.map C) (.agg #[.int .i64 x.r,.int .i64 x.q]) false).run Tryz.prog w'=.ok (.agg #[.string x.v]) w'):=hid (fun w' h=>Kw.out w' h x Gy);have Gp:Hid (ls.take (t+1)=ls.take t++[x]):=hid (by rw [List.take_add_one,Kn];rfl);obtain⟨xp,xf,H,G,xv⟩:=x;dsimp only at P c2 H7 Gl;have Jy:xp=p++[s]:=congrArg Lf.p H7.1;have Km:xf=decide (Y=2):=congrArg Lf.fl H7.1;subst Jy;have Ly:(Y==2)=xf:=by rw [Km];rfl
       have Lx:∀w:World,(Instr.field 107 (.agg #[.string xv]) 0).run Tryz.prog w=.ok (.string xv) w:=fun w=>by kernel_rfl
       obtain⟨m,Gs⟩:∃m,wr.alloc (.cells #[.int .i64 H,.int .i64 G] 75)=m:=⟨_,rfl⟩;have Hj:Below wr.heap.size wr m:=by rw [<- Gs];exact zO _ _
       have DV:Bx2 m wr.heap.size (.int .i64 H) (.int .i64 G):=by rw [<- Gs];exact Bx2.made _ _ _ _
       have Hr:=hid DV;have Hl:Hid (Below w0.heap.size w0 m):=hid (Hh.trans (Hj.mono Hh.size));have G8:=hid (H3.below Hj);have Kb:=hid (Qcf (QaD H4.out (fun g hg=>Hj.block g (World.ownsRow.lt H4.out g hg).2)) (show (p++[s]).length=p.length+1 by simp));have Hq:Hid (∀w',Below m.heap.size m w' ->Calls Tryz.prog 72 #[.slice (some ⟨X,0,none⟩) (p.length+1) Hd] w' fun e Ho=>∃q cap,e=.returned (.slice (some ⟨q,0,none⟩) (p.length+1) cap)/\ Below w'.heap.size w' Ho/\ Ho.ownsRow w'.heap.size 9 1 (.slice (some ⟨q,0,none⟩) (p.length+1) cap) (p.length+1) (Qcw (p++[s]))):=hid (fun w' hb'=>by
        have hw:=Kb.2.same (hb'.block X Kb.2.lt);exact Qi9 X (p.length+1) Hd (p++[s]) w' (by simp) (by omega) hw.lt (fun t ht=>hw.cell ht))
       have G3:Hid (∀B q7 D,Below m.heap.size m B ->B.ownsRow m.heap.size 9 1 (.slice (some ⟨q7,0,none⟩) (p.length+1) D) (p.length+1) (Qcw (p++[s])) ->∃q' Ha n' w3,(Builtin.append_ #[24,24] 24 #[u1,.slice (some ⟨B.heap.size,0,none⟩) 1 1]).run Tryz.prog (B.alloc (.cells #[.slice (some ⟨q7,0,none⟩) (p.length+1) D,.bool xf,.int .i64 H,.int .i64 G,.string xv] 77))=.ok (.slice (some ⟨q',0,none⟩) n' Ha) w3/\
         LB w3 w0.heap.size (.slice (some ⟨q',0,none⟩) n' Ha) (L0++ls.take (t+1))/\ Gr B w3 u1 (.slice (some ⟨q',0,none⟩) n' Ha)):=hid (fun B q7 D b7 o7=>by
        have Ki:=World.ownsRow.lt o7 q7 rfl;have Gt:p.length+1<=D/\ D<=9223372036854775807:=by
         rcases o7.2 with ⟨h0,_⟩|⟨g',Ha,Lt,hv,Kd,hb,Q,z,h3,h4⟩
         ·cases h0
         ·injection hv with e1 e2 e3;unfold maxLen at z;omega
        obtain⟨q',Ha,w3,e1,e2,e3⟩:=G8.app b7 Hl.size (by have Q:=H9.out;simp only [List.length_append,List.length_take] at Q ⊢;omega) ⟨p++[s],xf,H,G,xv⟩ q7 D Ki.1 Ki.2 (by simpa using (Qcf o7 (show (p++[s]).length=p.length+1 by simp)).2) (by simpa using Gt);refine⟨q',Ha,_,w3,by simpa using e1,?_,e3⟩;rw [Gp.out,<- List.append_assoc];exact e2)
       have Go:Hid (∀w',Below w0.heap.size w0 w' ->w'.cell? ⟨O.heap.size,1,none⟩=some (.int .i64 Y) ->w'.cell? ⟨A.heap.size,1,none⟩=some (.map C) ->w'.cell? ⟨wr.heap.size,0,none⟩=some (.int .i64 H) ->w'.cell? ⟨wr.heap.size,1,none⟩=some (.int .i64 G) ->(w'.cell? ⟨O.heap.size,1,none⟩=some (.int .i64 Y)/\ w'.cell? ⟨A.heap.size,1,none⟩=some (.map C)/\ w'.cell? ⟨wr.heap.size,0,none⟩=some (.int .i64 H)/\ w'.cell? ⟨wr.heap.size,1,none⟩=some (.int .i64 G)/\ (Instr.lookup 51 (.map C) (.agg #[.int .i64 H,.int .i64 G]) false).run Tryz.prog w'=.ok (.agg #[.string xv]) w')):=hid (fun w' Q z h3 h4 h5=>⟨z,h3,h4,h5,Gl.out w' Q⟩);have Gk:=hid ((Hj.cell (p:=⟨O.heap.size,1,none⟩) (by have:=U.out;show O.heap.size<wr.heap.size;omega)).trans G6.out);have Gj:=hid ((Hj.cell (p:=⟨A.heap.size,1,none⟩) (by have:=U.out;show A.heap.size<wr.heap.size;omega)).trans Gh.out);have Hf:Hid (∀w',Below m.heap.size m w' ->(w'.cell? ⟨O.heap.size,1,none⟩=some (.int .i64 Y)/\ w'.cell? ⟨A.heap.size,1,none⟩=some (.map C)/\ w'.cell? ⟨wr.heap.size,0,none⟩=some (.int .i64 H)/\ w'.cell? ⟨wr.heap.size,1,none⟩=some (.int .i64 G)/\ (Instr.lookup 51 (.map C) (.agg #[.int .i64 H,.int .i64 G]) false).run Tryz.prog w'=.ok (.agg #[.string xv]) w')):=hid (fun w' b=>by
        have hz:=Hr.lt;have h6:=U.out;exact Go w' (Hl.trans (b.mono Hl.size)) ((b.cell (p:=⟨O.heap.size,1,none⟩) (by show O.heap.size<m.heap.size;omega)).trans Gk.out) ((b.cell (p:=⟨A.heap.size,1,none⟩) (by show A.heap.size<m.heap.size;omega)).trans Gj.out) (Hr.below b Hr.lt).c0 (Hr.below b Hr.lt).c1)
       have Jb:Hid (Gr Z m bu u1):=hid (I.trans (Gr.of_below Hj));have Ls:Hid (wr.heap.size<m.heap.size):=hid DV.lt;clear Hj DV Ga Gb Hx Gy Kn H7 H3 I Km Gl G6 Gh Gg H4 Gu Gv;go_wp2_with fail;refine zR (S:=fun w'=>w'.cell? ⟨O.heap.size,1,none⟩=some (.int .i64 Y)/\ w'.cell? ⟨A.heap.size,1,none⟩=some (.map C)/\ w'.cell? ⟨wr.heap.size,0,none⟩=some (.int .i64 H)/\ w'.cell? ⟨wr.heap.size,1,none⟩=some (.int .i64 G)/\ (Instr.lookup 51 (.map C) (.agg #[.int .i64 H,.int .i64 G]) false).run Tryz.prog w'=.ok (.agg #[.string xv]) w') (Hf _ zI.drew) (fun qh=> ?_);clear P c2 Gs;refine tZ 0 37 ?_;refine tZ 1 38 ?_;refine tZ 3 40 ?_;refine tZ 4 41 ?_;refine tZ 5 42 ?_;refine tZ 6 43 ?_;refine tZ 7 44 ?_;refine tZ 8 45 ?_;refine tZ 9 46 ?_;refine tZ 10 47 ?_;refine tZ 11 48 ?_;refine cZ 2 ?_;intro K M;go_simp;refine(Hq _ zI.drew).mono ?_;rintro e B ⟨q7,D,rfl,b7,o7⟩;have J:Below m.heap.size m B:=⟨b7.os,b7.tape,b7.output,b7.size,b7.block⟩;refine M.out _ _ (Hf _ J) (fun qh=> ?_);clear M K;try simp only [zP]
       refine tZ 12 49 ?_;refine cZ 13 ?_;intro K M;go_simp;obtain⟨q8,Jl,n8,w8,Hc,Kp,g8⟩:=G3 B q7 D J o7;have Kc:Below m.heap.size m (B.alloc (.cells #[.slice (some ⟨q7,0,none⟩) (p.length+1) D,.bool xf,.int .i64 H,.int .i64 G,.string xv] 77)):=J.alloc J.size _;refine M.out _ _ (Hf _ Kc) (fun qh=> ?_);clear M K;try simp only [zP]
       refine cZ 14 ?_;intro K M;refine Qcj _ _ _ _ rfl Hc (by rfl) (by rfl) rfl ?_;have t1:=(Hf _ J).1;have t2:=(Hf _ J).2.1;have t3:=(Hf _ J).2.2.1;have t4:=(Hf _ J).2.2.2.1;have Hu:Below w0.heap.size w0 w8:=(Hl.trans (J.mono Hl.size)).trans (g8.below (by have Q:=Hl.size;have z:=J.size;omega) (fun k hk=>(G8.lt k hk).1));refine M.out _ _ (Go _ Hu (g8.g.cell t1 (Hb _ (.inl ⟨Nat.le_refl _,by have:=U.out;show O.heap.size<Z.heap.size;omega⟩))) (g8.g.cell t2 (Hb _ (.inl ⟨by have:=U.out;show O.heap.size<=A.heap.size;omega,by have:=U.out;show A.heap.size<Z.heap.size;omega⟩))) (g8.g.cell t3 (Hb _ (.inr zL))) (g8.g.cell t4 (Hb _ (.inr zL)))) (fun qh=> ?_);clear M K;try simp only [zP]
       refine tZ 15 1 ?_;refine zD ?_;have Jc:=hid Kp;have K9:=hid ((Jb.trans (Gr.of_below J)).trans g8);clear qh b7 J Kc o7 Hc Kp g8 t1 t2 t3 t4 Hu Hf Go G3 Hq;go_wp2_with fail;go_roundw;case rel=>exact⟨t+1,Gx,by go_num,Jc,K9⟩
       case measure=>simp [intOf];omega
      ·obtain rfl:t=ls.length:=by omega
       have Je:Hid (LB wr w0.heap.size u1 (L0++ls)):=hid (by have:=H3.out;rw [List.take_length] at this;exact this);have Gz:=Gg.out;have G0:=Gh.out;have G4:=hid (Kx u1 (L0++ls) (.slice (some ⟨X,0,none⟩) (p.length+1) Hd) wr Hh.out Je.out (Qcf H4.out (show (p++[s]).length=p.length+1 by simp)).1 (fun g hg e=>by
        have e1:X=g:=by simpa [Value.ownBlock] using hg
        subst e1;exact Hb X (.inl (by have Q:=Jf.out;have z:=U.out;omega)) e.symm) (by have:=H9.out;simp only [List.length_append] at this ⊢;omega))
       go_wp2_with fail;refine G4.mono ?_;rintro e w9 ⟨v9,rfl,Kq,g9⟩;have Jd:Hid (LB w9 w0.heap.size v9 (l0++(V.take (k+1)).flatMap (gK l f p))):=hid (by rw [G5.out,<- List.append_assoc];exact Kq);have Ja:Hid (Gr w1 w9 bv v9):=hid (((Hz.trans (Gr.of_below Ge.out)).trans I.out).trans g9);clear Kq g9 G4 Gz G0;go_wp2_with fail;go_roundw;case rel=>exact⟨k+1,Jv,by go_num,Jd,Ja⟩
       case measure=>simp [intOf];omega
    ·
     intro o ho K3 K M;simp only [gZa,gZb,gZc,gZd] at ho;subst ho;go_simp;have H6:Below E.heap.size E (E.drew.alloc (.cells #[.string s] 9)):=(zI.drew).alloc zL _;refine M.out _ _ (H5 _ H6) (fun qh=> ?_);clear M K;try simp only [zP]
     refine cZ 1 ?_;intro K M;go_simp;refine(Ku _ H6).mono ?_;rintro e w4 ⟨v3,rfl,b4,o4⟩;have Ht:Below E.heap.size E w4:=Qac H6 b4;refine M.out _ _ (H5 _ Ht) (fun qh=> ?_);clear M K;try simp only [zP]
     have Gc:=Bx1.made E.drew (.string s) 9;have La:w4.cell? ⟨E.heap.size,0,none⟩=some (.string s):=(b4.cell (p:=⟨E.heap.size,0,none⟩) Gc.lt).trans Gc.c0;have J1:w4.ownsRow E.heap.size 9 1 v3 p.length (Qcw p):=QcI o4 (Nat.le_of_lt Gc.lt);obtain⟨X,Hd,w5,Hc,o5,g5,Jw⟩:=Qju J1 Ht.size (by omega) s E.heap.size La;have Gq:Below E.heap.size E w5:=Ht.grown g5 Ht.size (fun k e=>(World.ownsRow.lt J1 k e).1);refine cZ 5 ?_;intro K M;refine Qcj _ _ _ _ rfl Hc (by rfl) (by rfl) rfl ?_;refine M.out _ _ (H5 _ Gq) (fun qh=> ?_);clear M K;try simp only [zP]
     refine tZ 6 10 ?_;refine zD ?_;have H2:=hid o5;have Hk:=hid Gq;clear qh H6 Ht b4 Gc La o4 J1 o5 g5 Gq Hc H5 Ku Jw;obtain⟨bu,Js⟩:∃b,b=u1:=⟨_,rfl⟩;subst Js;obtain⟨O,Jx⟩:∃b,b=wr:=⟨_,rfl⟩;subst Jx;have Hg:Hid (Below w0.heap.size w0 w5):=hid (H0.trans (Hk.mono H0.size));have K5:=Hi.below Hk.out Hi.lt;have Gz:=K5.c0;have G0:=K5.c1;have Gi:=hid K5;have Gf:=hid (H8.below Hk.out H8.lt);have Jf:Hid (E.heap.size<=X/\ X<w5.heap.size):=hid (World.ownsRow.lt H2.out X rfl);clear K5;go_wp2_with fail;refine(Hs w5 Hg.out).mono ?_;rintro e Z ⟨L4,Hn,rfl,He,Hy,b6⟩;obtain⟨Jm,Lu,rfl,Hv,Kf,Hw⟩:=QnA Hy;have Kk:Hn.length=ls.length:=by rw [He];simp
     have K8:Hid (0<ls.length ->∃L,Jm=some ⟨L,0,none⟩/\ w5.heap.size<=L/\ L<Z.heap.size/\∀i,i<ls.length ->∃x∈ls,ls[i]? =some x/\ Z.cell? ⟨L,i*2,none⟩=some (.int .i64 x.r)/\ Z.cell? ⟨L,i*2+1,none⟩=some (.int .i64 x.q)):=hid (fun h0=>by
      obtain⟨L,e1,e2,e3,e4⟩:=Hw (by omega);refine⟨L,e1,e2,e3,fun i hi=> ?_⟩;obtain⟨d,f1,f2,f3⟩:=e4 i (by omega);rw [He] at f1;simp only [List.getElem?_map,Option.map_eq_some_iff] at f1;obtain⟨x,f4,f5⟩:=f1;subst f5;exact⟨x,List.mem_of_getElem? f4,f4,f2,f3⟩)
     rw [Kk] at Hv ⊢;have Ju:ls.length<=1000000:=by have:=H9.out;simp only [List.length_append] at this;omega
     have G2:=Qac Hk.out b6;have Gd:=Qac Ks.out G2;have Ge:=hid Gd;have G9:Hid (LB Z w0.heap.size bu L0):=hid (Ka.below Gd);have Gn:Hid (Z.ownsRow E.heap.size 9 1 (.slice (some ⟨X,0,none⟩) (p.length+1) Hd) (p.length+1) (Qcw (p++[s]))):=hid (QaD H2.out (fun g hg=>b6.block g (World.ownsRow.lt H2.out g hg).2));have K7:=hid (Gf.below b6 Gf.lt);have G7:=hid (Gi.below b6 Gi.lt);have Hp:Hid (Below w0.heap.size w0 Z):=hid (Hg.trans (b6.mono Hg.size));have U:Hid (O.heap.size<A.heap.size/\ A.heap.size<E.heap.size/\ E.heap.size<=w5.heap.size/\ w5.heap.size<=Z.heap.size/\ w0.heap.size<=Z.heap.size):=hid ⟨K0.1,K0.2,Hk.size,b6.size,Hp.size⟩;clear Hy Hw He Kk b6 G2 Gd Gz G0 Gf Gi H2 Hk Hi H8 Hs;go_wp2_with fail;go_loopw [1,33] (fun b' i wr=>∃(t:Nat),t<=ls.length/\ i=.int .i64 t/\ Hid (LB wr w0.heap.size b' (L0++ls.take t))/\ Hid (Gr Z wr bu b')) (fun _ i _=>ls.length - (intOf i).toNat);case atStart=>exact⟨0,Nat.zero_le _,rfl,hid (by simpa using G9.out),hid (Gr.refl _ _)⟩
     case round=>
      clear G9;obtain⟨t,ht,rfl,H3,I⟩:=hrel;have Hm:Hid (∀b,O.heap.size<=b ->some b≠bu.ownBlock):=hid (fun b hb e=>by have:=(G1 b e.symm).2;omega);have Hb:Hid (∀b,((O.heap.size<=b/\ b<Z.heap.size) \/wr.heap.size<=b) ->some b≠u1.ownBlock):=hid (fun b hb e=>by
       have Q:=(H3.lt b e.symm).2;rcases I.l with z|⟨j,z,h3⟩
       ·rw [z] at e;have:=(G1 b e.symm).2;have:=U.out;omega
       ·rw [z] at e;have e:b=j:=by injection e
        omega)
      have L2:=I.g.size;have Gg:=hid (I.g.cell G7.c0 (Hm _ (by have:=U.out;show O.heap.size<=A.heap.size;omega)));have Gh:=hid (I.g.cell G7.c1 (Hm _ (by have:=U.out;show O.heap.size<=A.heap.size;omega)));have G6:=hid (I.g.cell K7.c1 (Hm _ zL));have Hh:Hid (Below w0.heap.size w0 wr):=hid (Hp.trans (I.below U.2.2.2.2 (fun k hk=>(G1 k hk).1)));have H4:Hid (wr.ownsRow E.heap.size 9 1 (.slice (some ⟨X,0,none⟩) (p.length+1) Hd) (p.length+1) (Qcw (p++[s]))):=hid (QaD Gn.out (fun g hg=>I.g.block g (World.ownsRow.lt Gn.out g hg).2 (Hm g (by have Q:=(World.ownsRow.lt Gn.out g hg).1;have z:=U.out;omega))));by_cases Gx:t<ls.length
      ·obtain⟨L,rfl,Gu,Gv,Hx⟩:=K8 (by omega);obtain⟨x,Gy,Kn,Ga,Gb⟩:=Hx t Gx;have P:=I.g.cell Ga (Hm L (by have z:=U.out;show O.heap.size<=L;omega));have c2:=I.g.cell Gb (Hm L (by have z:=U.out;show O.heap.size<=L;omega));have H7:=Kv x Gy;have Gl:Hid (∀w',Below w0.heap.size w0 w' ->(Instr.lookup 51 (.map C) (.agg #[.int .i64 x.r,.int .i64 x.q]) false).run Tryz.prog w'=.ok (.agg #[.string x.v]) w'):=hid (fun w' h=>Kw.out w' h x Gy);have Gp:Hid (ls.take (t+1)=ls.take t++[x]):=hid (by rw [List.take_add_one,Kn];rfl);obtain⟨xp,xf,H,G,xv⟩:=x;dsimp only at P c2 H7 Gl;have Jy:xp=p++[s]:=congrArg Lf.p H7.1;have Km:xf=decide (Y=2):=congrArg Lf.fl H7.1;subst Jy;have Ly:(Y==2)=xf:=by rw [Km];rfl
       have Lx:∀w:World,(Instr.field 107 (.agg #[.string xv]) 0).run Tryz.prog w=.ok (.string xv) w:=fun w=>by kernel_rfl
       obtain⟨m,Gs⟩:∃m,wr.alloc (.cells #[.int .i64 H,.int .i64 G] 75)=m:=⟨_,rfl⟩;have Hj:Below wr.heap.size wr m:=by rw [<- Gs];exact zO _ _
       have DV:Bx2 m wr.heap.size (.int .i64 H) (.int .i64 G):=by rw [<- Gs];exact Bx2.made _ _ _ _
       have Hr:=hid DV;have Hl:Hid (Below w0.heap.size w0 m):=hid (Hh.trans (Hj.mono Hh.size));have G8:=hid (H3.below Hj);have Kb:=hid (Qcf (QaD H4.out (fun g hg=>Hj.block g (World.ownsRow.lt H4.out g hg).2)) (show (p++[s]).length=p.length+1 by simp));have Hq:Hid (∀w',Below m.heap.size m w' ->Calls Tryz.prog 72 #[.slice (some ⟨X,0,none⟩) (p.length+1) Hd] w' fun e Ho=>∃q cap,e=.returned (.slice (some ⟨q,0,none⟩) (p.length+1) cap)/\ Below w'.heap.size w' Ho/\ Ho.ownsRow w'.heap.size 9 1 (.slice (some ⟨q,0,none⟩) (p.length+1) cap) (p.length+1) (Qcw (p++[s]))):=hid (fun w' hb'=>by
        have hw:=Kb.2.same (hb'.block X Kb.2.lt);exact Qi9 X (p.length+1) Hd (p++[s]) w' (by simp) (by omega) hw.lt (fun t ht=>hw.cell ht))
       have G3:Hid (∀B q7 D,Below m.heap.size m B ->B.ownsRow m.heap.size 9 1 (.slice (some ⟨q7,0,none⟩) (p.length+1) D) (p.length+1) (Qcw (p++[s])) ->∃q' Ha n' w3,(Builtin.append_ #[24,24] 24 #[u1,.slice (some ⟨B.heap.size,0,none⟩) 1 1]).run Tryz.prog (B.alloc (.cells #[.slice (some ⟨q7,0,none⟩) (p.length+1) D,.bool xf,.int .i64 H,.int .i64 G,.string xv] 77))=.ok (.slice (some ⟨q',0,none⟩) n' Ha) w3/\
         LB w3 w0.heap.size (.slice (some ⟨q',0,none⟩) n' Ha) (L0++ls.take (t+1))/\ Gr B w3 u1 (.slice (some ⟨q',0,none⟩) n' Ha)):=hid (fun B q7 D b7 o7=>by
        have Ki:=World.ownsRow.lt o7 q7 rfl;have Gt:p.length+1<=D/\ D<=9223372036854775807:=by
         rcases o7.2 with ⟨h0,_⟩|⟨g',Ha,Lt,hv,Kd,hb,Q,z,h3,h4⟩
         ·cases h0
         ·injection hv with e1 e2 e3;unfold maxLen at z;omega
        obtain⟨q',Ha,w3,e1,e2,e3⟩:=G8.app b7 Hl.size (by have Q:=H9.out;simp only [List.length_append,List.length_take] at Q ⊢;omega) ⟨p++[s],xf,H,G,xv⟩ q7 D Ki.1 Ki.2 (by simpa using (Qcf o7 (show (p++[s]).length=p.length+1 by simp)).2) (by simpa using Gt);refine⟨q',Ha,_,w3,by simpa using e1,?_,e3⟩;rw [Gp.out,<- List.append_assoc];exact e2)
       have Go:Hid (∀w',Below w0.heap.size w0 w' ->w'.cell? ⟨O.heap.size,1,none⟩=some (.int .i64 Y) ->w'.cell? ⟨A.heap.size,1,none⟩=some (.map C) ->w'.cell? ⟨wr.heap.size,0,none⟩=some (.int .i64 H) ->w'.cell? ⟨wr.heap.size,1,none⟩=some (.int .i64 G) ->(w'.cell? ⟨O.heap.size,1,none⟩=some (.int .i64 Y)/\ w'.cell? ⟨A.heap.size,1,none⟩=some (.map C)/\ w'.cell? ⟨wr.heap.size,0,none⟩=some (.int .i64 H)/\ w'.cell? ⟨wr.heap.size,1,none⟩=some (.int .i64 G)/\ (Instr.lookup 51 (.map C) (.agg #[.int .i64 H,.int .i64 G]) false).run Tryz.prog w'=.ok (.agg #[.string xv]) w')):=hid (fun w' Q z h3 h4 h5=>⟨z,h3,h4,h5,Gl.out w' Q⟩);have Gk:=hid ((Hj.cell (p:=⟨O.heap.size,1,none⟩) (by have:=U.out;show O.heap.size<wr.heap.size;omega)).trans G6.out);have Gj:=hid ((Hj.cell (p:=⟨A.heap.size,1,none⟩) (by have:=U.out;show A.heap.size<wr.heap.size;omega)).trans Gh.out);have Hf:Hid (∀w',Below m.heap.size m w' ->(w'.cell? ⟨O.heap.size,1,none⟩=some (.int .i64 Y)/\ w'.cell? ⟨A.heap.size,1,none⟩=some (.map C)/\ w'.cell? ⟨wr.heap.size,0,none⟩=some (.int .i64 H)/\ w'.cell? ⟨wr.heap.size,1,none⟩=some (.int .i64 G)/\ (Instr.lookup 51 (.map C) (.agg #[.int .i64 H,.int .i64 G]) false).run Tryz.prog w'=.ok (.agg #[.string xv]) w')):=hid (fun w' b=>by
        have hz:=Hr.lt;have h6:=U.out;exact Go w' (Hl.trans (b.mono Hl.size)) ((b.cell (p:=⟨O.heap.size,1,none⟩) (by show O.heap.size<m.heap.size;omega)).trans Gk.out) ((b.cell (p:=⟨A.heap.size,1,none⟩) (by show A.heap.size<m.heap.size;omega)).trans Gj.out) (Hr.below b Hr.lt).c0 (Hr.below b Hr.lt).c1)
       have Jb:Hid (Gr Z m bu u1):=hid (I.trans (Gr.of_below Hj));have Ls:Hid (wr.heap.size<m.heap.size):=hid DV.lt;clear Hj DV Ga Gb Hx Gy Kn H7 H3 I Km Gl G6 Gh Gg H4 Gu Gv;go_wp2_with fail;refine zR (S:=fun w'=>w'.cell? ⟨O.heap.size,1,none⟩=some (.int .i64 Y)/\ w'.cell? ⟨A.heap.size,1,none⟩=some (.map C)/\ w'.cell? ⟨wr.heap.size,0,none⟩=some (.int .i64 H)/\ w'.cell? ⟨wr.heap.size,1,none⟩=some (.int .i64 G)/\ (Instr.lookup 51 (.map C) (.agg #[.int .i64 H,.int .i64 G]) false).run Tryz.prog w'=.ok (.agg #[.string xv]) w') (Hf _ zI.drew) (fun qh=> ?_);clear P c2 Gs;refine tZ 0 37 ?_;refine tZ 1 38 ?_;refine tZ 3 40 ?_;refine tZ 4 41 ?_;refine tZ 5 42 ?_;refine tZ 6 43 ?_;refine tZ 7 44 ?_;refine tZ 8 45 ?_;refine tZ 9 46 ?_;refine tZ 10 47 ?_;refine tZ 11 48 ?_;refine cZ 2 ?_;intro K M;go_simp;refine(Hq _ zI.drew).mono ?_;rintro e B ⟨q7,D,rfl,b7,o7⟩;have J:Below m.heap.size m B:=⟨b7.os,b7.tape,b7.output,b7.size,b7.block⟩;refine M.out _ _ (Hf _ J) (fun qh=> ?_);clear M K;try simp only [zP]
       refine tZ 12 49 ?_;refine cZ 13 ?_;intro K M;go_simp;obtain⟨q8,Jl,n8,w8,Hc,Kp,g8⟩:=G3 B q7 D J o7;have Kc:Below m.heap.size m (B.alloc (.cells #[.slice (some ⟨q7,0,none⟩) (p.length+1) D,.bool xf,.int .i64 H,.int .i64 G,.string xv] 77)):=J.alloc J.size _;refine M.out _ _ (Hf _ Kc) (fun qh=> ?_);clear M K;try simp only [zP]
       refine cZ 14 ?_;intro K M;refine Qcj _ _ _ _ rfl Hc (by rfl) (by rfl) rfl ?_;have t1:=(Hf _ J).1;have t2:=(Hf _ J).2.1;have t3:=(Hf _ J).2.2.1;have t4:=(Hf _ J).2.2.2.1;have Hu:Below w0.heap.size w0 w8:=(Hl.trans (J.mono Hl.size)).trans (g8.below (by have Q:=Hl.size;have z:=J.size;omega) (fun k hk=>(G8.lt k hk).1));refine M.out _ _ (Go _ Hu (g8.g.cell t1 (Hb _ (.inl ⟨Nat.le_refl _,by have:=U.out;show O.heap.size<Z.heap.size;omega⟩))) (g8.g.cell t2 (Hb _ (.inl ⟨by have:=U.out;show O.heap.size<=A.heap.size;omega,by have:=U.out;show A.heap.size<Z.heap.size;omega⟩))) (g8.g.cell t3 (Hb _ (.inr zL))) (g8.g.cell t4 (Hb _ (.inr zL)))) (fun qh=> ?_);clear M K;try simp only [zP]
       refine tZ 15 1 ?_;refine zD ?_;have Jc:=hid Kp;have K9:=hid ((Jb.trans (Gr.of_below J)).trans g8);clear qh b7 J Kc o7 Hc Kp g8 t1 t2 t3 t4 Hu Hf Go G3 Hq;go_wp2_with fail;go_roundw;case rel=>exact⟨t+1,Gx,by go_num,Jc,K9⟩
       case measure=>simp [intOf];omega
      ·obtain rfl:t=ls.length:=by omega
       have Je:Hid (LB wr w0.heap.size u1 (L0++ls)):=hid (by have:=H3.out;rw [List.take_length] at this;exact this);have Gz:=Gg.out;have G0:=Gh.out;have G4:=hid (Kx u1 (L0++ls) (.slice (some ⟨X,0,none⟩) (p.length+1) Hd) wr Hh.out Je.out (Qcf H4.out (show (p++[s]).length=p.length+1 by simp)).1 (fun g hg e=>by
        have e1:X=g:=by simpa [Value.ownBlock] using hg
        subst e1;exact Hb X (.inl (by have Q:=Jf.out;have z:=U.out;omega)) e.symm) (by have:=H9.out;simp only [List.length_append] at this ⊢;omega))
       go_wp2_with fail;refine G4.mono ?_;rintro e w9 ⟨v9,rfl,Kq,g9⟩;have Jd:Hid (LB w9 w0.heap.size v9 (l0++(V.take (k+1)).flatMap (gK l f p))):=hid (by rw [G5.out,<- List.append_assoc];exact Kq);have Ja:Hid (Gr w1 w9 bv v9):=hid (((Hz.trans (Gr.of_below Ge.out)).trans I.out).trans g9);clear Kq g9 G4 Gz G0;go_wp2_with fail;go_roundw;case rel=>exact⟨k+1,Jv,by go_num,Jd,Ja⟩
       case measure=>simp [intOf];omega
   ·obtain rfl:k=V.length:=by omega
    have HF:Hid (l0++(V.take V.length).flatMap (gK l f p)=l0++(kS l p l.length).flatMap (gK l f p)):=hid (by rw [List.take_length,Lp.out]);go_wp2_with fail;go_ret;exact⟨_,rfl,by rw [<- HF.out];exact Ka.out,(Gr.of_below (b:=bv) K4.out).trans Hz.out⟩
def LvJ (w:World)(z0:Nat×Nat)(bd:Nat)(J:List Lf)(ul:List Rn):Prop:=∃N B c n D G L,JF w B J [] N c z0/\ c<=1048576/\ Qdt w bd n D G L/\ Qdv L 8=ul/\ (∀r,L r≠[] ->0<=r/\ r<8)/\ (∀r,(L r).length<=4000)
theorem LvJ.below {w w':World}{z0:Nat×Nat}{bd:Nat}{J:List Lf}{ul:List Rn}(h:LvJ w z0 bd J ul)(hb:Below w.heap.size w w'):LvJ w' z0 bd J ul:=by
 obtain⟨N,B,c,n,D,G,L,j,k,m,q⟩:=h;exact⟨N,B,c,n,D,G,L,⟨j.tre.below hb,j.root,j.there⟩,k,m.below hb,q⟩
theorem Bx3.far {w w':World}{b t:Nat}{v0 v1 v2:Value}(h:Bx3 w b v0 v1 v2)(hg:w.grownBy w' (some t))(hne:b≠t):Bx3 w' b v0 v1 v2:=by
 have e:=hg.block b h.lt (fun e=>hne (by injection e));exact⟨(World.cell?_of_block (a:=⟨b,0,none⟩) e).trans h.c0,(World.cell?_of_block (a:=⟨b,1,none⟩) e).trans h.c1,(World.cell?_of_block (a:=⟨b,2,none⟩) e).trans h.c2,fun i=>(World.frozen?_of_block (a:=⟨b,i,none⟩) e).trans (h.f i),Nat.lt_of_lt_of_le h.lt hg.size⟩
theorem LB.low {w:World}{lo lo':Nat}{v:Value}{l:List Lf}(h:LB w lo v l)(hl:lo'<=lo):LB w lo' v l:=by
 obtain⟨P,Q,j,k⟩:=h;exact⟨P,Q,j.low hl,k⟩
theorem LB.set {w:World}{lo:Nat}{v:Value}{l:List Lf}(h:LB w lo v l)(q:Addr)(u:Value)(hq:q.block<lo):LB (w.setCell q u) lo v l:=
 h.move (by simp [World.setCell]) (fun b h1 h2=>zH _ _ _ _ (by omega))
theorem FR.setLow {w:World}{B:Nat}{v:Value}{l:List Rn}(h:FR w B v l)(q:Addr)(u:Value)(hq:q.block<B):FR (w.setCell q u) B v l:=
 h.setFar q u (fun e=>by have:=(World.ownsRow.lt h _ e).1;omega)
theorem SOw.of {w:World}{lo:Nat}{a x:Option Addr}{c d:Nat}{S:Sx}{ul:List Rn}(h:LB w lo (.slice a S.l.length c) S.l)(hf:FR w lo (.slice x S.n d) ul)(hn:S.n=ul.length)(hR:S.R=fun i=>(gR ul i).1)(hF:S.F=fun i=>(gR ul i).2.1)(hT:S.T=fun i=>(gR ul i).2.2)(hlo:lo<=w.heap.size):SOw w lo w.heap.size a x d S:=by
 obtain⟨P,Q,r,t⟩:=h;refine⟨fun w' k1 k2=>⟨?_,?_⟩,hlo,Nat.le_refl _⟩
 ·have j:=r.move k1 k2;rcases j.row.2 with ⟨e,m⟩|⟨g,cap,z,e,_⟩
  ·exact .inl m
  ·have k:=j;rw [e] at k;injection e with e1 e2 e3;rw [e1];exact k.lcap rfl
 ·have u:FR w' lo (.slice x S.n d) ul:=QaD hf (fun q hq=>k2 q (World.ownsRow.lt hf q hq).1 (World.ownsRow.lt hf q hq).2);obtain⟨v,y,e,s,_,_⟩:=u.fs;injection e with e1 e2 e3;subst e1;rw [hn,hR,hF,hT];exact s.rseg
theorem Qoi {z0:Nat×Nat}{bd:Nat}{J:List Lf}{ul:List Rn}{R F T:Nat ->Int}{m:Nat}(w:World)(h:LvJ w z0 bd J ul)(hlv:QbS R F T m J J.length)(hbd:LvB J):
  Calls Tryz.prog 19 #[.agg #[.map (some z0.1),.map (some z0.2),.map (some bd)]] w fun e w'=>(∃a c x d,e=.returned (.agg #[.slice a J.length c,.slice x ul.length d])/\ LB w' (w.heap.size+2) (.slice a J.length c) J/\ FR w' (w.heap.size+2) (.slice x ul.length d) ul/\ w.heap.size+2<=w'.heap.size)/\ Below w.heap.size w w':=by
 obtain⟨W,y⟩:∃W,(w.alloc (.cells #[.map (some z0.1),.map (some z0.2),.map (some bd)] 57)).alloc (.cells #[.slice none 0 0,.slice none 0 0] 29)=W:=⟨_,rfl⟩;have Q:Below w.heap.size w W:=by rw [<- y];exact Qak _ _ _
 have C:Bx3 W w.heap.size (.map (some z0.1)) (.map (some z0.2)) (.map (some bd)):=by rw [<- y];exact(Bx3.made _ _ _ _ _).below (zO _ _) (Bx3.made _ _ _ _ _).lt
 have X:Bx2 W (w.heap.size+1) (.slice none 0 0) (.slice none 0 0):=by rw [<- y];simpa using Bx2.made (w.alloc (.cells #[.map (some z0.1),.map (some z0.2),.map (some bd)] 57)) (.slice none 0 0) (.slice none 0 0) 29
 have zW:W.heap.size=w.heap.size+2:=by rw [<- y];simp
 obtain⟨N,B,c,n,D,G,L,j,V,P,h4,h5,h6⟩:=h.below Q;have Ha:=j.tj hbd.dis;have Y:Hid (∀w1,Below W.heap.size W w1 ->Calls Tryz.prog 37 #[.agg #[.map (some z0.1),.map (some z0.2)],.slice none 0 0,.slice none 0 0] w1 fun e w'=>(∃a c,e=.returned (.slice a J.length c)/\ LB w' W.heap.size (.slice a J.length c) J)/\ Below w1.heap.size w1 w'):=hid (fun w1 q=>by
  have:=Qc8 J W B c N (by simpa using j.tre) (Ha.nki (by rw [j.root];simp)) V hlv hbd 8 [] rfl (by omega) (.slice none 0 0) [] (.slice none 0 0) w1 q (LB.nil w1 _) (.inl ⟨rfl,rfl⟩) (fun g hg=>by cases hg) (by rw [QlM hlv];have:=hbd.len;simp;omega);rw [show Qad [] 3=([]:List Ky) from rfl,j.root] at this;refine this.mono ?_;rintro e w' ⟨v,rfl,z,g⟩;rw [QlM hlv,List.nil_append] at z;obtain⟨a,c,rfl⟩:=z.form;exact⟨⟨a,c,rfl,z⟩,g.below zL (fun k hk=>by cases hk)⟩)
 have Z:Hid (∀w1,Below W.heap.size W w1 ->Calls Tryz.prog 38 #[.map (some bd)] w1 fun e w'=>(∃x d,e=.returned (.agg #[.slice x ul.length d])/\ FR w' W.heap.size (.slice x ul.length d) ul)/\ Below w1.heap.size w1 w'):=hid (fun w1 q=>by
  have:=QiD (P.below q) h5 h6;rw [h4] at this;refine this.mono ?_;rintro e w' ⟨v,rfl,o,b⟩;obtain⟨a,c,rfl,_⟩:=o.fs;exact⟨⟨a,c,rfl,o.weak q.size⟩,b⟩)
 have p:=hid C;have H:=hid X;have Hb:=hid Q;have O:=hid zW;have i:Hid (∀w',Below W.heap.size W w' ->(w'.cell? ⟨w.heap.size,0,none⟩=some (.map (some z0.1))/\ w'.cell? ⟨w.heap.size,1,none⟩=some (.map (some z0.2))/\ w'.cell? ⟨w.heap.size,2,none⟩=some (.map (some bd)))):=hid (fun w' b=>by
  have E:=p.below b p.lt;exact⟨E.c0,E.c1,E.c2⟩)
 clear Q C X zW h j V P h4 h5 h6 Ha hlv hbd;go_enter Tryz.func19,Tryz.ntmps19;go_wp2_with fail;try rw [y]
 clear y;refine zR (S:=fun w'=>w'.cell? ⟨w.heap.size,0,none⟩=some (.map (some z0.1))/\ w'.cell? ⟨w.heap.size,1,none⟩=some (.map (some z0.2))/\ w'.cell? ⟨w.heap.size,2,none⟩=some (.map (some bd))) (i _ zI.drew) (fun qh=> ?_);refine tZ 0 3 ?_;refine tZ 1 4 ?_;refine tZ 3 6 ?_;refine tZ 4 7 ?_;refine cZ 2 ?_;intro K r;go_simp;refine(Y _ zI.drew).mono ?_;rintro e w1 ⟨⟨a,c,rfl,z⟩,q⟩;have s:Below W.heap.size W w1:=⟨q.os,q.tape,q.output,q.size,q.block⟩;have Hh:=hid z;clear z;refine r.out _ _ (i _ s) (fun qh=> ?_);clear r K;try simp only [zP]
 refine cZ 5 ?_;intro K r;go_simp;refine(Z _ s).mono ?_;rintro e A ⟨⟨x,d,rfl,o⟩,U⟩;have u:=Qac s U;have He:=hid o;have Hf:=hid (Hh.below U);have t:=H.below u H.lt;clear o;refine r.out _ _ (i _ u) (fun qh=> ?_);clear r K;try simp only [zP]
 refine tZ 6 9 ?_;have t0:=t.c0;have t1:=t.c1;have tf:=t.f;have I:=hid (t.set (.slice a J.length c) (.slice x ul.length d));have M:=hid (((p.below u p.lt).far (Qbe A ⟨w.heap.size+1,0,none⟩ (.slice a J.length c)) (by show w.heap.size≠w.heap.size+1;omega)).far (Qbe _ ⟨w.heap.size+1,1,none⟩ (.slice x ul.length d)) (by show w.heap.size≠w.heap.size+1;omega));have Hc:=hid (Qac Hb.out u);have Hi:Hid (w.heap.size+2<=A.heap.size):=hid (by have j:=O.out;have V:=u.size;omega);have Hg:Hid (LB ((A.setCell ⟨w.heap.size+1,0,none⟩ (.slice a J.length c)).setCell ⟨w.heap.size+1,1,none⟩ (.slice x ul.length d)) (w.heap.size+2) (.slice a J.length c) J):=hid (by
  have j:=Hf.out;rw [O.out] at j;exact(j.set _ _ (by show w.heap.size+1<w.heap.size+2;omega)).set _ _ (by show w.heap.size+1<w.heap.size+2;omega))
 have Hd:Hid (FR ((A.setCell ⟨w.heap.size+1,0,none⟩ (.slice a J.length c)).setCell ⟨w.heap.size+1,1,none⟩ (.slice x ul.length d)) (w.heap.size+2) (.slice x ul.length d) ul):=hid (by
  have j:=He.out;rw [O.out] at j;exact(j.setLow _ _ (by show w.heap.size+1<w.heap.size+2;omega)).setLow _ _ (by show w.heap.size+1<w.heap.size+2;omega))
 refine cZ 7 ?_;intro K r;go_simp;refine r.out _ _ ⟨M.c0,M.c1,M.c2⟩ (fun qh=> ?_);clear r K;try simp only [zP]
 refine zD ?_;clear qh q s U u t t0 t1 tf i Y Z;go_wp2_with fail;have s0:=I.c0;have s1:=I.c1;refine zF (v:=.agg #[.slice a J.length c,.slice x ul.length d]) (by simp [results,Tryz.results19,go_sem,s0,s1]) ⟨⟨a,c,x,d,rfl,Hg.out,Hd.out,by simp [World.setCell];have:=Hi.out;omega⟩,?_⟩;exact(Hc.setCell (by simp) _).setCell (by simp) _
structure LX (v:World)(b:Nat):Prop where
 c0:∃u,v.cell? ⟨b,0,none⟩=some (.map u)
 c1:∃u,v.cell? ⟨b,1,none⟩=some (.map u)
 c2:∃u,v.cell? ⟨b,2,none⟩=some (.map u)
 f0:∀i,v.frozen? ⟨b,i,none⟩=false
 lt:b<v.heap.size
section
variable {w v v' : World} {tb ub : Nat}
theorem LX.same {b:Nat}(h:LX v b)(e:v'.heap[b]? =v.heap[b]?)(hz:v.heap.size<=v'.heap.size):LX v' b:=by
 obtain⟨q,j⟩:=h.c0;obtain⟨r,k⟩:=h.c1;obtain⟨u,m⟩:=h.c2;exact⟨⟨q,(World.cell?_of_block (a:=⟨b,0,none⟩) e).trans j⟩,⟨r,(World.cell?_of_block (a:=⟨b,1,none⟩) e).trans k⟩,⟨u,(World.cell?_of_block (a:=⟨b,2,none⟩) e).trans m⟩,fun i=>(World.frozen?_of_block (a:=⟨b,i,none⟩) e).trans (h.f0 i),Nat.lt_of_lt_of_le h.lt hz⟩
theorem LX.fill {b:Nat}(h:LX v b)(s0 s1 s2:Option Nat):
  ∃Z,Z=((v.setCell ⟨b,0,none⟩ (.map s0)).setCell ⟨b,1,none⟩ (.map s1)).setCell ⟨b,2,none⟩ (.map s2)/\ Z.cell? ⟨b,0,none⟩=some (.map s0)/\ Z.cell? ⟨b,1,none⟩=some (.map s1)/\ Z.cell? ⟨b,2,none⟩=some (.map s2)/\ v.grownBy Z (some b):=by
 obtain⟨u,m⟩:=h.c0;obtain⟨y,q⟩:=h.c1;obtain⟨z,r⟩:=h.c2;refine⟨_,rfl,?_,?_,?_,⟨rfl,rfl,rfl,by simp [World.setCell],fun k hk hne=> ?_⟩⟩
 ·rw [World.cell?_setCell_other _ _ _ _ (by simp),World.cell?_setCell_other _ _ _ _ (by simp)];exact World.cell?_setCell_same _ _ _ m
 ·rw [World.cell?_setCell_other _ _ _ _ (by simp)];exact World.cell?_setCell_same _ _ _ (by rw [World.cell?_setCell_other _ _ _ _ (by simp)];exact q)
 ·exact World.cell?_setCell_same _ _ _ (by rw [World.cell?_setCell_other _ _ _ _ (by simp),World.cell?_setCell_other _ _ _ _ (by simp)];exact r)
 ·have j:k≠b:=fun e=>hne (by rw [e]);exact(zH _ _ _ _ j).trans ((zH _ _ _ _ j).trans (zH _ _ _ _ j))
end
def RsP (f:Nat ->Int)(n:Nat)(w:World)(e:Ending)(w':World):Prop:=Below w.heap.size w w'/\
 ((∃(g:List (Int×List (Int×Int))) (J:List Lf) (z0:Nat×Nat) (bd:Nat),gsR f n=some (g,J)/\ e=.returned (.tuple #[.agg #[.map (some z0.1),.map (some z0.2),.map (some bd)],.nilIface])/\ LvJ w' z0 bd J (Qat g)/\ okR (-1) 1000 g) \/
  (gsR f n=none/\∃t v,e=.returned (.tuple #[.agg #[.map none,.map none,.map none],.iface t v])))
theorem Qij (B:Nat)(a:Option Addr)(n c:Nat)(f:Nat ->Int)(aT aS aL aE:Addr)(w:World)(hn:n<=9223372036854775807)(hnc:n<=c)(hcc:c<=9223372036854775807)(hf:Byt f)(hs:Seg w a n f)(hE:QcQ w B aT aS aL aE)(hB:B<=w.heap.size)(hab:∀y,a=some y ->y.block<w.heap.size):
    Calls Tryz.prog 18 #[.slice a n c] w fun e w'=>RsP f n w e w':=by
  obtain⟨P,hP⟩:∃P,RsP f n w=P:=⟨_,rfl⟩;rw [hP];have HP:=hid hP;clear hP;have bR:Below w.heap.size w (w.alloc (.cells #[.map none,.map none,.map none] 57)):=zO _ _;have H:LX (w.alloc (.cells #[.map none,.map none,.map none] 57)) w.heap.size:=⟨⟨none,by simp⟩,⟨none,by simp⟩,⟨none,by simp⟩,fun i=>by rw [World.frozen?_alloc_at _ _ _ _ rfl],by simp⟩;by_cases h4:4000<n
  · have I:Hid (gsR f n=none):=hid (if_pos h4);obtain⟨WR,H6⟩:∃WR,w.alloc (.cells #[.map none,.map none,.map none] 57)=WR:=⟨_,rfl⟩;rw [H6] at bR H;have Gf:=hid H;have Hv:=hid bR;have HE:=hE.below (bR.mono hB);obtain⟨R,ge⟩:=HE.x0;have lo:0<w.heap.size:=Nat.lt_of_lt_of_le (Nat.lt_of_lt_of_le (by decide) HE.lG) hB;obtain⟨u0,k0⟩:=H.c0;obtain⟨u1,k1⟩:=H.c1;obtain⟨u2,k2⟩:=H.c2;have X:=H.f0;have Hn:(WR.setCell ⟨w.heap.size,0,none⟩ (.map none)).cell? ⟨0,0,none⟩=some (.iface 270 R):=by rw [World.cell?_setCell_far _ _ _ _ (show w.heap.size≠0 by omega)];exact ge
    have Ho:((WR.setCell ⟨w.heap.size,0,none⟩ (.map none)).setCell ⟨w.heap.size,1,none⟩ (.map none)).cell? ⟨0,0,none⟩=some (.iface 270 R):=by rw [World.cell?_setCell_far _ _ _ _ (show w.heap.size≠0 by omega)];exact Hn
    have Gh:(((WR.setCell ⟨w.heap.size,0,none⟩ (.map none)).setCell ⟨w.heap.size,1,none⟩ (.map none)).setCell ⟨w.heap.size,2,none⟩ (.map none)).cell? ⟨0,0,none⟩=some (.iface 270 R):=by rw [World.cell?_setCell_far _ _ _ _ (show w.heap.size≠0 by omega)];exact Ho
    have Gj:(4000:Int)<(n:Int):=by omega
    clear lo HE hs hE H bR;go_enter Tryz.func18,Tryz.ntmps18;go_wp2_with fail;try rw [H6]
    go_region;all_goals go_wp2_with fail
    all_goals (
      obtain⟨Z,z,Q,A,E,h⟩:=Gf.fill none none none;rw [<- z];clear z;refine zF (v:=.tuple #[.agg #[.map none,.map none,.map none],.iface 270 R]) (by simp [results,Tryz.results18,go_sem,Q,A,E]) ?_;rw [<- HP.out];exact⟨(Hv.grown h Hv.size (fun k e=>by injection e with e;omega)).drew,.inr ⟨I.out,_,_,rfl⟩⟩)
  · have Gq:=@run_makeMap Tryz.prog;replace hn:n<=1048576:=by omega
    have Gj:¬(4000:Int)<(n:Int):=by omega
    obtain⟨W,V⟩:∃W,((w.alloc (.cells #[.map none,.map none,.map none] 57)).alloc (.map #[] 0)).alloc (.cells #[.slice a n c,.int .i64 0,.map none,.map (some (w.heap.size+1))] 93)=W:=⟨_,rfl⟩;have bW:Below w.heap.size w W:=by rw [<- V];exact(bR.alloc (by simp) _).alloc (by simp;omega) _
    have zW:W.heap.size=w.heap.size+3:=by rw [<- V];simp
    have xW:LX W w.heap.size:=H.same (by rw [<- V];exact(Below.heap_alloc _ _ _ (by simp;omega)).trans (Below.heap_alloc _ _ _ (by simp))) (by rw [<- V];simp);have uW:UsM W (w.heap.size+1) []:=by
      have:=(UsM.made (w.alloc (.cells #[.map none,.map none,.map none] 57)));rw [<- V];have h2:UsM ((w.alloc (.cells #[.map none,.map none,.map none] 57)).alloc (.map #[] 0)) (w.heap.size+1) []:=by simpa using this
      exact h2.same (Below.heap_alloc _ _ _ (by simp))
    have cW:Cur (fun i=>if i=2 then some (.map none) else if i=3 then some (.map (some (w.heap.size+1))) else none) W (w.heap.size+2) a n c ((0:Nat):Int):=by
      rw [<- V];refine⟨?_,?_,?_,fun i hi=> ?_⟩
      · rw [World.cell?_alloc_at _ _ _ _ (by simp)];rfl
      · rw [World.cell?_alloc_at _ _ _ _ (by simp)];rfl
      · rw [World.frozen?_alloc_at _ _ _ _ (by simp)]
      · rw [World.cell?_alloc_at _ _ _ _ (by simp),World.frozen?_alloc_at _ _ _ _ (by simp)];refine⟨?_,rfl⟩;match i,hi with
        | 2,_=>rfl
        | 3,_=>rfl
        | j+4,_=>simp
    have fW:∀i,W.frozen? ⟨w.heap.size+2,i,none⟩=false:=fun i=>by rw [<- V,World.frozen?_alloc_at _ _ _ _ (by simp)]
    have Hf:∀y,a=some y ->y.block≠w.heap.size+2:=fun y hy=>by have:=hab y hy;omega
    have Ha:=hid (QoW (EX:=fun i=>if i=2 then some (.map none) else if i=3 then some (.map (some (w.heap.size+1))) else none) (w.heap.size+2) B a n c ((0:Nat):Int) f aT aS aL aE W hn hf cW (hs.below bW) Hf (hE.below (bW.mono hB)) (by omega));have HF:=hid hf;have Gc:=hid (hs.below bW);have H7:=hid (hE.below (bW.mono hB));have HX:=hid xW;have Ge:=hid uW;have Hg:=hid bW;have HZ:=hid zW;have Hs:=hid hab;have Gy:=hid fW;clear hf hs hE xW uW bW zW cW bR H Hf hab fW;go_enter Tryz.func18,Tryz.ntmps18;go_wp2_with fail;try rw [V]
    clear V Gq;refine Ha.mono ?_;clear Ha;rintro e w1 ⟨T,⟨g,x1,L,nn,D,G,F,rfl,Hj,cu,Gp,Hq⟩|⟨F,pb,u,y,rfl,Gr,Gl,cu⟩⟩
    · have C:=(QnX HF.out F).2.2;have Hp:=Ql2 C;have H9:Hid (∀r,Srt (lkS g r)/\ (lkS g r).length<=1000000):=hid (fun r=>by
        rw [Hp];have:=QgH g _ _ C (by omega) r;exact⟨(QdZ g _ _ C r).1,by omega⟩)
      have Hk:Hid (Qdv (lkS g) 8=Qat g/\ (∀r,lkS g r≠[] ->0<=r/\ r<8)/\∀r,(lkS g r).length<=4000):=hid (by
        rw [Hp];refine⟨(Qcp C).2.2.2,fun r F=> ?_,fun r=> ?_⟩
        · have:=(QdZ g _ _ C r).2.1 F;omega
        · have:=QgH g _ _ C (by omega) r;omega)
      have Gb:=hid C;have Hl:Hid (gsR f n=(Qcv f n (fun r q=>inB (lkS g r) q q) 9 [] [] x1).bind fun b=>if b.2<n then none else some (g,b.1)):=hid (by
        unfold gsR;rw [if_neg h4,show ((0:Int))=((0:Nat):Int) from rfl,F];rfl)
      have zz:=HZ.out;have z1:=T.size;have Gx:w.heap.size+2<w1.heap.size:=by omega
      obtain⟨Hy,Hz,H0,Hd⟩:=cu;have cm:w1.cell? ⟨w.heap.size+1+1,2,none⟩=some (.map none):=(Hd 2 (by omega)).1;obtain⟨O,He⟩:∃O,w1.setCell ⟨w.heap.size+2,2,none⟩ (.map (some L))=O:=⟨_,rfl⟩;have Hm:w1.grownBy O (some (w.heap.size+2)):=by rw [<- He];exact Qbe w1 ⟨w.heap.size+2,2,none⟩ _
      have z2:O.heap.size=w1.heap.size:=by rw [<- He];simp [World.setCell]
      have gA:=Qaf T Hm;have Gd:Hid (TS O (w.heap.size+2) B L (w.heap.size+1) (w.heap.size+3) w1.heap.size a n c f aT aS aL aE (lkS g) (x1:Int) []):=hid (by
        refine⟨?_,Gc.grown gA (fun y hy=>by have:=Hs y hy;omega),H7.grown gA (by omega) (by omega),Ge.same (gA.block (w.heap.size+1) (by omega) (fun e=>by injection e with e;omega)),⟨nn,D,G,Hj.gr Hm (fun e=>by injection e with e;omega) (fun r k hk e=>by injection e with e;have:=Hq r k hk;omega),fun r k hk=> ?_⟩,fun y hy=> ?_,by omega,by omega,by omega,by omega,by omega,by omega,Hj.own.lt⟩
        · rw [<- He];refine⟨?_,?_,?_,fun i hi=> ?_⟩
          · rw [World.cell?_setCell_other _ _ _ _ (by simp)];exact Hy
          · rw [World.cell?_setCell_other _ _ _ _ (by simp)];exact Hz
          · rw [World.frozen?_setCell];exact H0
          · unfold exT;by_cases e2:i=2
            · subst e2;rw [if_pos rfl];exact⟨World.cell?_setCell_same _ _ _ cm,by rw [World.frozen?_setCell];exact(Hd 2 (by omega)).2⟩
            · have h3:=Hd i hi;dsimp only at h3;rw [if_neg e2] at h3;rw [if_neg e2,World.cell?_setCell_other _ _ _ _ (by intro e;injection e with e1 e3 e4;exact e2 e3.symm),World.frozen?_setCell];exact h3
        · have:=(World.ownsRow.lt (Hj.rows r) k hk).2;have:=Hq r k hk;omega
        · have:=Hs y hy;omega)
      have Hx:Hid (Calls Tryz.prog 36 #[.pointer (some ⟨w.heap.size+2,0,none⟩),.int .i64 0] O fun e w'=>NdP O (w.heap.size+2) B L (w.heap.size+1) (w.heap.size+3) w1.heap.size a n c f aT aS aL aE (lkS g) [] (Qcv f n (fun r q=>inB (lkS g r) q q) 9 [] [] x1) [] 10 e w'):=
        hid (Qol (w.heap.size+2) B L (w.heap.size+1) (w.heap.size+3) w1.heap.size a n c f aT aS aL aE (lkS g) hn hnc hcc HF.out H9.out 8 [] rfl x1 [] O Gd.out (by omega) (by simp))
      have Hh:=hid (HX.same (gA.block w.heap.size HX.lt (fun e=>by injection e with e;omega)) gA.size);have M:=hid (Hg.grown gA Hg.size (fun k e=>by injection e with e;omega));have fz:w1.frozen? ⟨w.heap.size+1+1,2,none⟩=false:=(Hd 2 (by omega)).2;have H8:Hid (w1.heap.size<=O.heap.size):=hid (by omega);clear T F Hj Gp Hq Hm gA Hy Hz H0 Hd C Hp zz z1 Gx;go_wp2_with fail;try rw [He]
      clear He cm fz;refine Hx.mono ?_;clear Hx;rintro e Y ⟨g3,⟨J,x3,Gg,N,x0,hJ,rfl,t3,H2,H3,Gk,H4,H5⟩|⟨hJ,t,v,rfl⟩⟩
      · obtain⟨s1,s2⟩:=x0;obtain⟨s,Hi⟩:∃s,Y.alloc (.cells #[.map (some s1),.map (some s2)] 53)=s:=⟨_,rfl⟩;have K:Below Y.heap.size Y s:=by rw [<- Hi];exact zO _ _
        have V4:Bx2 s Y.heap.size (.map (some s1)) (.map (some s2)):=by rw [<- Hi];exact Bx2.made Y _ _ _
        have T4:=t3.below K;have m:G2 (w.heap.size+2) (w.heap.size+1) O s:=g3.trans (G2.below K);have o:=hid (Hh.same (m.block w.heap.size Hh.lt (by omega) (by omega)) m.size);have U:Hid (Below w.heap.size w s):=hid ⟨m.os.trans M.os,m.tape.trans M.tape,m.output.trans M.output,Nat.le_trans M.size m.size,fun k hk=>(m.block k (Nat.lt_of_lt_of_le hk M.size) (by omega) (by omega)).trans (M.block k hk)⟩;have Go:s.cell? ⟨w.heap.size+1+1,1,none⟩=some (.int .i64 (x3:Int)):=T4.cur.2.1;have n0:=V4.c0;have n1:=V4.c1;have Hw:=hid T4;obtain⟨u0,k0⟩:=o.c0;obtain⟨u1,k1⟩:=o.c1;obtain⟨u2,k2⟩:=o.c2;have X:=o.f0;have Gs:=g3.size;have G0:=H8.out;by_cases h3:x3<n
        · have I:Hid (gsR f n=none):=hid (by rw [Hl.out,hJ];simp only [List.nil_append,Option.bind_some];rw [if_pos h3]);have Gi:(x3:Int)<(n:Int):=by omega
          obtain⟨R,ge⟩:=T4.err.x1;have lo:1<w.heap.size:=Nat.lt_of_lt_of_le (Nat.lt_of_lt_of_le (by decide) T4.err.lG) hB;have S:∀(v:World) (i:Nat) (u:Value) (b j:Nat),b≠w.heap.size ->(v.setCell ⟨w.heap.size,i,none⟩ u).cell? ⟨b,j,none⟩=v.cell? ⟨b,j,none⟩:=fun v i u b j hne=>World.cell?_setCell_far _ _ _ _ (by simpa using hne.symm);have Hn:=(S s 0 (.map none) 1 0 (by omega)).trans ge;have Ho:=(S _ 1 (.map none) 1 0 (by omega)).trans Hn;have Gh:=(S _ 2 (.map none) 1 0 (by omega)).trans Ho;have Gm:=(S s 0 (.map none) (w.heap.size+1+1) 1 (by omega)).trans Go;have Gn:=(S _ 1 (.map none) (w.heap.size+1+1) 1 (by omega)).trans Gm;have Gz:=(S _ 2 (.map none) (w.heap.size+1+1) 1 (by omega)).trans Gn;have bP:Below s.heap.size s (s.alloc (.cells #[.string ⟨#[101,110,100]⟩,.int .i64 (x3:Int),.iface 270 R] 100)):=zO _ _;have Hc:=hid (o.same (bP.block w.heap.size o.lt) bP.size);have Hu:=hid (U.trans (bP.mono U.size));obtain⟨v0,l0⟩:=Hc.c0;obtain⟨v1,l1⟩:=Hc.c1;obtain⟨v2,l2⟩:=Hc.c2;have fP:=Hc.f0;clear S lo K V4 T4 m g3 t3 hJ H2 H3 Gk H4 H5 bP;go_wp2_with fail;try rw [Hi]
          go_region;all_goals go_wp2_with fail
          all_goals first
            | (obtain⟨Z,z,Q,A,E,h⟩:=Hc.fill none none none
               rw [<- z]
               clear z
               refine zF (v:=.tuple #[.agg #[.map none,.map none,.map none],.iface 98 (.pointer (some ⟨s.heap.size,0,none⟩))]) (by simp [results,Tryz.results18,go_sem,Q,A,E]) ?_
               rw [<- HP.out]
               exact⟨(Hu.grown h Hu.size (fun k e=>by injection e with e;omega)).drew,.inr ⟨I.out,_,_,rfl⟩⟩)
            | (obtain⟨Z,z,Q,A,E,h⟩:=o.fill none none none
               rw [<- z]
               clear z
               have Hr:w.heap.size<Z.heap.size:=Nat.lt_of_lt_of_le o.lt h.size
               have bQ:Below Z.heap.size Z (Z.alloc (.cells #[.string ⟨#[101,110,100]⟩,.int .i64 (x3:Int),.iface 270 R] 100)):=zO _ _
               have Gu:=(bQ.cell (p:=⟨w.heap.size,0,none⟩) Hr).trans Q
               have Gv:=(bQ.cell (p:=⟨w.heap.size,1,none⟩) Hr).trans A
               have Gw:=(bQ.cell (p:=⟨w.heap.size,2,none⟩) Hr).trans E
               have H1:=U.grown h U.size (fun k e=>by injection e with e;omega)
               refine zF (v:=.tuple #[.agg #[.map none,.map none,.map none],.iface 98 (.pointer (some ⟨s.heap.size,0,none⟩))]) (by simp [results,Tryz.results18,go_sem,Gu,Gv,Gw]) ?_
               rw [<- HP.out]
               exact⟨(H1.trans (bQ.mono H1.size)).drew,.inr ⟨I.out,_,_,rfl⟩⟩)
        · have HY:Hid (gsR f n=some (g,J)):=hid (by rw [Hl.out,hJ];simp only [List.nil_append,Option.bind_some];rw [if_neg h3]);have Gi:¬(x3:Int)<(n:Int):=by omega
          have Ga:Hid (∀Z,s.grownBy Z (some w.heap.size) ->LvJ Z (s1,s2) L J (Qat g)):=hid (fun Z h=>by
            obtain⟨Gt,D',G',A,E⟩:=Hw.grp;refine⟨N,O.heap.size,Gg,Gt,D',G',lkS g,(H5.below K).box k0 h,?_,A.gr h (fun e=>by injection e with e;have:=Hw.kl;omega) (fun r k hk e=>by injection e with e;have:=(E r k hk).1;omega),Hk.1,Hk.2.1,Hk.2.2⟩;simp only [List.nil_append] at H4;omega)
          clear K V4 T4 m g3 t3 hJ H2 H3;go_wp2_with fail;try rw [Hi]
          obtain⟨Z,z,Q,A,E,h⟩:=o.fill (some s1) (some s2) (some L);rw [<- z];clear z;refine zF (v:=.tuple #[.agg #[.map (some s1),.map (some s2),.map (some L)],.nilIface]) (by simp [results,Tryz.results18,go_sem,Q,A,E]) ?_;rw [<- HP.out];exact⟨U.grown h U.size (fun k e=>by injection e with e;omega),.inl ⟨g,J,(s1,s2),L,HY.out,rfl,Ga.out Z h,Gb.out⟩⟩
      · have I:Hid (gsR f n=none):=hid (by rw [Hl.out,hJ];rfl);have K:Below Y.heap.size Y (Y.alloc (.cells #[.map none,.map none] 53)):=zO _ _;have m:=g3.trans (G2.below K);have o:=hid (Hh.same (m.block w.heap.size Hh.lt (by omega) (by omega)) m.size);have U:Hid (Below w.heap.size w (Y.alloc (.cells #[.map none,.map none] 53))):=hid ⟨m.os.trans M.os,m.tape.trans M.tape,m.output.trans M.output,Nat.le_trans M.size m.size,fun k hk=>(m.block k (Nat.lt_of_lt_of_le hk M.size) (by omega) (by omega)).trans (M.block k hk)⟩;obtain⟨u0,k0⟩:=o.c0;obtain⟨u1,k1⟩:=o.c1;obtain⟨u2,k2⟩:=o.c2;have X:=o.f0;clear g3 m K hJ;go_wp2_with fail;obtain⟨Z,z,Q,A,E,h⟩:=o.fill none none none;rw [<- z];clear z;refine zF (v:=.tuple #[.agg #[.map none,.map none,.map none],.iface t v]) (by simp [results,Tryz.results18,go_sem,Q,A,E]) ?_;rw [<- HP.out];exact⟨U.grown h U.size (fun k e=>by injection e with e;omega),.inr ⟨I.out,_,_,rfl⟩⟩
    · have I:Hid (gsR f n=none):=hid (by unfold gsR;rw [if_neg h4,show ((0:Int))=((0:Nat):Int) from rfl,F];rfl);have Hb:=hid (HX.same (T.block w.heap.size HX.lt (fun e=>by injection e with e;omega)) T.size);have Ht:=hid (Hg.grown T Hg.size (fun k e=>by injection e with e;omega));obtain⟨u0,k0⟩:=Hb.c0;obtain⟨u1,k1⟩:=Hb.c1;obtain⟨u2,k2⟩:=Hb.c2;have X:=Hb.f0;clear T F cu Gl Gr;go_wp2_with fail;obtain⟨Z,z,Q,A,E,h⟩:=Hb.fill none none none;rw [<- z];clear z;refine zF (v:=.tuple #[.agg #[.map none,.map none,.map none],.iface 98 (.pointer (some ⟨pb,0,none⟩))]) (by simp [results,Tryz.results18,go_sem,Q,A,E]) ?_;rw [<- HP.out];exact⟨Ht.grown h Ht.size (fun k e=>by injection e with e;omega),.inr ⟨I.out,_,_,rfl⟩⟩
end Go.Proofs.YtjdcfkmhmnblbaaGreatDoor
