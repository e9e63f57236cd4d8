import Derived.Test.YtedpomikcaemgaaGreatDoorHsg07
set_option linter.unusedVariables false
set_option linter.unusedSimpArgs false
set_option maxRecDepth 100000
set_option maxHeartbeats 40000000
namespace Go.Proofs.YtedpomikcaemgaaGreatDoor
open Go.ChangeShapes Go.WideShapes Go.ChangeAt Go.RowKit Go.Maps Go.Proofs.Tryz
open Go.Value renaming slice → Uf, int → Ug, pointer → Uk, tuple → Ul, string → Um, bool → Un, agg → Uo
open Go.IntKind renaming i64 → Uh
open Go.Ending renaming returned → Ui
open Go.Obj renaming cells → Uj
open Option renaming none → Up, some → Uq
open Go renaming World → Ur, Addr → Us
open Nat renaming lt_of_lt_of_le → Ut, zero_le → Uv, le_trans → Ux, le_refl → Uu, le_of_lt → YN, sub_self → YP, add_assoc → Uy, mul_le_mul → YQ, zero_add → Uw, mul_one → YR, add_mul → YS, mul_le_mul_right → Yc
open List renaming length_append → Vg, getLast_mem → YT, append_assoc → Vu, flatMap_cons → Vz, range → UT, map_congr_left → Vr, getD → UR, getElem?_take_of_lt → Vf, getElem?_range → YU, getElem?_map → VN, getElem?_eq_none → US, nil_append → VI, range_succ → Vq, map_append → Vl, map_cons → Vm, map_nil → Vo, getElem?_append_left → YV, mem_cons → YD, not_mem_nil → YW, length_singleton → Vp, length_filter_le → YX, length_cons → Vh, dropLast_concat_getLast → YY, mem_of_getElem? → VO, take_add_one → VP, append_nil → VC, take_length → VQ
open Go.World renaming setCell → UC, cell?_setCell_other → UI, cell?_setCell_same → UH, cell?_setCell_far → UF, cell?_of_block → UB, frozen?_of_block → Ys, ownsRow_lit → VD, cell? → UE
open Option renaming bind_some → YB, map_eq_some_iff → YZ, isSome → JA, some → YO
open Int renaming natCast_nonneg → UZ
open _root_.Array renaming getElem?_toList → Yi
variable {B b c d g hi i jc js k k0 lo lo' m n q t:Nat}{F R T f:Nat ->Int}{J l:List Lf}{P:Program}{S:Sx}{U:List Int}{a x:Option Us}{mo row:Option Nat}{p:List ByteArray}{qf qr qt:Int}{sa sb:List Rn}{ts:List Ky}{u5 u6 v v0 v1 v2 vw:Value}{w w' w0 w1 wr:Ur}{x0:Nat×Nat}{y:Ky}
theorem Qgt{a:Us}(hg:w.grownBy w' row)(hlt:a.block<w.heap.size)(hne:Uq a.block≠row):w'.frozen? a=w.frozen? a:=by
 unfold World.frozen?;rw [hg.block a.block hlt hne]
theorem Bx3.gr(h:Bx3 w b v0 v1 v2)(hg:w.grownBy w' row)(hr:∀k,row=Uq k ->k≠b):Bx3 w' b v0 v1 v2:=
 have j:Uq b≠row:=fun e=>hr b e.symm rfl
 ⟨hg.cell h.c0 j,hg.cell h.c1 j,hg.cell h.c2 j,fun i=>(Qgt hg h.lt j).trans (h.f i),Ut h.lt hg.size⟩
theorem Bx2.gr(h:Bx2 w b v0 v1)(hg:w.grownBy w' row)(hr:∀k,row=Uq k ->k≠b):Bx2 w' b v0 v1:=
 have j:Uq b≠row:=fun e=>hr b e.symm rfl
 ⟨hg.cell h.c0 j,hg.cell h.c1 j,fun i=>(Qgt hg h.lt j).trans (h.f i),Ut h.lt hg.size⟩
theorem QbL(b:Bl w w')(row:Option Nat):w.grownBy w' row:=⟨b.os,b.tape,b.output,b.size,fun k hk _=>b.block k hk⟩
structure JB (w:Ur)(s t:Nat)(a0 a1 a2 b0 b1 b2:Option Nat)(x0:Nat×Nat):Prop where
 a:Bx3 w s (.map a0) (.map a1) (.map a2)
 b:Bx3 w (s+1) (.map b0) (.map b1) (.map b2)
 r:Bx2 w (s+1+1) (.map Up) (.map Up)
 j:Bx2 w t (.map (Uq x0.1)) (.map (Uq x0.2))
section
variable {w w' : Ur} {s t : Nat} {a0 a1 a2 b0 b1 b2 : Option Nat} {x0 : Nat × Nat}
theorem JB.gr {row:Option Nat}(h:JB w s t a0 a1 a2 b0 b1 b2 x0)(hg:w.grownBy w' row)(hr:∀k,row=Uq k ->k≠s/\ k≠s+1/\ k≠s+1+1/\ k≠t):JB w' s t a0 a1 a2 b0 b1 b2 x0:=
 ⟨h.a.gr hg (fun k e=>(hr k e).1),h.b.gr hg (fun k e=>(hr k e).2.1),h.r.gr hg (fun k e=>(hr k e).2.2.1),h.j.gr hg (fun k e=>(hr k e).2.2.2)⟩
theorem JB.bw (h:JB w s t a0 a1 a2 b0 b1 b2 x0)(hb:Bl w w'):JB w' s t a0 a1 a2 b0 b1 b2 x0:=h.gr (QbL hb Up) (fun k e=>by cases e)
end
section
variable {w w' : Ur} {B c : Nat} {N : List Ky -> Option (Nat × Nat)} {M : List Ky -> Dt -> Option ByteArray}
theorem Tre.lower {B':Nat}(h:Tre w B N M c)(hB:B'<=B):Tre w B' N M c:=⟨h.kids,h.marks,h.apart,fun p x hx=>by have:=h.lo p x hx;omega,h.none',h.up⟩
theorem Tre.mo_marks (h:Tre w B N M c)(z:List Ky):MO w 115 dtV Qb2 (mS (N z)) c (M z):=by
 cases e:N z with
 | none=>exact fun x=>by rw [h.none' z e]
 | some x=>exact h.marks z x e
theorem Tre.mo_kids (h:Tre w B N M c)(z:List Ky):MO w 230 QaE Qbd (mF (N z)) c (fun y=>N (z++[y])):=by
 cases e:N z with
 | none=>exact fun x=>h.up z x e
 | some x=>exact h.kids z x e
end
section
variable {w w' : Ur} {B c : Nat} {J : List Lf} {z : List Ky} {K : Ky -> Prop} {N N1 : List Ky -> Option (Nat × Nat)} {x0 x1 : Nat × Nat}
theorem JT.congr {K':Ky ->Prop}(h:JT w B J z K N c x0)(hK:∀u,K u↔K' u):JT w B J z K' N c x0:=by
 have:K=K':=funext fun u=>propext (hK u);rw [<- this];exact h
theorem JT.mono {c':Nat}(h:JT w B J z K N c x0)(hc:c<=c'):JT w B J z K N c' x0:=⟨h.tre.mono hc,h.root,h.there⟩
theorem JT.bw (h:JT w B J z K N c x0)(hb:Bl w w'):JT w' B J z K N c x0:=⟨h.tre.bw hb,h.root,h.there⟩
theorem JT.kept' {r:Nat}(h:JT w B J z K N c x0)(hg:w.grownBy w' (Uq r))(hr:∀k j,w.heap[r]? ≠Uq (.map k j)):JT w' B J z K N c x0:=
 ⟨h.tre.same fun p x hx=>⟨hg.block _ (h.tre.lt hx).1 (fun e=>by obtain⟨k,j,m⟩:=(h.tre.kids p x hx).obj;injection e with e;rw [e] at m;exact hr k j m),hg.block _ (h.tre.lt hx).2 (fun e=>by obtain⟨k,j,m⟩:=(h.tre.marks p x hx).obj;injection e with e;rw [e] at m;exact hr k j m)⟩,h.root,h.there⟩
theorem JT.round {w8 w9 w10:Ur}{y:Ky}(h:JT w8 B J z K N c x0)(b9:Bl w8 w9)(h1:JF w9 w8.heap.size J (z++[y]) N1 c x1)(hB:B<=w8.heap.size)(hy:¬K y)(hg:w9.grownBy w10 (Uq x0.1))
  (hm:Qc5 (fun u=>N1 [u]) (Mk J J.length (z++[y])) ->Qa1 w10 230 QaE Qbd x0.1 (c+1) (QbX (fun u=>N [u]) y (Uq x1))) (hn:¬Qc5 (fun u=>N1 [u]) (Mk J J.length (z++[y])) ->Bl w9 w10):
  ∃N',JT w10 B J z (fun u=>K u \/u=y) N' (c+1) x0:=by
 by_cases e:Qc5 (fun u=>N1 [u]) (Mk J J.length (z++[y]))
 ·refine⟨_,(h.bw b9).hang ⟨h1.tre.lower hB,h1.root,h1.there⟩ hy (h1.bears.2 e) (fun p q a b ha hb=> ?_) hg ((hm e).ext fun u=> ?_)⟩
  ·have j:=h.tre.lt ha;have k:=h1.tre.lo q b hb;omega
  ·unfold QbX;by_cases e:u=y<;>simp [e]
 ·exact⟨N,((h.bw b9).skip hy (fun ha=>e (h1.bears.1 ha))).bw (hn e)|>.mono (Nat.le_succ _)⟩
end
theorem JB.sees{s u:Nat}{a0 a1 a2 b0 b1 b2:Option Nat}{ks:ByteArray}{kk:Int}(h:JB w s t a0 a1 a2 b0 b1 b2 x0)(hk:Bx2 w u (Um ks) (Ud kk)):
  w.cell? (Ub t)=Uq (.map (Uq x0.1))/\ w.cell? (Ua t 1)=Uq (.map (Uq x0.2))/\ w.cell? (Ub u)=Uq (Um ks)/\ w.cell? (Ua u 1)=Uq (Ud kk)/\ w.cell? (Ub s)=Uq (.map a0)/\ w.cell? (Ua s 1)=Uq (.map a1)/\ w.cell? (Ua s 2)=Uq (.map a2)/\ w.cell? (Ua (s+1) 0)=Uq (.map b0)/\ w.cell? (Ua (s+1) 1)=Uq (.map b1)/\ w.cell? (Ua (s+1) 2)=Uq (.map b2):=
 ⟨h.j.c0,h.j.c1,hk.c0,hk.c1,h.a.c0,h.a.c1,h.a.c2,h.b.c0,h.b.c1,h.b.c2⟩
section
variable {w w' : Ur} {B B' c c' tb ub : Nat} {N : List Ky -> Option (Nat × Nat)} {M : List Ky -> Dt -> Option ByteArray} {J : List Lf} {z : List Ky} {K : Ky -> Prop} {x0 : Nat × Nat}
theorem Tre.g2 (h:Tre w B N M c)(g:G2 tb ub w w')(h1:tb<B)(h2:ub<B):Tre w' B N M c:=h.same fun p x hx=>by
 have l:=h.lo p x hx;have k:=h.lt hx;exact⟨g.block _ k.1 oM oM,g.block _ k.2 oM oM⟩
theorem Tre.box (h:Tre w B N M c){b i:Nat}{v:Value}(hc:w.cell? (Ua b i)=Uq v)(g:w.grownBy w' (Uq b)):Tre w' B N M c:=h.same fun p x hx=>by
 refine⟨g.block _ (h.lt hx).1 fun e=> ?_,g.block _ (h.lt hx).2 fun e=> ?_⟩
 ·injection e with e;obtain⟨m,k,j⟩:=(h.kids p x hx).obj;rw [e] at j;exact Qcq hc _ _ j
 ·injection e with e;obtain⟨m,k,j⟩:=(h.marks p x hx).obj;rw [e] at j;exact Qcq hc _ _ j
theorem JF.lower (h:JF w B J z N c x0)(hb:B'<=B):JF w B' J z N c x0:=⟨h.tre.lower hb,h.root,h.there⟩
theorem JF.box (h:JF w B J z N c x0){b i:Nat}{v:Value}(hc:w.cell? (Ua b i)=Uq v)(g:w.grownBy w' (Uq b)):JF w' B J z N c x0:=⟨h.tre.box hc g,h.root,h.there⟩
theorem JF.bw (h:JF w B J z N c x0)(hb:Bl w w'):JF w' B J z N c x0:=⟨h.tre.bw hb,h.root,h.there⟩
theorem JT.box (h:JT w B J z K N c x0){b i:Nat}{v:Value}(hc:w.cell? (Ua b i)=Uq v)(g:w.grownBy w' (Uq b)):JT w' B J z K N c x0:=⟨h.tre.box hc g,h.root,h.there⟩
theorem JT.g2 (h:JT w B J z K N c x0)(g:G2 tb ub w w')(h1:tb<B)(h2:ub<B):JT w' B J z K N c x0:=⟨h.tre.g2 g h1 h2,h.root,h.there⟩
theorem JT.new (z:List Ky)(hk:Qa1 w 230 (α:=Ky) QaE Qbd x0.1 0 (fun _=>Up))(hm:Qa1 w 115 (α:=Dt) dtV Qb2 x0.2 0 (fun _=>Up))(hne:x0.1≠x0.2)(hB:B<=x0.1/\ B<=x0.2):JT w B [] z (fun _=>False) (fun r=>if r=[] then Uq x0 else Up) 0 x0:=by
 have e:mJ [] z (fun _=>False)=fun _ _=>Up:=by
  funext r;cases r with
  | nil=>rfl
  | cons y r=>simp only [mJ];rw [if_neg (by rw [Qaj (fun h=>h)];simp)]
 refine⟨by rw [e];exact Tre.new hk hm hne hB,oP,fun y r=> ?_⟩;simp
theorem Qhu {u v:Ky}{q:List Ky}(h1:z++[u] <+:q)(h2:z++[v] <+:q):u=v:=by
 have e:=List.IsPrefix.eq_of_length (List.prefix_of_prefix_length_le h1 h2 oP) oP;simpa using e
end
structure TL (w:Ur)(B:Nat)(l:List Lf)(z:List Ky)(before:Ky)(D k:Nat)(x0:Nat×Nat):Prop where
 ex:∃(K:Ky ->Prop) (N:List Ky ->Option (Nat×Nat)) (c:Nat),JT w B l z K N c x0/\ (∀u,K u ->Qb9 u before<=0)/\ (∀x∈l,∃v,K v/\ (z++[v]) <+:Way x)/\ c<=D*l.length
 some':k<=l.length
section
variable {w w' v : Ur} {B D k tb ub : Nat} {J l : List Lf} {z : List Ky} {before y : Ky} {x0 : Nat × Nat}
theorem TL.new (z:List Ky)(before:Ky)(D:Nat)(hk:Qa1 w 230 (α:=Ky) QaE Qbd x0.1 0 (fun _=>Up))(hm:Qa1 w 115 (α:=Dt) dtV Qb2 x0.2 0 (fun _=>Up))(hne:x0.1≠x0.2)(hB:B<=x0.1/\ B<=x0.2):TL w B [] z before D 0 x0:=
 ⟨⟨_,_,0,JT.new z hk hm hne hB,fun _ h=>h.elim,fun x hx=>by simp at hx,Uv _⟩,Uv _⟩
theorem TL.box (h:TL w B l z before D k x0){b i:Nat}{v:Value}(hc:w.cell? (Ua b i)=Uq v)(g:w.grownBy w' (Uq b)):TL w' B l z before D k x0:=by
 obtain⟨⟨K,N,c,j,m⟩,q⟩:=h;exact⟨⟨K,N,c,j.box hc g,m⟩,q⟩
theorem TL.full (h:TL w B l z before D k x0):∃N c,JF w B l z N c x0/\ c<=D*l.length/\∀x∈l,z <+:Way x:=by
 obtain⟨⟨K,N,c,r,g,m,u⟩,_⟩:=h;refine⟨N,c,r.full fun y ⟨x,hx,hp⟩=> ?_,u,fun x hx=> ?_⟩
 ·obtain⟨v,q,j⟩:=m x hx;rw [Qhu hp j];exact q
 ·obtain⟨v,q,j⟩:=m x hx;exact(List.prefix_append _ _).trans j
theorem TL.hang {B1 cnt:Nat}{N1:List Ky ->Option (Nat×Nat)}{x1:Nat×Nat}(h:TL w B l z before (D+1) k x0)(g:G2 tb ub w v)(h1:tb<B)(h2:ub<B)(hj:JF v B1 J (z++[y]) N1 cnt x1)(hb1:w.heap.size<=B1)(hb:B<=w.heap.size)(hy:Qb9 before y<0)(hJ:∀x∈J,(z++[y]) <+:Way x)(hne:J≠[])(hc:cnt<=D*J.length):
  ∃(c:Nat) (F:Ky ->Option (Nat×Nat)),c<=(D+1)*(l++J).length/\ Qa1 v 230 QaE Qbd x0.1 c F/\∀w',v.grownBy w' (Uq x0.1) ->Qa1 w' 230 QaE Qbd x0.1 (c+1) (QbX F y (Uq x1)) ->TL w' B (l++J) z y (D+1) (k+1) x0:=by
 obtain⟨⟨K,N,c,A,i,E,I⟩,L⟩:=h;have Z:1<=J.length:=List.length_pos_iff.2 hne;have G:D*J.length+1<=(D+1)*J.length:=by rw [Nat.succ_mul];omega
 have H:(D+1)*(l++J).length=(D+1)*l.length+(D+1)*J.length:=by rw [Vg,Nat.mul_add]
 have t:¬K y:=fun hk=>by
  have:=i y hk;have:=QaH.key.neg y before;have:=QaH.key.irr y;rcases Int.lt_or_eq_of_le (i y hk) with e|e
  ·have:=QaH.key.tr _ _ _ e hy;omega
  ·rw [(QaH.key.z _ _).1 e] at hy;rw [QaH.key.irr] at hy;omega
 have Q:=A.g2 g h1 h2;have s:JT v B (l++J) z K N (c+cnt) x0:=(Q.more (fun x j e=>by
  have:=(hJ x j).length_le;rw [e] at this;simp at this;omega) (fun x j u r hp=>by
  have e:=Qhu hp (hJ x j);rw [e] at r;exact t r)).mono (Nat.le_add_right _ _)
 have U:JF v B (l++J) (z++[y]) N1 (c+cnt) x1:=(((hj.lower (Ux hb hb1)).more (fun x j hp=>by
  obtain⟨u,r,o⟩:=E x j;rw [Qhu hp o] at t;exact t r)).mono (Nat.le_add_left _ _))
 refine⟨c+cnt,fun u=>N [u],oM,s.tre.kids [] x0 s.root,fun w' gw m=> ?_⟩;have M:ApN N N1:=fun p q a b ha hb'=>by
  have V:=A.tre.lt ha;have Y:=hj.tre.lo q b hb';exact⟨oM,oM,oM,oM⟩
 have O:=s.hang U t ⟨_,List.mem_append.2 (.inr (YT hne)),hJ _ (YT hne)⟩ M gw (m.ext fun u=>by
  by_cases e:u=y
  ·subst e;rw [Qaw,if_pos rfl]
  ·rw [Qao _ _ e,if_neg e])
 refine⟨⟨_,_,_,O,fun u r=> ?_,fun x j=> ?_,oM⟩,by rw [Vg];omega⟩
 ·rcases r with r|rfl
  ·rcases Int.lt_or_eq_of_le (i u r) with e|e
   ·exact Int.le_of_lt (QaH.key.tr _ _ _ e hy)
   ·rw [(QaH.key.z _ _).1 e];exact Int.le_of_lt hy
  ·rw [QaH.key.irr];exact Int.le_refl _
 ·rcases List.mem_append.1 j with j|j
  ·obtain⟨u,r,o⟩:=E x j;exact⟨u,.inl r,o⟩
  ·exact⟨y,.inr rfl,hJ x j⟩
end
section
variable {w W w' : Ur} {tb B kb ub bs hi : Nat} {a : Option Us} {n c : Nat} {f : Nat -> Int} {aT aS aL aE : Us} {L : Int -> List (Int × Int)} {acc : List Lf} {R : Option (List Lf × Nat)} {z : List Ky} {D D' : Nat} {e : Ending}
end
section
variable {w W w' : Ur} {tb B kb ub bs hi : Nat} {a : Option Us} {n c : Nat} {f : Nat -> Int} {aT aS aL aE : Us} {L : Int -> List (Int × Int)} {acc : List Lf} {R : Option (List Lf × Nat)} {z : List Ky} {D D' : Nat} {e : Ending}
theorem LvP.node {x:Nat}{kind:Int}{s:ByteArray}{p:List ByteArray}(hk:kind=1 \/kind=2)(hD:1<=D)(h:LvP w tb B kb ub bs hi a n c f aT aS aL aE L x acc kind (p++[s]) e w'):NdP w tb B kb ub bs hi a n c f aT aS aL aE L acc (Qhy f n (fun r q=>inB (L r) q q) kind (p++[s]) acc x) (Qad p 3++[(s,kind)]) D e w':=by
 obtain⟨g,⟨l,x',Q,U,j,v,z,t,o,i,b,A,E⟩|h⟩:=h
 ·obtain⟨M,O⟩:=QlH j;have k:∀x∈l,Way x=Qad p 3++[(s,kind)]:=fun x hx=>by
   obtain⟨m,u⟩:=O x hx;unfold Way;rw [m,u,Qfo];rcases hk with rfl|rfl<;>rfl
  exact⟨g,.inl ⟨l,x',l.length,_,(Q,U),j,v,z,fun y hy=>by rw [k y hy];exact List.prefix_refl _,.inl M,Nat.le_mul_of_pos_left _ hD,t,JF.leaves k o i b A E⟩⟩
 ·exact⟨g,.inr h⟩
end
theorem NB.fill2 {v:Ur}(h:NB v b)(s s':Option Nat):
  ∃Z,Z=(v.setCell (Ub b) (.map s)).setCell (Ua b 1) (.map s')/\ Z.cell? (Ub b)=Uq (.map s)/\ Z.cell? (Ua b 1)=Uq (.map s')/\ v.grownBy Z (Uq b):=by
 obtain⟨q,k0⟩:=h.c0;obtain⟨r,m⟩:=h.c1;refine⟨_,rfl,?_,?_,⟨rfl,rfl,rfl,by simp [UC],fun k hk hne=> ?_⟩⟩
 ·rw [UI _ _ _ _ oP];exact UH _ _ _ k0
 ·exact UH _ _ _ (by rw [UI _ _ _ _ oP];exact m)
 ·have j:k≠b:=fun e=>hne (by rw [e]);exact(zH _ _ _ _ j).trans (zH _ _ _ _ j)
theorem Qrh (tb B kb ub bs hi:Nat)(a:Option Us)(n c:Nat)(f:Nat ->Int)(aT aS aL aE:Us)(L:Int ->List (Int×Int))(x:Nat)(acc:List Lf)(s:ByteArray)(kind dep:Int)(p:List ByteArray)(rec:List ByteArray ->List Lf ->Nat ->Option (List Lf×Nat))(D:Nat)(w:Ur)(hn:n<=1048576)(hnc:n<=c)(hcc:c<=9223372036854775807)(hf:Byt f)(hD:1<=D)
  (hT:TS w tb B kb ub bs hi a n c f aT aS aL aE L (x:Int) acc) (hhi:hi<=w.heap.size) (hS:∀r,Srt (L r)/\ (L r).length<=1000000) (hl:acc.length<=1000)
  (hrec:kind=3 ->∀W,TS W tb B kb ub bs hi a n c f aT aS aL aE L (x:Int) acc ->hi<=W.heap.size ->Cl 132 #[Uk (Uc tb),Ud dep] W fun e w'=>NdP W tb B kb ub bs hi a n c f aT aS aL aE L acc (rec (p++[s]) acc x) (Qad p 3++[(s,kind)]) D e w'):
  Cl 151 #[Uk (Uc tb),Ud kind,Ud dep] w fun e w'=>NdP w tb B kb ub bs hi a n c f aT aS aL aE L acc (Qik f n (fun r q=>inB (L r) q q) rec p (s,kind) acc x) (Qad p 3++[(s,kind)]) D e w':=by
 obtain⟨P,hP⟩:=zE (NdP w tb B kb ub bs hi a n c f aT aS aL aE L acc (Qik f n (fun r q=>inB (L r) q q) rec p (s,kind) acc x) (Qad p 3++[(s,kind)]) D);rw [hP];have T:=hid hP;clear hP;obtain⟨W,b⟩:=zE (w.alloc (Uj #[.map Up,.map Up] 172));have b0:Bl w W:=b▸zO _ _;have zW:W.heap.size=w.heap.size+1:=b▸oP;have H:Hid (NB W w.heap.size):=hid (b▸NB.made _ _);have F:=hid (hT.bw b0);have G:=hid (G2.bw (tb:=tb) (ub:=ub) b0);have He:tb<w.heap.size:=hT.cur.lt;have Hi:ub<w.heap.size:=hT.us.lt;have Hd:=hT.bt;have Hf:w.heap.size≠tb:=oM;have Hg:w.heap.size≠ub:=oM;have Ha:w.heap.size<=w.heap.size:=Uu _;have HZ:=hid zW;have V:Hid (∀(R:Option (List Lf×Nat)) (e:Ending) (w1:Ur),Qik f n (fun r q=>inB (L r) q q) rec p (s,kind) acc x=R ->NdP W tb B kb ub bs hi a n c f aT aS aL aE L acc R (Qad p 3++[(s,kind)]) D e w1 ->
   (∃t v,e=Ui (Ul #[Uo #[.map Up,.map Up],.iface t v])/\ NB w1 w.heap.size/\∀Z,G2 tb ub w1 Z \/w1.grownBy Z (Uq w.heap.size) ->P (Ui (Ul #[Uo #[.map Up,.map Up],.iface t v])) Z) \/
   (∃x0:Nat×Nat,e=Ui (Ul #[Uo #[.map (Uq x0.1),.map (Uq x0.2)],.nilIface])/\ NB w1 w.heap.size/\∀Z,w1.grownBy Z (Uq w.heap.size) ->P (Ui (Ul #[Uo #[.map (Uq x0.1),.map (Uq x0.2)],.nilIface])) Z)):=hid (fun R e w1 hR h=>by
  have j:=H.g2 h.1 Hf Hg;obtain⟨g,⟨J,x',Hb,N,x0,U,k2,k3,k4,k5,k6,k7,k8⟩|⟨h2,t,v,Q⟩⟩:=h
  ·refine .inr ⟨x0,k2,j,fun Z z=> ?_⟩;obtain⟨C,m⟩:=j.c0;rw [<- T.out];exact⟨(G.trans g).gr z Ha,.inl ⟨J,x',Hb,N,x0,by rw [hR,U],rfl,k3.gr z hhi,k4,k5,k6,k7,(k8.lower G.size).box m z⟩⟩
  ·refine .inl ⟨t,v,Q,j,fun Z z=> ?_⟩;rw [<- T.out];refine⟨?_,.inr ⟨by rw [hR,h2],t,v,rfl⟩⟩;rcases z with z|z
   ·exact(G.trans g).trans z
   ·exact(G.trans g).gr z Ha)
 clear b0 zW;rcases Decidable.em (kind=1 \/kind=2) with o|o
 ·have A:=hid (QnQ tb B kb ub bs hi a n c f aT aS aL aE L x acc kind (p++[s]) W hn hnc hcc hf o F (oH HZ) hS hl);have Y:Hid (Qik f n (fun r q=>inB (L r) q q) rec p (s,kind) acc x=Qhy f n (fun r q=>inB (L r) q q) kind (p++[s]) acc x):=hid (by
   unfold Qik Qhy;rw [if_neg (by rcases o with rfl|rfl<;>simp),if_pos o])
  have HK:=hid o;clear hT hS hrec;have I:∀e w1,LvP W tb B kb ub bs hi a n c f aT aS aL aE L x acc kind (p++[s]) e w1 ->(∃t v,e=Ui (Ul #[Uo #[.map Up,.map Up],.iface t v])/\ NB w1 w.heap.size/\∀Z,G2 tb ub w1 Z \/w1.grownBy Z (Uq w.heap.size) ->P (Ui (Ul #[Uo #[.map Up,.map Up],.iface t v])) Z) \/
   (∃x0:Nat×Nat,e=Ui (Ul #[Uo #[.map (Uq x0.1),.map (Uq x0.2)],.nilIface])/\ NB w1 w.heap.size/\∀Z,w1.grownBy Z (Uq w.heap.size) ->P (Ui (Ul #[Uo #[.map (Uq x0.1),.map (Uq x0.2)],.nilIface])) Z):=fun e w1 h=>V.out _ e w1 Y (LvP.node HK hD h)
  have E:=hid I;clear I V Y;rcases o with rfl|rfl;all_goals
   go_enter func151,ntmps151
   go_wp2_with fail
   try rw [b]
   clear b
   refine A.mono ?_
   intro e w1 h
   rcases E.out e w1 h with ⟨t,v,rfl,j,k⟩|⟨x0,rfl,j,k⟩
   ·have u:=hid j
    have M:=hid k
    obtain⟨C,k0⟩:=j.c0
    obtain⟨S,U⟩:=j.c1
    have y:=j.f0
    clear h j k A E
    go_wp2_with fail
    obtain⟨Z,k,m,i,O⟩:=u.fill2 Up Up
    rw [<- k]
    clear k
    refine zF (v:=Ul #[Uo #[.map Up,.map Up],.iface t v]) (by simp [results,results151,go_sem,m,i]) ?_
    exact M Z (.inr O)
   ·have u:=hid j
    have M:=hid k
    obtain⟨C,k0⟩:=j.c0
    obtain⟨S,U⟩:=j.c1
    have y:=j.f0
    obtain⟨K,X⟩:=x0
    clear h j k A E
    go_wp2_with fail
    obtain⟨Z,k,m,i,O⟩:=u.fill2 (Uq K) (Uq X)
    rw [<- k]
    clear k
    refine zF (v:=Ul #[Uo #[.map (Uq K),.map (Uq X)],.nilIface]) (by simp [results,results151,go_sem,m,i]) ?_
    exact M Z O
 ·by_cases Q:kind=3
  ·have A:=hid (hrec Q W F (oH HZ));have Y:Hid (Qik f n (fun r q=>inB (L r) q q) rec p (s,kind) acc x=rec (p++[s]) acc x):=hid (by
    unfold Qik;rw [if_pos Q])
   have I:∀e w1,NdP W tb B kb ub bs hi a n c f aT aS aL aE L acc (rec (p++[s]) acc x) (Qad p 3++[(s,kind)]) D e w1 ->(∃t v,e=Ui (Ul #[Uo #[.map Up,.map Up],.iface t v])/\ NB w1 w.heap.size/\∀Z,G2 tb ub w1 Z \/w1.grownBy Z (Uq w.heap.size) ->P (Ui (Ul #[Uo #[.map Up,.map Up],.iface t v])) Z) \/
    (∃x0:Nat×Nat,e=Ui (Ul #[Uo #[.map (Uq x0.1),.map (Uq x0.2)],.nilIface])/\ NB w1 w.heap.size/\∀Z,w1.grownBy Z (Uq w.heap.size) ->P (Ui (Ul #[Uo #[.map (Uq x0.1),.map (Uq x0.2)],.nilIface])) Z):=fun e w1 h=>V.out _ e w1 Y h
   have E:=hid I;clear I V Y o hrec hT hS;subst Q;go_enter func151,ntmps151;go_wp2_with fail;try rw [b]
   clear b;refine A.mono ?_;intro e w1 h;rcases E.out e w1 h with ⟨t,v,rfl,j,k⟩|⟨x0,rfl,j,k⟩
   ·have u:=hid j;have M:=hid k;obtain⟨C,k0⟩:=j.c0;obtain⟨S,U⟩:=j.c1;have y:=j.f0;clear h j k A E;go_wp2_with fail;obtain⟨Z,k,m,i,O⟩:=u.fill2 Up Up;rw [<- k];clear k;refine zF (v:=Ul #[Uo #[.map Up,.map Up],.iface t v]) (by simp [results,results151,go_sem,m,i]) ?_;exact M Z (.inr O)
   ·have u:=hid j;have M:=hid k;obtain⟨C,k0⟩:=j.c0;obtain⟨S,U⟩:=j.c1;have y:=j.f0;obtain⟨K,X⟩:=x0;clear h j k A E;go_wp2_with fail;obtain⟨Z,k,m,i,O⟩:=u.fill2 (Uq K) (Uq X);rw [<- k];clear k;refine zF (v:=Ul #[Uo #[.map (Uq K),.map (Uq X)],.nilIface]) (by simp [results,results151,go_sem,m,i]) ?_;exact M Z O
  ·have u:Hid (Qik f n (fun r q=>inB (L r) q q) rec p (s,kind) acc x=Up):=hid (by
    unfold Qik;rw [if_neg Q,if_neg o])
   have e1:(kind==1)=false:=oS;have e2:(kind==2)=false:=oS;have e3:(kind==3)=false:=oS;obtain⟨ev,ge⟩:=F.err.x3;have lo:1<w.heap.size:=Ut (Ut oD F.err.lG) (Ux Hd (YN He));obtain⟨C,k0⟩:=H.c0;obtain⟨S,U⟩:=H.c1;have y:=H.f0;have Hc:(W.setCell (Ub w.heap.size) (.map Up)).cell? (Ub 1)=Uq (.iface 363 ev):=(by rw [UF _ _ _ _ oS];exact ge);have Hh:((W.setCell (Ub w.heap.size) (.map Up)).setCell (Ua w.heap.size 1) (.map Up)).cell? (Ub 1)=Uq (.iface 363 ev):=(by rw [UF _ _ _ _ oS];exact Hc);clear lo o Q hrec hT hS V;go_enter func151,ntmps151;go_wp2_with fail;try rw [b]
   go_region;all_goals go_wp2_with fail
   all_goals (
    obtain⟨Z,k,m,i,gZ,bZ,_⟩:=H.fill G Ha Up Up;rw [<- k];clear k;refine zF (v:=Ul #[Uo #[.map Up,.map Up],.iface 363 ev]) (by simp [results,results151,go_sem,m,i]) ?_;rw [<- T.out];exact⟨gZ.trans (G2.bw zI.drew),.inr ⟨u,_,_,rfl⟩⟩)
theorem Qkz(hf:Byt f){before:Ky}{x x':Nat}(h:Qgd f n before x=Uq (y,x')):Qb9 before y<0/\ y.1.size<=40/\ 0<=y.2/\ y.2<256:=by
 unfold Qgd at h;obtain⟨a,j,h⟩:=Qab.1 h;have m:=((Qde hf oD (s:=a.1) (x':=a.2)).1 j).1;split at h
 ·rename_i hy;simp only [Option.some.injEq,Prod.mk.injEq] at h;obtain⟨rfl,_⟩:=h;have k:Qb9 before (a.1,f a.2)<0:=by
   by_cases e:a.1.size≠0/\ a.2<n/\ Qb9 before (a.1,f a.2)<0
   ·exact e.2.2
   ·rw [Qaj e] at hy;cases hy
  have:=hf a.2;exact⟨k,oQ,this.1,oH this.2⟩
 ·cases h
theorem Qi0 (tb B kb ub bs hi:Nat)(a:Option Us)(n c:Nat)(f:Nat ->Int)(aT aS aL aE:Us)(L:Int ->List (Int×Int))(d:Nat)(p:List ByteArray)(hpd:p.length+d=8)(hn:n<=1048576)(hnc:n<=c)(hcc:c<=9223372036854775807)(hf:Byt f)(hS:∀r,Srt (L r)/\ (L r).length<=1000000)
  (hrec:p.length<8 ->∀(s:ByteArray) (x:Nat) (acc:List Lf) (W:Ur),TS W tb B kb ub bs hi a n c f aT aS aL aE L (x:Int) acc ->hi<=W.heap.size ->acc.length<=1000 ->Cl 132 #[Uk (Uc tb),Ud ((p.length:Int)+1)] W fun e w'=>NdP W tb B kb ub bs hi a n c f aT aS aL aE L acc (Qc1 f n (fun r q=>inB (L r) q q) d (p++[s]) acc x) (Qad (p++[s]) 3) (d+1) e w')
  (x:Nat) (acc:List Lf) (w:Ur) (M:TS w tb B kb ub bs hi a n c f aT aS aL aE L (x:Int) acc) (hhi:hi<=w.heap.size) (hl:acc.length<=1000):
  Cl 132 #[Uk (Uc tb),Ud (p.length:Int)] w fun e w'=>NdP w tb B kb ub bs hi a n c f aT aS aL aE L acc (Qc1 f n (fun r q=>inB (L r) q q) (d+1) p acc x) (Qad p 3) (d+2) e w':=by
 obtain⟨P,hP⟩:=zE (NdP w tb B kb ub bs hi a n c f aT aS aL aE L acc (Qc1 f n (fun r q=>inB (L r) q q) (d+1) p acc x) (Qad p 3) (d+2));rw [hP];have HP:=hid hP;clear hP;obtain⟨S,Go⟩:∃S:Int,(p.length:Int)=S:=⟨_,rfl⟩;rw [Go] at hrec ⊢;have Jb:0<=S:=oM;have Jc:S<=8:=oM;have Hl:=hid (And.intro Go hpd);have Ge:=hid hrec;clear Go hpd hrec;obtain⟨W,hW⟩:=zE (w.alloc (Uj #[.map Up,.map Up] 172));have b0:Bl w W:=hW▸zO _ _;have zW:W.heap.size=w.heap.size+1:=hW▸oP;have Hz:Hid (NB W w.heap.size):=hid (hW▸NB.made _ _);have Ho:=hid (M.bw b0);have Hy:=hid (G2.bw (tb:=tb) (ub:=ub) b0);have Gs:tb<w.heap.size:=M.cur.lt;have Kz:ub<w.heap.size:=M.us.lt;have Gm:=M.bt;have HU:=hid (QbP tb B a n c x 1000 f aT aS aL aE W hn hf Ho.cur Ho.seg (fun y hy=>(M.ab y hy).1) Ho.err M.bt oM oM);have HZ:=hid zW;have HF:=hid hf;have HS:=hid hS;have Hi:w.heap.size≠tb:=oM;have Hj:w.heap.size≠ub:=oM;have Hk:w.heap.size<=w.heap.size:=Uu _;clear M b0 zW hf hS;go_enter func132,ntmps132;go_wp2_with fail;try rw [hW]
 clear hW;refine HU.mono ?_;clear HU;rintro e w1 ⟨g1,⟨V,x1,hr,hV,rfl,cu⟩|⟨hr,t,v,y,rfl,cu⟩⟩
 ·rw [Qa5] at hr;have Hg:=hid (Ho.t g1 cu);have Hc:=hid (Hy.trans (G2.t g1));have A:=hid (Hz.g2 (G2.t (ub:=ub) g1) Hi Hj);have H2:=hid hr;clear g1 hr cu Ho Hy Hz;by_cases H4:V=0/\ 0<S
  ·obtain⟨T,Je⟩:=H4;subst T;have HN:Hid (Qc1 f n (fun r q=>inB (L r) q q) (d+1) p acc x=Up):=hid (by
    unfold Qc1;rw [H2.out];simp only [YB];rw [if_pos trivial,if_neg (oH Hl.1)])
   obtain⟨ev,ge⟩:=Hg.err.x5;have lo:7<w.heap.size:=Ut (Ut oD Hg.err.lG) (Ux Gm (YN Gs));obtain⟨u0,k0⟩:=A.c0;obtain⟨u1,k1⟩:=A.c1;have I:=A.f0;have Gi:(w1.setCell (Ub w.heap.size) (.map Up)).cell? (Ub 7)=Uq (.iface 363 ev):=(by rw [UF _ _ _ _ oS];exact ge);have Kr:((w1.setCell (Ub w.heap.size) (.map Up)).setCell (Ua w.heap.size 1) (.map Up)).cell? (Ub 7)=Uq (.iface 363 ev):=(by rw [UF _ _ _ _ oS];exact Gi);clear lo;go_wp2_with fail;go_region;all_goals go_wp2_with fail
   all_goals (
    obtain⟨Z,g,G,H,O,bZ,_⟩:=A.fill Hc Hk Up Up;rw [<- g];clear g;refine zF (v:=Ul #[Uo #[.map Up,.map Up],.iface 363 ev]) (by simp [results,results132,go_sem,G,H]) ?_;rw [<- HP.out];exact⟨O.trans (G2.bw zI.drew),.inr ⟨HN,_,_,rfl⟩⟩)
  ·by_cases Gj:V≠0/\ S=8
   ·obtain⟨T,rfl⟩:=Gj;have HN:Hid (Qc1 f n (fun r q=>inB (L r) q q) (d+1) p acc x=Up):=hid (by
     unfold Qc1;rw [H2.out];simp only [YB];rw [if_neg T,if_pos (oH Hl.1)])
    obtain⟨ev,ge⟩:=Hg.err.x4;have lo:8<w.heap.size:=Ut (Ut oD Hg.err.lG) (Ux Gm (YN Gs));obtain⟨u0,k0⟩:=A.c0;obtain⟨u1,k1⟩:=A.c1;have I:=A.f0;have Gi:(w1.setCell (Ub w.heap.size) (.map Up)).cell? (Ub 8)=Uq (.iface 363 ev):=(by rw [UF _ _ _ _ oS];exact ge);have Kr:((w1.setCell (Ub w.heap.size) (.map Up)).setCell (Ua w.heap.size 1) (.map Up)).cell? (Ub 8)=Uq (.iface 363 ev):=(by rw [UF _ _ _ _ oS];exact Gi);have d0:((V:Int)==0)=false:=oS;have d1:decide (0<(V:Int))=true:=oS;clear lo H4;go_wp2_with fail;go_region;all_goals go_wp2_with fail
    all_goals (
     obtain⟨Z,g,G,H,O,bZ,_⟩:=A.fill Hc Hk Up Up;rw [<- g];clear g;refine zF (v:=Ul #[Uo #[.map Up,.map Up],.iface 363 ev]) (by simp [results,results132,go_sem,G,H]) ?_;rw [<- HP.out];exact⟨O.trans (G2.bw zI.drew),.inr ⟨HN,_,_,rfl⟩⟩)
   ·have Gv:Hid (Qc1 f n (fun r q=>inB (L r) q q) (d+1) p acc x=Qkx f n (fun r q=>inB (L r) q q) (Qc1 f n (fun r q=>inB (L r) q q) d) p V (ByteArray.empty,0) acc x1):=hid (by
     have hh:=Hl.out;unfold Qc1;rw [H2.out];simp only [YB];by_cases T:V=0
     ·subst T;rw [if_pos rfl,if_pos oM];rfl
     ·rw [if_neg T,if_neg oM])
    have Jd:V=0 \/S<8:=oM;have G3:Hid (V=0 ->p=[]):=hid (fun T=>List.length_eq_zero_iff.1 (oH Hl.1));clear H2;by_cases Hs:V=0
    ·have Kp:=hid Hs;have o:((V:Int)==0)=true:=(by simp [Hs]);have c2:¬(0:Int)<S:=oM;have c3:¬(0:Int)<(V:Int):=oM;clear Hs;go_wp2_with fail;refine(Qdx w1).mono ?_;rintro e w2 ⟨s,h,rfl,Gr,Kv,Kw,m1,m2,b2⟩;clear o c2 c3 H4 Gj;obtain⟨W3,Ha⟩:=zE ((w2.alloc (Uj #[.map (Uq s),.map (Uq h)] 172)).alloc (Uj #[Um ⟨#[]⟩,Ud 0] 230));have b3:Bl w2 W3:=Ha▸Qak _ _ _;have Gh:Hid (Bx2 W3 w2.heap.size (.map (Uq s)) (.map (Uq h))):=hid (Ha▸(Bx2.made w2 _ _ _).allocs _);have Hq:Hid (Bx2 W3 (w2.heap.size+1) (Um ⟨#[]⟩) (Ud 0)):=hid (by rw [<- Ha];simpa using Bx2.made (w2.alloc (Uj #[.map (Uq s),.map (Uq h)] 172)) (Um ⟨#[]⟩) (Ud 0) 230);have He:=Qaa b2 b3;have Gf:=hid (Hg.bw He);have H8:=hid (Hc.trans (G2.bw He));have Gb:=hid (A.g2 (G2.bw (tb:=tb) (ub:=ub) He) Hi Hj);have K2:=Hc.size;have K1:=A.lt;have K3:=b2.size;have Hw:=m1.lt;have Gq:=m2.lt;have Ga:Hid (TL W3 w.heap.size [] (Qad p 3) (⟨#[]⟩,0) (d+2) 0 (s,h)):=hid (TL.new (x0:=(s,h)) _ _ _ (m1.same (b3.block s m1.lt)) (m2.same (b3.block h m2.lt)) Gr ⟨oQ,by show w.heap.size<=h;omega⟩);clear m1 m2 b2 b3 He Hg Hc A;go_wp2_with fail;try rw [Ha]
     clear Ha;go_loopw [42] (fun iv wr=>∃(k y:Nat) (l:List Lf) (Y:ByteArray) (U:Int),k<=V/\ iv=Ud (k:Int)/\ (acc++l).length<=1000/\ w2.heap.size+1<wr.heap.size/\ Hid (TS wr tb B kb ub bs hi a n c f aT aS aL aE L (y:Int) (acc++l))/\ Hid (G2 tb ub w wr)/\ Hid (NB wr w.heap.size)/\
      Hid (Bx2 wr w2.heap.size (.map (Uq s)) (.map (Uq h)))/\ Hid (Bx2 wr (w2.heap.size+1) (Um Y) (Ud U))/\ Hid (TL wr w.heap.size l (Qad p 3) (Y,U) (d+2) k (s,h))/\
      Hid (Qc1 f n (fun r q=>inB (L r) q q) (d+1) p acc x=Qkx f n (fun r q=>inB (L r) q q) (Qc1 f n (fun r q=>inB (L r) q q) d) p (V - k) (Y,U) (acc++l) y)) (fun iv _=>V - (intOf iv).toNat)
     case atStart=>exact⟨0,x1,[],⟨#[]⟩,0,Uv _,rfl,oW hl,Hq.lt,oW Gf,H8,Gb,Gh,Hq,Ga,hid (by rw [Gv.out];simp;rfl)⟩
     case round=>
      obtain⟨k,y,l,Y,U,Ks,rfl,Hu,K4,M,hG,Q,hX,hD,hM,Hb⟩:=hrel;by_cases Gp:k<V
      ·exact absurd Gp (oH Kp)
      ·obtain rfl:k=V:=oM;have HY:Hid (Qc1 f n (fun r q=>inB (L r) q q) (d+1) p acc x=Uq (acc++l,y)):=hid (by
        rw [Hb.out,YP];rfl)
       obtain⟨x0,Kh⟩:=hX.q2;obtain⟨u0,k0⟩:=Q.c0;obtain⟨u1,k1⟩:=Q.c1;have I:=Q.f0;have H6:=hid k0;clear Hb;go_wp2_with fail;obtain⟨Z,g,G,H,O,bZ,gg⟩:=Q.fill hG Hk (Uq s) (Uq h);rw [<- g];clear g;refine zF (v:=Ul #[Uo #[.map (Uq s),.map (Uq h)],.nilIface]) (by simp [results,results132,go_sem,G,H]) ?_;rw [<- HP.out];obtain⟨N,H3,j1,j2,j3⟩:=hM.full;have j4:=hM.some';refine⟨O,.inl ⟨l,y,H3,N,(s,h),HY,rfl,M.gr gg hhi,j3,?_,j2,Hu,j1.box H6 gg⟩⟩;by_cases T:k=0
       ·exact .inr (by rw [G3 T];rfl)
       ·exact .inl (fun e=>by rw [e] at j4;simp at j4;omega)
    ·have o:((V:Int)==0)=false:=(by simp [Hs]);have c2:(0:Int)<(V:Int):=oM;have c3:(S==8)=false:=oS;clear Hs;go_wp2_with fail;refine(Qdx w1).mono ?_;rintro e w2 ⟨s,h,rfl,Gr,Kv,Kw,m1,m2,b2⟩;clear o c2 c3 H4 Gj;obtain⟨W3,Ha⟩:=zE ((w2.alloc (Uj #[.map (Uq s),.map (Uq h)] 172)).alloc (Uj #[Um ⟨#[]⟩,Ud 0] 230));have b3:Bl w2 W3:=Ha▸Qak _ _ _;have Gh:Hid (Bx2 W3 w2.heap.size (.map (Uq s)) (.map (Uq h))):=hid (Ha▸(Bx2.made w2 _ _ _).allocs _);have Hq:Hid (Bx2 W3 (w2.heap.size+1) (Um ⟨#[]⟩) (Ud 0)):=hid (by rw [<- Ha];simpa using Bx2.made (w2.alloc (Uj #[.map (Uq s),.map (Uq h)] 172)) (Um ⟨#[]⟩) (Ud 0) 230);have He:=Qaa b2 b3;have Gf:=hid (Hg.bw He);have H8:=hid (Hc.trans (G2.bw He));have Gb:=hid (A.g2 (G2.bw (tb:=tb) (ub:=ub) He) Hi Hj);have K2:=Hc.size;have K1:=A.lt;have K3:=b2.size;have Hw:=m1.lt;have Gq:=m2.lt;have Ga:Hid (TL W3 w.heap.size [] (Qad p 3) (⟨#[]⟩,0) (d+2) 0 (s,h)):=hid (TL.new (x0:=(s,h)) _ _ _ (m1.same (b3.block s m1.lt)) (m2.same (b3.block h m2.lt)) Gr ⟨oQ,by show w.heap.size<=h;omega⟩);clear m1 m2 b2 b3 He Hg Hc A;go_wp2_with fail;try rw [Ha]
     clear Ha;go_loopw [42] (fun iv wr=>∃(k y:Nat) (l:List Lf) (Y:ByteArray) (U:Int),k<=V/\ iv=Ud (k:Int)/\ (acc++l).length<=1000/\ w2.heap.size+1<wr.heap.size/\ Hid (TS wr tb B kb ub bs hi a n c f aT aS aL aE L (y:Int) (acc++l))/\ Hid (G2 tb ub w wr)/\ Hid (NB wr w.heap.size)/\
      Hid (Bx2 wr w2.heap.size (.map (Uq s)) (.map (Uq h)))/\ Hid (Bx2 wr (w2.heap.size+1) (Um Y) (Ud U))/\ Hid (TL wr w.heap.size l (Qad p 3) (Y,U) (d+2) k (s,h))/\
      Hid (Qc1 f n (fun r q=>inB (L r) q q) (d+1) p acc x=Qkx f n (fun r q=>inB (L r) q q) (Qc1 f n (fun r q=>inB (L r) q q) d) p (V - k) (Y,U) (acc++l) y)) (fun iv _=>V - (intOf iv).toNat)
     case atStart=>exact⟨0,x1,[],⟨#[]⟩,0,Uv _,rfl,oW hl,Hq.lt,oW Gf,H8,Gb,Gh,Hq,Ga,hid (by rw [Gv.out];simp;rfl)⟩
     case round=>
      obtain⟨k,y,l,Y,U,Ks,rfl,Hu,K4,M,hG,Q,hX,hD,hM,Hb⟩:=hrel;by_cases Gp:k<V
      ·obtain⟨m,hm⟩:∃m,V - k=m+1:=⟨V - k - 1,oM⟩;have Jf:S<8:=oM;have Gy:=hid (Qrg (EX:=exT kb ub) tb B a n c f aT aS aL aE y Y U wr hn hnc hcc HF M.seg M.cur M.err Gm (fun z hz=>(M.ab z hz).1));obtain⟨d0,d1⟩:=hD.q2;go_wp2_with fail;clear d0 d1;refine Gy.mono ?_;clear Gy;rintro e w4 ⟨g4,⟨yk,x2,hz,rfl,G5⟩|⟨hz,t,v,rfl⟩⟩
       ·obtain⟨K,X⟩:=yk;obtain⟨Hv,Ky,Kt,Ku⟩:=Qkz HF hz;obtain⟨kl,Kc⟩:=QhT (s:=K) (k:=X) (by simp only at Ky;unfold maxLen;omega) (wfI oM oM);have H9:=hid Kc;have H7:=hid Hv;simp only at Kt Ku;obtain⟨W5,Ht⟩:=zE (w4.alloc (Uj #[Um K,Ud X] 230));have b5:Bl w4 W5:=Ht▸zO _ _;have z5:W5.heap.size=w4.heap.size+1:=Ht▸oP;have g5:G2 tb ub wr W5:=(G2.t g4).trans (G2.bw b5);have Y5:Bx2 W5 w4.heap.size (Um K) (Ud X):=Ht▸Bx2.made w4 _ _ _;have Kf:=g4.size;have Gt:=hG.size;have Gg:=hid ((M.t g4 G5).bw b5);have Gx:=hid (Qrh tb B kb ub bs hi a n c f aT aS aL aE L x2 (acc++l) K X (S+1) p (Qc1 f n (fun r q=>inB (L r) q q) d) (d+1) W5 hn hnc hcc HF oM Gg oM HS Hu (fun e3 W' hW' hs'=>by
         subst e3;have:=Ge (oH Hl.1) K x2 (acc++l) W' hW' hs' Hu;rw [Qfo] at this;exact this))
        obtain⟨y0,y1⟩:=Y5.q2;have Hd:=hid Y5;have G4:=hid z5;have Hm:=hid g5;clear Y5 g5 b5 z5 G5 Kc Hv;go_wp2_with fail;try rw [Ht]
        clear Ht y0 y1;refine Gx.mono ?_;clear Gx;rintro e w6 ⟨g6,⟨J,x3,H3,N1,K8,r1,rfl,t6,G6,G7,G8,G9,Ka⟩|⟨r1,t,v,rfl⟩⟩
        ·obtain⟨s1,s2⟩:=K8;have H5:J≠[]:=G7.resolve_right oP;have Gd:Hid (Qc1 f n (fun r q=>inB (L r) q q) (d+1) p acc x=Qkx f n (fun r q=>inB (L r) q q) (Qc1 f n (fun r q=>inB (L r) q q) d) p (V - (k+1)) (K,X) (acc++(l++J)) x3):=hid (by
          rw [Hb.out,hm,show V - (k+1)=m by omega];show (Qgd f n (Y,U) y).bind _=_;rw [hz];simp only [YB];rw [r1];simp only [YB,Vu])
         obtain⟨E,Hp⟩:=zE (w6.alloc (Uj #[.map (Uq s1),.map (Uq s2)] 172));have b7:Bl w6 E:=Hp▸zO _ _;have V7:Bx2 E w6.heap.size (.map (Uq s1)) (.map (Uq s2)):=Hp▸Bx2.made w6 _ _ _;have C:G2 tb ub W5 E:=g6.trans (G2.bw b7);have D:G2 tb ub wr E:=Hm.trans C;have Kg:=G4.out;have Jg:=g6.size;have X7:Bx2 E w2.heap.size (.map (Uq s)) (.map (Uq h)):=⟨(D.cell oM oM oM).trans hX.c0,(D.cell oM oM oM).trans hX.c1,fun i=>(D.frozen oM oM oM).trans (hX.f i),Ut hX.lt D.size⟩;have D7:Bx2 E (w2.heap.size+1) (Um Y) (Ud U):=⟨(D.cell oM oM oM).trans hD.c0,(D.cell oM oM oM).trans hD.c1,fun i=>(D.frozen oM oM oM).trans (hD.f i),Ut hD.lt D.size⟩;have Y7:Bx2 E w4.heap.size (Um K) (Ud X):=⟨(C.cell oM oM oM).trans Hd.c0,(C.cell oM oM oM).trans Hd.c1,fun i=>(C.frozen oM oM oM).trans (Hd.f i),Ut Hd.lt C.size⟩;have G0:=hid (t6.bw b7);have Hn:=hid (hG.trans D);have R:=hid (Q.g2 D Hi Hj);obtain⟨cc,F,Gn,Ke,Hh⟩:=hM.hang D Gs Kz (Ka.bw b7) oM Gt H7 G6 H5 G8;have Kb:cc<maxLen:=by
          have h1:(acc++l++J).length=acc.length+(l++J).length:=(by simp [Uy]);have h2:(l++J).length<=1000:=oM;have h3:d+1+1<=10:=oH Hl.2;have h4:=YQ h3 h2;unfold maxLen;omega
         have Hf:=hid Hh;obtain⟨w9,r9,m9,g9⟩:=Ke.store Qa4 (fun _ _=>Qb1) underlying169 Kb (x:=(K,X)) (y:=(s1,s2)) H9;have Kx:s<w2.heap.size:=Hw;have cg:∀b i,b≠s ->b<E.heap.size ->w9.cell? (Ua b i)=E.cell? (Ua b i):=fun b i h1 h2=>UB (a:=(Ua b i)) (g9.block b h2 (fun e=>h1 (by injection e)));have fg:∀b i,b≠s ->b<E.heap.size ->w9.frozen? (Ua b i)=E.frozen? (Ua b i):=fun b i h1 h2=>Ys (a:=(Ua b i)) (g9.block b h2 (fun e=>h1 (by injection e)));have v0:=(cg w4.heap.size 0 oM Y7.lt).trans Y7.c0;have v1:=(cg w4.heap.size 1 oM Y7.lt).trans Y7.c1;have D9:Bx2 w9 (w2.heap.size+1) (Um Y) (Ud U):=⟨(cg _ 0 oM D7.lt).trans D7.c0,(cg _ 1 oM D7.lt).trans D7.c1,fun i=>(fg _ i oM D7.lt).trans (D7.f i),Ut D7.lt g9.size⟩;have X9:Bx2 w9 w2.heap.size (.map (Uq s)) (.map (Uq h)):=⟨(cg _ 0 oM X7.lt).trans X7.c0,(cg _ 1 oM X7.lt).trans X7.c1,fun i=>(fg _ i oM X7.lt).trans (X7.f i),Ut X7.lt g9.size⟩;have G1:=hid (G0.gr g9 oM);have Gw:=hid (Hn.gr g9 oM);have Gc:=hid (R.same (g9.block w.heap.size R.lt (fun e=>oI e)) g9.size);have Gz:=hid (Hf w9 g9 m9);obtain⟨Zw,Gk⟩:=zE ((w9.setCell (Ua (w2.heap.size+1) 0) (Um K)).setCell (Ua (w2.heap.size+1) 1) (Ud X));have gz:w9.grownBy Zw (Uq (w2.heap.size+1)):=by
          rw [<- Gk];exact⟨rfl,rfl,rfl,by simp [UC],fun j hj H5=>(zH _ _ _ _ (fun e=>H5 (by rw [e]))).trans (zH _ _ _ _ (fun e=>H5 (by rw [e])))⟩
         have DZ:Bx2 Zw (w2.heap.size+1) (Um K) (Ud X):=by
          rw [<- Gk];refine⟨?_,?_,fun i=> ?_,by simpa [UC] using D9.lt⟩
          ·rw [UI _ _ _ _ oP];exact UH _ _ _ D9.c0
          ·exact UH _ _ _ (by rw [UI _ _ _ _ oP];exact D9.c1)
          ·simpa using D9.f i
         have Gu:=hid DZ;have Kq:Hid (Bx2 Zw w2.heap.size (.map (Uq s)) (.map (Uq h))):=hid (by
          have e:=gz.block w2.heap.size X9.lt (fun e=>oI e);exact⟨(UB (a:=(Ub w2.heap.size)) e).trans X9.c0,(UB (a:=(Ua w2.heap.size 1)) e).trans X9.c1,fun i=>(Ys (a:=(Ua w2.heap.size i)) e).trans (X9.f i),Ut X9.lt gz.size⟩)
         have Ko:=hid (G1.gr gz oM);have Kk:=hid (Gw.gr gz oM);have Kn:=hid (Gc.same (gz.block w.heap.size Gc.lt (fun e=>oI e)) gz.size);have Kl:=hid (Gz.box D9.c0 gz);obtain⟨x0,Kh⟩:=X7.q2;obtain⟨y0,y1⟩:=Y7.q2;obtain⟨n0,n1⟩:=V7.q2;obtain⟨e0,e1,ef⟩:=D9.p2;have Gl:(acc++(l++J)).length<=1000:=(by rw [<- Vu];exact G9);unfold QaE Qbd at r9;dsimp only at r9;clear m9 g9 cg fg D9 X9 gz DZ G1 Gw Gc Gz Hf Hh Ke X7 D7 Y7 V7 C D b7 Hd Gg Hm G0 Hn R H9 G6 G7 G8 G9 Ka t6 g6 r1 hz M hG Q hX hD hM Hb hm Kb Gn;go_wp2_with fail;try rw [Gk]
         go_roundw;case rel=>exact⟨k+1,x3,l++J,K,X,Gp,oN,Gl,Gu.lt,by rw [<- Vu];exact Ko,Kk,Kn,Kq,Gu,Kl,Gd⟩
         case measure=>exact oE
        ·have HN:Hid (Qc1 f n (fun r q=>inB (L r) q q) (d+1) p acc x=Up):=hid (by
          rw [Hb.out,hm];show (Qgd f n (Y,U) y).bind _=_;rw [hz];simp only [YB];rw [r1];rfl)
         have b7:Bl w6 (w6.alloc (Uj #[.map Up,.map Up] 172)):=zO _ _;have C:G2 tb ub W5 (w6.alloc (Uj #[.map Up,.map Up] 172)):=g6.trans (G2.bw b7);have Hn:=hid (hG.trans (Hm.trans C));have R:=hid (Q.g2 (Hm.trans C) Hi Hj);have Kg:=G4.out;have K5:=g6.size;have K0:=hG.size;have Kf:=Hm.size;have y0:(w6.alloc (Uj #[.map Up,.map Up] 172)).cell? (Ub w4.heap.size)=Uq (Um K):=(C.cell Hd.lt oM oM).trans Hd.c0;have y1:(w6.alloc (Uj #[.map Up,.map Up] 172)).cell? (Ua w4.heap.size 1)=Uq (Ud X):=(C.cell Hd.lt oM oM).trans Hd.c1;have Hx:w4.heap.size≠w.heap.size:=oH g4.size;have Km:=hid Hx;clear Kg K5 K0 Kf Hx g6 C b7 r1 hz hX hD hM M hG Q Hb hm Hm Hd Gg H9;go_wp2_with fail;obtain⟨E,Hp⟩:=zE (w6.alloc (Uj #[.map Up,.map Up] 172));have z7:w6.heap.size+1=E.heap.size:=Hp▸oP;rw [Hp] at Hn R y0 y1 ⊢;clear Hp;have Hr:∀(v:Ur) (i:Nat) (u:Value) (j:Nat),(v.setCell (Ua w.heap.size i) u).cell? (Ua w4.heap.size j)=v.cell? (Ua w4.heap.size j):=fun v i u j=>UF _ _ _ _ (by have:=Km.out;simpa using this.symm);have K9:=(Hr E 0 (.map Up) 0).trans y0;have Jh:=(Hr _ 1 (.map Up) 0).trans K9;have Ja:=(Hr E 0 (.map Up) 1).trans y1;have Ji:=(Hr _ 1 (.map Up) 1).trans Ja;have bP:Bl E (E.alloc (Uj #[Um K,Ud X,.iface t v] 250)):=zO _ _;have Kj:=hid (Hn.trans (G2.bw bP));have H1:=hid (R.g2 (G2.bw (tb:=tb) (ub:=ub) bP) Hi Hj);obtain⟨u0,k0⟩:=R.c0;obtain⟨u1,k1⟩:=R.c1;have I:=R.f0;obtain⟨v0,l0⟩:=H1.c0;obtain⟨v1,l1⟩:=H1.c1;have fP:=H1.f0;clear Hr bP;go_region;all_goals go_wp2_with fail
         ·obtain⟨Z,g,G,H,O,bZ,_⟩:=H1.fill Kj Hk Up Up;rw [<- g];clear g;refine zF (v:=Ul #[Uo #[.map Up,.map Up],.iface 248 (Uk (Uc E.heap.size))]) (by simp [results,results132,go_sem,G,H]) ?_;rw [<- HP.out];exact⟨O.trans (G2.bw zI.drew),.inr ⟨HN,_,_,rfl⟩⟩
         ·obtain⟨Z,g,G,H,O,bZ,gg⟩:=R.fill Hn Hk Up Up;rw [<- g];clear g;have Kd:w.heap.size<Z.heap.size:=Ut R.lt gg.size;have bQ:Bl Z (Z.alloc (Uj #[Um K,Ud X,.iface t v] 250)):=zO _ _;have K6:=(bQ.cell (p:=(Ub w.heap.size)) Kd).trans G;have K7:=(bQ.cell (p:=(Ua w.heap.size 1)) Kd).trans H;have gQ:=O.trans (G2.bw bQ);refine zF (v:=Ul #[Uo #[.map Up,.map Up],.iface 248 (Uk (Uc E.heap.size))]) (by simp [results,results132,go_sem,K6,K7]) ?_;rw [<- HP.out];exact⟨gQ.trans (G2.bw zI.drew),.inr ⟨HN,_,_,rfl⟩⟩
       ·have HN:Hid (Qc1 f n (fun r q=>inB (L r) q q) (d+1) p acc x=Up):=hid (by
         rw [Hb.out,hm];show (Qgd f n (Y,U) y).bind _=_;rw [hz];rfl)
        have bA:Bl w4 (w4.alloc (Uj #[Um ⟨#[]⟩,Ud 0] 230)):=zO _ _;have gA:=(G2.t (ub:=ub) g4).trans (G2.bw bA);have Ki:=hid (hG.trans gA);have H0:=hid (Q.g2 gA Hi Hj);obtain⟨u0,k0⟩:=H0.c0;obtain⟨u1,k1⟩:=H0.c1;have I:=H0.f0;clear g4 gA bA hz hX hD hM M hG Q Hb hm;go_wp2_with fail;obtain⟨Z,g,G,H,O,bZ,_⟩:=H0.fill Ki Hk Up Up;rw [<- g];clear g;refine zF (v:=Ul #[Uo #[.map Up,.map Up],.iface t v]) (by simp [results,results132,go_sem,G,H]) ?_;rw [<- HP.out];exact⟨O,.inr ⟨HN,_,_,rfl⟩⟩
      ·obtain rfl:k=V:=oM;have HY:Hid (Qc1 f n (fun r q=>inB (L r) q q) (d+1) p acc x=Uq (acc++l,y)):=hid (by
        rw [Hb.out,YP];rfl)
       obtain⟨x0,Kh⟩:=hX.q2;obtain⟨u0,k0⟩:=Q.c0;obtain⟨u1,k1⟩:=Q.c1;have I:=Q.f0;have H6:=hid k0;clear Hb;go_wp2_with fail;obtain⟨Z,g,G,H,O,bZ,gg⟩:=Q.fill hG Hk (Uq s) (Uq h);rw [<- g];clear g;refine zF (v:=Ul #[Uo #[.map (Uq s),.map (Uq h)],.nilIface]) (by simp [results,results132,go_sem,G,H]) ?_;rw [<- HP.out];obtain⟨N,H3,j1,j2,j3⟩:=hM.full;have j4:=hM.some';refine⟨O,.inl ⟨l,y,H3,N,(s,h),HY,rfl,M.gr gg hhi,j3,?_,j2,Hu,j1.box H6 gg⟩⟩;by_cases T:k=0
       ·exact .inr (by rw [G3 T];rfl)
       ·exact .inl (fun e=>by rw [e] at j4;simp at j4;omega)
 ·rw [Qa5] at hr;have HN:Hid (Qc1 f n (fun r q=>inB (L r) q q) (d+1) p acc x=Up):=hid (by unfold Qc1;rw [hr];rfl);have Hc:=hid (Hy.trans (G2.t g1));have A:=hid (Hz.g2 (G2.t (ub:=ub) g1) Hi Hj);obtain⟨u0,k0⟩:=A.c0;obtain⟨u1,k1⟩:=A.c1;have I:=A.f0;clear g1 hr cu Hy Hz Ho;go_wp2_with fail;obtain⟨Z,g,G,H,O,bZ,_⟩:=A.fill Hc Hk Up Up;rw [<- g];clear g;refine zF (v:=Ul #[Uo #[.map Up,.map Up],.iface t v]) (by simp [results,results132,go_sem,G,H]) ?_;rw [<- HP.out];exact⟨O,.inr ⟨HN,_,_,rfl⟩⟩
theorem QpY (tb B kb ub bs hi:Nat)(a:Option Us)(n c:Nat)(f:Nat ->Int)(aT aS aL aE:Us)(L:Int ->List (Int×Int))(hn:n<=1048576)(hnc:n<=c)(hcc:c<=9223372036854775807)(hf:Byt f)(hS:∀r,Srt (L r)/\ (L r).length<=1000000):
  ∀(d:Nat) (p:List ByteArray),p.length+d=8 ->∀(x:Nat) (acc:List Lf) (w:Ur),TS w tb B kb ub bs hi a n c f aT aS aL aE L (x:Int) acc ->hi<=w.heap.size ->acc.length<=1000 ->
  Cl 132 #[Uk (Uc tb),Ud (p.length:Int)] w fun e w'=>NdP w tb B kb ub bs hi a n c f aT aS aL aE L acc (Qc1 f n (fun r q=>inB (L r) q q) (d+1) p acc x) (Qad p 3) (d+2) e w'
 | 0,p,hp,x,acc,w,hT,hh,hl=>Qi0 tb B kb ub bs hi a n c f aT aS aL aE L 0 p hp hn hnc hcc hf hS (fun h=>absurd h oM) x acc w hT hh hl
 | d+1,p,hp,x,acc,w,hT,hh,hl=>Qi0 tb B kb ub bs hi a n c f aT aS aL aE L (d+1) p hp hn hnc hcc hf hS (fun h s x' acc' W hT' hh' hl'=>by
   have:=QpY tb B kb ub bs hi a n c f aT aS aL aE L hn hnc hcc hf hS d (p++[s]) oS x' acc' W hT' hh' hl';rw [show ((p++[s]).length:Int)=(p.length:Int)+1 by simp] at this;exact this) x acc w hT hh hl
noncomputable def gsR (f:Nat ->Int)(n:Nat):Option (List (Int×List (Int×Int))×List Lf):=
 if 4000<n then Up else(rdC f n 0).bind fun a=>(Qc1 f n (fun r q=>inB (lkS a.1 r) q q) 9 [] [] a.2).bind fun b=>if b.2<n then Up else Uq (a.1,b.1)
noncomputable def gsS (f:Nat ->Int)(n:Nat):Option (List Rn×List Lf):=
 if 4000<n then Up else(Qeo f n 0).bind fun a=>(QdD f n 9 [] [] a.2).bind fun b=>
  if yes (b.2=n/\ (psZ (lR a.1) (lF a.1) (lT a.1) a.1.length b.1).2=0/\ Qby (fun i=>(psZ (lR a.1) (lF a.1) (lT a.1) a.1.length b.1).1.getD i 0) 0 (psZ (lR a.1) (lF a.1) (lT a.1) a.1.length b.1).1.length=Qby f 0 n)=true then Uq (a.1,b.1) else Up
theorem Qd6 {α β:Type}{f g:α ->List β}:∀{ys:List α},(∀y∈ys,f y=g y) ->ys.flatMap f=ys.flatMap g
 | [],_=>rfl
 | y::ys,h=>by
  rw [Vz,Vz,h y List.mem_cons_self,Qd6 fun z hz=>h z (List.mem_cons_of_mem _ hz)]
theorem Qh4 {R F T:Nat ->Int}{n:Nat}{l:List Lf}(h:QbU R F T n l l.length):∀(d:Nat) (p:List ByteArray),p.length+(d+1)=8 ->tB l (d+1) p=tB l (d+2) p
 | d,p,hp=>by
  rw [QfV,QfV];congr 1;refine Qd6 fun y hy=> ?_;unfold kB;by_cases k:y.2=3
  ·obtain⟨j,q,u⟩:=((Qem p h l.length zL).2 y).1 hy;have m:y=(y.1,3):=(by rw [<- k]);have r:nx (p++[y.1]) (gL l j)≠Up:=Qdc.1 (m▸u);have v:=(QfG.1 r).2;have z:=(h j q).1.1.2.1;simp at v;rw [if_pos k,if_pos k];match d,hp with
   | 0,hp=>omega
   | d+1,hp=>rw [Qh4 h d (p++[y.1]) oS]
  ·rw [if_neg k,if_neg k]
theorem Qno(h:QdC R F T m=true):KOk (fun r q=>QbD R F T r q q m):=fun r q hq=>by
 obtain⟨k,j,u,v,y⟩:=QjC R F T r q q m hq;have:=((Qax.1 h).1 k j).1;simp only [Qbe,Bool.and_eq_true,decide_eq_true_eq] at this;omega
theorem Qnv {g:List (Int×List (Int×Int))}(hok:okR (-1) 1000 g):(fun r q=>inB (lkS g r) q q)=fun r q=>QbD (lR (Qau g)) (lF (Qau g)) (lT (Qau g)) r q q (Qau g).length:=by
 funext r q;rw [QmD hok,<- (Qcw hok).2.1,Qf5]
theorem Qo4(h:At f 0 U)(hb:Byt f):Qby (fun i=>U.getD i 0) 0 U.length=Qby f 0 U.length:=by
 have e:(UT U.length).map (fun i=>UInt8.ofNat ((fun i=>U.getD i 0) (0+i)).toNat)=(UT U.length).map (fun i=>UInt8.ofNat (f (0+i)).toNat):=by
  refine Vr fun i hi=> ?_;have:=h i (List.mem_range.1 hi);dsimp only;rw [this,Uw]
 unfold Qby;rw [e]
theorem Qo1(hf:Byt f)(hU:By U)(h:Qby (fun i=>U.getD i 0) 0 U.length=Qby f 0 n):U.length=n/\ At f 0 U:=by
 have k:U.length=n:=by
  have:=congrArg ByteArray.size h;rwa [Qdk,Qdk] at this
 subst k;refine⟨rfl,fun i hi=> ?_⟩;have:=congrArg QaP h;rw [Qb5 hU.byt,Qb5 hf] at this;have j:=congrArg (fun l=>l[i]?) this;simp [hi] at j;rw [Uw,<- j];simp [UR,hi]
theorem Qny(hf:Byt f)(n:Nat):gsS f n=(gsR f n).map fun a=>(Qau a.1,a.2):=by
 have F:∀g J,gsR f n=Uq (g,J) ->gsS f n=Uq (Qau g,J):=fun g J h=>by
  unfold gsR at h;unfold gsS;by_cases m:4000<n
  ·rw [if_pos m] at h;cases h
  ·rw [if_neg m] at h ⊢;obtain⟨a,v,h⟩:=Qab.1 h;obtain⟨b,r,h⟩:=Qab.1 h;split at h
   ·cases h
   ·rename_i o;simp only [Option.some.injEq,Prod.mk.injEq] at h;obtain⟨rfl,rfl⟩:=h;obtain⟨g,R⟩:=a;obtain⟨J,x'⟩:=b;simp only at r o ⊢;rw [show ((0:Int))=((0:Nat):Int) from rfl,QfM] at v;obtain⟨V,q,Z,C⟩:=(Qcj hf (Uv _)).1 v;rw [Ql2 hf (Uv _) v];simp only [YB];obtain⟨A,G,H,S⟩:=Qcw V;rw [Qnv V] at r;rw [Qkb hf 9 r];simp only [YB];obtain⟨⟨v1,v2,v3⟩,K,T,W⟩:=(Qd1 hf (Qno A)).1 ⟨r,C⟩;have k:Qcn (lR (Qau g)) (lF (Qau g)) (lT (Qau g)) (Qau g).length J:=⟨A,v3,v1,v2⟩;have Y:psB (lR (Qau g)) (lF (Qau g)) (lT (Qau g)) (Qau g).length J=Qi6 g++tB J 9 []:=by
     unfold psB;rw [G,H,Qh4 v1 7 [] rfl]
    have p:(Qi6 g++tB J 9 []).length=n:=(by rw [Vg];omega);have D:=Qe0 k (by rw [Y,p];omega);have L:At f 0 (Qi6 g++tB J 9 []):=At.app.2 ⟨q,by rw [Uw] at Z ⊢;rw [<- Z];exact K⟩;rw [Qal]
    ·rfl
    ·rw [D,Y];refine⟨oM,rfl,?_⟩;have:=Qo4 L hf;rw [p] at this;rw [p];exact this
 have P:∀j J,gsS f n=Uq (j,J) ->∃g,gsR f n=Uq (g,J)/\ Qau g=j:=fun j J h=>by
  unfold gsS at h;by_cases m:4000<n
  ·rw [if_pos m] at h;cases h
  ·rw [if_neg m] at h;obtain⟨a,v,h⟩:=Qab.1 h;obtain⟨b,r,h⟩:=Qab.1 h;by_cases s:b.2=n/\ (psZ (lR a.1) (lF a.1) (lT a.1) a.1.length b.1).2=0/\ Qby (fun i=>(psZ (lR a.1) (lF a.1) (lT a.1) a.1.length b.1).1.getD i 0) 0 (psZ (lR a.1) (lF a.1) (lT a.1) a.1.length b.1).1.length=Qby f 0 n
   ·rw [Qal s] at h;simp only [if_true,Option.some.injEq,Prod.mk.injEq] at h;obtain⟨rfl,rfl⟩:=h;obtain⟨o,u,y⟩:=s;obtain⟨j,R⟩:=a;obtain⟨J,x'⟩:=b;simp only at u y o ⊢;have k:Qcn (lR j) (lF j) (lT j) j.length J:=by
     by_cases e:Qcn (lR j) (lF j) (lT j) j.length J
     ·exact e
     ·rw [Qig e] at u;cases u
    have I:(psB (lR j) (lF j) (lT j) j.length J).length<=4000:=by
     by_cases e:(psB (lR j) (lF j) (lT j) j.length J).length<=4000
     ·exact e
     ·rw [QdM k e] at u;cases u
    rw [Qe0 k I] at y;simp only at y;obtain⟨M,z,t⟩:=Qi5 k.1;rw [Qgs] at t;have N:LvB J:=k.lvB;obtain⟨Q,q⟩:=Qo1 hf (U:=psB (lR j) (lF j) (lT j) j.length J) (By.app (Qe2 k.1) (QfU k.2.2.1 N _ _)) y;unfold psB at Q q;rw [Vg] at Q;rw [At.app,Uw] at q;have X:Qhw f n 0=Uq (QiX (Lk (lR j) (lF j) (lT j) j.length),0+(Qi6 (QiX (Lk (lR j) (lF j) (lT j) j.length))).length):=(Qcj hf (Uv _)).2 ⟨M,by rw [z];exact q.1,rfl,by rw [z];omega⟩;refine⟨QiX (Lk (lR j) (lF j) (lT j) j.length),?_,t⟩;unfold gsR;rw [if_neg m,show ((0:Int))=((0:Nat):Int) from rfl,QfM,X];simp only [YB];rw [Qnv M,t,z,Uw];have E:tB J 9 []=tB J 8 []:=(Qh4 k.2.2.1 7 [] rfl).symm;have B:=((Qd1 (n:=n) hf (Qno k.1) (x:=(QeJ (Lk (lR j) (lF j) (lT j) j.length)).length) (x':=n) (l:=J)).2 ⟨⟨k.2.2.1,k.2.2.2,k.2.1⟩,by rw [E];exact q.2,by rw [E];omega,Uu _⟩).1;rw [B];simp
   ·rw [Qaj s] at h;cases h
 cases h:gsR f n with
 | none=>
  cases h2:gsS f n with
  | none=>rfl
  | some b=>
   obtain⟨g,O,_⟩:=P b.1 b.2 h2;rw [h] at O;cases O
 | some a=>exact F a.1 a.2 h
def mP (l:List Lf)(k0:Nat):Nat ->Nat
 | 0=>k0
 | i+1=>mP l k0 i+(gL l i).p.length+4
def mLf (k n:Nat):Lf:=⟨(UT n).map fun t=>mkT (k+t),((k+n:Nat):Int)%3==0,((k+n+1:Nat):Int),((k+n+2:Nat):Int),mkT (k+n+3)⟩
def mkL (l:List Lf)(k0:Nat):List Lf:=(UT l.length).map fun i=>mLf (mP l k0 i) (gL l i).p.length
theorem QfD (l:List Lf)(k0:Nat):(mkL l k0).length=l.length:=by simp [mkL]
theorem Qkh (l:List Lf)(k0:Nat)(hi:i<l.length):gL (mkL l k0) i=mLf (mP l k0 i) (gL l i).p.length:=by simp [gL,mkL,UR,hi]
theorem Qdv (k n:Nat):(mLf k n).p.length=n:=by simp [mLf]
theorem Qp6 (k n:Nat)(ht:t<n):gS (mLf k n).p t=mkT (k+t):=by simp [gS,mLf,UR,ht]
theorem Qke {l:List Lf}{k0:Nat}(hp:∀i,(gL l i).p.length<=1048576):∀i,mP l k0 i<=k0+i*1048580
 | 0=>by simp [mP]
 | i+1=>by have:=Qke (k0:=k0) hp i;have:=hp i;simp only [mP];omega
structure LWy (lo hi b:Nat)(l:List Lf)(P:Nat ->Option Us)(G:Nat ->Nat):Prop where
 b1:lo<=b
 b2:b<hi
 g1:∀i,i<l.length ->0<(gL l i).p.length ->P i=Uq ⟨G i,0,Up⟩/\ G i≠b/\ lo<=G i/\ G i<hi
 sep:∀i j,i<l.length ->j<l.length ->0<(gL l i).p.length ->0<(gL l j).p.length ->i≠j ->G i≠G j
structure LIn (w0 w:Ur)(lo hi b:Nat)(l:List Lf)(P:Nat ->Option Us)(Q G:Nat ->Nat)(k0 js jc:Nat):Prop where
 low:Btw lo hi w0 w
 run:∀(q:Nat) (cur:Array Value),w0.heap[q]? =Uq (Obj.cells cur 123 (0,0)) ->w.heap[q]? =w0.heap[q]?
 wr:∃C,Wr w b 117 (l.length*5) C
 pth:∀i,i<l.length ->w.cell? (Ua b (i*5))=Uq (Uf (P i) (gL l i).p.length (Q i))
 todo:∀i,js<=i ->i<l.length ->0<(gL l i).p.length ->PMk w (G i) (gL l i).p.length
 done:∀i,i<js ->i<l.length ->0<(gL l i).p.length ->Wr w (G i) 9 (gL l i).p.length (fun t=> Um (mkT (mP l k0 i+t)))
 cel:∀i,i<jc ->i<l.length ->w.cell? (Ua b (i*5+1))=Uq (Un (mLf (mP l k0 i) (gL l i).p.length).fl)/\ w.cell? (Ua b (i*5+2))=Uq (Ud (mLf (mP l k0 i) (gL l i).p.length).r)/\ w.cell? (Ua b (i*5+3))=Uq (Ud (mLf (mP l k0 i) (gL l i).p.length).q)/\ w.cell? (Ua b (i*5+4))=Uq (Um (mLf (mP l k0 i) (gL l i).p.length).v)
theorem LIn.bw{P:Nat ->Option Us}{Q G:Nat ->Nat}(h:LIn w0 w lo hi b l P Q G k0 js jc)(hb:Bl w w'):LIn w0 w' lo hi b l P Q G k0 js jc:=by
 obtain⟨C,k⟩:=h.wr;have e:=hb.block b k.lt;have q:∀i,w'.cell? (Ua b i)=w.cell? (Ua b i):=fun i=>UB (a:=(Ua b i)) e;refine⟨h.low.trans (Btw.bw hb),fun q j hq=>(hb.block q (Ut (Array.getElem?_eq_some_iff.1 hq).1 h.low.size)).trans (h.run q j hq),⟨C,k.same e⟩,fun i hi=>(q _).trans (h.pth i hi),fun i h1 h2 h3=> ?_,fun i h1 h2 h3=> ?_,fun i h1 h2=> ?_⟩
 ·obtain⟨j,m,r⟩:=h.todo i h1 h2 h3;exact⟨j,(hb.block _ (Array.getElem?_eq_some_iff.1 m).1).trans m,r⟩
 ·exact(h.done i h1 h2 h3).same (hb.block _ (h.done i h1 h2 h3).lt)
 ·rw [q,q,q,q];exact h.cel i h1 h2
theorem LIn.set{P:Nat ->Option Us}{Q G:Nat ->Nat}(hw:LWy lo hi b l P G)(h:LIn w0 w lo hi b l P Q G k0 js jc)(o:Nat)(u:Value)(ho:jc*5<o/\ o<jc*5+5):LIn w0 (w.setCell (Ua b o) u) lo hi b l P Q G k0 js jc:=by
 obtain⟨C,k⟩:=h.wr;have q:∀i,i≠o ->(w.setCell (Ua b o) u).cell? (Ua b i)=w.cell? (Ua b i):=fun i hi=>by simp [UI,Ne.symm hi]
 refine⟨h.low.set _ _ hw.b1 hw.b2,fun q cur hq=> ?_,⟨_,k.set o u⟩,fun i hi=>(q _ oM).trans (h.pth i hi),fun i h1 h2 h3=>(h.todo i h1 h2 h3).any,fun i h1 h2 h3=> ?_,fun i h1 h2=> ?_⟩
 ·refine(zH _ _ _ _ ?_).trans (h.run q cur hq);intro e;have m:q=b:=e;subst m;obtain⟨r,j,_⟩:=k;rw [h.run _ _ hq,hq] at j;injection j with j;injection j with _ k2;exact absurd k2 oD
 ·exact(h.done i h1 h2 h3).same (zH _ _ _ _ (hw.g1 i h2 h3).2.1)
 ·rw [q _ oM,q _ oM,q _ oM,q _ oM];exact h.cel i h1 h2
theorem LIn.str{P:Nat ->Option Us}{Q G:Nat ->Nat}(hw:LWy lo hi b l P G)(h:LIn w0 w lo hi b l P Q G k0 js js)(hj:js<l.length)(h0:0<(gL l js).p.length)(hg:w.grownBy w' (Uq (G js)))(hc:Wr w' (G js) 9 (gL l js).p.length (fun t=> Um (mkT (mP l k0 js+t))))(hpm:∀g' n',PMk w g' n' ->PMk w' g' n'):LIn w0 w' lo hi b l P Q G k0 (js+1) js:=by
 obtain⟨C,r⟩:=h.wr;have k:=hw.g1 js hj h0;have e:=hg.block b r.lt (fun e=>k.2.1 (by injection e with e;exact e.symm));have q:∀i,w'.cell? (Ua b i)=w.cell? (Ua b i):=fun i=>UB (a:=(Ua b i)) e;refine⟨h.low.trans (Btw.of hg k.2.2.1 k.2.2.2),fun q cur hq=> ?_,⟨C,r.same e⟩,fun i hi=>(q _).trans (h.pth i hi),fun i h1 h2 h3=>hpm _ _ (h.todo i oM h2 h3),fun i h1 h2 h3=> ?_,fun i h1 h2=> ?_⟩
 ·refine(hg.block q (Ut (Array.getElem?_eq_some_iff.1 hq).1 h.low.size) (fun e=> ?_)).trans (h.run q cur hq);injection e with e;subst e;obtain⟨v,j,_⟩:=h.todo js zL hj h0;rw [h.run _ _ hq,hq] at j;injection j with j;injection j with _ k2;exact absurd k2 oD
 ·by_cases m:i=js
  ·subst m;exact hc
  ·have u:=h.done i oM h2 h3;exact u.same (hg.block _ u.lt (fun e=>by injection e with e;exact hw.sep i js h2 hj h3 h0 m e))
 ·rw [q,q,q,q];exact h.cel i h1 h2
theorem LIn.skip{P:Nat ->Option Us}{Q G:Nat ->Nat}(h:LIn w0 w lo hi b l P Q G k0 js jc)(h0:(gL l js).p.length=0):LIn w0 w lo hi b l P Q G k0 (js+1) jc:=
 ⟨h.low,h.run,h.wr,h.pth,fun i h1=>h.todo i oM,fun i h1 h2 h3=>by
  by_cases j:i=js
  ·subst j;omega
  ·exact h.done i oM h2 h3,h.cel⟩
theorem LIn.seg{P:Nat ->Option Us}{Q G:Nat ->Nat}(hw:LWy lo hi b l P G)(h:LIn w0 w lo hi b l P Q G k0 l.length l.length)(hs:w.heap.size<=w'.heap.size)(hq:∀q,lo<=q ->q<hi ->q<w.heap.size ->(∀cur,w0.heap[q]? ≠Uq (Obj.cells cur 123 (0,0))) ->w'.heap[q]? =w.heap[q]?):QbK w' (Uc b) (mkL l k0):=by
 obtain⟨C,m⟩:=h.wr;have y:w'.heap[b]? =w.heap[b]? :=hq b hw.b1 hw.b2 m.lt (fun cur e=>by
  obtain⟨v,j,_⟩:=m;rw [h.run _ _ e,e] at j;injection j with j;injection j with _ k2;exact absurd k2 oD)
 have q:∀i,w'.cell? (Ua b i)=w.cell? (Ua b i):=fun i=>UB (a:=(Ua b i)) y;refine .inr ⟨b,0,rfl,Ut m.lt hs,fun i hi=> ?_⟩;rw [QfD] at hi;have c:=h.cel i hi hi;rw [Qkh l k0 hi,Qdv,q,q,q,q,q];refine⟨P i,Q i,oW (h.pth i hi),?_,oW c.1,by simpa using c.2.1,oW c.2.2.1,by simpa using c.2.2.2⟩;by_cases k:0<(gL l i).p.length
 ·have r:=h.done i hi hi k;have z:w'.heap[G i]? =w.heap[G i]? :=hq (G i) (hw.g1 i hi k).2.2.1 (hw.g1 i hi k).2.2.2 r.lt (fun cur e=>by
   obtain⟨v,j,_⟩:=r;rw [h.run _ _ e,e] at j;injection j with j;injection j with _ k2;exact absurd k2 oD)
  have u:=r.same z;refine .inr ⟨G i,0,(hw.g1 i hi k).1,u.lt,fun t ht=> ?_⟩;rw [Qdv] at ht;rw [Qp6 _ _ ht];simpa using u.cell ht
 ·exact .inl (by rw [Qdv];omega)
theorem Qkf (a:Option Us)(c k0:Nat)(w:Ur):Cl 91 #[Uf a 0 c,Ud (k0:Int)] w fun e w'=>e=Ui (Ud (k0:Int))/\ w'=w:=by
 go_enter func91,ntmps91;go_wp2_with fail;refine wp_loop_rounds 1 ?_;rw [rounds_succ];go_wp2_with fail;go_ret;exact⟨rfl,rfl⟩
theorem LIn.mark{P:Nat ->Option Us}{Q G:Nat ->Nat}(hw:LWy lo hi b l P G)(h:LIn w0 w lo hi b l P Q G k0 js js)(hj:js<l.length)(hk:mP l k0 js+(gL l js).p.length<=10000000000000):
  Cl 91 #[Uf (P js) (gL l js).p.length (Q js),Ud (mP l k0 js:Int)] w fun e w'=>e=Ui (Ud ((mP l k0 js+(gL l js).p.length:Nat):Int))/\ LIn w0 w' lo hi b l P Q G k0 (js+1) js:=by
 by_cases j:0<(gL l js).p.length
 ·obtain⟨C,u⟩:=(h.todo js zL hj j).wr;rw [(hw.g1 js hj j).1];refine(Qet (G js) (gL l js).p.length (Q js) (mP l k0 js) C w hk u).mono ?_;rintro e w' ⟨rfl,k,q,r⟩;exact⟨rfl,h.str hw hj j k q r⟩
 ·have m:(gL l js).p.length=0:=oM;rw [m];refine(Qkf (P js) (Q js) (mP l k0 js) w).mono ?_;rintro e w' ⟨rfl,rfl⟩;exact⟨rfl,h.skip m⟩
theorem Qhr (lo hi b c k0:Nat)(l:List Lf)(P:Nat ->Option Us)(Q G:Nat ->Nat)(w:Ur)(hk:k0<=4000000000000)(hn:l.length<=1048576)(hp:∀i,(gL l i).p.length<=1048576)(hw:LWy lo hi b l P G)(h:LIn w w lo hi b l P Q G k0 0 0):
  Cl 57 #[Uf (Uc b) l.length c,Ud (k0:Int)] w fun e w'=>e=Ui (Ud (mP l k0 l.length:Int))/\ LIn w w' lo hi b l P Q G k0 l.length l.length:=by
 have HI:=hid h;have s:=hid hw;have X:Hid (∀j,j<l.length ->∀wr,LIn w wr lo hi b l P Q G k0 j j ->Cl 91 #[Uf (P j) (gL l j).p.length (Q j),Ud (mP l k0 j:Int)] wr fun e w'=>e=Ui (Ud ((mP l k0 j+(gL l j).p.length:Nat):Int))/\ LIn w w' lo hi b l P Q G k0 (j+1) j):=hid (fun j T wr hI=>hI.mark hw T (by have:=Qke (k0:=k0) hp j;have:=hp j;omega));have Hd:=hid (Qke (l:=l) (k0:=k0) hp);clear h hw;go_enter func57,ntmps57;go_wp2_with fail;go_loopw [1,5] (fun q i wr=>∃(j m:Nat),j<=l.length/\ i=Ud (j:Int)/\ q=Ud (m:Int)/\ Hid (mP l k0 j=m)/\ Hid (LIn w wr lo hi b l P Q G k0 j j)) (fun _ i _=>l.length - (intOf i).toNat);case atStart=>exact⟨0,k0,Uv _,rfl,rfl,hid rfl,HI⟩
 case round=>
  obtain⟨j,m,T,rfl,rfl,u,o⟩:=hrel;by_cases I:j<l.length
  ·have i1:(0:Int)<=(j:Int):=UZ _;have i2:(j:Int)<(l.length:Int):=oM;have H:=o.pth j I;have y:=hid (X j I wr o);have He:=hp j;have Hg:m<=k0+j*1048580:=(by have:=Hd j;rw [u.out] at this;exact this);have E:Hid (mP l k0 (j+1)=m+(gL l j).p.length+4):=hid (by simp only [mP];rw [u.out]);have t:Hid (∀w',w'.cell? (Ua b (j*5+1))=Uq (Un (((m+(gL l j).p.length:Nat):Int)%3==0)) ->w'.cell? (Ua b (j*5+2))=Uq (Ud ((m+(gL l j).p.length+1:Nat):Int)) ->w'.cell? (Ua b (j*5+3))=Uq (Ud ((m+(gL l j).p.length+2:Nat):Int)) ->w'.cell? (Ua b (j*5+4))=Uq (Um (mkT (m+(gL l j).p.length+3))) ->LIn w w' lo hi b l P Q G k0 (j+1) j ->LIn w w' lo hi b l P Q G k0 (j+1) (j+1)):=hid (fun w' V Y Z R h=>⟨h.low,h.run,h.wr,h.pth,h.todo,h.done,fun i h1 h2=>by
    by_cases ei:i=j
    ·subst ei;rw [u.out];exact⟨V,Y,Z,R⟩
    ·exact h.cel i oM h2⟩)
   obtain⟨np,Hb⟩:=zE ((gL l j).p.length);rw [u.out] at y;rw [Hb] at H He y E t;clear Hb;obtain⟨pj,Ha⟩:=zE (P j);obtain⟨qj,Hc⟩:=zE (Q j);rw [Ha,Hc] at H y;clear Ha Hc;go_wp2_with fail;refine y.mono ?_;rintro e w1 ⟨rfl,M⟩;obtain⟨C,r⟩:=M.wr;have L:=hid M;obtain⟨k,W⟩:=zE (m+np);have Hf:k<=k0+j*1048580+1048576:=oM;rw [W] at E t ⊢;have V:=r.cell (i:=j*5+1) oM;have Y:=r.cell (i:=j*5+2) oM;have Z:=r.cell (i:=j*5+3) oM;have f1:=r.frozen (j*5+1);have f2:=r.frozen (j*5+2);have f3:=r.frozen (j*5+3);have K:=hid r;clear r M y W H o X;go_wp2_with fail;obtain⟨F,A⟩:=zE (((w1.setCell (Ua b (j*5+1)) (Un ((k:Int)%3==0))).setCell (Ua b (j*5+2)) (Ud ((k:Int)+1))).setCell (Ua b (j*5+2+1)) (Ud ((k:Int)+1+1)));rw [A];have B:LIn w F lo hi b l P Q G k0 (j+1) j:=A▸((L.set s _ _ oM).set s _ _ oM).set s _ _ oM;have z:=((K.set (j*5+1) (Un ((k:Int)%3==0))).set (j*5+2) (Ud ((k:Int)+1))).set (j*5+2+1) (Ud ((k:Int)+1+1));rw [A] at z;have O:=Qch (k+3) F oM;have S:((k+3:Nat):Int)=(k:Int)+1+1+1:=oM;rw [S] at O;clear A V Y Z f1 f2 f3 L S;refine O.mono ?_;rintro e w4 ⟨rfl,U⟩;have D:=B.bw U;have g:=z.same (U.block b z.lt);have R:=g.cell (i:=j*5+4) oM;have f4:=g.frozen (j*5+4);have v:=g.set (j*5+4) (Um (mkT (k+3)));have N:Hid (LIn w (w4.setCell (Ua b (j*5+4)) (Um (mkT (k+3)))) lo hi b l P Q G k0 (j+1) (j+1)):=hid (by
    refine t _ ?_ ?_ ?_ ?_ (D.set s _ _ oM)
    ·rw [v.cell (i:=j*5+1) oM];simp
    ·rw [v.cell (i:=j*5+2) oM];simp
    ·rw [v.cell (i:=j*5+3) oM];simp;omega
    ·rw [v.cell (i:=j*5+4) oM];simp)
   obtain⟨t4,J⟩:=zE (mkT (k+3));rw [J] at N;rw [J];clear v g z D B U O J K t;go_wp2_with fail;go_roundw;case rel=>exact⟨j+1,k+4,I,oN,oN,E,N⟩
   case measure=>exact oE
  ·obtain rfl:j=l.length:=oM;have HE:=u;clear u;go_wp2_with fail;go_ret;exact⟨by rw [HE.out];rfl,o⟩
theorem Qlt (a:Option Us)(n cap k0:Nat)(w:Ur)(hk0:k0<=9000000000000)(hn1:n<=1000000000)(h:QaD w a n (mk3 k0 0) (mk3 k0 1) (mk3 k0 2)):
  Cl 95 #[Uf a n cap,Ud (k0:Int)] w fun e w'=>e=Ui (Ud ((k0+3*n:Nat):Int))/\ w'=w:=by
 rcases h with h|⟨b,off,rfl,g,r⟩
 ·subst h;go_enter func95,ntmps95;go_wp2;refine wp_loop_rounds 1 ?_;rw [rounds_succ];go_wp2;go_ret;exact⟨rfl,rfl⟩
 ·go_enter func95,ntmps95;go_wp2;go_loop [1,5] (fun k i=>∃(j m:Nat),j<=n/\ Hid (m=k0+3*j)/\ i=Ud (j:Int)/\ k=Ud (m:Int)) (fun _ i=>n - (intOf i).toNat);case atStart=>exact⟨0,k0,Uv _,hid oM,rfl,rfl⟩
  case round=>
   obtain⟨j,m,t,q,rfl,rfl⟩:=hrel;by_cases u:j<n
   ·have v:w.cell? (Ua b (off+j*3))=Uq (Ud (m:Int)):=(by rw [(r j u).1];unfold mk3;have:=q.out;congr 2;omega);have y:w.cell? (Ua b (off+j*3+1))=Uq (Ud ((m:Int)+1)):=(by rw [(r j u).2.1];unfold mk3;have:=q.out;congr 2;omega);have z:w.cell? (Ua b (off+j*3+2))=Uq (Ud ((m:Int)+1+1)):=(by rw [(r j u).2.2];unfold mk3;have:=q.out;congr 2;omega);have o:m<=9000000000000+3000000000:=oH q;clear r;go_wp2;go_round;case rel=>exact⟨j+1,m+3,u,hid (oH q),oN,oN⟩
    case measure=>exact oE
   ·obtain rfl:j=n:=oM;clear r;have e:=q.out;clear q;subst e;go_wp2;go_ret;exact⟨oP,rfl⟩
theorem QgY (a:Option Us)(n cap k0:Nat)(w:Ur)(hk0:k0<=9000000000000)(hn1:n<=1000000000)(h:QaD w a n (mk3 k0 0) (mk3 k0 1) (mk3 k0 2)):
  Cl 60 #[Uo #[Uf a n cap],Ud (k0:Int)] w (Rt w (Ud ((k0+3*n:Nat):Int))):=by
 have j:Hid (Bl w (w.alloc (Uj #[Uf a n cap] 38))):=(Below.refl _ _).alloc (Uu _) _;go_enter func60,ntmps60;go_wp2_with fail;refine(Qlt a n cap k0 _ hk0 hn1 (h.bw j)).mono ?_;rintro e w1 ⟨rfl,rfl⟩;go_wp2_with fail;go_ret;exact⟨oP,j⟩
theorem Ql6 (a:Option Us)(cap k0:Nat)(w:Ur):
  Cl 93 #[Uf a 0 cap,Ud (k0:Int)] w fun e w'=>e=Ui (Ud (k0:Int))/\ w'=w:=by
 go_enter func93,ntmps93;go_wp2;refine wp_loop_rounds 1 ?_;rw [rounds_succ];go_wp2;go_ret;exact⟨rfl,rfl⟩
theorem Qg4 (a:Option Us)(cap k0:Nat)(w:Ur)(hk0:k0<=9000000000000):
  Cl 58 #[Uo #[Uf a 0 cap],Ud (k0:Int)] w (Rt w (Ud (k0:Int))):=by
 have j:Hid (Bl w (w.alloc (Uj #[Uf a 0 cap] 38))):=(Below.refl _ _).alloc (Uu _) _;go_enter func58,ntmps58;go_wp2_with fail;refine(Ql6 a cap k0 _).mono ?_;rintro e w1 ⟨rfl,rfl⟩;go_wp2_with fail;go_ret;exact⟨rfl,j⟩
theorem Qn0 (a:Option Us)(n c k0:Nat)(w:Ur)(hk:k0+n<=10000000000000)(hn:n<=1048576)(h:n=0 \/∃b off,a=Uq (Ua b off)/\ b<w.heap.size/\∀t,t<n ->w.cell? (Ua b (off+t))=Uq (Um (mkT (k0+t)))):
  Cl 94 #[Uf a n c,Ud (k0:Int)] w (Rt w (Ud ((k0+n:Nat):Int))):=by
 have V:=hid h;clear h;go_enter func94,ntmps94;go_wp2_with fail;go_loopw [1,5] (fun q i wr=>∃(j m:Nat),j<=n/\ m<=10000000000000/\ Hid (m=k0+j)/\ i=Ud (j:Int)/\ q=Ud (m:Int)/\ Hid (Bl w wr)) (fun _ i _=>n - (intOf i).toNat);case atStart=>exact⟨0,k0,Uv _,oM,hid oM,rfl,rfl,hid zI⟩
 case round=>
  obtain⟨j,m,G,H,u,rfl,rfl,r⟩:=hrel;by_cases Q:j<n
  ·have J:(0:Int)<=(j:Int):=UZ _;have L:(j:Int)<(n:Int):=oM;obtain⟨g,off,rfl,O,M⟩:=V.resolve_left oM;have Z:g<wr.heap.size:=Ut O r.size;have v:=(r.cell (p:=(Ua g (off+j))) O).trans (M j Q);have A:mkT (k0+j)=mkT m:=(by rw [u.out]);rw [A] at v;obtain⟨s,y⟩:=zE (mkT m);rw [y] at v;have U:=hid (fun w1=>y▸Qch m w1 oM);have I:(s.toList==s.toList)=true:=oP;clear y A M;go_wp2_with fail;have z:Hid (∀w',Bl wr w' ->(Bl wr w'/\ w'.cell? (Ua g (off+j))=Uq (Um s))):=hid (fun w' k=>⟨k,(k.cell (p:=(Ua g _)) Z).trans v⟩);refine zS z (fun qh=> ?_);refine tZ 0 12 ?_;refine tZ 1 13 ?_;refine tZ 2 14 ?_;refine tZ 3 15 ?_;refine tZ 4 16 ?_;refine cZ 5 ?_;intro K E;go_simp;refine(U _).mono ?_;rintro e w2 ⟨rfl,o⟩;have k:=Qaa qh.1 o;refine E.out _ _ (z _ k) (fun qh=> ?_);clear E K;try simp only [zP]
   refine tZ 6 18 ?_;refine zD ?_;have Y:=hid (r.trans (k.mono r.size));clear qh k o;go_wp2_with fail;go_roundw;case rel=>exact⟨j+1,m+1,Q,oH u,hid (oH u),oN,oN,Y⟩
   case measure=>exact oE
  ·obtain rfl:j=n:=oM;go_wp2_with fail;go_ret;exact⟨by rw [<- u.out];rfl,r⟩
theorem Qha (a:Option Us)(c k0:Nat)(l:List Lf)(w:Ur)(hk:k0<=4000000000000)(hn:l.length<=1048576)(hp:∀i,(gL l i).p.length<=1048576)(h:QbK w a (mkL l k0)):
  Cl 59 #[Uf a l.length c,Ud (k0:Int)] w (Rt w (Ud (mP l k0 l.length:Int))):=by
 have HW:=hid h;have Hb:=hid (Qke (l:=l) (k0:=k0) hp);clear h;go_enter func59,ntmps59;go_wp2_with fail;go_loopw [1,5] (fun q i wr=>∃(j m:Nat),j<=l.length/\ i=Ud (j:Int)/\ q=Ud (m:Int)/\ Hid (mP l k0 j=m)/\ Hid (Bl w wr)) (fun _ i _=>l.length - (intOf i).toNat);case atStart=>exact⟨0,k0,Uv _,rfl,rfl,hid rfl,hid zI⟩
 case round=>
  obtain⟨j,m,hj,rfl,rfl,Y,O⟩:=hrel;by_cases G:j<l.length
  ·have i1:(0:Int)<=(j:Int):=UZ _;have i2:(j:Int)<(l.length:Int):=oM;have T:=hp j;have Hh:m<=k0+j*1048580:=(by have:=Hb j;rw [Y.out] at this;exact this);have Z:Hid (mP l k0 (j+1)=m+(gL l j).p.length+4):=hid (by simp only [mP];rw [Y.out]);rcases HW.out with h0|⟨b,off,rfl,E,D⟩
   ·rw [QfD] at h0;omega
   obtain⟨W,pc,A,r,v,y,z,u⟩:=D j (by rw [QfD];exact G);rw [Qkh l k0 G,Qdv] at A;rw [Qkh l k0 G] at r v y z u;rw [Y.out] at r v y z u;have Hj:b<wr.heap.size:=Ut E O.size;obtain⟨M,S⟩:=zE ((gL l j).p.length);rw [S] at A r v y z u Z T;have I:=hid (fun w'(hb':Bl w w')=>Qn0 W M pc m w' oM T (by
    rcases r with r|⟨g,o,rfl,P,Hc⟩
    ·exact .inl (by rw [Qdv] at r;exact r)
    ·refine .inr ⟨g,o,rfl,Ut P hb'.size,fun t ht=> ?_⟩;have:=Hc t (by rw [Qdv];exact ht);rw [Qp6 _ _ ht] at this;exact(hb'.cell (p:=(Ua g (o+t))) P).trans this))
   have V:Hid (∀w',Bl w w' ->w'.cell? (Ua b (off+j*5))=Uq (Uf W M pc)/\ w'.cell? (Ua b (off+j*5+1))=Uq (Un (((m+M:Nat):Int)%3==0))/\ w'.cell? (Ua b (off+j*5+2))=Uq (Ud ((m+M+1:Nat):Int))/\ w'.cell? (Ua b (off+j*5+3))=Uq (Ud ((m+M+2:Nat):Int))/\ w'.cell? (Ua b (off+j*5+4))=Uq (Um (mkT (m+M+3)))):=hid (fun w' hb'=>⟨(hb'.cell (p:=(Ua b _)) E).trans A,(hb'.cell (p:=(Ua b _)) E).trans v,(hb'.cell (p:=(Ua b _)) E).trans y,(hb'.cell (p:=(Ua b _)) E).trans z,(hb'.cell (p:=(Ua b _)) E).trans u⟩);clear D A v y z u r S;obtain⟨k,R⟩:=zE (m+M);rw [R] at Z V I;have Hg:k<=k0+j*1048580+1048576:=oM;obtain⟨A,v,y,z,u⟩:=V wr O;have J:=hid (I wr O);clear R I;have dm:decide ((k:Int)<0)=false:=oP;go_wp2_with fail;refine J.mono ?_;rintro e w1 ⟨rfl,L⟩;have U:=hid (O.trans (L.mono O.size));clear A v y z u L J;obtain⟨A,v,y,z,u⟩:=V w1 U;have X:((k+1:Nat):Int)=(k:Int)+1:=oM;have B:((k+2:Nat):Int)=(k:Int)+1+1:=oM;rw [X] at y;rw [B] at z;obtain⟨s,r⟩:=zE (mkT (k+3));rw [r] at u;have HT:Hid (∀w1,Cl 92 #[Ud ((k:Int)+1+1+1)] w1 (Rt w1 (Um s))):=hid (fun w1=>by rw [<- r,show (k:Int)+1+1+1=((k+3:Nat):Int) by omega];exact Qch (k+3) w1 oM);have Hi:(s.toList==s.toList)=true:=oP;obtain⟨F,hF⟩:=zE (((k:Int)%3==0));have Hf:(F !=F)=false:=oP;have He:(F==F)=true:=oP;rw [hF] at v;clear r X B;have Hd:b<w1.heap.size:=Ut E U.size;go_wp2_with fail;have H:Hid (∀w',Bl w1 w' ->(Bl w1 w'/\ w'.cell? (Ua b (off+j*5+4))=Uq (Um s))):=hid (fun w' Q=>⟨Q,(Q.cell (p:=(Ua b _)) Hd).trans u⟩);refine zS H (fun qh=> ?_);refine tZ 0 52 ?_;refine tZ 1 53 ?_;refine tZ 2 54 ?_;refine tZ 3 55 ?_;refine tZ 4 56 ?_;refine tZ 5 57 ?_;refine cZ 6 ?_;intro K C;go_simp;refine(HT _).mono ?_;rintro e w2 ⟨rfl,N⟩;have Q:=Qaa qh.1 N;refine C.out _ _ (H _ Q) (fun qh=> ?_);clear C K;try simp only [zP]
   refine tZ 7 59 ?_;refine zD ?_;have HZ:=hid (U.trans (Q.mono U.size));have Ha:Hid (mP l k0 (j+1)=k+4):=Z;clear qh Q N A v y z u V H Z;go_wp2_with fail;go_roundw;case rel=>exact⟨j+1,k+4,G,oN,oN,Ha,HZ⟩
   case measure=>exact oE
  ·obtain rfl:j=l.length:=oM;go_wp2_with fail;go_ret;exact⟨by rw [Y.out];rfl,O⟩
structure SOw (w:Ur)(lo hi:Nat)(a x:Option Us)(d:Nat)(S:Sx):Prop where
 lf:QbK w a S.l
 rn:QaD w x S.n S.R S.F S.T
 lv:S.l.length=0 \/∃b P Q G,a=Uq (Ub b)/\ LWy lo hi b S.l P G/\∀k0,LIn w w lo hi b S.l P Q G k0 0 0
 ro:S.n=0 \/∃g ys,x=Uq (Ub g)/\ g<hi/\ w.ownsRow lo 123 3 (Uf (Uc g) S.n d) S.n ys
 hl:lo<=hi/\ hi<=w.heap.size
theorem LIn.zero{P:Nat ->Option Us}{Q G:Nat ->Nat}(hw:LWy lo hi b l P G)(h:LIn w w lo hi b l P Q G k0 0 0)(hq:∀q,lo<=q ->q<hi ->w'.heap[q]? =w.heap[q]?):LIn w' w' lo hi b l P Q G k0 0 0:=by
 obtain⟨C,r⟩:=h.wr;have j:=hq b hw.b1 hw.b2;refine⟨Btw.refl _ _ _,fun _ _ _=>rfl,⟨C,r.same j⟩,fun i hi=>(UB (a:=(Ua b _)) j).trans (h.pth i hi),fun i h1 h2 h3=> ?_,fun i h1=>oM,fun i h1=>oM⟩;obtain⟨m,u,v⟩:=h.todo i h1 h2 h3;have k:=hw.g1 i h2 h3;exact⟨m,(hq _ k.2.2.1 k.2.2.2).trans u,v⟩
theorem Qhq (a:Option Us)(c k0:Nat)(w:Ur):Cl 57 #[Uf a 0 c,Ud (k0:Int)] w fun e w'=>e=Ui (Ud (k0:Int))/\ w'=w:=by
 go_enter func57,ntmps57;go_wp2_with fail;refine wp_loop_rounds 1 ?_;rw [rounds_succ];go_wp2_with fail;go_ret;exact⟨rfl,rfl⟩
theorem SOw.markL(h:SOw w lo hi a x d S)(hm:S.Sm)(k0:Nat)(hk:k0<=4000000000000):
  Cl 57 #[Uf a S.l.length c,Ud (k0:Int)] w fun e w'=>e=Ui (Ud (mP S.l k0 S.l.length:Int))/\ Btw lo hi w w'/\ (∀(q:Nat) (cur:Array Value),w.heap[q]? =Uq (Obj.cells cur 123 (0,0)) ->w'.heap[q]? =w.heap[q]?)/\ (∀w2:Ur,w'.heap.size<=w2.heap.size ->(∀q,lo<=q ->q<hi ->q<w'.heap.size ->(∀cur,w.heap[q]? ≠Uq (Obj.cells cur 123 (0,0))) ->w2.heap[q]? =w'.heap[q]?) ->QbK w2 a (mkL S.l k0)):=by
 rcases h.lv with k|⟨b,P,Q,G,rfl,m,r⟩
 ·rw [k];refine(Qhq a c k0 w).mono ?_;rintro e w' ⟨rfl,rfl⟩;exact⟨rfl,Btw.refl _ _ _,fun _ _ _=>rfl,fun w2 _ _=> .inl (by rw [QfD,k])⟩
 ·refine(Qhr lo hi b c k0 S.l P Q G w hk hm.l1 hm.p1 m (r k0)).mono ?_;rintro e w' ⟨rfl,j⟩;exact⟨rfl,j.low,j.run,fun w2 h1 h2=>j.seg m h1 h2⟩
structure SMk (w:Ur)(a x:Option Us)(S:Sx)(k0:Nat):Prop where
 lf:QbK w a (mkL S.l k0)
 rn:QaD w x S.n (mk3 (mP S.l k0 S.l.length) 0) (mk3 (mP S.l k0 S.l.length) 1) (mk3 (mP S.l k0 S.l.length) 2)
def Qjg (w:Ur)(lo hi:Nat)(a x:Option Us)(S:Sx)(k0:Nat):Prop:=∀w2:Ur,w.heap.size<=w2.heap.size ->(∀q,lo<=q ->q<hi ->w2.heap[q]? =w.heap[q]?) ->SMk w2 a x S k0
theorem Qjg.at(h:Qjg w lo hi a x S k0):SMk w a x S k0:=h w zL (fun _ _ _=>rfl)
theorem Qjg.move(h:Qjg w lo hi a x S k0)(hs:w.heap.size<=w1.heap.size)(hq:∀q,lo<=q ->q<hi ->w1.heap[q]? =w.heap[q]?):Qjg w1 lo hi a x S k0:=
 fun w2 h1 h2=>h w2 (Ux hs h1) (fun q h3 h4=>(h2 q h3 h4).trans (hq q h3 h4))
theorem SMk.bw(h:SMk w a x S k0)(hb:Bl w w'):SMk w' a x S k0:=⟨h.lf.bw hb,h.rn.bw hb⟩
def mE (S:Sx)(k0:Nat):Nat:=mP S.l k0 S.l.length+3*S.n
theorem Qho(hm:S.Sm)(k0:Nat):mE S k0<=k0+2000000000000/\ mP S.l k0 S.l.length<=k0+1500000000000:=by
 have j:=Qke (k0:=k0) hm.p1 S.l.length;have k:=hm.l1;have m:=hm.n1;unfold mE;omega
theorem Qcx(h:SOw w lo hi a x d S)(hm:S.Sm)(k0:Nat)(hk:k0<=4000000000000):
  Cl 35 #[Uo #[Uf a S.l.length c,Uf x S.n d],Ud (k0:Int)] w fun e w'=>e=Ui (Ud (mE S k0:Int))/\ Btw lo hi w w'/\ Qjg w' lo hi a x S k0:=by
 obtain⟨W,o⟩:=zE (w.alloc (Uj #[Uf a S.l.length c,Uf x S.n d] 40));have u:Bl w W:=o▸zO _ _;have O:Bx2 W w.heap.size (Uf a S.l.length c) (Uf x S.n d):=o▸Bx2.made _ _ _ _;have Z:SOw W lo hi a x d S:=⟨h.lf.bw u,h.rn.bw u,h.lv.imp id (fun⟨b,P,Q,G,e,hw,hI⟩=>⟨b,P,Q,G,e,hw,fun k0=>(hI k0).zero hw (fun q h1 h2=>u.block q (Ut h2 h.hl.2))⟩),h.ro.imp id (fun⟨g,M,e,p,t⟩=>⟨g,M,e,p,Qbp t u (fun k hk=>by simp [Value.ownBlock] at hk;subst hk;exact Ut p h.hl.2)⟩),h.hl.1,Ux h.hl.2 u.size⟩;have K:=hid (Z.markL (c:=c) hm k0 hk);have N:=hid Z;obtain⟨Hg,Hh⟩:=O.q2;have HB:=hid (Btw.bw (lo:=lo) (hi:=hi) u);have D:=Qho hm k0;have U:=hid O;have HH:=hid h.hl;have z:Hid (mE S k0=mP S.l k0 S.l.length+3*S.n):=hid rfl;obtain⟨E,B⟩:=zE (mE S k0);rw [B] at z D ⊢;clear h u O Z B;go_enter func35,ntmps35;go_wp2_with fail;try rw [o]
 clear o;refine K.mono ?_;rintro e w1 ⟨rfl,A,I,s⟩;have X:=A.block w.heap.size U.lt (.inr HH.2);have r1:=(UB (a:=(Ua w.heap.size 1)) X).trans U.c1;have Hd:=hid A;have Hi:=hid I;have Hj:=hid s;obtain⟨m,H⟩:=zE (mP S.l k0 S.l.length);have Hc:=hid H;rw [H] at z D ⊢;have L:Hid (Cl 58 #[Uo #[Uf x S.n d],Ud (m:Int)] w1 fun e w'=>e=Ui (Ud (E:Int))/\ Btw lo hi w1 w'/\∀w2:Ur,w'.heap.size<=w2.heap.size ->(∀q,lo<=q ->q<hi ->w2.heap[q]? =w'.heap[q]?) ->QaD w2 x S.n (mk3 m 0) (mk3 m 1) (mk3 m 2)/\ QbK w2 a (mkL S.l k0)):=hid (by
  rcases N.ro with h0|⟨g,M,rfl,p,t⟩
  ·rw [h0] at z ⊢;refine(Qg4 x d m w1 oM).mono ?_;rintro e w' ⟨rfl,b'⟩;refine⟨by rw [z.out];simp,Btw.bw b',fun w2 g1 g2=>⟨.inl rfl,s w2 (Ux b'.size g1) (fun q h1 h2 h3 _=>(g2 q h1 h2).trans (b'.block q h3))⟩⟩
  ·have hb:=t.2;have He:=t.lt g rfl;have Hf:w1.ownsRow lo 123 3 (Uf (Uc g) S.n d) S.n M:=by
    obtain⟨q1,v⟩:=t;refine⟨q1,?_⟩;rcases v with ⟨v,_⟩|⟨Y,cap,j,e,C,i,r⟩
    ·cases v
    ·exact .inr ⟨Y,cap,j,e,C,(I Y j i).trans i,r⟩
   have Ha:∃j,W.heap[g]? =Uq (Obj.cells j 123 (0,0)):=by
    rcases hb with ⟨v,_⟩|⟨Y,cap,j,e,C,i,r⟩
    ·cases v
    ·injection e with e _ _;injection e with e;injection e with e _ _;subst e;exact⟨j,i⟩
   refine(Qes lo g S.n d m M w1 (oJ A.size N.hl) oM (oH hm.n1) Hf).mono ?_;rintro e w' ⟨rfl,V,rs,T,F⟩;refine⟨by rw [z.out],⟨V.os,V.tape,V.output,T,fun q h1 h2=>F q h1 oM⟩,fun w2 g1 g2=>⟨rs.same g1 (fun y hy=>by have:=Option.some.inj hy;rw [<- this];exact g2 g He.1 p),s w2 (Ux T g1) (fun q h1 h2 h3 h4=>(g2 q h1 h2).trans (F q h3 (fun e=> ?_)))⟩⟩;rw [e] at h4;obtain⟨j,hc⟩:=Ha;exact h4 j hc)
 clear A I s H K Hg Hh X U;go_wp2_with fail;refine L.mono ?_;rintro e w2 ⟨rfl,R,J⟩;have Hb:=hid ((HB.trans Hd).trans R);have HK:Hid (Qjg w2 lo hi a x S k0):=hid (fun w3 g1 g2=>⟨(J w3 g1 g2).2,by rw [Hc.out];exact(J w3 g1 g2).1⟩);clear R J L r1;go_wp2_with fail;go_ret;exact⟨rfl,Hb,HK⟩
theorem Qfd(hm:S.Sm)(k0:Nat)(hk:k0<=4000000000000)(h:SMk w a x S k0):
  Cl 37 #[Uo #[Uf a S.l.length c,Uf x S.n d],Ud (k0:Int)] w (Rt w (Ud (mE S k0:Int))):=by
 obtain⟨W,k⟩:=zE (w.alloc (Uj #[Uf a S.l.length c,Uf x S.n d] 40));have z:Bl w W:=k▸zO _ _;have q:Bx2 W w.heap.size (Uf a S.l.length c) (Uf x S.n d):=k▸Bx2.made _ _ _ _;have t:=h.bw z;have u:=hid (Qha a c k0 S.l W hk hm.l1 hm.p1 t.lf);have v:=hid t.rn;obtain⟨O,Q⟩:=q.q2;have s:=hid z;have p:=Qho hm k0;have Z:=hm.n1;have y:=hid q;have i:Hid (mE S k0=mP S.l k0 S.l.length+3*S.n):=hid rfl;obtain⟨E,g⟩:=zE (mE S k0);obtain⟨m,o⟩:=zE (mP S.l k0 S.l.length);rw [g,o] at i;rw [g] at p ⊢;rw [o] at p u v;clear h z q t g o;have Y:decide ((m:Int)<0)=false:=oP;have V:decide ((E:Int)<0)=false:=oP;go_enter func37,ntmps37;go_wp2_with fail;try rw [k]
 clear k;refine u.mono ?_;rintro e w1 ⟨rfl,j⟩;have U:=(y.bw j y.lt).c1;have r:=hid (QgY x S.n d m w1 oM oM (v.bw j));rw [<- i.out] at r;have A:=hid (Qaa s j);clear j u O Q y v;go_wp2_with fail;refine r.mono ?_;rintro e w2 ⟨rfl,b⟩;have M:=hid (Qaa A b);clear b r U;go_wp2_with fail;go_ret;exact⟨rfl,M⟩
open Go.Deep
theorem SOw.same(h:SOw w lo hi a x d S)(hs:w.heap.size<=w'.heap.size)(hq:∀q,lo<=q ->q<hi ->w'.heap[q]? =w.heap[q]?):SOw w' lo hi a x d S:=by
 refine⟨?_,?_,h.lv.imp id (fun⟨b,P,Q,G,e,m,M⟩=>⟨b,P,Q,G,e,m,fun k0=>(M k0).zero m hq⟩),?_,h.hl.1,Ux h.hl.2 hs⟩
 ·rcases h.lv with k|⟨b,P,Q,G,e,m,M⟩
  ·exact .inl k
  ·have I:=M 0;rcases h.lf with k|⟨b',off,A,hb,Z⟩
   ·exact .inl k
   ·rw [e] at A;have v:b=b':=congrArg Addr.block (Option.some.inj A);have B:0=off:=congrArg Addr.off (Option.some.inj A);have D:w'.heap[b]? =w.heap[b]? :=hq b m.b1 m.b2;have u:∀j,w'.cell? (Ua b j)=w.cell? (Ua b j):=fun j=>UB (a:=(Ua b j)) D;rw [<- v,<- B] at Z;refine .inr ⟨b,0,e,by rw [v];omega,fun i hi'=> ?_⟩;obtain⟨H,W,s,R,K,L,N,X⟩:=Z i hi';refine⟨H,W,by rw [u];exact s,?_,by rw [u];exact K,by rw [u];exact L,by rw [u];exact N,by rw [u];exact X⟩;rcases R with k|⟨g,o,V,r,F⟩
    ·exact .inl k
    ·by_cases T:(gL S.l i).p.length=0
     ·exact .inl T
     ·have O:=m.g1 i hi' oM;have U:=I.pth i hi';rw [Uw] at s;rw [s] at U;have Y:H=P i:=(by injection (Option.some.inj U));rw [O.1,V] at Y;have C:g=G i:=congrArg Addr.block (Option.some.inj Y);have E:w'.heap[g]? =w.heap[g]? :=(by rw [C];exact hq _ O.2.2.1 O.2.2.2);exact .inr ⟨g,o,V,oM,fun t ht=>(UB (a:=(Ua g _)) E).trans (F t ht)⟩
 ·rcases h.ro with k|⟨g,J,e,r,z⟩
  ·exact .inl k
  ·have E:=hq g (z.lt g rfl).1 r;exact h.rn.same hs (fun y hy=>by rw [e] at hy;have:=Option.some.inj hy;rw [<- this];exact E)
 ·rcases h.ro with k|⟨g,J,e,r,z⟩
  ·exact .inl k
  ·exact .inr ⟨g,J,e,r,QaO z fun q hq'=>by
    have v:g=q:=(by simpa [Value.ownBlock] using hq');rw [<- v];exact hq g (z.lt g rfl).1 r⟩
theorem SOw.bw(h:SOw w lo hi a x d S)(hb:Bl w w'):SOw w' lo hi a x d S:=
 h.same hb.size (fun q _ h2=>hb.block q (Ut h2 h.hl.2))
theorem SOw.set(h:SOw w lo hi a x d S)(q:Us)(u:Value)(hq:q.block<lo \/hi<=q.block):SOw (w.setCell q u) lo hi a x d S:=
 h.same (by simp [UC]) (fun p h1 h2=>zH _ _ _ _ oM)
theorem SOw.at(h:SOw w lo hi a x d S):SAt w a x S:=⟨h.lf,h.rn⟩
theorem SOw.mt (w:Ur)(S:Sx)(hl:S.l.length=0)(hn:S.n=0)(lo hi:Nat)(h:lo<=hi/\ hi<=w.heap.size)(a x:Option Us)(d:Nat):SOw w lo hi a x d S:=
 ⟨.inl hl,.inl hn,.inl hl,.inl hn,h⟩
theorem SOw.wide{hi':Nat}(h:SOw w lo hi a x d S)(h1:lo'<=lo)(h2:hi<=hi')(h3:hi'<=w.heap.size):SOw w lo' hi' a x d S:=
 ⟨h.lf,h.rn,h.lv.imp id (fun⟨b,P,Q,G,e,hw,hI⟩=>⟨b,P,Q,G,e,⟨Ux h1 hw.b1,Ut hw.b2 h2,fun i hi h0=>by obtain⟨j,k,m,q⟩:=hw.g1 i hi h0;exact⟨j,k,oM,oM⟩,hw.sep⟩,fun k0=>by
  have I:=hI k0;exact⟨Btw.refl _ _ _,I.run,I.wr,I.pth,I.todo,I.done,I.cel⟩⟩),h.ro.imp id (fun⟨g,ys,e,hg,ho⟩=>⟨g,ys,e,Ut hg h2,QbF ho h1⟩),oH h.hl,h3⟩
theorem Qci{cap size:Nat}{e:TypeId}{C:Nat ->Value}(h:w.ownsRow B e size (Uf (Uc g) n cap) n ((UT (n*size)).map C)):Wr w g e (n*size) C:=by
 rcases h.2 with ⟨y,_⟩|⟨v,t,m,z,p,r,o,i,b,q⟩
 ·cases y
 ·have u:g=v:=by injection z with k _ _;exact congrArg Addr.block (Option.some.inj k)
  rw [<- u] at r;refine⟨m,r,?_,fun j hj=> ?_⟩
  ·have:=congrArg List.length q;simp at this;omega
  ·have k:(m.toList.take (n*size))[j]? =((UT (n*size)).map C)[j]? :=(by rw [q]);rw [Vf hj] at k;rw [<- Yi,k];simp [YU hj]
theorem QcS (t e:TypeId)(i:TypeInfo)(z:Value)(size bytes:Nat)(ht:prog.underlying t=Uq (.slice e))(hi:prog.info? e=Uq i)(hz:i.zero=Uq z)(hsize:i.size=size)(hby:i.bytes=bytes)(hzs:z.cells.size=size)(hsz:0<size)(hb2:bytes<=64)(q g off m c:Nat)(C:Nat ->Value)(w:Ur)(B:Nat)(hm:m<=1048576)(ho:w.ownsRow B e size (Uf (Uc q) 0 0) 0 [])(hB:B<=w.heap.size)(hC:∀j,j<m*size ->w.cell? (Ua g (off+j))=Uq (C j))(h1:∀j,j<m*size ->(C j).oneCell'=true):
  ∃v cap w',(Builtin.append_ #[t,t] t #[Uf (Uc q) 0 0,Uf (Uq (Ua g off)) m c]).run prog w=.ok (Uf (Uc v) m cap) w'/\ w'.ownsRow B e size (Uf (Uc v) m cap) m ((UT (m*size)).map C)/\ w.grownBy w' (Uq q)/\ (v=q \/v=w.heap.size):=by
 obtain⟨v',w',E,b,s,A,y⟩:=run_append_own_at (P:=prog) w B t t e i z size bytes ht hi hz hsize hby hzs hsz (Uf (Uc q) 0 0) 0 [] ho (Ua g off) m c ((UT (m*size)).map C) oP (fun j u o=>by
  simp only [VN,YZ] at o;obtain⟨q,k,rfl⟩:=o;have p:j<m*size:=by
   rcases Nat.lt_or_ge j (m*size) with h|h
   ·exact h
   ·rw [US (oW h)] at k;cases k
  rw [YU p] at k;have k:=Option.some.inj k;rw [<- k,Qbq];exact hC j p) (fun u hu=>by
  obtain⟨j,o,rfl⟩:=List.mem_map.1 hu;exact h1 j (oW o)) oL (by
   have:m*bytes<=1048576*64:=YQ hm hb2;rw [Uw];omega) hB
 rw [Uw,VI] at b;rcases b.2 with ⟨M,_⟩|⟨v,cap,O,rfl,r⟩
 ·have:=A.1 M;exact absurd this.1 oP
 ·refine⟨v,cap,w',E,b,s,?_⟩;rcases y with y|y
  ·exact .inl (by simpa [Value.ownBlock] using y)
  ·exact .inr (by simpa [Value.ownBlock] using y)
theorem QnH (g off m c:Nat)(p:List ByteArray)(w:Ur)(hp:p.length=m)(hm:m<=1048576)(hg:g<w.heap.size)(h:∀t,t<m ->w.cell? (Ua g (off+t))=Uq (Um (gS p t))):
  Cl 67 #[Uf (Uq (Ua g off)) m c] w fun e w'=>∃q cap,e=Ui (Uf (Uc q) m cap)/\ Bl w w'/\ w.heap.size<=q/\ q<w'.heap.size/\ Wr w' q 9 m (fun t=> Um (gS p t)):=by
 obtain⟨Q,hi,E,M,O⟩:=info_parts QcC;have r:Bl w (w.alloc (Uj #[] 9)):=zO _ _;have o:(w.alloc (Uj #[] 9)).ownsRow w.heap.size 9 1 (Uf (Uc w.heap.size) 0 0) 0 []:=by
  have:=VD (base:=w.heap.size) (e:=9) (size:=1) w #[] 0 zL oL rfl;simpa using this
 obtain⟨q,cap,w',y,b,z,i⟩:=QcS 90 9 Q _ 1 16 underlying90 hi E M O rfl oD oM w.heap.size g off m c (fun t=> Um (gS p t)) (w.alloc (Uj #[] 9)) w.heap.size hm o oP (fun j hj=>(r.cell (p:=(Ua g (off+j))) hg).trans (h j oM)) (fun _ _=>rfl);have u:=Qci b;rw [YR] at u;have s:Hid (Bl w w'):=hid (r.grown z r.size (fun k e=>oI e));have v:=hid u;have A:Hid (w.heap.size<=q):=hid (by rcases i with e|e<;>rw [e];exact Uu _;simp);clear b z i u h o r;go_enter func67,ntmps67;go_wp2_with (at_builtin;refine Qac rfl _ _ _ _ rfl y (by rfl) (by rfl) rfl ?_;clear y);go_ret;exact⟨q,cap,rfl,s,A,v.lt,v⟩
theorem QnF (g m c:Nat)(y:Lf)(w:Ur)(hp:y.p.length=m)(hm:m<=1048576)(hg:g<w.heap.size)(h:∀t,t<m ->w.cell? (Ua g t)=Uq (Um (gS y.p t))):
  Cl 63 #[Uo #[Uf (Uc g) m c,Un y.fl,Ud y.r,Ud y.q,Um y.v]] w fun e w'=>∃q cap,e=Ui (Uo #[Uf (Uc q) m cap,Un y.fl,Ud y.r,Ud y.q,Um y.v])/\ Bl w w'/\ w.heap.size<=q/\ q<w'.heap.size/\ Wr w' q 9 m (fun t=> Um (gS y.p t)):=by
 obtain⟨W,j⟩:=zE ((w.alloc (Uj #[Uf (Uc g) m c,Un y.fl,Ud y.r,Ud y.q,Um y.v] 117)).alloc (Uj #[Ue,Un false,Ud 0,Ud 0,Um ⟨#[]⟩] 117));have k:Bl w W:=j▸Qak _ _ _;have z:Bx5 W w.heap.size (Uf (Uc g) m c) (Un y.fl) (Ud y.r) (Ud y.q) (Um y.v):=j▸(Bx5.new _ _ _ _ _ _ _).up _;have o:Bx5 W (w.heap.size+1) Ue (Un false) (Ud 0) (Ud 0) (Um ⟨#[]⟩):=by
  rw [<- j];have:=Bx5.new (w.alloc (Uj #[Uf (Uc g) m c,Un y.fl,Ud y.r,Ud y.q,Um y.v] 117)) Ue (Un false) (Ud 0) (Ud 0) (Um ⟨#[]⟩) 117;simpa using this
 have s:=hid (QnH g 0 m c y.p W hp hm (Ut hg k.size) (fun t ht=>by rw [Uw];exact(k.cell (p:=(Ua g t)) hg).trans (h t ht)));have k0:=z.c0;have b:=hid z;have A:=hid o;have U:=hid k;have P:w.heap.size+1<W.heap.size:=o.lt;clear k z o h;go_enter func63,ntmps63;go_wp2_with fail;try rw [j]
 clear j;refine s.mono ?_;rintro e w1 ⟨q,cap,rfl,u,M,O,Q⟩;have i:=b.bw u b.lt;have E:=A.bw u A.lt;obtain⟨a0,N,X,B,C,D⟩:=i.p5;obtain⟨H,I,J,K,L,F⟩:=E.p5;have Z:=hid Q;have V:=hid (Qaa U u);have Y:Hid (W.heap.size<=q/\ q<w1.heap.size):=hid ⟨M,O⟩;clear k0 s Q M O u i E;go_wp2_with fail;have G:=Y.out;refine zF (v:=Uo #[Uf (Uc q) m cap,Un y.fl,Ud y.r,Ud y.q,Um y.v]) (by simp [results,results63,go_sem,H,I,J,K,L]) ⟨q,cap,rfl,?_,oM,?_,?_⟩
 ·repeat (refine Below.setCell ?_ oP _)
  exact V
 ·simp [UC];exact G.2
 ·repeat (refine Wr.same (w:=_) ?_ (zH _ _ _ _ oS))
  exact Z
def lCp (l:List Lf)(P Q:Nat ->Nat)(j:Nat):Value:=
 if j%5=0 then Uf (Uq ⟨P (j/5),0,Up⟩) (gL l (j/5)).p.length (Q (j/5)) else if j%5=1 then Un (gL l (j/5)).fl else if j%5=2 then Ud (gL l (j/5)).r else if j%5=3 then Ud (gL l (j/5)).q else Um (gL l (j/5)).v
theorem Qq5 (l:List Lf)(P Q:Nat ->Nat)(i:Nat):lCp l P Q (i*5)=Uf (Uq ⟨P i,0,Up⟩) (gL l i).p.length (Q i)/\ lCp l P Q (i*5+1)=Un (gL l i).fl/\ lCp l P Q (i*5+2)=Ud (gL l i).r/\ lCp l P Q (i*5+3)=Ud (gL l i).q/\ lCp l P Q (i*5+4)=Um (gL l i).v:=by
 unfold lCp;refine⟨?_,?_,?_,?_,?_⟩
 ·rw [if_pos oM,show i*5/5=i by omega]
 ·rw [if_neg oM,if_pos oM,show (i*5+1)/5=i by omega]
 ·rw [if_neg oM,if_neg oM,if_pos oM,show (i*5+2)/5=i by omega]
 ·rw [if_neg oM,if_neg oM,if_neg oM,if_pos oM,show (i*5+3)/5=i by omega]
 ·rw [if_neg oM,if_neg oM,if_neg oM,if_neg oM,show (i*5+4)/5=i by omega]
theorem QhX (l:List Lf)(P Q:Nat ->Nat)(k p q:Nat):(UT ((k+1)*5)).map (lCp l (fun i=>if i=k then p else P i) (fun i=>if i=k then q else Q i))=(UT (k*5)).map (lCp l P Q)++[Uf (Uc p) (gL l k).p.length q,Un (gL l k).fl,Ud (gL l k).r,Ud (gL l k).q,Um (gL l k).v]:=by
 rw [show (k+1)*5=k*5+1+1+1+1+1 by omega];simp only [Vq,Vl,Vm,Vo,Vu,List.cons_append,VI];obtain⟨m,u,y,z,h⟩:=Qq5 l (fun i=>if i=k then p else P i) (fun i=>if i=k then q else Q i) k;rw [m,u,y,z,h];simp only [if_pos];congr 1;refine Vr fun j hj=> ?_;have t:j<k*5:=oW hj;unfold lCp;have g:j/5≠k:=oM;simp only [if_neg g]
theorem QcR (w:Ur)(v0 v1 v2 v3 v4:Value)(t:TypeId):∀j u,[v0,v1,v2,v3,v4][j]? =Uq u ->(w.alloc (Uj #[v0,v1,v2,v3,v4] t)).cell? (((Ub w.heap.size):Us).add j)=Uq u:=by
 intro j u k;have m:=Bx5.new w v0 v1 v2 v3 v4 t;rw [Qbq,Uw];match j,k with
 | 0,k=>rw [m.c0];simpa using k
 | 1,k=>rw [m.c1];simpa using k
 | 2,k=>rw [m.c2];simpa using k
 | 3,k=>rw [m.c3];simpa using k
 | 4,k=>rw [m.c4];simpa using k
 | j+5,k=>simp at k
structure LC (w:Ur)(lo:Nat)(v:Value)(l:List Lf)(P Q:Nat ->Nat):Prop where
 row:w.ownsRow lo 117 5 v l.length ((UT (l.length*5)).map (lCp l P Q))
 pt:∀i,i<l.length ->lo<=P i/\ P i<w.heap.size/\ Uq (P i)≠v.ownBlock/\ Wr w (P i) 9 (gL l i).p.length (fun t=> Um (gS (gL l i).p t))/\ (gL l i).p.length<=Q i/\ Q i<=9223372036854775807
def Sep (P:Nat ->Nat)(n:Nat):Prop:=∀i j,i<n ->j<n ->i≠j ->P i≠P j
def LB (w:Ur)(lo:Nat)(v:Value)(l:List Lf):Prop:=∃P Q,LC w lo v l P Q/\ Sep P l.length
section
variable {w w' : Ur} {lo : Nat} {v : Value} {l : List Lf} {P Q : Nat -> Nat}
theorem LC.nil (w:Ur)(lo:Nat)(P Q:Nat ->Nat):LC w lo Ue [] P Q:=⟨⟨rfl,.inl ⟨rfl,rfl⟩⟩,fun i hi=>by simp at hi⟩
theorem LC.move (h:LC w lo v l P Q)(hz:w.heap.size<=w'.heap.size)(hs:∀q,lo<=q ->q<w.heap.size ->w'.heap[q]? =w.heap[q]?):LC w' lo v l P Q:=
 ⟨QaO h.row (fun g hg=>hs g (h.row.lt g hg).1 (h.row.lt g hg).2),fun i hi=>by
  obtain⟨j,k,r,m⟩:=h.pt i hi;exact⟨j,Ut k hz,r,m.1.same (hs _ j k),m.2⟩⟩
theorem LC.bw (h:LC w lo v l P Q)(hb:Bl w w'):LC w' lo v l P Q:=h.move hb.size (fun q _ h2=>hb.block q h2)
theorem LB.move (h:LB w lo v l)(hz:w.heap.size<=w'.heap.size)(hs:∀q,lo<=q ->q<w.heap.size ->w'.heap[q]? =w.heap[q]?):LB w' lo v l:=by
 obtain⟨P,Q,j,k⟩:=h;exact⟨P,Q,j.move hz hs,k⟩
theorem LB.bw (h:LB w lo v l)(hb:Bl w w'):LB w' lo v l:=h.move hb.size (fun q _ h2=>hb.block q h2)
theorem LB.lt (h:LB w lo v l):∀g,v.ownBlock=Uq g ->lo<=g/\ g<w.heap.size:=by
 obtain⟨P,Q,j,k⟩:=h;exact fun g hg=>j.row.lt g hg
theorem LB.nil (w:Ur)(lo:Nat):LB w lo Ue []:=⟨fun _=>0,fun _=>0,LC.nil w lo _ _,fun i j hi=>by simp at hi⟩
end
theorem LB.form(h:LB w lo v l):∃a c,v=Uf a l.length c:=by
 obtain⟨P,Q,k,_⟩:=h;rcases k.row.2 with ⟨e,j⟩|⟨g,cap,m,e,_⟩
 ·exact⟨Up,0,by rw [e,j]⟩
 ·exact⟨_,cap,e⟩
theorem Qj7 (l:List Lf)(y:Lf)(hi:i<l.length):gL (l++[y]) i=gL l i:=by simp [gL,UR,YV hi]
theorem Qj5 (l:List Lf)(y:Lf):gL (l++[y]) l.length=y:=by simp [gL,UR]
theorem QnM (l:List Lf)(y:Lf)(P Q:Nat ->Nat)(p q:Nat):(UT ((l.length+1)*5)).map (lCp (l++[y]) (fun i=>if i=l.length then p else P i) (fun i=>if i=l.length then q else Q i))=(UT (l.length*5)).map (lCp l P Q)++[Uf (Uc p) y.p.length q,Un y.fl,Ud y.r,Ud y.q,Um y.v]:=by
 rw [QhX,Qj5];congr 1;refine Vr fun j hj=> ?_;have k:j<l.length*5:=oW hj;unfold lCp;rw [Qj7 l y (show j/5<l.length by omega)]
theorem LC.app{P Q:Nat ->Nat}(h:LC w lo v l P Q)(hb:Bl w w1)(hlo:lo<=w.heap.size)(hk:l.length<=1048576)(y:Lf)(p pc:Nat)(hp1:lo<=p)(hp2:p<w1.heap.size)(hp3:Uq p≠v.ownBlock)(hw:Wr w1 p 9 y.p.length (fun t=> Um (gS y.p t)))(hpc:y.p.length<=pc/\ pc<=9223372036854775807):
  ∃j k z,(Builtin.append_ #[35,35] 35 #[v,Uf (Uc w1.heap.size) 1 1]).run prog (w1.alloc (Uj #[Uf (Uc p) y.p.length pc,Un y.fl,Ud y.r,Ud y.q,Um y.v] 117))=.ok (Uf (Uc j) (l.length+1) k) z/\
   LC z lo (Uf (Uc j) (l.length+1) k) (l++[y]) (fun i=>if i=l.length then p else P i) (fun i=>if i=l.length then pc else Q i)/\ Gr w1 z v (Uf (Uc j) (l.length+1) k):=by
 obtain⟨D,hi,X,B,C⟩:=info_parts QcZ;have N:=h.bw hb;have s:Bl w1 (w1.alloc (Uj #[Uf (Uc p) y.p.length pc,Un y.fl,Ud y.r,Ud y.q,Um y.v] 117)):=zO _ _;have M:=N.bw s;have J:=hw.same (s.block p hp2);have Y:=QcR w1 (Uf (Uc p) y.p.length pc) (Un y.fl) (Ud y.r) (Ud y.q) (Um y.v) 117;obtain⟨o,V⟩:=zE (w1.alloc (Uj #[Uf (Uc p) y.p.length pc,Un y.fl,Ud y.r,Ud y.q,Um y.v] 117));rw [V] at M J Y s ⊢;have hz:o.heap.size=w1.heap.size+1:=V▸oP;have W:=hb.size;obtain⟨v',z,H,E,A,R,m⟩:=run_append_own_at (P:=prog) o lo 35 35 117 D _ 5 64 underlying35 hi X B C rfl oD v l.length _ M.row (Ub w1.heap.size) 1 1 [Uf (Uc p) y.p.length pc,Un y.fl,Ud y.r,Ud y.q,Um y.v] rfl Y (fun u hu=>by
  simp only [YD,YW,or_false] at hu;rcases hu with e|e|e|e|e<;>rw [e]<;>rfl) oL oM oM
 rcases E.2 with ⟨I,S⟩|⟨j,k,F,I,r⟩
 ·omega
 rw [I] at H E m;have G:Uq j=v.ownBlock \/j=o.heap.size:=by
  rcases m with m|m
  ·exact .inl (by simpa [Value.ownBlock] using m)
  ·exact .inr (by simpa [Value.ownBlock] using m)
 have T:=A.size;have L:Gr w1 z v (Uf (Uc j) (l.length+1) k):=by
  refine(Gr.of_below (b:=v) s).trans ⟨A,?_⟩;rcases G with e|e
  ·exact .inl e
  ·exact .inr ⟨j,rfl,oM⟩
 refine⟨j,k,z,H,⟨?_,fun i hi=> ?_⟩,L⟩
 ·rw [Vg,Vp,QnM];exact E
 ·have Z:∀b,Uq b≠v.ownBlock ->b<o.heap.size ->Uq b≠(Value.slice (Uc j) (l.length+1) k).ownBlock:=fun b hb1 hb2 e=>by
   have e:b=j:=(by simpa [Value.ownBlock] using e);rcases G with g|g
   ·exact hb1 (by rw [e];exact g)
   ·omega
  by_cases e:i=l.length
  ·subst e;simp only [if_pos];rw [Qj5];exact⟨hp1,oM,Z p hp3 oM,J.same (A.block p oM hp3),hpc⟩
  ·have hi':i<l.length:=(by simp at hi;omega);simp only [if_neg e];rw [Qj7 l y hi'];obtain⟨K,g,O,U⟩:=M.pt i hi';exact⟨K,oM,Z _ O g,U.1.same (A.block _ g O),U.2⟩
theorem Sep.app {P:Nat ->Nat}{p:Nat}(h:Sep P n)(hp:∀i,i<n ->P i≠p):Sep (fun i=>if i=n then p else P i) (n+1):=by
 intro i j hi q m;dsimp only;by_cases e:i=n
 ·rw [if_pos e,if_neg oM];exact fun k=>hp j oM k.symm
 ·rw [if_neg e];by_cases k:j=n
  ·rw [if_pos k];exact hp i oM
  ·rw [if_neg k];exact h i j oM oM m
theorem LB.app(h:LB w lo v l)(hb:Bl w w1)(hlo:lo<=w.heap.size)(hk:l.length<=1048576)(y:Lf)(p pc:Nat)(hp1:w.heap.size<=p)(hp2:p<w1.heap.size)(hw:Wr w1 p 9 y.p.length (fun t=> Um (gS y.p t)))(hpc:y.p.length<=pc/\ pc<=9223372036854775807):
  ∃k j m,(Builtin.append_ #[35,35] 35 #[v,Uf (Uc w1.heap.size) 1 1]).run prog (w1.alloc (Uj #[Uf (Uc p) y.p.length pc,Un y.fl,Ud y.r,Ud y.q,Um y.v] 117))=.ok (Uf (Uc k) (l.length+1) j) m/\
   LB m lo (Uf (Uc k) (l.length+1) j) (l++[y])/\ Gr w1 m v (Uf (Uc k) (l.length+1) j):=by
 obtain⟨P,Q,u,b⟩:=h;obtain⟨k,j,m,z,g,o⟩:=u.app hb hlo hk y p pc oM hp2 (fun e=>oH ((u.row.lt p e.symm).2)) hw hpc;exact⟨k,j,m,z,⟨_,_,g,by rw [Vg,Vp];exact b.app (fun i hi=>oH ((u.pt i hi).2.1))⟩,o⟩
def QhB (w:Ur)(vw:Value)(p:List ByteArray):Prop:=(vw=Ue/\ p=[]) \/∃g c,vw=Uf (Uc g) p.length c/\ g<w.heap.size/\∀t,t<p.length ->w.cell? (Ua g t)=Uq (Um (gS p t))
theorem QhB.move(h:QhB w vw p)(hz:w.heap.size<=w'.heap.size)(hs:∀g,vw.ownBlock=Uq g ->w'.heap[g]? =w.heap[g]?):QhB w' vw p:=by
 rcases h with h|⟨g,c,rfl,k,j⟩
 ·exact .inl h
 ·exact .inr ⟨g,c,rfl,oM,fun t ht=>(UB (a:=(Ua g t)) (hs g rfl)).trans (j t ht)⟩
theorem QhB.lt(h:QhB w vw p):∀g,vw.ownBlock=Uq g ->g<w.heap.size:=by
 rcases h with ⟨rfl,_⟩|⟨g,c,rfl,k,m⟩
 ·intro g e;cases e
 ·intro j e;have e:g=j:=by simpa [Value.ownBlock] using e
  omega
theorem QhB.bw(h:QhB w vw p)(hb:Bl w w'):QhB w' vw p:=h.move hb.size (fun g hg=>hb.block g (h.lt g hg))
def Qdh (p:List ByteArray):List Value:=(UT (p.length*1)).map fun t=> Um (gS p t)
theorem Qpe (p:List ByteArray)(s:ByteArray)(hi:i<p.length):gS (p++[s]) i=gS p i:=by simp [gS,UR,YV hi]
theorem Qpd (p:List ByteArray)(s:ByteArray):gS (p++[s]) p.length=s:=by simp [gS,UR]
theorem Qk4 (p:List ByteArray)(s:ByteArray):Qdh (p++[s])=Qdh p++[Um s]:=by
 unfold Qdh;rw [YR,YR,Vg,Vp,Vq,Vl,List.map_singleton,Qpd];congr 1;refine Vr fun j hj=> ?_;rw [Qpe p s (oW hj)]
theorem Qmr (g m c:Nat)(p:List ByteArray)(w:Ur)(hp:p.length=m)(hm:m<=1048576)(hg:g<w.heap.size)(h:∀t,t<m ->w.cell? (Ua g t)=Uq (Um (gS p t))):
  Cl 154 #[Uf (Uc g) m c] w fun e w'=>∃q cap,e=Ui (Uf (Uc q) m cap)/\ Bl w w'/\ w'.ownsRow w.heap.size 9 1 (Uf (Uc q) m cap) m (Qdh p):=by
 obtain⟨M,hi,s,A,E⟩:=info_parts QcC;have r:Bl w (w.alloc (Uj #[] 9)):=zO _ _;have y:(w.alloc (Uj #[] 9)).ownsRow w.heap.size 9 1 (Uf (Uc w.heap.size) 0 0) 0 []:=by
  have:=VD (base:=w.heap.size) (e:=9) (size:=1) w #[] 0 zL oL rfl;simpa using this
 obtain⟨q,cap,w',u,z,v,b⟩:=QcS 90 9 M _ 1 16 underlying90 hi s A E rfl oD oM w.heap.size g 0 m c (fun t=> Um (gS p t)) (w.alloc (Uj #[] 9)) w.heap.size hm y oP (fun j hj=>by rw [Uw];exact(r.cell (p:=(Ua g j)) hg).trans (h j oM)) (fun _ _=>rfl);have o:Hid (Bl w w'):=hid (r.grown v r.size (fun k e=>oI e));have i:Hid (w'.ownsRow w.heap.size 9 1 (Uf (Uc q) m cap) m (Qdh p)):=hid (by unfold Qdh;rw [hp];exact z);have O:∀w:Ur,(binOp .eql 90 (Uf (Uc g) m c) Ue).run prog w=.ok (Un false) w:=fun _=>rfl;clear z v b h y r;go_enter func154,ntmps154;go_wp2_with (at_builtin;refine Qac rfl _ _ _ _ rfl u (by rfl) (by rfl) rfl ?_;clear u);go_ret;exact⟨q,cap,rfl,o,i⟩
theorem Qo9 (w:Ur):Cl 154 #[Ue] w fun e w'=>e=Ui Ue/\ w'=w:=by
 have j:∀w:Ur,(binOp .eql 90 Ue Ue).run prog w=.ok (Un true) w:=fun _=>rfl;go_enter func154,ntmps154;go_wp2_with fail;go_ret;exact⟨rfl,rfl⟩
theorem QoA (vw:Value)(p:List ByteArray)(w:Ur)(hp:p.length<=1048576)(h:QhB w vw p):
  Cl 154 #[vw] w fun e w'=>∃v,e=Ui v/\ Bl w w'/\ w'.ownsRow w.heap.size 9 1 v p.length (Qdh p):=by
 rcases h with ⟨rfl,rfl⟩|⟨g,c,rfl,j,k⟩
 ·refine(Qo9 w).mono ?_;rintro e w' ⟨rfl,rfl⟩;exact⟨_,rfl,zI,⟨rfl,.inl ⟨rfl,rfl⟩⟩⟩
 ·refine(Qmr g p.length c p w rfl hp j k).mono ?_;rintro e w' ⟨q,cap,rfl,m,r⟩;exact⟨_,rfl,m,r⟩
theorem Qoa(h:w.ownsRow lo 9 1 v p.length (Qdh p))(hlo:lo<=w.heap.size)(hp:p.length<=1048576)(s:ByteArray)(b:Nat)(hb:w.cell? (Ub b)=Uq (Um s)):
  ∃q cap k,(Builtin.append_ #[90,90] 90 #[v,Uf (Uc b) 1 1]).run prog w=.ok (Uf (Uc q) (p.length+1) cap) k/\ k.ownsRow lo 9 1 (Uf (Uc q) (p.length+1) cap) (p.length+1) (Qdh (p++[s]))/\ w.grownBy k v.ownBlock/\ lo<=q/\ (v.ownBlock=Uq q \/q=w.heap.size):=by
 obtain⟨O,hi,A,E,M⟩:=info_parts QcC;obtain⟨v',k,z,m,i,U,y⟩:=run_append_own_at (P:=prog) w lo 90 90 9 O _ 1 16 underlying90 hi A E M rfl oD v p.length _ h (Ub b) 1 1 [Um s] rfl (fun j u hj=>by
  match j,hj with
  | 0,hj=>simp at hj;rw [<- hj,Qbq];exact hb
  | j+1,hj=>simp at hj) (fun u hu=>by
  simp only [YD,YW,or_false] at hu;rw [hu];rfl) oL oM oM
 rcases m.2 with ⟨g,V⟩|⟨t,o,Q,g,r⟩
 ·omega
 rw [g] at z m y;exact⟨t,o,k,z,by rw [Qk4];exact m,i,(m.lt t rfl).1,y.imp (fun e=>e.symm) (fun e=>by simpa [Value.ownBlock] using e)⟩
theorem Qkw(h:w.ownsRow lo 9 1 v p.length (Qdh p))(hlo:lo<=w.heap.size)(hp:p.length<=1048576)(s:ByteArray)(b:Nat)(hb:w.cell? (Ub b)=Uq (Um s)):
  ∃q cap j,(Builtin.append_ #[90,90] 90 #[v,Uf (Uc b) 1 1]).run prog w=.ok (Uf (Uc q) (p.length+1) cap) j/\ j.ownsRow lo 9 1 (Uf (Uc q) (p.length+1) cap) (p.length+1) (Qdh (p++[s]))/\ w.grownBy j v.ownBlock/\ lo<=q:=by
 obtain⟨q,cap,j,k,m,r,u,_⟩:=Qoa h hlo hp s b hb;exact⟨q,cap,j,k,m,r,u⟩
theorem Qez{cap:Nat}(h:w.ownsRow lo 9 1 (Uf (Uc q) m cap) m (Qdh p))(hp:p.length=m):QhB w (Uf (Uc q) m cap) p/\ Wr w q 9 m (fun t=> Um (gS p t)):=by
 unfold Qdh at h;rw [hp] at h;have j:=Qci h;rw [YR] at j;exact⟨.inr ⟨q,cap,by rw [hp],j.lt,fun t ht=>j.cell oM⟩,j⟩
def QmB (n:Nat)(o:Option (Nat×Nat)):Value:=Uo #[.map (mF o),.map (mS o),.map (Uq n)]
def JQ (J:List Lf)(z:List Ky)(c:Nat)(w:Ur)(e:Ending)(w':Ur):Prop:=(∃x0 N',e=Ui (Uo #[.map (Uq x0.1),.map (Uq x0.2)])/\ JF w' w.heap.size J z N' c x0)/\ Bl w w'
def Qou (v0:Ur)(n:Nat)(h:Dt ->Bool):Prop:=∀w,Bl v0 w ->∀r q kl,keyOf prog 115 (dtV (r,q))=Uq kl ->Cl 178 #[.map (Uq n),Uo #[Ud r,Ud q]] w fun e w''=>e=Ui (Un (h (r,q)))/\ Bl w w''
structure JH (v0:Ur)(Na Nb:List Ky ->Option (Nat×Nat))(MA MB:List Ky ->Dt ->Option ByteArray)(ca cb na nb:Nat)(hA hB:Dt ->Bool)(J:List Lf):Prop where
 ta:Tre v0 0 Na MA ca
 tb:Tre v0 0 Nb MB cb
 ha:Qou v0 na hA
 hb:Qou v0 nb hB
 hJ:∀z,kmF (MB z) (MA z) hA (kmF (MA z) (MB z) hB (fun _=>Up))=Mk J J.length z
 hAh:∀z y,Ah J (z++[y]) ->Na (z++[y])≠Up \/Nb (z++[y])≠Up
theorem MO.ltv {α β:Type}{t:TypeId}{kv:α ->Value}{vo:Option β ->Value}{f:α ->Option β}(h:MO w t kv vo mo c f)(hk:w.heap.size<=k):mo≠Uq k:=fun e=>by have:=h.lt k e;omega
theorem Rng.nomap {α β:Type}{t:TypeId}{kv:α ->Value}{vo:Option β ->Value}{r cnt:Nat}{f:α ->Option β}{ds:List α}(h:Rng w t kv vo mo r c f ds cnt):∀k j,w.heap[r]? ≠Uq (.map k j):=by
 intro k j e;cases mo with
 | none=>rw [h.1] at e;cases e
 | some b=>
  obtain⟨D,p,⟨v,u,E,A,q,o,F,i,g,m,s⟩,y,z⟩:=h;rw [m] at e;cases e
theorem QhS {v0:Ur}{Na Nb:List Ky ->Option (Nat×Nat)}{MA MB:List Ky ->Dt ->Option ByteArray}{ca cb na nb:Nat}{hA hB:Dt ->Bool}(H:JH v0 Na Nb MA MB ca cb na nb hA hB J)(z:List Ky)(c':Nat)(hc:ca+cb<=c')(hc2:c'+(ca+cb)<=1048576)
  (hIH:∀y,(Na (z++[y])≠Up \/Nb (z++[y])≠Up) ->∀w,Bl v0 w ->Cl 169 #[QmB na (Na (z++[y])),QmB nb (Nb (z++[y]))] w (JQ J (z++[y]) c' w))
  (w:Ur) (hw:Bl v0 w):
  Cl 169 #[QmB na (Na z),QmB nb (Nb z)] w (JQ J z (c'+(ca+cb)) w):=by
 have Gh:=hid (H.ta.mo_marks z);have Gi:=hid (H.tb.mo_marks z);have H9:=hid (H.ta.mo_kids z);have Gu:=hid (H.tb.mo_kids z);have Kf:=hid (fun(s:ByteArray)(k:Int)(Y:Lit)(w:Ur)(hw:Bl v0 w)(D:keyOf prog 230 (QaE (s,k))=Uq Y)=>Qnb z s k (Uq na) 0 ca Na MA w Y D (H.ta.bw hw));have Kg:=hid (fun(s:ByteArray)(k:Int)(Y:Lit)(w:Ur)(hw:Bl v0 w)(D:keyOf prog 230 (QaE (s,k))=Uq Y)=>Qnb z s k (Uq nb) 0 cb Nb MB w Y D (H.tb.bw hw));have Kn:=hid hIH;have HH:=hid H;have HV:=hid hw;have HC:=hid (And.intro hc hc2);unfold QmB at Kf Kg Kn ⊢;obtain⟨a0,K6⟩:=zE (mF (Na z));obtain⟨G,K7⟩:=zE (mS (Na z));obtain⟨A,K8⟩:=zE (mF (Nb z));obtain⟨q,K9⟩:=zE (mS (Nb z));rw [K6,K7] at Kf ⊢;rw [K8,K9] at Kg ⊢;rw [K7] at Gh;rw [K9] at Gi;rw [K6] at H9;rw [K8] at Gu;clear K6 K7 K8 K9 H hIH hw hc hc2;obtain⟨W,hW⟩:=zE (((w.alloc (Uj #[.map a0,.map G,.map (Uq na)] 176)).alloc (Uj #[.map A,.map q,.map (Uq nb)] 176)).alloc (Uj #[.map Up,.map Up] 172));have B0:Bl w W:=hW▸(Qak _ _ _).alloc oS _;have X0:Bx3 W w.heap.size (.map a0) (.map G) (.map (Uq na)):=by
  rw [<- hW];exact((Bx3.made w _ _ _ _).bw (zO _ _) (Bx3.made w _ _ _ _).lt).bw (zO _ _) oS
 have X1:Bx3 W (w.heap.size+1) (.map A) (.map q) (.map (Uq nb)):=by
  rw [<- hW];have:=Bx3.made (w.alloc (Uj #[.map a0,.map G,.map (Uq na)] 176)) (.map A) (.map q) (.map (Uq nb)) 176;exact(by simpa using this:Bx3 _ (w.heap.size+1) _ _ _).bw (zO _ _) oP
 have X2:Bx2 W (w.heap.size+1+1) (.map Up) (.map Up):=by
  rw [<- hW];simpa using Bx2.made ((w.alloc (Uj #[.map a0,.map G,.map (Uq na)] 176)).alloc (Uj #[.map A,.map q,.map (Uq nb)] 176)) (.map Up) (.map Up) 172
 have HX:=hid (And.intro X0 (And.intro X1 X2));have Kk:=hid B0;have Jr:Hid (W.heap.size=w.heap.size+3):=hid (hW▸oP);clear B0 X0 X1 X2;go_enter func169,ntmps169;go_wp2_with fail;try rw [hW]
 clear hW;refine(Qdx W).mono ?_;rintro e w1 ⟨s,s',rfl,Jk,hs,Jt,m1,m2,Jj⟩;obtain⟨x0,rfl,rfl⟩:∃x0:Nat×Nat,x0.1=s/\ x0.2=s':=⟨(s,s'),rfl,rfl⟩;obtain⟨w2,G4⟩:=zE (w1.alloc (Uj #[.map (Uq x0.1),.map (Uq x0.2)] 172));have b2:Bl w1 w2:=G4▸zO _ _;have Gf:=Qaa Jj b2;have Gx:JB w2 w.heap.size w1.heap.size a0 G (Uq na) A q (Uq nb) x0:=⟨HX.1.bw Gf HX.1.lt,HX.2.1.bw Gf HX.2.1.lt,HX.2.2.bw Gf HX.2.2.lt,G4▸Bx2.made _ _ _ _⟩;have K3:Hid (Bl v0 W):=hid (HV.trans (Kk.mono HV.size));have V2:Bl v0 w2:=K3.trans (Gf.mono K3.size);have Jg:=hid (Qa1.same m1 (b2.block _ m1.lt));have o:Hid (x0.1<w1.heap.size/\ x0.2<w1.heap.size/\ x0.1≠x0.2/\ w.heap.size+3<=x0.1/\ w.heap.size+3<=x0.2/\ v0.heap.size<=x0.1/\ v0.heap.size<=x0.2):=hid (by
  have t:=Jr.out;have h2:=K3.size;exact⟨m1.lt,m2.lt,Jk,oM,oM,oM,oM⟩)
 have Gj:Hid (G≠Uq x0.2/\ q≠Uq x0.2/\ a0≠Uq x0.1/\ A≠Uq x0.1):=hid ⟨Gh.ltv o.2.2.2.2.2.2,Gi.ltv o.2.2.2.2.2.2,H9.ltv o.2.2.2.2.2.1,Gu.ltv o.2.2.2.2.2.1⟩;have Gv:=hid (Qfg a0 G A q (Uq x0.1) (Uq na) x0.2 nb ca cb 0 (MA z) (MB z) (fun _=>Up) hB w2 (Gh.bw V2 (fun b e=>Gh.lt b e)) (Gi.bw V2 (fun b e=>Gi.lt b e)) (Qa1.same m2 (b2.block _ m2.lt)) Gj.1 Gj.2.1 (oH HC)
  (fun w' hg=>HH.hb w' (V2.grown hg V2.size (fun k e=>by cases e;exact o.2.2.2.2.2.2))))
 obtain⟨p0,p1,p2⟩:=Gx.a.q3;obtain⟨p3,p4,p5⟩:=Gx.b.q3;obtain⟨p6,p7⟩:=Gx.j.q2;have Gs:=hid Gx;have K0:=hid V2;have Kl:=hid (Kk.trans (Gf.mono Kk.size));have Ga:Hid (w1.heap.size<w2.heap.size):=hid (G4▸oP);clear Gx V2 b2 Gf Jk hs Jt m1 m2 Jj;go_wp2_with fail;try rw [G4]
 clear G4;refine Gv.mono ?_;rintro e w3 ⟨rfl,m3,g3⟩;have nr:∀k,Uq x0.2=Uq k ->k≠w.heap.size/\ k≠w.heap.size+1/\ k≠w.heap.size+1+1/\ k≠w1.heap.size:=fun k e=>by
  have t:=o.out;injection e with e;omega
 have Gy:=Gs.gr g3 nr;have V3:Bl v0 w3:=K0.grown g3 K0.size (fun k e=>by cases e;exact o.2.2.2.2.2.2);have Gw:=hid (Qfg A q a0 G (Uq x0.1) (Uq nb) x0.2 na cb ca (0+ca) (MB z) (MA z) (kmF (MA z) (MB z) hB (fun _=>Up)) hA w3 (Gi.bw V3 (fun b e=>Gi.lt b e)) (Gh.bw V3 (fun b e=>Gh.lt b e)) m3 Gj.2.1 Gj.1 (oH HC)
  (fun w' hg=>HH.ha w' (V3.grown hg V3.size (fun k e=>by cases e;exact o.2.2.2.2.2.2))))
 clear p0 p1 p2 p3 p4 p5 p6 p7;obtain⟨p0,p1,p2⟩:=Gy.a.q3;obtain⟨p3,p4,p5⟩:=Gy.b.q3;obtain⟨p6,p7⟩:=Gy.j.q2;have Gt:=hid Gy;have K1:=hid V3;have Je:=hid g3;have Jo:=hid nr;clear Gy V3 m3 g3 Gv nr;go_wp2_with fail;refine Gw.mono ?_;rintro e w4 ⟨rfl,m4,g4⟩;have K4:=Gt.gr g4 Jo;have V4:Bl v0 w4:=K1.grown g4 K1.size (fun k e=>by cases e;exact o.2.2.2.2.2.2);have Kj:=Je.trans g4;have K2:Hid (Bl w w4):=hid (Kl.grown Kj Kl.size (fun k e=>by have:=o.out;cases e;omega));have Kd:Hid (w1.heap.size<w4.heap.size):=hid (Ut Ga Kj.size);have Jf:Hid (JT w4 w.heap.size J z (fun _=>False) (fun r=>if r=[] then Uq x0 else Up) c' x0):=hid ((JT.start (Qa1.same Jg (Kj.block _ (Nat.lt_trans o.1 Ga) (fun e=>o.2.2.1 (by injection e)))) (by rw [<- HH.hJ z];exact m4) o.2.2.1 (oH o)).mono (oH HC));clear p0 p1 p2 p3 p4 p5 p6 p7;have p0:=K4.a.c0;have Kp:=hid K4;have Kh:=hid V4;have Kq:=hid (H9.bw V4 (fun b e=>H9.lt b e));have Jh:Hid (∀k,Uq x0.1=Uq k ->k≠w.heap.size/\ k≠w.heap.size+1/\ k≠w.heap.size+1+1/\ k≠w1.heap.size):=hid (fun k e=>by
  have t:=o.out;injection e with e;omega)
 have Ke:Hid (w.heap.size<=w4.heap.size):=hid K2.size;have Jw:Hid (∀b,a0=Uq b ->b<v0.heap.size):=hid (fun b e=>H9.lt b e);have Jx:Hid (∀b,A=Uq b ->b<v0.heap.size):=hid (fun b e=>Gu.lt b e);clear K4 V4 m4 g4 Kj Gw Je K0 K1 Gs Gt Jg Kl Ga;go_wp2_with (at_range;refine Qbc _ rfl _ 169 rfl 230 172 Qa4 underlying169 QaE Qbd a0 ca (fun y=>Na (z++[y])) rfl Kq ?_;intro w0 K5 Ho Hu Jb);have Go:Hid (w4.grownBy w0 (Uq x0.1)):=hid (Hu.but _);have Gr:Hid (JT w0 w.heap.size J z (fun u=>u∈([]:List Ky)) (fun r=>if r=[] then Uq x0 else Up) (c'+([]:List Ky).length) x0):=hid ((Jf.kept' (r:=w4.heap.size) (Hu.but _) (fun es cl e=>oH ((Array.getElem?_eq_some_iff.1 e).1))).congr (fun u=>oP));have Hh:=hid (Kp.gr Hu (fun k e=>by cases e));clear Hu Jb Jf p0;try go_frame
 go_loopw [] (fun wr=>∃(i:List Ky) (Gd:Nat) (N:List Ky ->Option (Nat×Nat)),Rng wr 230 QaE Qbd a0 w4.heap.size ca (fun y=>Na (z++[y])) i Gd/\ Hid (JT wr w.heap.size J z (fun u=>u∈i) N (c'+i.length) x0)/\ Hid (JB wr w.heap.size w1.heap.size a0 G (Uq na) A q (Uq nb) x0)/\ Hid (w4.grownBy wr (Uq x0.1))) (fun wr=>wr.rangeLeft (a0.getD 0) w4.heap.size);case atStart=>exact⟨[],_,_,Ho,Gr,Hh,Go⟩
 case round=>
  clear Ho Gr Go Hh;obtain⟨i,Gd,N,Hw,Gg,F,H0⟩:=hrel;have Ha:=hid Hw;go_wp2_with (at_next;refine Qbm _ rfl _ rfl 230 Qa4 QaE (fun _ _=>Qb1) (fun key Y D=>Qda D) Qbd a0 w4.heap.size ca (fun y=>Na (z++[y])) i Gd rfl Hw ?_ ?_)
  ·intro D;have Ks:=hid D;have Jd:Hid (i.length<=ca):=hid (oH Ha.len);obtain⟨V,hV⟩:∃V,V=wr:=⟨_,rfl⟩;subst hV;have V5:Bl v0 V:=Kh.grown H0 Kh.size (fun k e=>by have:=o.out;cases e;omega);have Ji:=hid V5;have Gc:Hid (Bl w V):=hid (K2.grown H0 K2.size (fun k e=>by have:=o.out;cases e;omega));have Kx:Hid (w1.heap.size<V.heap.size):=hid (Ut Kd H0.size);have Kz:Hid (w.heap.size<=V.heap.size):=hid Gc.size;have Kr:=hid (Gu.bw V5 (fun b e=>Gu.lt b e));have p0:=F.b.c0;clear D Hw V5 Ha Ke;go_wp2_with (at_range;refine Qbc _ rfl _ 169 rfl 230 172 Qa4 underlying169 QaE Qbd A cb (fun y=>Nb (z++[y])) rfl Kr ?_;intro w0 K5 Ho Hu Jb);have Go:Hid (V.grownBy w0 (Uq x0.1)):=hid (Hu.but _);have Gr:Hid (JT w0 w.heap.size J z (fun u=>u∈i \/u∈([]:List Ky)) N (c'+i.length+([]:List Ky).length) x0):=hid ((Gg.kept' (r:=V.heap.size) (Hu.but _) (fun es cl e=>oH ((Array.getElem?_eq_some_iff.1 e).1))).congr (fun u=>oP));have Hh:=hid (F.gr Hu (fun k e=>by cases e));clear Hu Jb p0;try go_frame
   clear H0 Gg F;go_loopw [] (fun wr=>∃(P:List Ky) (Gd:Nat) (N:List Ky ->Option (Nat×Nat)),Rng wr 230 QaE Qbd A V.heap.size cb (fun y=>Nb (z++[y])) P Gd/\ Hid (JT wr w.heap.size J z (fun u=>u∈i \/u∈P) N (c'+i.length+P.length) x0)/\ Hid (JB wr w.heap.size w1.heap.size a0 G (Uq na) A q (Uq nb) x0)/\ Hid (V.grownBy wr (Uq x0.1))) (fun wr=>wr.rangeLeft (A.getD 0) V.heap.size);case atStart=>exact⟨[],_,_,Ho,Gr,Hh,Go⟩
   case round=>
    clear Ho Gr Go Hh;obtain⟨P,Gd,N,Hw,Gg,F,H0⟩:=hrel;have Ha:=hid Hw;go_wp2_with (at_next;refine Qbm _ rfl _ rfl 230 Qa4 QaE (fun _ _=>Qb1) (fun key Y D=>Qda D) Qbd A V.heap.size cb (fun y=>Nb (z++[y])) P Gd rfl Hw ?_ ?_)
    ·intro D;have HE:Hid (JF wr w.heap.size J z N (c'+(ca+cb)) x0):=hid ((Gg.full (fun y hy=>by
      rcases HH.hAh z y hy with h|h
      ·exact .inl ((Ks.2 y).2 h)
      ·exact .inr ((D.2 y).2 h))).mono (by have t:=Ha.len;have h2:=Jd.out;omega))
     have Jm:Hid (Bl w wr):=hid (Gc.grown H0 Gc.size (fun k e=>by have:=o.out;cases e;omega));obtain⟨r0,r1⟩:=F.r.q2;have f0:=F.r.f 0;have f1:=F.r.f 1;obtain⟨j0,j1⟩:=F.j.q2;have Jl:=hid (F.r.set (.map (Uq x0.1)) (.map (Uq x0.2)));clear D Hw;go_wp2_with fail;obtain⟨s0,s1⟩:=Jl.q2;refine zF (v:=Uo #[.map (Uq x0.1),.map (Uq x0.2)]) (by simp [results,results169,go_sem,s0,s1]) ⟨⟨x0,N,rfl,?_⟩,?_⟩
     ·have hb:=F.r;exact⟨(HE.tre.set _ hb.c0).set (v:=.map Up) _ (by simp [UI,hb.c1]),HE.root,HE.there⟩
     ·exact(Jm.setCell oS _).setCell oS _
    ·intro xs m Ju Jv Z Ge bm G2 Gz G3 Y G0 Hp Hl Hv Jc Ja;have Kw:Hid (Na (z++[(xs,m)])≠Up \/Nb (z++[(xs,m)])≠Up):=hid (Or.inr (by rw [show Nb (z++[(xs,m)])=_ from Gz];simp));have H1:=hid G0;have Km:Hid (c'+i.length+P.length<1048576):=hid (by have t:=Ha.len;have h2:=HC.out;have h3:=Jd.out;omega);have Kc:Hid (∀g,Rng g 230 QaE Qbd A V.heap.size cb (fun y=>Nb (z++[y])) (P++[(xs,m)]) Ge ->g.rangeLeft (A.getD 0) V.heap.size<wr.rangeLeft (A.getD 0) V.heap.size):=hid (fun g h9=>by
      have t:=Ha.out;rw [G2] at h9 t ⊢;show g.rangeLeft bm _<wr.rangeLeft bm _;rw [h9.left_eq,t.left_eq];exact Hl)
     have Jp:=hid G3;have Gp:Hid (V.grownBy Z (Uq x0.1)):=hid (H0.andThen Hv (fun j e=>by cases e;exact .inl zL));have Kb:=hid (Gg.kept' Hv Ha.nomap);have H7:=hid (F.gr Hv (fun k e=>by have t:=Kx.out;have h2:=o.out;cases e;omega));have T:=hid Hp;obtain⟨Hy,G5⟩:=zE (Z.alloc (Uj #[Um xs,Ud m] 230));have Ki:Bl Z Hy:=G5▸zO _ _;have H8:Hid (Bx2 Hy Z.heap.size (Um xs) (Ud m)):=hid (G5▸Bx2.made _ _ _ _);have Hi:=hid (H7.bw Ki);have H3:Hid (V.grownBy Hy (Uq x0.1)):=hid (Gp.trans (QbL Ki _));have Gb:Hid (Bl v0 Hy):=hid (Ji.grown H3 Ji.size (fun k e=>by have:=o.out;cases e;omega));have G1:=(H9.bw Gb (fun b e=>H9.lt b e)).look_ok Qa4 underlying169 (QdT Hy) (x:=(xs,m)) H1;have q0:=Hi.a.c0;obtain⟨q1,q2⟩:=H8.q2;have Gk:=hid Ki;clear Gz G3 G0 Hw Hp Hl Hv Jc G2 Ki;dsimp only [QaE,Qbd] at Ja G1 ⊢;cases hna:Na (z++[(xs,m)]) with
     | some y9=>
      rw [hna] at G1;obtain⟨p,Hx⟩:=zE (Hy.alloc (Uj #[.map (Uq y9.1),.map (Uq y9.2)] 172));have O:Bl Hy p:=Hx▸zO _ _;have B6:=Qaa Gk O;have Hq:=hid (T.same (fun b e=>B6.block b (T.mlt b e)) (B6.block _ T.lt));have H6:=hid (Kb.bw B6);have Hc:=hid (Hi.bw O);have Hz:Hid (V.grownBy p (Uq x0.1)):=hid (H3.trans (QbL O _));have Jn:Hid ((xs,m)∈i):=hid ((Ks.2 _).2 (by show Na (z++[(xs,m)])≠Up;rw [hna];simp));clear hna O B6;dsimp only [JA] at G1;go_wp2_with fail;try rw [Hx]
      go_roundw;case rel=>exact⟨_,_,N,Hq,hid ((H6.congr (fun u=>by
       constructor
       ·rintro(h|h)
        ·exact .inl h
        ·exact .inr (by simp [h])
       ·rintro(h|h)
        ·exact .inl h
        ·rcases List.mem_append.1 h with h|h
         ·exact .inr h
         ·rw [List.mem_singleton.1 h];exact .inl Jn)).mono oP),Hc,Hz⟩
      case measure=>exact Kc p Hq
     | none=>
      rw [hna] at G1;have Kv:Hid (¬((xs,m)∈i \/(xs,m)∈P)):=hid (fun h=>h.elim (fun h=>(Ks.2 _).1 h hna) Jp);obtain⟨p,Hx⟩:=zE (Hy.alloc (Uj #[.map Up,.map Up] 172));have O:Bl Hy p:=Hx▸zO _ _;have B6:=Qaa Gk O;have Hq:=hid (T.same (fun b e=>B6.block b (T.mlt b e)) (B6.block _ T.lt));have H6:=hid (Kb.bw B6);have Hc:=hid (Hi.bw O);have Hr:=hid (H8.bw O H8.lt);have Hz:Hid (V.grownBy p (Uq x0.1)):=hid (H3.trans (QbL O _));have I:Hid (Bl v0 p):=hid (Gb.trans (O.mono Gb.size));have Ku:Hid (∀k,Uq x0.1=Uq k ->k≠Z.heap.size):=hid (fun k e=>by have t:=o.out;have h2:=Kx.out;have h3:=Gp.size;cases e;omega);have Kt:Hid (∀b,A=Uq b ->Uq x0.1≠Uq b):=hid (fun b e h=>Gj.2.2.2 (by rw [e,h]));have Ko:Hid (Uq x0.1≠Uq V.heap.size):=hid (fun e=>by have t:=o.out;have h2:=Kx.out;injection e with e;omega);have Jq:=hid Hx;clear O B6 hna Hx;dsimp only [JA] at G1;have Ke:=Kz;obtain⟨G7,Hd⟩:=zE (mF (Na (z++[(xs,m)])));obtain⟨G8,He⟩:=zE (mS (Na (z++[(xs,m)])));obtain⟨G9,Hf⟩:=zE (mF (Nb (z++[(xs,m)])));obtain⟨Ka,Hg⟩:=zE (mS (Nb (z++[(xs,m)])));have Gl:Hid (∀w1,Bl p w1 ->Cl 196 #[Uo #[.map a0,.map G,.map (Uq na)],Uo #[Um xs,Ud m]] w1 (Rt w1 (Uo #[.map G7,.map G8,.map (Uq na)]))):=hid (fun w1 q=>by have:=Kf xs m Y w1 (I.trans (q.mono I.size)) H1;rw [Hd,He] at this;exact this);have Gm:Hid (∀w1,Bl p w1 ->Cl 196 #[Uo #[.map A,.map q,.map (Uq nb)],Uo #[Um xs,Ud m]] w1 (Rt w1 (Uo #[.map G9,.map Ka,.map (Uq nb)]))):=hid (fun w1 q=>by have:=Kg xs m Y w1 (I.trans (q.mono I.size)) H1;rw [Hf,Hg] at this;exact this);have Gn:Hid (∀w1,Bl p w1 ->Cl 169 #[Uo #[.map G7,.map G8,.map (Uq na)],Uo #[.map G9,.map Ka,.map (Uq nb)]] w1 (JQ J (z++[(xs,m)]) c' w1)):=hid (fun w1 q=>by have:=Kn (xs,m) Kw w1 (I.trans (q.mono I.size));rw [Hd,He,Hf,Hg] at this;exact this);have R:Hid (∀w',Bl p w' ->(w'.cell? (Ub w1.heap.size)=Uq (.map (Uq x0.1))/\ w'.cell? (Ua w1.heap.size 1)=Uq (.map (Uq x0.2))/\ w'.cell? (Ub Z.heap.size)=Uq (Um xs)/\ w'.cell? (Ua Z.heap.size 1)=Uq (Ud m)/\ w'.cell? (Ub w.heap.size)=Uq (.map a0)/\ w'.cell? (Ua w.heap.size 1)=Uq (.map G)/\ w'.cell? (Ua w.heap.size 2)=Uq (.map (Uq na))/\ w'.cell? (Ua (w.heap.size+1) 0)=Uq (.map A)/\ w'.cell? (Ua (w.heap.size+1) 1)=Uq (.map q)/\ w'.cell? (Ua (w.heap.size+1) 2)=Uq (.map (Uq nb)))):=hid (fun w1 q=>(Hc.bw q).sees (Hr.bw q Hr.lt));have Gq:Hid (∀g M U,Bl p g ->∀B,JF g B J (z++[(xs,m)]) U c' M ->Cl 195 #[Uo #[.map (Uq x0.1),.map (Uq x0.2)],Uo #[Um xs,Ud m],Uo #[.map (Uq M.1),.map (Uq M.2)]] g fun e w'=>e=Ui (Ul #[])/\ g.grownBy w' (Uq x0.1)/\
        (Qc5 (fun u=>U [u]) (Mk J J.length (z++[(xs,m)])) ->Qa1 w' 230 QaE Qbd x0.1 (c'+i.length+P.length+1) (QbX (fun u=>N [u]) (xs,m) (Uq M)))/\ (¬Qc5 (fun u=>U [u]) (Mk J J.length (z++[(xs,m)])) ->Bl g w')):=hid (fun g M U S B t=>by
       have hj:=H6.bw S;have Ht:=t.mono (show c'<=c'+i.length+P.length by omega);exact Qpj x0 M xs m (c'+i.length+P.length) (fun u=>N [u]) (fun u=>U [u]) (Mk J J.length (z++[(xs,m)])) g Y H1 (hj.tre.kids [] x0 hj.root) (Ht.tre.kids [] M Ht.root) ((Ht.tre.marks [] M Ht.root).ext fun d=>oP) Km)
      clear Hd He Hf Hg;go_wp2_with fail;rw [Jq.out];refine zS R (fun qh=> ?_);refine tZ 0 55 ?_;refine tZ 1 56 ?_;refine tZ 2 57 ?_;refine tZ 3 58 ?_;refine tZ 5 60 ?_;refine tZ 6 61 ?_;refine cZ 4 ?_;intro K E;go_simp;refine(Gl _ zI.drew).mono ?_;rintro e w7 ⟨rfl,L⟩;have Hs:Bl p w7:=⟨L.os,L.tape,L.output,L.size,L.block⟩;refine E.out _ _ (R _ Hs) (fun qh=> ?_);clear E K;try simp only [zP]
      refine cZ 7 ?_;intro K E;go_simp;refine(Gm _ Hs).mono ?_;rintro e w8 ⟨rfl,b8⟩;have X:=Qaa Hs b8;refine E.out _ _ (R _ X) (fun qh=> ?_);clear E K;try simp only [zP]
      refine cZ 8 ?_;intro K E;go_simp;refine(Gn _ X).mono ?_;rintro e g ⟨⟨M,U,rfl,t⟩,S⟩;have Q:=Qaa X S;refine E.out _ _ (R _ Q) (fun qh=> ?_);clear E K;try simp only [zP]
      have H4:=hid t;clear t;refine cZ 9 ?_;intro K E;go_simp;refine(Gq g M U Q _ H4).mono ?_;rintro e G6 ⟨rfl,C,Hm,Hn⟩;have Hb:=hid ((Hc.bw Q).gr C Jh);refine E.out _ _ (Hb.sees ((Hr.bw Q Hr.lt).gr C Ku)) (fun qh=> ?_);clear E K;try simp only [zP]
      refine zD ?_;obtain⟨Js,Hk⟩:=(H6.bw X).round S (H4.mono (show c'<=c'+i.length+P.length by omega)) (Ux (Ux Ke Hz.size) X.size) Kv C Hm Hn;have H2:Hid (V.grownBy G6 (Uq x0.1)):=hid ((Hz.trans (QbL Q _)).trans C);have Hj:=hid ((Hq.same (fun b e=>Q.block b (Hq.mlt b e)) (Q.block _ Hq.lt)).kept C Kt Ko);have H5:=hid Hk;clear qh L Hs b8 X S Q C Hm Hn Hk R Gl Gm Gn Gq H4;go_wp2_with fail;go_roundw;case rel=>exact⟨_,_,_,Hj,hid (by simpa [Uy] using H5.congr (fun u=>by simp [or_assoc])),Hb,H2⟩
      case measure=>exact Kc G6 Hj
  ·intro xs m Ju Jv Z Ge bm G2 Gz G3 Y G0 Hp Hl Hv Jc Ja;have Kw:Hid (Na (z++[(xs,m)])≠Up \/Nb (z++[(xs,m)])≠Up):=hid (Or.inl (by rw [show Na (z++[(xs,m)])=_ from Gz];simp));have Kv:Hid (¬(xs,m)∈i):=hid G3;have H1:=hid G0;have Km:Hid (c'+i.length<1048576):=hid (by have t:=Ha.len;have h2:=HC.out;omega);have Kc:Hid (∀g,Rng g 230 QaE Qbd a0 w4.heap.size ca (fun y=>Na (z++[y])) (i++[(xs,m)]) Ge ->g.rangeLeft (a0.getD 0) w4.heap.size<wr.rangeLeft (a0.getD 0) w4.heap.size):=hid (fun g h9=>by
    have t:=Ha.out;rw [G2] at h9 t ⊢;show g.rangeLeft bm _<wr.rangeLeft bm _;rw [h9.left_eq,t.left_eq];exact Hl)
   have Gp:Hid (w4.grownBy Z (Uq x0.1)):=hid (H0.andThen Hv (fun j e=>by cases e;exact .inl zL));have Kb:=hid (Gg.kept' Hv Ha.nomap);have H7:=hid (F.gr Hv (fun k e=>by have t:=Kd.out;have h2:=o.out;cases e;omega));have T:=hid Hp;obtain⟨p,Hx⟩:=zE (Z.alloc (Uj #[Um xs,Ud m] 230));have O:Bl Z p:=Hx▸zO _ _;have Hr:Hid (Bx2 p Z.heap.size (Um xs) (Ud m)):=hid (Hx▸Bx2.made _ _ _ _);have Hq:=hid (T.same (fun b e=>O.block b (T.mlt b e)) (O.block _ T.lt));have H6:=hid (Kb.bw O);have Hc:=hid (H7.bw O);have Hz:Hid (w4.grownBy p (Uq x0.1)):=hid (Gp.trans (QbL O _));have I:Hid (Bl v0 p):=hid (Kh.grown Hz Kh.size (fun k e=>by have:=o.out;cases e;omega));have Ku:Hid (∀k,Uq x0.1=Uq k ->k≠Z.heap.size):=hid (fun k e=>by have t:=o.out;have h2:=Kd.out;have h3:=Gp.size;cases e;omega);have Kt:Hid (∀b,a0=Uq b ->Uq x0.1≠Uq b):=hid (fun b e h=>Gj.2.2.1 (by rw [e,h]));have Ko:Hid (Uq x0.1≠Uq w4.heap.size):=hid (fun e=>by have t:=o.out;have h2:=Kd.out;injection e with e;omega);clear Gz G3 G0 Hw Hp Hl Hv Jc G2 O;dsimp only [QaE,Qbd] at Ja ⊢;obtain⟨G7,Hd⟩:=zE (mF (Na (z++[(xs,m)])));obtain⟨G8,He⟩:=zE (mS (Na (z++[(xs,m)])));obtain⟨G9,Hf⟩:=zE (mF (Nb (z++[(xs,m)])));obtain⟨Ka,Hg⟩:=zE (mS (Nb (z++[(xs,m)])));have Gl:Hid (∀w1,Bl p w1 ->Cl 196 #[Uo #[.map a0,.map G,.map (Uq na)],Uo #[Um xs,Ud m]] w1 (Rt w1 (Uo #[.map G7,.map G8,.map (Uq na)]))):=hid (fun w1 q=>by have:=Kf xs m Y w1 (I.trans (q.mono I.size)) H1;rw [Hd,He] at this;exact this);have Gm:Hid (∀w1,Bl p w1 ->Cl 196 #[Uo #[.map A,.map q,.map (Uq nb)],Uo #[Um xs,Ud m]] w1 (Rt w1 (Uo #[.map G9,.map Ka,.map (Uq nb)]))):=hid (fun w1 q=>by have:=Kg xs m Y w1 (I.trans (q.mono I.size)) H1;rw [Hf,Hg] at this;exact this);have Gn:Hid (∀w1,Bl p w1 ->Cl 169 #[Uo #[.map G7,.map G8,.map (Uq na)],Uo #[.map G9,.map Ka,.map (Uq nb)]] w1 (JQ J (z++[(xs,m)]) c' w1)):=hid (fun w1 q=>by have:=Kn (xs,m) Kw w1 (I.trans (q.mono I.size));rw [Hd,He,Hf,Hg] at this;exact this);have R:Hid (∀w',Bl p w' ->(w'.cell? (Ub w1.heap.size)=Uq (.map (Uq x0.1))/\ w'.cell? (Ua w1.heap.size 1)=Uq (.map (Uq x0.2))/\ w'.cell? (Ub Z.heap.size)=Uq (Um xs)/\ w'.cell? (Ua Z.heap.size 1)=Uq (Ud m)/\ w'.cell? (Ub w.heap.size)=Uq (.map a0)/\ w'.cell? (Ua w.heap.size 1)=Uq (.map G)/\ w'.cell? (Ua w.heap.size 2)=Uq (.map (Uq na))/\ w'.cell? (Ua (w.heap.size+1) 0)=Uq (.map A)/\ w'.cell? (Ua (w.heap.size+1) 1)=Uq (.map q)/\ w'.cell? (Ua (w.heap.size+1) 2)=Uq (.map (Uq nb)))):=hid (fun w1 q=>(Hc.bw q).sees (Hr.bw q Hr.lt));have Gq:Hid (∀g M U,Bl p g ->∀B,JF g B J (z++[(xs,m)]) U c' M ->Cl 195 #[Uo #[.map (Uq x0.1),.map (Uq x0.2)],Uo #[Um xs,Ud m],Uo #[.map (Uq M.1),.map (Uq M.2)]] g fun e w'=>e=Ui (Ul #[])/\ g.grownBy w' (Uq x0.1)/\
     (Qc5 (fun u=>U [u]) (Mk J J.length (z++[(xs,m)])) ->Qa1 w' 230 QaE Qbd x0.1 (c'+i.length+1) (QbX (fun u=>N [u]) (xs,m) (Uq M)))/\ (¬Qc5 (fun u=>U [u]) (Mk J J.length (z++[(xs,m)])) ->Bl g w')):=hid (fun g M U S B t=>by
    have hj:=H6.bw S;have Ht:=t.mono (show c'<=c'+i.length by omega);exact Qpj x0 M xs m (c'+i.length) (fun u=>N [u]) (fun u=>U [u]) (Mk J J.length (z++[(xs,m)])) g Y H1 (hj.tre.kids [] x0 hj.root) (Ht.tre.kids [] M Ht.root) ((Ht.tre.marks [] M Ht.root).ext fun d=>oP) Km)
   clear Hd He Hf Hg;go_wp2_with fail;refine zS R (fun qh=> ?_);refine tZ 0 27 ?_;refine tZ 1 28 ?_;refine tZ 2 29 ?_;refine tZ 3 30 ?_;refine tZ 5 32 ?_;refine tZ 6 33 ?_;refine cZ 4 ?_;intro K E;go_simp;refine(Gl _ zI.drew).mono ?_;rintro e w7 ⟨rfl,L⟩;have Hs:Bl p w7:=⟨L.os,L.tape,L.output,L.size,L.block⟩;refine E.out _ _ (R _ Hs) (fun qh=> ?_);clear E K;try simp only [zP]
   refine cZ 7 ?_;intro K E;go_simp;refine(Gm _ Hs).mono ?_;rintro e w8 ⟨rfl,b8⟩;have X:=Qaa Hs b8;refine E.out _ _ (R _ X) (fun qh=> ?_);clear E K;try simp only [zP]
   refine cZ 8 ?_;intro K E;go_simp;refine(Gn _ X).mono ?_;rintro e g ⟨⟨M,U,rfl,t⟩,S⟩;have Q:=Qaa X S;refine E.out _ _ (R _ Q) (fun qh=> ?_);clear E K;try simp only [zP]
   have H4:=hid t;clear t;refine cZ 9 ?_;intro K E;go_simp;refine(Gq g M U Q _ H4).mono ?_;rintro e G6 ⟨rfl,C,Hm,Hn⟩;have Hb:=hid ((Hc.bw Q).gr C Jh);refine E.out _ _ (Hb.sees ((Hr.bw Q Hr.lt).gr C Ku)) (fun qh=> ?_);clear E K;try simp only [zP]
   refine zD ?_;obtain⟨Js,Hk⟩:=(H6.bw X).round S (H4.mono (show c'<=c'+i.length by omega)) (Ux (Ux Ke Hz.size) X.size) Kv C Hm Hn;have H2:Hid (w4.grownBy G6 (Uq x0.1)):=hid ((Hz.trans (QbL Q _)).trans C);have Hj:=hid ((Hq.same (fun b e=>Q.block b (Hq.mlt b e)) (Q.block _ Hq.lt)).kept C Kt Ko);have H5:=hid Hk;clear qh L Hs b8 X S Q C Hm Hn Hk R Gl Gm Gn Gq H4;go_wp2_with fail;go_roundw;case rel=>exact⟨_,_,_,Hj,hid (by simpa [Uy] using H5.congr (fun u=>oP)),Hb,H2⟩
   case measure=>exact Kc G6 Hj
theorem Qfe {v0:Ur}{Na Nb:List Ky ->Option (Nat×Nat)}{MA MB:List Ky ->Dt ->Option ByteArray}{ca cb na nb:Nat}{hA hB:Dt ->Bool}{J:List Lf}(H:JH v0 Na Nb MA MB ca cb na nb hA hB J)(hd:∀p,(Na p≠Up \/Nb p≠Up) ->p.length<=8)(hc:10*(ca+cb)<=1048576):
  ∀d z,z.length+d=8 ->∀w,Bl v0 w ->Cl 169 #[QmB na (Na z),QmB nb (Nb z)] w (JQ J z ((d+2)*(ca+cb)) w)
 | 0,z,hz,w,hw=>by
  have:=QhS H z (ca+cb) zL oM (fun y hy=>absurd (hd _ hy) oS) w hw;rw [show (0+2)*(ca+cb)=ca+cb+(ca+cb) by omega];exact this
 | d+1,z,hz,w,hw=>by
  have e:(d+2)*(ca+cb)+(ca+cb)=(d+1+2)*(ca+cb):=by rw [show d+1+2=(d+2)+1 by omega,YS (d+2) 1,Nat.one_mul]
  have j:(d+1+2)*(ca+cb)<=10*(ca+cb):=Yc _ oM;have k:1*(ca+cb)<=(d+2)*(ca+cb):=Yc _ oM;rw [<- e];exact QhS H z ((d+2)*(ca+cb)) oM oM (fun y hy=>Qfe H hd hc d (z++[y]) oS) w hw
theorem Qo6 (J:List Lf)(z:List Ky):cW J z<=J.length:=YX _ _
theorem Qq9 (J:List Lf)(z:List Ky):mW J z<=J.length:=YX _ _
theorem QmS (J:List Lf)(z:List Ky):∀ds:List Ky,(ds.map fun y=>cW J (z++[y])).sum<=ds.length*J.length
 | []=>Uv _
 | y::r=>by
  have j:=QmS J z r;have k:=Qo6 J (z++[y]);simp only [Vm,List.sum_cons,Vh,YS,Nat.one_mul];omega
structure TJ (w:Ur)(B:Nat)(J:List Lf)(N:List Ky ->Option (Nat×Nat))(c:Nat):Prop where
 tre:Tre w B N (fun r=>Mk J J.length r) c
 there:∀z y,(N (z++[y])).isSome=true↔Ah J (z++[y])
 dis:Dis J J.length
theorem JF.tj{N:List Ky ->Option (Nat×Nat)}(h:JF w B J [] N c x0)(hd:Dis J J.length):TJ w B J N c:=
 ⟨oW h.tre,fun z y=>by
  cases z with
  | nil=>simpa using h.there y []
  | cons u r=>simpa using h.there u (r++[y]),hd⟩
theorem TJ.bw{N:List Ky ->Option (Nat×Nat)}(h:TJ w B J N c)(hb:Bl w w'):TJ w' B J N c:=⟨h.tre.bw hb,h.there,h.dis⟩
theorem TJ.deep{N:List Ky ->Option (Nat×Nat)}(h:TJ w B J N c)(h8:∀x∈J,(Way x).length<=8):∀p,N p≠Up ->p.length<=8:=fun p hp=>by
 by_cases e:p=[]
 ·rw [e];simp
 ·obtain⟨z,y,rfl⟩:∃z y,p=z++[y]:=⟨p.dropLast,p.getLast e,(YY e).symm⟩;have j:(N (z++[y])).isSome=true:=by
   cases hv:N (z++[y]) with
   | none=>exact absurd hv hp
   | some v=>rfl
  obtain⟨x,m,k⟩:=(h.there z y).1 j;exact Ux k.length_le (h8 x m)
theorem Qgp {v0:Ur}{N:List Ky ->Option (Nat×Nat)}(H:TJ v0 B J N c)(hc:c<=1048576)(hJ:J.length<=1048576)(z:List Ky)(x:Nat×Nat)(hx:N z=Uq x)
  (hIH:∀y g,N (z++[y])=Uq g ->∀w,Bl v0 w ->Cl 171 #[Uo #[.map (Uq g.1),.map (Uq g.2)]] w (Rt w (Ud (cW J (z++[y])))))
  (w:Ur) (hw:Bl v0 w):
  Cl 171 #[Uo #[.map (Uq x.1),.map (Uq x.2)]] w (Rt w (Ud (cW J z))):=by
 have HT:=hid (H.bw hw);have HV:=hid hw;have HX:=hid hx;have HI:=hid hIH;obtain⟨W,I⟩:=zE (w.alloc (Uj #[.map (Uq x.1),.map (Uq x.2)] 172));have o:Bl w W:=I▸zO _ _;have X0:Bx2 W w.heap.size (.map (Uq x.1)) (.map (Uq x.2)):=I▸Bx2.made _ _ _ _;have Ht:=(HT.tre.bw o).marks z x hx;obtain⟨D,G⟩:=Ht;obtain⟨m,s⟩:=zE (mW J z);have Hs:∀ty,(Builtin.len_ #[170] ty #[.map (Uq x.2)]).run prog W=.ok (Ud (m:Nat)) W:=fun ty=>by rw [<- s,<- Qkg H.dis G];exact G.own.len underlying170 ty
 have Hx:m<=1048576:=s▸Ux (Qq9 J z) hJ;have HM:=hid s;have Hl:=hid ((HT.tre.bw o).kids z x hx);have F:=hid o;obtain⟨x0,g⟩:=X0.q2;have S:=hid (And.intro hc hJ);have Ho:=hid H.there;clear H hc hx hIH hw o X0 G s hJ;go_enter func171,ntmps171;go_wp2_with (at_range;refine Qbc _ rfl _ 169 rfl 230 172 Qa4 underlying169 QaE Qbd (Uq x.1) c (fun y=>N (z++[y])) rfl Hl ?_;intro w0 Hq Hc r Hv);have R:Hid (Bl W w0):=hid ⟨r.os,r.tape,r.output,r.size,fun k q=>r.block k q oP⟩;clear r Hv Hs x0 g I;try go_frame
 go_loopw [3] (fun t wr=>∃(j:List Ky) (Z T:Nat),t=Ud T/\ Rng wr 230 QaE Qbd (Uq x.1) W.heap.size c (fun y=>N (z++[y])) j Z/\ Hid (T=m+(j.map fun y=>cW J (z++[y])).sum)/\ Hid (Bl W wr)) (fun t wr=>wr.rangeLeft x.1 W.heap.size);case atStart=>exact⟨[],_,m,rfl,Hc,hid oP,R⟩
 case round=>
  clear Hc R;obtain⟨j,Z,T,rfl,A,Y,Q⟩:=hrel;have Ha:=hid A;go_wp2_with (at_next;refine Qbm _ rfl _ rfl 230 Qa4 QaE (fun _ _=>Qb1) (fun key kl q=>Qda q) Qbd (Uq x.1) W.heap.size c (fun y=>N (z++[y])) j Z rfl A ?_ ?_)
  ·intro q;have HE:Hid (T=cW J z):=hid (by
    rw [Y.out,Qmq z j q.1 J (fun u hu y hp=>(q.2 y).2 (fun v=>by
     have:=(Ho z y).2 ⟨u,hu,hp⟩;rw [show N (z++[y])=Up from v] at this;cases this)),HM.out])
   clear q A;go_wp2_with fail;go_ret;exact⟨by have h:=HE.out;subst h;rfl,Qaa F Q⟩
  ·intro xs M X C E He Hi Hu kl Hr Hd Hb Hj Hw Hh;have Hf:=hid (fun w1 (b1:Bl v0 w1)=>HI.out (xs,M) (X,C) Hi w1 b1);obtain⟨n,v⟩:=zE (cW J (z++[(xs,M)]));rw [v] at Hf;have k1:n<=1048576:=v▸Ux (Qo6 _ _) S.2;have k2:T<=1099512676352:=by
    have h1:=QmS J z j;have h2:=Ha.len;have h3:=S.out;have h4:j.length*J.length<=1048576*1048576:=YQ oM oM;rw [Y.out];omega
   have Hn:Hid (T+n=m+((j++[(xs,M)]).map fun y=>cW J (z++[y])).sum):=hid (by rw [Y.out];simp [v];omega);have Hm:Hid (∀w9,Rng w9 230 QaE Qbd (Uq x.1) W.heap.size c (fun y=>N (z++[y])) (j++[(xs,M)]) He ->w9.rangeLeft x.1 W.heap.size<wr.rangeLeft x.1 W.heap.size):=hid (fun w9 h9=>by
    rw [h9.left_eq,Ha.left_eq];exact Hb)
   have P:Hid (Bl W E):=hid (Q.grown Hj Q.size (fun k e=>by cases e;exact Uu _));have U:=hid Hd;obtain⟨L,K⟩:=zE (E.alloc (Uj #[.map (Uq X),.map (Uq C)] 172));have i:Bl E L:=K▸zO _ _;have K6:Bx2 L E.heap.size (.map (Uq X)) (.map (Uq C)):=K▸Bx2.made _ _ _ _;have O:=hid (P.trans (i.mono P.size));have Hp:Hid (Bl v0 L):=hid (HV.trans ((Qaa F O).mono HV.size));have V:=hid (U.same (fun b e=>i.block b (U.mlt b e)) (i.block _ U.lt));obtain⟨c0,c1⟩:=K6.q2;clear Hi Hu Hr A Hd Hb Hj Hw i K6 v;dsimp only [QaE,Qbd] at Hh ⊢;go_wp2_with fail;refine(Hf _ Hp).mono ?_;rintro e w7 ⟨rfl,p⟩;have Hk:=hid (O.trans (p.mono O.size));have Hg:=hid (V.same (fun b e=>p.block b (V.mlt b e)) (p.block _ V.lt));clear p c0 c1 Hh K;go_wp2_with fail;go_roundw;case rel=>exact⟨_,_,T+n,oN,Hg,Hn,Hk⟩
   case measure=>exact Hm w7 Hg
theorem Qmw {v0:Ur}{B c:Nat}{J:List Lf}{N:List Ky ->Option (Nat×Nat)}(H:TJ v0 B J N c)(hc:c<=1048576)(hJ:J.length<=1048576)(h8:∀x∈J,(Way x).length<=8):
  ∀d z x,z.length+d=8 ->N z=Uq x ->∀w,Bl v0 w ->Cl 171 #[Uo #[.map (Uq x.1),.map (Uq x.2)]] w (Rt w (Ud (cW J z)))
 | 0,z,x,hz,hx,w,hw=>Qgp H hc hJ z x hx (fun y x1 h1=>absurd (H.deep h8 (z++[y]) (by rw [h1];simp)) oS) w hw
 | d+1,z,x,hz,hx,w,hw=>Qgp H hc hJ z x hx (fun y x1 h1=>Qmw H hc hJ h8 d (z++[y]) x1 oS h1) w hw
theorem Qn5{cap:Nat}{ts:List Dt}(h:w.ownsRow B 115 2 (Uf (Uc g) m cap) m (Ds.kRow ts))(hl:ts.length=m):∀i,i<m ->∃d,ts[i]? =Uq d/\ w.cell? (Ua g (i*2))=Uq (Ud d.1)/\ w.cell? (Ua g (i*2+1))=Uq (Ud d.2):=by
 rcases h.2 with ⟨v,_⟩|⟨t,z,k,y,s,u,o,b,p,r⟩
 ·cases v
 ·cases y;intro i hi;have hi':i<ts.length:=oM;have q:ts.toArray[i]! =ts[i]:=by rw [getElem!_pos _ _ (oW hi')];simp
  refine⟨ts[i],by simp [hi'],?_,?_⟩
  ·have j:(k.toList.take (m*2))[i*2]? =(Ds.kRow ts)[i*2]? :=(by rw [r]);rw [Vf oM,Ds.kRow_get ts (i*2) oM] at j;rw [show i*2/2=i by omega,show i*2%2=0 by omega,q] at j;simp [UE,u,<- Yi,j,Ds.kCells]
  ·have j:(k.toList.take (m*2))[i*2+1]? =(Ds.kRow ts)[i*2+1]? :=(by rw [r]);rw [Vf oM,Ds.kRow_get ts (i*2+1) oM] at j;rw [show (i*2+1)/2=i by omega,show (i*2+1)%2=1 by omega,q] at j;simp [UE,u,<- Yi,j,Ds.kCells]
theorem Qq0{ts:List Dt}(h:w.ownsRow B 115 2 v ts.length (Ds.kRow ts)):∃a cap,v=Uf a ts.length cap/\ ts.length<=cap/\ cap<=9223372036854775807/\ (0<ts.length ->∃g,a=Uq (Ub g)/\ B<=g/\ g<w.heap.size/\∀i,i<ts.length ->∃d,ts[i]? =Uq d/\ w.cell? (Ua g (i*2))=Uq (Ud d.1)/\ w.cell? (Ua g (i*2+1))=Uq (Ud d.2)):=by
 rcases h.2 with ⟨rfl,j⟩|⟨g,cap,u,rfl,r,q,k,m,y,z⟩
 ·exact⟨Up,0,by rw [j],oM,oM,fun hh=>oM⟩
 ·exact⟨_,cap,rfl,k,by unfold maxLen at m;omega,fun _=>⟨g,rfl,r,(Array.getElem?_eq_some_iff.1 q).1,Qn5 h rfl⟩⟩
theorem Qn6{cap:Nat}(h:w.ownsRow B 230 2 (Uf (Uc g) m cap) m (kRow ts))(hl:ts.length=m):∀i,i<m ->∃d,ts[i]? =Uq d/\ w.cell? (Ua g (i*2))=Uq (Um d.1)/\ w.cell? (Ua g (i*2+1))=Uq (Ud d.2):=by
 rcases h.2 with ⟨v,_⟩|⟨t,z,k,y,s,u,o,b,p,r⟩
 ·cases v
 ·cases y;intro i hi;have hi':i<ts.length:=oM;have q:ts.toArray[i]! =ts[i]:=by rw [getElem!_pos _ _ (oW hi')];simp
  refine⟨ts[i],by simp [hi'],?_,?_⟩
  ·have j:(k.toList.take (m*2))[i*2]? =(kRow ts)[i*2]? :=(by rw [r]);rw [Vf oM,kRow_get ts (i*2) oM] at j;rw [show i*2/2=i by omega,show i*2%2=0 by omega,q] at j;simp [UE,u,<- Yi,j,kCells]
  ·have j:(k.toList.take (m*2))[i*2+1]? =(kRow ts)[i*2+1]? :=(by rw [r]);rw [Vf oM,kRow_get ts (i*2+1) oM] at j;rw [show (i*2+1)/2=i by omega,show (i*2+1)%2=1 by omega,q] at j;simp [UE,u,<- Yi,j,kCells]
theorem Qpt(h:w.ownsRow B 230 2 v ts.length (kRow ts)):∃a cap,v=Uf a ts.length cap/\ ts.length<=cap/\ cap<=9223372036854775807/\ (0<ts.length ->∃g,a=Uq (Ub g)/\ B<=g/\ g<w.heap.size/\∀i,i<ts.length ->∃d,ts[i]? =Uq d/\ w.cell? (Ua g (i*2))=Uq (Um d.1)/\ w.cell? (Ua g (i*2+1))=Uq (Ud d.2)):=by
 rcases h.2 with ⟨rfl,j⟩|⟨g,cap,u,rfl,r,q,k,m,y,z⟩
 ·exact⟨Up,0,by rw [j],oM,oM,fun hh=>oM⟩
 ·exact⟨_,cap,rfl,k,by unfold maxLen at m;omega,fun _=>⟨g,rfl,r,(Array.getElem?_eq_some_iff.1 q).1,Qn6 h rfl⟩⟩
theorem Qlu{x:Lf}(hx:Qc0 x)(h:nx p x=Uq y):(y.2=1 \/y.2=2) \/(y.2=3/\ p.length+2<=8):=by
 rw [Qbh] at h;obtain⟨⟨_,q⟩,e⟩:=h;have j:=congrArg Prod.snd e;unfold Qas at j;dsimp only at j;by_cases m:p.length+1<x.p.length
 ·rw [if_pos m] at j;have:=hx.1.2.1;exact .inr ⟨j.symm,oM⟩
 ·rw [if_neg m] at j;rcases Qhi x.fl with k|k<;>rw [k] at j
  ·exact .inl (.inl j.symm)
  ·exact .inl (.inr j.symm)
theorem TJ.nki{N:List Ky ->Option (Nat×Nat)}(h:TJ w B J N c)(h0:N []≠Up):NkI J J.length N:=fun z=>by
 by_cases e:z=[]
 ·rw [e];refine⟨fun _=> .inl rfl,fun _=> ?_⟩;cases hv:N [] with
  | none=>exact absurd hv h0
  | some v=>rfl
 ·obtain⟨u,y,rfl⟩:∃u y,z=u++[y]:=⟨z.dropLast,z.getLast e,(YY e).symm⟩;rw [h.there u y];constructor
  ·rintro⟨x,g,m⟩;obtain⟨j,k,q⟩:=Qaq.1 g;exact .inr ⟨j,k,by rw [q];exact m⟩
  ·rintro(r|⟨j,k,m⟩)
   ·exact absurd r e
   ·exact⟨gL J j,Qaq.2 ⟨j,k,rfl⟩,m⟩
theorem Ql8 (l:List Lf)(p:List ByteArray)(s:ByteArray)(d:Dt):Mk l l.length (Qad p 3++[(s,3)]) d=Up:=by
 refine Classical.byContradiction fun hn=> ?_;obtain⟨j,k,e,_⟩:=QeL.1 hn;rw [<- QfW] at e;have:=(QgJ e.symm oP).2;rcases Qhi (gL l j).fl with h|h<;>omega
theorem QnT{N:List Ky ->Option (Nat×Nat)}(hN:NkI l l.length N)(p:List ByteArray)(y u:Ky)(hy:y.2≠3):N (Qad p 3++[y]++[u])=Up:=by
 cases hv:N (Qad p 3++[y]++[u]) with
 | none=>rfl
 | some v=>
  exfalso;have q:(N (Qad p 3++[y]++[u])).isSome=true:=by rw [hv];rfl
  rcases (hN _).1 q with h|⟨j,o,m⟩
  ·simp at h
  ·have z:=m.length_le;simp only [Vg,Vp,QaS,Way] at z;have k:(Way (gL l j))[p.length]? =Uq y:=by
    obtain⟨t,g⟩:=m;rw [<- g];simp [QaS]
   unfold Way at k;rw [Qbv oM,if_pos oM] at k;have r:=congrArg Prod.snd (Option.some.inj k);exact hy r.symm
noncomputable def gK (l:List Lf)(f:Nat)(p:List ByteArray)(y:Ky):List Lf:=if y.2=3 then wL l f (p++[y.1]) else dsK l p y l.length
theorem QqN (l:List Lf)(f:Nat)(p:List ByteArray):wL l (f+1) p=(kS l p l.length).flatMap (gK l f p):=rfl
theorem QiA {α:Type}(g:α ->List Lf)(ts:List α)(k:Nat):((ts.take k).flatMap g).length<=(ts.flatMap g).length:=by
 have:ts.flatMap g=(ts.take k).flatMap g++(ts.drop k).flatMap g:=by rw [<- List.flatMap_append,List.take_append_drop]
 rw [this,Vg];omega
theorem Qfs (Bt c:Nat)(N:List Ky ->Option (Nat×Nat))(M:List Ky ->Dt ->Option ByteArray)(z:List Ky)(w:Ur)(hT:Tre w Bt N M c)(hc:c<=1048576)(hz:∀u,N (z++[u])=Up)(bv vw:Value):
  Cl 134 #[Uo #[.map (mF (N z)),.map (mS (N z))],bv,vw] w (Rt w bv):=by
 obtain⟨W,j⟩:=zE (w.alloc (Uj #[.map (mF (N z)),.map (mS (N z))] 172));have q:Bl w W:=j▸zO _ _;have m:Bx2 W w.heap.size (.map (mF (N z))) (.map (mS (N z))):=j▸Bx2.made _ _ _ _;have k:=hid (QcH Bt c N M z W (hT.bw q) hc);obtain⟨Y,r⟩:=zE (mF (N z));obtain⟨Z,v⟩:=zE (mS (N z));rw [r,v] at m k j;rw [r,v];obtain⟨k0,E⟩:=m.q2;have t:=hid q;have i:=hid hz;clear m q hT r v hz;go_enter func134,ntmps134;go_wp2_with fail;try rw [j]
 clear j;refine k.mono ?_;rintro e w1 ⟨G,O,rfl,A,g,s,h,y⟩;obtain rfl:O=[]:=List.eq_nil_iff_forall_not_mem.2 fun x hx=>(g x).1 hx (by unfold QjS;exact i x);obtain⟨Q,U,rfl,b,V,p⟩:=Qpt h;have o:=hid (Qaa t y);simp only [List.length_nil] at b ⊢;clear A g s h y p k0 E k;go_wp2_with fail;refine wp_loop_rounds 1 ?_;rw [rounds_succ];go_wp2_with fail;go_ret;exact⟨rfl,o⟩
theorem QcO {R F T:Nat ->Int}{n:Nat}(l:List Lf)(w0:Ur)(Bt c:Nat)(N:List Ky ->Option (Nat×Nat))(hT:Tre w0 Bt N (Mk l l.length) c)(hN:NkI l l.length N)(hc:c<=1048576)(hlv:QbU R F T n l l.length)(hbd:LvB l):∀(f:Nat) (p:List ByteArray),p.length+f=8 ->1<=f ->∀(bv:Value) (l0:List Lf) (vw:Value) (w:Ur),Bl w0 w ->LB w w0.heap.size bv l0 ->QhB w vw p ->(∀g,vw.ownBlock=Uq g ->bv.ownBlock≠Uq g) ->l0.length+(wL l f p).length<=1000000 ->
  Cl 134 #[Uo #[.map (mF (N (Qad p 3))),.map (mS (N (Qad p 3)))],bv,vw] w fun e w'=>∃v,e=Ui v/\ LB w' w0.heap.size v (l0++wL l f p)/\ Gr w w' bv v
 | 0,_,_,M,_,_,_,_,_,_,_,_,_=>oM
 | f+1,p,hpf,_,bv,l0,vw,w,hb,ho,hvw,hne,hl=>by
  obtain⟨k1,k2⟩:=Qem p hlv l.length zL;rw [QqN] at hl ⊢;have J6:Hid (∀s,p.length+2<=8 ->∀(bv:Value) (l0:List Lf) (vw:Value) (w:Ur),Bl w0 w ->LB w w0.heap.size bv l0 ->QhB w vw (p++[s]) ->(∀g,vw.ownBlock=Uq g ->bv.ownBlock≠Uq g) ->l0.length+(wL l f (p++[s])).length<=1000000 ->Cl 134 #[Uo #[.map (mF (N (Qad p 3++[(s,3)]))),.map (mS (N (Qad p 3++[(s,3)])))],bv,vw] w fun e w'=>∃v,e=Ui v/\ LB w' w0.heap.size v (l0++wL l f (p++[s]))/\ Gr w w' bv v):=hid (fun s Jr bv l0 vw w M m C h4 h5=>by
   rw [<- QfW];exact QcO l w0 Bt c N hT hN hc hlv hbd f (p++[s]) oS oM bv l0 vw w M m C h4 h5)
  obtain⟨W,hW⟩:=zE (w.alloc (Uj #[.map (mF (N (Qad p 3))),.map (mS (N (Qad p 3)))] 172));have b0:Bl w W:=hW▸zO _ _;have X0:Bx2 W w.heap.size (.map (mF (N (Qad p 3)))) (.map (mS (N (Qad p 3)))):=hW▸Bx2.made _ _ _ _;have zW:W.heap.size=w.heap.size+1:=hW▸oP;have Kn:Bl w0 W:=hb.trans (b0.mono hb.size);have Kd:=hid (QcH Bt c N (Mk l l.length) (Qad p 3) W (hT.bw Kn) hc);obtain⟨m0,Gp⟩:=zE (mF (N (Qad p 3)));obtain⟨m1,Hm⟩:=zE (mS (N (Qad p 3)));rw [Gp,Hm] at X0 Kd hW;rw [Gp,Hm];obtain⟨q0,q1⟩:=X0.q2;have HX:=hid X0;have J0:=hid b0;have Gy:=hid Kn;have HO:=hid (ho.bw b0);have Je:=hid (hvw.bw b0);have HT:=hid hT;have Ja:=hid hN;have Lb:=hid Gp;have Lc:=hid hne;have Li:Hid (∀g,vw.ownBlock=Uq g ->g<w.heap.size):=hid hvw.lt;have Hp:Hid (∀g,bv.ownBlock=Uq g ->w0.heap.size<=g/\ g<w.heap.size):=hid ho.lt;have Gj:=hid k2;have K8:=hid hl;have Jg:=hid zW;have Lw:Hid (w0.heap.size<=w.heap.size):=hid hb.size;clear X0 b0 Kn ho Gp Hm k1 k2 hvw hne hl zW hb hN;go_enter func134,ntmps134;go_wp2_with fail;try rw [hW]
  clear hW;refine Kd.mono ?_;rintro e w1 ⟨vd,E,rfl,Gf,Hd,Gs,Gq,b1⟩;have Gb:=QjO (p:=p) hlv Ja Gf Hd;obtain⟨da,dc,rfl,Ln,Lo,Jm⟩:=Qpt Gq;have Lp:E.length<=1000:=by rw [Gb];have:=Qff l p l.length;have:=hbd.len;omega
  have HD:Hid (0<E.length ->∃g,da=Uq (Ub g)/\ W.heap.size<=g/\ g<w1.heap.size/\∀i,i<E.length ->∃y∈E,E[i]? =Uq y/\ w1.cell? (Ua g (i*2))=Uq (Um y.1)/\ w1.cell? (Ua g (i*2+1))=Uq (Ud y.2)):=hid (fun h0=>by
   obtain⟨g,e1,e2,e3,e4⟩:=Jm h0;refine⟨g,e1,e2,e3,fun i hi=> ?_⟩;obtain⟨d,f1,f2,f3⟩:=e4 i hi;exact⟨d,VO f1,f1,f2,f3⟩)
  have K7:Hid (∀y∈E,y.1.size<=40/\ ((y.2=1 \/y.2=2) \/(y.2=3/\ p.length+2<=8))):=hid (fun y hy=>by
   rw [Gb] at hy;obtain⟨j,hj,e⟩:=(Gj y).1 hy;exact⟨Qeu (hlv j hj).1 e,Qlu (hlv j hj).1 e⟩)
  have Lh:Hid (kS l p l.length=E):=hid Gb.symm;rw [<- Gb] at K8;have La:Hid (∀y∈E,∀w',Bl w0 w' ->(Instr.lookup 169 (.map m0) (Uo #[Um y.1,Ud y.2]) false).run prog w'=.ok (Uo #[.map (mF (N (Qad p 3++[y]))),.map (mS (N (Qad p 3++[y])))]) w'):=hid (fun y hy w' hb'=>by
   have hl:=K7 y hy;obtain⟨kl,Kr⟩:=QhT (s:=y.1) (k:=y.2) oL (wfI oM oM);have:=(HT.bw hb').look (Qad p 3) y Kr;rw [Lb.out] at this;exact this)
  have X1:=HX.bw b1 HX.lt;have Lj:=hid X1;have Jb:=hid (HO.bw b1);have Ka:=hid (Je.bw b1);have K2:=hid (Gy.trans (b1.mono Gy.size));have Gv:=hid (Qaa J0 b1);have Ke:Hid (w0.heap.size<=w1.heap.size/\ w.heap.size<w1.heap.size):=hid (by have M:=K2.size;have m:=b1.size;have C:=Jg.out;omega);clear q0 q1 Gq Gf Hd Gs Jm Gb b1 Kd X1 HX HO Gy Je;go_wp2_with fail;go_loopw [1,16] (fun b' i wr=>∃(k:Nat),k<=E.length/\ i=Ud k/\ Hid (LB wr w0.heap.size b' (l0++(E.take k).flatMap (gK l f p)))/\ Hid (Gr w1 wr bv b')) (fun _ i _=>E.length - (intOf i).toNat);case atStart=>exact⟨0,Uv _,rfl,hid (oW Jb),hid (Gr.refl _ _)⟩
  case round=>
   clear Jb;obtain⟨k,hk,rfl,Gk,Hg⟩:=hrel;by_cases Jq:k<E.length
   ·obtain⟨g,rfl,L4,L5,Jn⟩:=HD oM;obtain⟨y,Kv,Jx,H6,H7⟩:=Jn k Jq;have Ht:Uq g≠bv.ownBlock:=fun e=>by have M:=(Hp g e.symm).2;have m:=Jg.out;omega
    have H5:Uq w.heap.size≠bv.ownBlock:=fun e=>by have:=(Hp _ e.symm).2;omega
    have c1:=Hg.g.cell H6 Ht;have c2:=Hg.g.cell H7 Ht;have n0:=Hg.g.cell Lj.c0 H5;have Ku:=K7 y Kv;have Gi:Hid (Bl w0 wr):=hid (K2.trans (Hg.bw Ke.1 (fun k hk=>(Hp k hk).1)));have Lg:Hid (QhB wr vw p):=hid (Ka.move Hg.g.size (fun g hg=>Hg.g.block g (by have M:=Li g hg;have m:=Ke.2;omega) (fun e=>Lc.out g hg e.symm)));have Kg:Hid (∀g,u1.ownBlock=Uq g ->w0.heap.size<=g/\ g<wr.heap.size):=hid Gk.lt;have Gn:Hid ((E.take (k+1)).flatMap (gK l f p)=(E.take k).flatMap (gK l f p)++gK l f p y):=hid (by rw [VP,Jx];simp);have H3:Hid ((l0++(E.take k).flatMap (gK l f p)).length+(gK l f p y).length<=1000000):=hid (by
     have M:=QiA (gK l f p) E (k+1);rw [Gn.out,Vg] at M;have m:=K8.out;simp only [Vg] at m ⊢;omega)
    obtain⟨L0,Ki⟩:=zE (l0++(E.take k).flatMap (gK l f p));have Hi:Hid (∀w',Bl w0 w' ->(Instr.lookup 169 (.map m0) (Uo #[Um y.1,Ud y.2]) false).run prog w'=.ok (Uo #[.map (mF (N (Qad p 3++[y]))),.map (mS (N (Qad p 3++[y])))]) w'):=hid (fun w' h=>La.out y Kv w' h);obtain⟨ls,Gh,Jo,Gc,Jp,Ge⟩:∃ls Gh:List Lf,gK l f p y=ls++Gh/\ (∀Hf:List Dt,Hf.Pairwise (fun x y=>Qbg x y<0) ->(∀d,d∈Hf↔Mk l l.length (Qad p 3++[y]) d≠Up) ->Hf=ls.map fun x=>((x.r,x.q):Dt))/\ (∀x∈ls,x=⟨p++[y.1],decide (y.2=2),x.r,x.q,x.v⟩/\ Mk l l.length (Qad p 3++[y]) (x.r,x.q)=Uq x.v/\ (0<=x.r/\ x.r<8)/\ (0<=x.q/\ x.q<=1000000000))/\
      (∀(bv:Value) (l0:List Lf) (vw:Value) (w:Ur),Bl w0 w ->LB w w0.heap.size bv l0 ->QhB w vw (p++[y.1]) ->(∀g,vw.ownBlock=Uq g ->bv.ownBlock≠Uq g) ->l0.length+Gh.length<=1000000 ->Cl 134 #[Uo #[.map (mF (N (Qad p 3++[y]))),.map (mS (N (Qad p 3++[y])))],bv,vw] w fun e w'=>∃v,e=Ui v/\ LB w' w0.heap.size v (l0++Gh)/\ Gr w w' bv v):=by
     rcases Ku.2 with L1|⟨C,Jr⟩
     ·have Gg:y.2≠3:=oM;refine⟨dsK l p y l.length,[],by unfold gK;rw [if_neg Gg,VC],fun Hf M m=>Qgq hlv Gg M m,fun x hx=> ?_,fun bv l0 vw w M m C h4 h5=> ?_⟩
      ·have hv:=Qg7 Gg hbd.dis hx;obtain⟨j,hj,e,rfl⟩:=QaZ.1 hx;have hp:=Qb3 Gg e;refine⟨?_,hv,hbd.rep j hj,hbd.seq j hj⟩;obtain⟨x,hx⟩:=zE (gL l j);rw [hx] at hp ⊢;obtain⟨xp,xf,P,D,xv⟩:=x;have e1:xp=p++[y.1]:=hp.1;have e2:kd xf=y.2:=hp.2;have e3:xf=decide (y.2=2):=(by rw [<- e2];cases xf<;>simp [kd]);rw [<- e1,<- e3]
      ·refine(Qfs Bt c N (Mk l l.length) (Qad p 3++[y]) w (HT.bw M) hc (fun u=>QnT Ja p y u Gg) bv vw).mono ?_;rintro e w' ⟨rfl,b⟩;exact⟨bv,rfl,by rw [VC];exact m.bw b,Gr.of_below b⟩
     ·obtain⟨s,Y⟩:=y;have C:Y=3:=C;subst C;refine⟨[],wL l f (p++[s]),by unfold gK;rw [if_pos rfl,VI],fun Hf M m=> ?_,fun x hx=>(by cases hx),J6 s Jr⟩;exact List.eq_nil_iff_forall_not_mem.2 fun d hd=>(m d).1 hd (Ql8 l p s d)
    have J7:=hid Gc;have G5:=hid Jp;have Kb:=hid Ge;have G6:Hid (∀w',Bl w0 w' ->∀x∈ls,(Instr.lookup 170 (.map (mS (N (Qad p 3++[y])))) (Uo #[Ud x.r,Ud x.q]) false).run prog w'=.ok (Uo #[Um x.v]) w'):=hid (fun w' hb' x hx=>by
     have hv:=G5 x hx;have T':=HT.bw hb';cases e:N (Qad p 3++[y]) with
     | none=>have h:=hv.2.1;rw [T'.none' _ e] at h;cases h
     | some x1=>
      obtain⟨kl,Kr⟩:=QdY (r:=x.r) (q:=x.q) (wfI oM oM) (wfI oM oM);have:=(T'.marks _ x1 e).look Qat underlying170 (QfZ w') (x:=(x.r,x.q)) Kr;rw [hv.2.1] at this;exact this)
    have Hq:Hid (∀w',Bl w0 w' ->Cl 155 #[Uo #[.map (mF (N (Qad p 3++[y]))),.map (mS (N (Qad p 3++[y])))]] w' fun e Hw=>∃(v:Value) (E:List Dt),e=Ui v/\ E=(ls.map fun x=>((x.r,x.q):Dt))/\ Hw.ownsRow w'.heap.size 115 2 v E.length (Ds.kRow E)/\ Bl w' Hw):=hid (fun w' hb'=>by
     refine(Ds.sortedDotsC Bt c N (Mk l l.length) (Qad p 3++[y]) w' (HT.bw hb') hc).mono ?_;rintro e Hw ⟨v,Hf,rfl,M,m,_,h4,h5⟩;exact⟨v,Hf,rfl,J7 Hf M m,h4,h5⟩)
    obtain⟨a1,Ji⟩:=zE (mF (N (Qad p 3++[y])));obtain⟨a2,Km⟩:=zE (mS (N (Qad p 3++[y])));rw [Ji,Km] at Hi Kb Hq;rw [Km] at G6;rw [Jo] at Gn H3;rw [Ki] at H3 Gk;have G0:Hid (l0++(E.take (k+1)).flatMap (gK l f p)=L0++(ls++Gh)):=hid (by rw [Gn.out,<- Ki];simp);obtain⟨s,Y⟩:=y;dsimp only at c1 c2 Ku Hi G6 Kb G5;have Lv:Hid (s.size<=40):=hid Ku.1;obtain⟨O,Kk⟩:=zE (wr.alloc (Uj #[Um s,Ud Y] 230));have D1:Bx2 O wr.heap.size (Um s) (Ud Y):=Kk▸Bx2.made _ _ _ _;have Go:Bl wr O:=Kk▸zO _ _;obtain⟨z,Kl⟩:=zE (O.alloc (Uj #[.map a1,.map a2] 172));have Kh:Bl O z:=Kl▸zO _ _;have Hh:Hid (Bx2 z O.heap.size (.map a1) (.map a2)):=hid (Kl▸Bx2.made _ _ _ _);have H1:=hid (D1.bw Kh D1.lt);have Gw:=hid (Qaa Go Kh);have Hx:Hid (Bl w0 z):=hid (Gi.trans (Gw.mono Gi.size));have G9:=hid (Lg.bw Gw);have Jf:Hid (wr.heap.size<O.heap.size/\ O.heap.size<z.heap.size):=hid ⟨D1.lt,Hh.lt⟩;have Hz:=hid (fun w'(hb':Bl z w')=>QoA vw p w' oM (G9.bw hb'));obtain⟨q0,q1⟩:=D1.q2;have Lu:=(Go.cell (p:=(Ub w.heap.size)) (by have M:=Ke.2;have m:=Hg.g.size;show w.heap.size<wr.heap.size;omega)).trans n0;have Lq:=Hi O (Gi.trans (Go.mono Gi.size));have S:Hid (∀w',Bl z w' ->w'.cell? (Ub wr.heap.size)=Uq (Um s)):=hid (fun w' b=>(H1.bw b H1.lt).c0);clear D1 Go Kh H6 H7 Jn Kv Jx H5 Ht Jp Gc Ge Jo Ki Ji Km Hi Gn;go_upto_region 5 with fail;clear q0 q1 Lu Lq n0 c1 c2 Kk Kl;go_cut [10] from 24 to 29 (fun v10 wx=>∃Q J,v10=Uf (Uc Q) (p.length+1) J/\ Hid (wx.ownsRow z.heap.size 9 1 (Uf (Uc Q) (p.length+1) J) (p.length+1) (Qdh (p++[s])))/\ Hid (Bl z wx));case first=>
     refine zS S (fun qh=> ?_);refine tZ 0 24 ?_;refine tZ 2 26 ?_;refine tZ 3 27 ?_;refine Qba (i:=1) (j:=4) (d:=Uq 25) (d':=Uq 28) oK oK oK ?_ ?_
     ·
      intro o ho Gq K A;simp only [gZa,gZb,gZc,gZd] at ho;subst ho;go_simp;refine(Hz _ zI.drew).mono ?_;rintro e w3 ⟨v3,rfl,b3,o3⟩;have Hk:Bl z w3:=⟨b3.os,b3.tape,b3.output,b3.size,b3.block⟩;refine A.out _ _ (S _ Hk) (fun qh=> ?_);clear A K;try simp only [zP]
      refine cZ 4 ?_;intro K A;go_simp;have B:Bl z (w3.alloc (Uj #[Um s] 9)):=Hk.alloc Hk.size _;refine A.out _ _ (S _ B) (fun qh=> ?_);clear A K;try simp only [zP]
      have o4:(w3.alloc (Uj #[Um s] 9)).ownsRow z.heap.size 9 1 v3 p.length (Qdh p):=World.ownsRow.alloc o3 _;obtain⟨Q,J,w5,Hb,o5,g5,Ks⟩:=Qkw o4 B.size oM s w3.heap.size oP;have Hr:Bl z w5:=B.grown g5 B.size (fun k e=>(World.ownsRow.lt o4 k e).1);refine cZ 5 ?_;intro K A;refine Qcl _ _ _ _ rfl Hb (by rfl) (by rfl) rfl ?_;refine A.out _ _ (S _ Hr) (fun qh=> ?_);clear A K;try simp only [zP]
      refine tZ 6 10 ?_;refine zD ?_;have Hj:=hid o5;have L:=hid Hr;clear qh b3 Hk B o3 o4 o5 g5 Hr Hb S Hz Ks;go_wp2_with fail;go_meet;exact⟨Q,J,rfl,Hj,L⟩
     ·
      intro o ho Gq K A;simp only [gZa,gZb,gZc,gZd] at ho;subst ho;go_simp;have Hk:Bl z (z.drew.alloc (Uj #[Um s] 9)):=(zI.drew).alloc zL _;refine A.out _ _ (S _ Hk) (fun qh=> ?_);clear A K;try simp only [zP]
      refine cZ 1 ?_;intro K A;go_simp;refine(Hz _ Hk).mono ?_;rintro e w4 ⟨v3,rfl,b4,o4⟩;have B:Bl z w4:=Qaa Hk b4;refine A.out _ _ (S _ B) (fun qh=> ?_);clear A K;try simp only [zP]
      have Hm:=Bx1.made z.drew (Um s) 9;have Jk:w4.cell? (Ub z.heap.size)=Uq (Um s):=(b4.cell (p:=(Ub z.heap.size)) Hm.lt).trans Hm.c0;have Kz:w4.ownsRow z.heap.size 9 1 v3 p.length (Qdh p):=QbF o4 (YN Hm.lt);obtain⟨Q,J,w5,Hb,o5,g5,Ks⟩:=Qkw Kz B.size oM s z.heap.size Jk;have Hr:Bl z w5:=B.grown g5 B.size (fun k e=>(World.ownsRow.lt Kz k e).1);refine cZ 5 ?_;intro K A;refine Qcl _ _ _ _ rfl Hb (by rfl) (by rfl) rfl ?_;refine A.out _ _ (S _ Hr) (fun qh=> ?_);clear A K;try simp only [zP]
      refine tZ 6 10 ?_;refine zD ?_;have Hj:=hid o5;have L:=hid Hr;clear qh Hk B b4 Hm Jk o4 Kz o5 g5 Hr Hb S Hz Ks;go_wp2_with fail;go_meet;exact⟨Q,J,rfl,Hj,L⟩
    case rest=>
    obtain⟨Q,J,rfl,Hj,L⟩:=hcut;obtain⟨w5,Ju⟩:=zE wc;rw [Ju] at Hj L ⊢;clear Ju S Hz;obtain⟨bu,Lm⟩:∃b,b=u1:=⟨_,rfl⟩;subst Lm;obtain⟨U,Ls⟩:∃b,b=wr:=⟨_,rfl⟩;subst Ls;have Hn:Hid (Bl w0 w5):=hid (Hx.trans (L.mono Hx.size));have K5:=Hh.bw L Hh.lt;obtain⟨Kw,Kx⟩:=K5.q2;have G2:=hid K5;have Gz:=hid (H1.bw L H1.lt);have Le:Hid (z.heap.size<=Q/\ Q<w5.heap.size):=hid (World.ownsRow.lt Hj Q rfl);clear K5;go_wp2_with fail;refine(Hq w5 Hn).mono ?_;rintro e Z ⟨L7,Hf,rfl,Hd,Gd,b6⟩;obtain⟨Ll,Lz,rfl,H8,Jl,H9⟩:=Qq0 Gd;have Jt:Hf.length=ls.length:=(by rw [Hd];simp);have J2:Hid (0<ls.length ->∃I,Ll=Uq (Ub I)/\ w5.heap.size<=I/\ I<Z.heap.size/\∀i,i<ls.length ->∃x∈ls,ls[i]? =Uq x/\ Z.cell? (Ua I (i*2))=Uq (Ud x.r)/\ Z.cell? (Ua I (i*2+1))=Uq (Ud x.q)):=hid (fun h0=>by
     obtain⟨I,e1,e2,e3,e4⟩:=H9 oM;refine⟨I,e1,e2,e3,fun i hi=> ?_⟩;obtain⟨d,f1,f2,f3⟩:=e4 i oM;rw [Hd] at f1;simp only [VN,YZ] at f1;obtain⟨x,f4,f5⟩:=f1;subst f5;exact⟨x,VO f4,f4,f2,f3⟩)
    rw [Jt] at H8 ⊢;have Lr:ls.length<=1000000:=(by have:=H3.out;simp only [Vg] at this;omega);have K0:=Qaa L b6;have Gu:=Qaa Gw K0;have Gx:=hid Gu;have Jc:Hid (LB Z w0.heap.size bu L0):=hid (Gk.bw Gu);have G8:Hid (Z.ownsRow z.heap.size 9 1 (Uf (Uc Q) (p.length+1) J) (p.length+1) (Qdh (p++[s]))):=hid (QaO Hj (fun g hg=>b6.block g (World.ownsRow.lt Hj g hg).2));have J1:=hid (Gz.bw b6 Gz.lt);have K6:=hid (G2.bw b6 G2.lt);have Hy:Hid (Bl w0 Z):=hid (Hn.trans (b6.mono Hn.size));have V:Hid (U.heap.size<O.heap.size/\ O.heap.size<z.heap.size/\ z.heap.size<=w5.heap.size/\ w5.heap.size<=Z.heap.size/\ w0.heap.size<=Z.heap.size):=hid ⟨Jf.1,Jf.2,L.size,b6.size,Hy.size⟩;clear Gd H9 Hd Jt b6 K0 Gu Kw Kx Gz G2 Hj L Hh H1 Hq;go_wp2_with fail;go_loopw [1,33] (fun b' i wr=>∃(t:Nat),t<=ls.length/\ i=Ud t/\ Hid (LB wr w0.heap.size b' (L0++ls.take t))/\ Hid (Gr Z wr bu b')) (fun _ i _=>ls.length - (intOf i).toNat);case atStart=>exact⟨0,Uv _,rfl,hid (oW Jc),hid (Gr.refl _ _)⟩
    case round=>
     clear Jc;obtain⟨t,ht,rfl,Gl,G⟩:=hrel;have Hv:Hid (∀b,U.heap.size<=b ->Uq b≠bu.ownBlock):=hid (fun b hb e=>oH ((Kg b e.symm).2));have He:Hid (∀b,((U.heap.size<=b/\ b<Z.heap.size) \/wr.heap.size<=b) ->Uq b≠u1.ownBlock):=hid (fun b hb e=>by
      have M:=(Gl.lt b e.symm).2;rcases G.l with m|⟨j,m,C⟩
      ·rw [m] at e;have:=(Kg b e.symm).2;have:=V.out;omega
      ·rw [m] at e;have e:b=j:=by injection e
       omega)
     have L6:=G.g.size;have Gj:=hid (G.g.cell K6.c0 (Hv _ (by have:=V.out;show U.heap.size<=O.heap.size;omega)));have G1:=hid (G.g.cell K6.c1 (Hv _ (by have:=V.out;show U.heap.size<=O.heap.size;omega)));have K4:=hid (G.g.cell J1.c1 (Hv _ zL));have Ho:Hid (Bl w0 wr):=hid (Hy.trans (G.bw V.2.2.2.2 (fun k hk=>(Kg k hk).1)));have Gm:Hid (wr.ownsRow z.heap.size 9 1 (Uf (Uc Q) (p.length+1) J) (p.length+1) (Qdh (p++[s]))):=hid (QaO G8 (fun g hg=>G.g.block g (World.ownsRow.lt G8 g hg).2 (Hv g (by have M:=(World.ownsRow.lt G8 g hg).1;have m:=V.out;omega))));by_cases Gs:t<ls.length
     ·obtain⟨I,rfl,Kp,Kq,Ga⟩:=J2 oM;obtain⟨x,Kt,Jw,H6,H7⟩:=Ga t Gs;have c1:=G.g.cell H6 (Hv I (by have m:=V.out;show U.heap.size<=I;omega));have c2:=G.g.cell H7 (Hv I (by have m:=V.out;show U.heap.size<=I;omega));have Gt:=G5 x Kt;have G7:Hid (∀w',Bl w0 w' ->(Instr.lookup 170 (.map a2) (Uo #[Ud x.r,Ud x.q]) false).run prog w'=.ok (Uo #[Um x.v]) w'):=hid (fun w' h=>G6.out w' h x Kt);have Kf:Hid (ls.take (t+1)=ls.take t++[x]):=hid (by rw [VP,Jw];rfl);obtain⟨xp,xf,P,D,xv⟩:=x;dsimp only at c1 c2 Gt G7;have Lt:xp=p++[s]:=congrArg Lf.p Gt.1;have Jv:xf=decide (Y=2):=congrArg Lf.fl Gt.1;subst Lt;have L3:(Y==2)=xf:=(by rw [Jv];rfl);have L2:∀w:Ur,(Instr.field 225 (Uo #[Um xv]) 0).run prog w=.ok (Um xv) w:=fun w=>oK;obtain⟨X,Kj⟩:=zE (wr.alloc (Uj #[Ud P,Ud D] 115));have Hs:Bl wr X:=Kj▸zO _ _;have DV:Bx2 X wr.heap.size (Ud P) (Ud D):=Kj▸Bx2.made _ _ _ _;have H2:=hid DV;have Hu:Hid (Bl w0 X):=hid (Ho.trans (Hs.mono Ho.size));have K9:=hid (Gl.bw Hs);have Jd:=hid (Qez (QaO Gm (fun g hg=>Hs.block g (World.ownsRow.lt Gm g hg).2)) (show (p++[s]).length=p.length+1 by simp));have H0:Hid (∀w',Bl X w' ->Cl 154 #[Uf (Uc Q) (p.length+1) J] w' fun e Hw=>∃q cap,e=Ui (Uf (Uc q) (p.length+1) cap)/\ Bl w' Hw/\ Hw.ownsRow w'.heap.size 9 1 (Uf (Uc q) (p.length+1) cap) (p.length+1) (Qdh (p++[s]))):=hid (fun w' hb'=>by
       have hw:=Jd.2.same (hb'.block Q Jd.2.lt);exact Qmr Q (p.length+1) J (p++[s]) w' oP oM hw.lt (fun t ht=>hw.cell ht))
      have K1:Hid (∀w7 q7 Ha,Bl X w7 ->w7.ownsRow X.heap.size 9 1 (Uf (Uc q7) (p.length+1) Ha) (p.length+1) (Qdh (p++[s])) ->∃q' Hc n' w3,(Builtin.append_ #[35,35] 35 #[u1,Uf (Uc w7.heap.size) 1 1]).run prog (w7.alloc (Uj #[Uf (Uc q7) (p.length+1) Ha,Un xf,Ud P,Ud D,Um xv] 117))=.ok (Uf (Uc q') n' Hc) w3/\
        LB w3 w0.heap.size (Uf (Uc q') n' Hc) (L0++ls.take (t+1))/\ Gr w7 w3 u1 (Uf (Uc q') n' Hc)):=hid (fun w7 q7 Ha b7 o7=>by
       have Js:=World.ownsRow.lt o7 q7 rfl;have Ko:p.length+1<=Ha/\ Ha<=9223372036854775807:=by
        rcases o7.2 with ⟨h0,_⟩|⟨g',Hc,Ly,hv,Jj,hb,M,m,C,h4⟩
        ·cases h0
        ·injection hv with e1 e2 e3;unfold maxLen at m;omega
       obtain⟨q',Hc,w3,e1,e2,e3⟩:=K9.app b7 Hu.size (by have M:=H3.out;simp only [Vg,List.length_take] at M ⊢;omega) ⟨p++[s],xf,P,D,xv⟩ q7 Ha Js.1 Js.2 (by simpa using (Qez o7 (show (p++[s]).length=p.length+1 by simp)).2) (oW Ko);refine⟨q',Hc,_,w3,oW e1,?_,e3⟩;rw [Kf.out,<- Vu];exact e2)
      have Kc:Hid (∀w',Bl w0 w' ->w'.cell? (Ua U.heap.size 1)=Uq (Ud Y) ->w'.cell? (Ua O.heap.size 1)=Uq (.map a2) ->w'.cell? (Ub wr.heap.size)=Uq (Ud P) ->w'.cell? (Ua wr.heap.size 1)=Uq (Ud D) ->(w'.cell? (Ua U.heap.size 1)=Uq (Ud Y)/\ w'.cell? (Ua O.heap.size 1)=Uq (.map a2)/\ w'.cell? (Ub wr.heap.size)=Uq (Ud P)/\ w'.cell? (Ua wr.heap.size 1)=Uq (Ud D)/\ (Instr.lookup 170 (.map a2) (Uo #[Ud P,Ud D]) false).run prog w'=.ok (Uo #[Um xv]) w')):=hid (fun w' M m C h4 h5=>⟨m,C,h4,h5,G7 w' M⟩);have G4:=hid ((Hs.cell (p:=(Ua U.heap.size 1)) (by have:=V.out;show U.heap.size<wr.heap.size;omega)).trans K4);have G3:=hid ((Hs.cell (p:=(Ua O.heap.size 1)) (by have:=V.out;show O.heap.size<wr.heap.size;omega)).trans G1);have Hl:Hid (∀w',Bl X w' ->(w'.cell? (Ua U.heap.size 1)=Uq (Ud Y)/\ w'.cell? (Ua O.heap.size 1)=Uq (.map a2)/\ w'.cell? (Ub wr.heap.size)=Uq (Ud P)/\ w'.cell? (Ua wr.heap.size 1)=Uq (Ud D)/\ (Instr.lookup 170 (.map a2) (Uo #[Ud P,Ud D]) false).run prog w'=.ok (Uo #[Um xv]) w')):=hid (fun w' b=>by
       have hz:=H2.lt;have h6:=V.out;exact Kc w' (Hu.trans (b.mono Hu.size)) ((b.cell (p:=(Ua U.heap.size 1)) oQ).trans G4) ((b.cell (p:=(Ua O.heap.size 1)) oQ).trans G3) (H2.bw b H2.lt).c0 (H2.bw b H2.lt).c1)
      have J5:Hid (Gr Z X bu u1):=hid (G.trans (Gr.of_below Hs));have Lx:Hid (wr.heap.size<X.heap.size):=hid DV.lt;clear Hs DV H6 H7 Ga Kt Jw Gt Gl G Jv G7 K4 G1 Gj Gm Kp Kq;go_wp2_with fail;refine zS Hl (fun qh=> ?_);clear c1 c2 Kj;refine tZ 0 37 ?_;refine tZ 1 38 ?_;refine tZ 3 40 ?_;refine tZ 4 41 ?_;refine tZ 5 42 ?_;refine tZ 6 43 ?_;refine tZ 7 44 ?_;refine tZ 8 45 ?_;refine tZ 9 46 ?_;refine tZ 10 47 ?_;refine tZ 11 48 ?_;refine cZ 2 ?_;intro K A;go_simp;refine(H0 _ zI.drew).mono ?_;rintro e w7 ⟨q7,Ha,rfl,b7,o7⟩;have H:Bl X w7:=⟨b7.os,b7.tape,b7.output,b7.size,b7.block⟩;refine A.out _ _ (Hl _ H) (fun qh=> ?_);clear A K;try simp only [zP]
      refine tZ 12 49 ?_;refine cZ 13 ?_;intro K A;go_simp;obtain⟨q8,Lk,n8,w8,Hb,Jy,g8⟩:=K1 w7 q7 Ha H o7;have Jh:Bl X (w7.alloc (Uj #[Uf (Uc q7) (p.length+1) Ha,Un xf,Ud P,Ud D,Um xv] 117)):=H.alloc H.size _;refine A.out _ _ (Hl _ Jh) (fun qh=> ?_);clear A K;try simp only [zP]
      refine cZ 14 ?_;intro K A;refine Qcl _ _ _ _ rfl Hb (by rfl) (by rfl) rfl ?_;have t1:=(Hl _ H).1;have t2:=(Hl _ H).2.1;have t3:=(Hl _ H).2.2.1;have t4:=(Hl _ H).2.2.2.1;have H4:Bl w0 w8:=(Hu.trans (H.mono Hu.size)).trans (g8.bw (by have M:=Hu.size;have m:=H.size;omega) (fun k hk=>(K9.lt k hk).1));refine A.out _ _ (Kc _ H4 (g8.g.cell t1 (He _ (.inl ⟨Uu _,by have:=V.out;show U.heap.size<Z.heap.size;omega⟩))) (g8.g.cell t2 (He _ (.inl ⟨by have:=V.out;show U.heap.size<=O.heap.size;omega,by have:=V.out;show O.heap.size<Z.heap.size;omega⟩))) (g8.g.cell t3 (He _ (.inr zL))) (g8.g.cell t4 (He _ (.inr zL)))) (fun qh=> ?_);clear A K;try simp only [zP]
      refine tZ 15 1 ?_;refine zD ?_;have J8:=hid Jy;have J3:=hid ((J5.trans (Gr.of_below H)).trans g8);clear qh b7 H Jh o7 Hb Jy g8 t1 t2 t3 t4 H4 Hl Kc K1 H0;go_wp2_with fail;go_roundw;case rel=>exact⟨t+1,Gs,oN,J8,J3⟩
      case measure=>exact oE
     ·obtain rfl:t=ls.length:=oM;have Ld:Hid (LB wr w0.heap.size u1 (L0++ls)):=hid (by have:=Gl.out;rw [VQ] at this;exact this);have Kw:=Gj.out;have Kx:=G1.out;have K3:=hid (Kb u1 (L0++ls) (Uf (Uc Q) (p.length+1) J) wr Ho Ld (Qez Gm (show (p++[s]).length=p.length+1 by simp)).1 (fun g hg e=>by
       have e1:Q=g:=(by simpa [Value.ownBlock] using hg);subst e1;exact He Q (.inl (by have M:=Le.out;have m:=V.out;omega)) e.symm) (by have:=H3.out;simp only [Vg] at this ⊢;omega))
      go_wp2_with fail;refine K3.mono ?_;rintro e w9 ⟨v9,rfl,Jz,g9⟩;have J9:Hid (LB w9 w0.heap.size v9 (l0++(E.take (k+1)).flatMap (gK l f p))):=hid (by rw [G0.out,<- Vu];exact Jz);have J4:Hid (Gr w1 w9 bv v9):=hid (((Hg.trans (Gr.of_below Gx)).trans G).trans g9);clear Jz g9 K3 Kw Kx;go_wp2_with fail;go_roundw;case rel=>exact⟨k+1,Jq,oN,J9,J4⟩
      case measure=>exact oE
   ·obtain rfl:k=E.length:=oM;have HF:Hid (l0++(E.take E.length).flatMap (gK l f p)=l0++(kS l p l.length).flatMap (gK l f p)):=hid (by rw [VQ,Lh.out]);go_wp2_with fail;go_ret;exact⟨_,rfl,by rw [<- HF.out];exact Gk,(Gr.of_below (b:=bv) Gv).trans Hg⟩
theorem QnJ (a a':Option Us)(c c':Nat)(p p':List ByteArray)(fl fl':Bool)(r q r' q':Int)(v v':ByteArray)(w:Ur)(hc:p.length<=c)(hc':p'.length<=c')(E:c<=9223372036854775807)(hx':c'<=9223372036854775807)(h:QaI w a p)(h':QaI w a' p'):
  Cl 104 #[Uo #[Uf a p.length c,Un fl,Ud r,Ud q,Um v],Uo #[Uf a' p'.length c',Un fl',Ud r',Ud q',Um v']] w (Rt w (Un (yes ((⟨p,fl,r,q,v⟩:Lf)=⟨p',fl',r',q',v'⟩)))):=by
 obtain⟨W,j⟩:=zE ((w.alloc (Uj #[Uf a p.length c,Un fl,Ud r,Ud q,Um v] 117)).alloc (Uj #[Uf a' p'.length c',Un fl',Ud r',Ud q',Um v'] 117));have M:Bl w W:=j▸Qak _ _ _;have k0:W.cell? (Ub w.heap.size)=Uq (Uf a p.length c):=j▸oP;have Z:W.cell? (Ua w.heap.size 1)=Uq (Un fl):=j▸oP;have G:W.cell? (Ua w.heap.size 2)=Uq (Ud r):=j▸oP;have H:W.cell? (Ua w.heap.size 3)=Uq (Ud q):=j▸oP;have I:W.cell? (Ua w.heap.size 4)=Uq (Um v):=j▸oP;have C:W.cell? (Ua (w.heap.size+1) 0)=Uq (Uf a' p'.length c'):=j▸oP;have J:W.cell? (Ua (w.heap.size+1) 1)=Uq (Un fl'):=j▸oP;have K:W.cell? (Ua (w.heap.size+1) 2)=Uq (Ud r'):=j▸oP;have L:W.cell? (Ua (w.heap.size+1) 3)=Uq (Ud q'):=j▸oP;have N:W.cell? (Ua (w.heap.size+1) 4)=Uq (Um v'):=j▸oP;have b:=hid M;have O:=hid (QgP p p' a a' c c' W hc hc' E hx' (h.bw M) (h'.bw M));have g:Hid (yes ((⟨p,fl,r,q,v⟩:Lf)=⟨p',fl',r',q',v'⟩)=true↔QaN p p'=0/\ fl=fl'/\ r=r'/\ q=q'/\ v=v'):=hid (by
  rw [QhM];constructor
  ·intro e;have e:(⟨p,fl,r,q,v⟩:Lf)=⟨p',fl',r',q',v'⟩:=Classical.byContradiction fun hn=>by rw [Qaj hn] at e;cases e
   injection e with Q t U e4 e5;exact⟨Q,t,U,e4,e5⟩
  ·rintro⟨rfl,rfl,rfl,rfl,rfl⟩;exact Qal rfl)
 obtain⟨B,V⟩:=zE (yes ((⟨p,fl,r,q,v⟩:Lf)=⟨p',fl',r',q',v'⟩));obtain⟨x,E⟩:=zE (QaN p p');rw [V,E] at g;rw [E] at O;rw [V];clear M h h' V E;go_enter func104,ntmps104;go_wp2_with fail;try rw [j]
 clear j;refine O.mono ?_;rintro e w1 ⟨rfl,k,m⟩;have D:w1.cell? (Ua w.heap.size 1)=Uq (Un fl):=by rw [m];exact Z
 have F:w1.cell? (Ua w.heap.size 2)=Uq (Ud r):=by rw [m];exact G
 have P:w1.cell? (Ua w.heap.size 3)=Uq (Ud q):=by rw [m];exact H
 have R:w1.cell? (Ua w.heap.size 4)=Uq (Um v):=by rw [m];exact I
 have S:w1.cell? (Ua (w.heap.size+1) 1)=Uq (Un fl'):=by rw [m];exact J
 have T:w1.cell? (Ua (w.heap.size+1) 2)=Uq (Ud r'):=by rw [m];exact K
 have Ha:w1.cell? (Ua (w.heap.size+1) 3)=Uq (Ud q'):=by rw [m];exact L
 have Hb:w1.cell? (Ua (w.heap.size+1) 4)=Uq (Um v'):=by rw [m];exact N
 have A:Hid (Bl w w1):=hid (by rw [m];exact⟨b.os,b.tape,b.output,b.size,b.block⟩);clear m k0 Z G H I C J K L N O b;have z:¬(x=0/\ fl=fl'/\ r=r'/\ q=q'/\ v=v') ->Hid (B=false):=fun hn=>hid (by
  cases hb:B with
  | false=>rfl
  | true=>exact absurd (g.1 hb) hn)
 by_cases y:x=0
 ·have X:(x==0)=true:=by simp [y]
  by_cases o:fl=fl'
  ·have Q:(fl==fl')=true:=(by simp [o]);have Y:∀w:Ur,(binOp .eql 115 (Uo #[Ud r,Ud q]) (Uo #[Ud r',Ud q'])).run prog w=.ok (Un (r==r' && q==q')) w:=fun w=>Qmy r q r' q' w;by_cases i:r=r'/\ q=q'
   ·have t:(r==r' && q==q')=true:=(by simp [i]);rw [t] at Y;by_cases s:v=v'
    ·have U:(v.toList==v'.toList)=true:=(by simp [s]);have u:Hid (B=true):=hid (g.2 ⟨y,o,i.1,i.2,s⟩);clear g z t y o i s;go_wp2_with fail;go_ret;exact⟨Qa8 u.symm,A⟩
    ·have U:(v.toList==v'.toList)=false:=(by simpa using fun h=>s (toList_inj h));have u:=z (fun h=>s h.2.2.2.2);clear g z t y o i s;go_wp2_with fail;go_ret;exact⟨Qa8 u.symm,A⟩
   ·have t:(r==r' && q==q')=false:=by
     cases hb:(r==r' && q==q') with
     | false=>rfl
     | true=>exact absurd (oW hb) i
    rw [t] at Y;have u:=z (fun h=>i ⟨h.2.2.1,h.2.2.2.1⟩);clear g z t y o i;go_wp2_with fail;go_ret;exact⟨Qa8 u.symm,A⟩
  ·have Q:(fl==fl')=false:=oW o;have u:=z (fun h=>o h.2.1);clear g z y o;go_wp2_with fail;go_ret;exact⟨Qa8 u.symm,A⟩
 ·have X:(x==0)=false:=oW y;have u:=z (fun h=>y h.1);clear g z y;go_wp2_with fail;go_ret;exact⟨Qa8 u.symm,A⟩
theorem QnC (a a':Option Us)(c c':Nat)(l:List Lf)(p':List ByteArray)(fl':Bool)(r' q':Int)(v':ByteArray)(w:Ur)(hl:l.length<=1048576)(hc':p'.length<=c')(hx':c'<=9223372036854775807)(h:QdB w a l)(h':QaI w a' p'):
  Cl 74 #[Uf a l.length c,Uo #[Uf a' p'.length c',Un fl',Ud r',Ud q',Um v']] w fun e w'=>(∃i:Int,e=Ui (Ud i)/\ (0<=i↔(⟨p',fl',r',q',v'⟩:Lf)∈l))/\ Bl w w':=by
 obtain⟨W,Q⟩:=zE (w.alloc (Uj #[Uf a' p'.length c',Un fl',Ud r',Ud q',Um v'] 117));have O:Bl w W:=Q▸zO _ _;have X0:Bx5 W w.heap.size (Uf a' p'.length c') (Un fl') (Ud r') (Ud q') (Um v'):=Q▸Bx5.new _ _ _ _ _ _ _;have HX:=hid X0;have P:=hid O;have HL:=hid (h.bw O);have HP:=hid (h'.bw O);have T:=hid (And.intro hc' hx');clear X0 O h h' hc' hx';go_enter func74,ntmps74;go_wp2_with fail;try rw [Q]
 clear Q;go_loopw [5] (fun i wr=>∃j:Nat,j<=l.length/\ i=Ud j/\ Hid (Bl W wr)/\ Hid (∀t,t<j ->gL l t≠⟨p',fl',r',q',v'⟩)) (fun i _=>l.length - (intOf i).toNat);case atStart=>exact⟨0,Uv _,rfl,hid zI,hid (fun t J=>oM)⟩
 case round=>
  obtain⟨j,hj,rfl,m,Y⟩:=hrel;by_cases I:j<l.length
  ·have i1:(0:Int)<=(j:Int):=UZ _;have i2:(j:Int)<(l.length:Int):=oM;obtain⟨b,off,rfl,hb,Ha⟩:=(HL.bw m).resolve_left oM;obtain⟨pa,pc,⟨g,d0⟩,sg,s,A,E,M⟩:=Ha j I;have u:=hid (fun w1 (k:Bl wr w1)=>QnJ pa a' pc c' (gL l j).p p' (gL l j).fl fl' (gL l j).r (gL l j).q r' q' (gL l j).v v' w1 d0.1 T.1 d0.2 T.2 (sg.bw k) ((HP.bw m).bw k));have Hc:Hid (gL l j=⟨(gL l j).p,(gL l j).fl,(gL l j).r,(gL l j).q,(gL l j).v⟩):=hid rfl;obtain⟨y,L⟩:=zE (gL l j);have HY:=hid L;rw [L] at g s A E M u;obtain⟨X,N,D,C,F⟩:=y;dsimp only at g s A E M u;obtain⟨B,H⟩:=zE (yes ((⟨X,N,D,C,F⟩:Lf)=⟨p',fl',r',q',v'⟩));have S:=hid H;rw [H] at u;have Z:=HX.bw m HX.lt;have U:Hid (∀w',Bl wr w' ->(w'.cell? (Ua b (off+j*5))=Uq (Uf pa X.length pc)/\ w'.cell? (Ua b (off+j*5+1))=Uq (Un N)/\ w'.cell? (Ua b (off+j*5+2))=Uq (Ud D)/\ w'.cell? (Ua b (off+j*5+3))=Uq (Ud C)/\ w'.cell? (Ua b (off+j*5+4))=Uq (Um F)/\ w'.cell? (Ub w.heap.size)=Uq (Uf a' p'.length c')/\ w'.cell? (Ua w.heap.size 1)=Uq (Un fl')/\ w'.cell? (Ua w.heap.size 2)=Uq (Ud r')/\ w'.cell? (Ua w.heap.size 3)=Uq (Ud q')/\ w'.cell? (Ua w.heap.size 4)=Uq (Um v'))):=hid (fun w' k=>by
    have q:=fun o=>k.cell (p:=(Ua b o)) hb;have z:=Z.bw k Z.lt;exact⟨(q _).trans g,(q _).trans s,(q _).trans A,(q _).trans E,(q _).trans M,z.c0,z.c1,z.c2,z.c3,z.c4⟩)
   clear L H Ha sg Z;go_wp2_with fail;refine zS U (fun qh=> ?_);clear g s A E M;refine tZ 0 12 ?_;refine tZ 1 13 ?_;refine tZ 2 14 ?_;refine tZ 3 15 ?_;refine tZ 4 16 ?_;refine cZ 5 ?_;intro K hK;go_simp;refine(u _ zI.drew).mono ?_;rintro e w1 ⟨rfl,k⟩;have G:Bl wr w1:=⟨k.os,k.tape,k.output,k.size,k.block⟩;refine hK.out _ _ (U _ G) (fun qh=> ?_);clear hK K;try simp only [zP]
   refine zD ?_;have R:=hid (m.trans (G.mono m.size));clear qh k G U u;cases B with
   | true=>
    have V:Hid ((⟨p',fl',r',q',v'⟩:Lf)∈l):=hid (by
     have e:(⟨X,N,D,C,F⟩:Lf)=⟨p',fl',r',q',v'⟩:=Classical.byContradiction fun hn=>by have:=S.out;rw [Qaj hn] at this;cases this
     rw [<- e,<- HY.out];exact Qaq.2 ⟨j,I,rfl⟩)
    go_wp2_with fail;go_ret;exact⟨⟨(j:Int),rfl,⟨fun _=>V.out,fun _=>i1⟩⟩,Qaa P R⟩
   | false=>
    have Hb:Hid (∀t,t<j+1 ->gL l t≠⟨p',fl',r',q',v'⟩):=hid (fun t J=>by
     by_cases e:t=j
     ·rw [e,HY.out];intro e2;have:=S.out;rw [Qal e2] at this;cases this
     ·exact Y t oM)
    clear Y m;go_wp2_with fail;go_roundw;case rel=>exact⟨j+1,I,oN,R,Hb⟩
    case measure=>exact oE
  ·obtain rfl:j=l.length:=oM;have V:Hid (¬(⟨p',fl',r',q',v'⟩:Lf)∈l):=hid (fun hm=>by
    obtain⟨t,J,e⟩:=Qaq.1 hm;exact Y t J e)
   go_wp2_with fail;go_ret;exact⟨⟨-1,rfl,⟨fun h=>oM,fun h=>absurd h V⟩⟩,Qaa P m⟩
theorem LC.cast{P Q P' Q':Nat ->Nat}(h:LC w lo v l P Q)(e:∀i,i<l.length ->P' i=P i/\ Q' i=Q i):LC w lo v l P' Q':=by
 refine⟨?_,fun i hi=> ?_⟩
 ·have:(UT (l.length*5)).map (lCp l P' Q')=(UT (l.length*5)).map (lCp l P Q):=Vr fun j hj=>by
   have q:j<l.length*5:=oW hj;obtain⟨k,m⟩:=e (j/5) oM;unfold lCp;rw [k,m]
  rw [this];exact h.row
 ·obtain⟨k,m⟩:=e i hi;rw [k,m];exact h.pt i hi
theorem Qhc {y:Lf}:∀{ls:List Lf} {k:Nat},k<=ls.length ->(∀i,i<k ->QaQ (gL ls i) y<0) ->(k<ls.length ->¬QaQ (gL ls k) y<0) ->QdI y ls=ls.take k++y::ls.drop k
 | [],k,hk,_,_=>by
  obtain rfl:k=0:=oW hk;simp [QdI]
 | x::r,0,_,_,j=>by
  have j:=j oP;have e:gL (x::r) 0=x:=rfl;rw [e] at j;simp only [QdI];rw [if_neg (by rw [Qaj j];simp)];simp
 | x::r,k+1,hk,h1,j=>by
  have e:gL (x::r) 0=x:=rfl;have m:=h1 0 oM;rw [e] at m;simp only [QdI];rw [if_pos (Qal m),Qhc (ls:=r) (k:=k) (oW hk) (fun i hi=>h1 (i+1) oM) (fun hh=>j oS)];simp
theorem LC.cell{cap:Nat}{P Q:Nat ->Nat}(h:LC w lo (Uf (Uc g) n cap) l P Q)(hn:n=l.length)(hi:i<l.length):
  w.cell? (Ua g (i*5))=Uq (Uf (Uq ⟨P i,0,Up⟩) (gL l i).p.length (Q i))/\ w.cell? (Ua g (i*5+1))=Uq (Un (gL l i).fl)/\ w.cell? (Ua g (i*5+2))=Uq (Ud (gL l i).r)/\ w.cell? (Ua g (i*5+3))=Uq (Ud (gL l i).q)/\ w.cell? (Ua g (i*5+4))=Uq (Um (gL l i).v):=by
 subst hn;have j:=Qci h.row;obtain⟨k,m,u,y,z⟩:=Qq5 l P Q i;exact⟨by rw [j.cell oM,k],by rw [j.cell oM,m],by rw [j.cell oM,u],by rw [j.cell oM,y],by rw [j.cell oM,z]⟩
theorem LC.seg{P Q:Nat ->Nat}(h:LC w lo v l P Q)(hi:i<l.length):QaI w (Uq ⟨P i,0,Up⟩) (gL l i).p:=by
 obtain⟨m,j,q,k,r⟩:=h.pt i hi;exact .inr ⟨P i,0,rfl,j,fun t ht=>by rw [Uw];exact k.cell ht⟩
theorem LC.lt{P Q:Nat ->Nat}(h:LC w lo v l P Q):∀g,v.ownBlock=Uq g ->lo<=g/\ g<w.heap.size:=fun g hg=>h.row.lt g hg
theorem LC.low{P Q:Nat ->Nat}(h:LC w lo v l P Q)(hl:lo'<=lo):LC w lo' v l P Q:=⟨QbF h.row hl,fun i hi=>by obtain⟨j,k⟩:=h.pt i hi;exact⟨Ux hl j,k⟩⟩
theorem LC.cap {w:Ur}{lo g n cap:Nat}{l:List Lf}{P Q:Nat ->Nat}(h:LC w lo (Uf (Uc g) n cap) l P Q):l.length<=cap/\ cap<=9223372036854775807:=by
 rcases h.row.2 with ⟨j,_⟩|⟨u,q,r,m,o,t,v,k,y,z⟩
 ·cases j
 ·injection m with e1 e2 e3;unfold maxLen at k;omega
theorem LC.rest{P Q:Nat ->Nat}(h:LC w lo v l P Q)(hlo:lo<=w.heap.size)(l':List Lf)(P' Q':Nat ->Nat)(g k m c off:Nat)(hk:k+m=l'.length)(hl:l.length+m<=1048576)(hoff:0<m ->off=k*5)(hC:∀j,j<l'.length*5 ->w.cell? (Ua g j)=Uq (lCp l' P' Q' j))(hp:∀i,i<l'.length ->lo<=P' i/\ P' i<w.heap.size/\ Uq (P' i)≠v.ownBlock/\ Wr w (P' i) 9 (gL l' i).p.length (fun t=> Um (gS (gL l' i).p t))/\ (gL l' i).p.length<=Q' i/\ Q' i<=9223372036854775807)(hv:v≠Ue):
  ∃y o M,(Builtin.append_ #[35,35] 35 #[v,Uf (Uq (Ua g off)) m c]).run prog w=.ok (Uf (Uc y) (l.length+m) o) M/\
   LC M lo (Uf (Uc y) (l.length+m) o) (l++l'.drop k) (fun i=>if i<l.length then P i else P' (k+(i - l.length))) (fun i=>if i<l.length then Q i else Q' (k+(i - l.length)))/\ Gr w M v (Uf (Uc y) (l.length+m) o):=by
 obtain⟨i0,hi,S,T,W⟩:=info_parts QcZ;have R:∀j,(lCp l' P' Q' j).oneCell'=true:=fun j=>by unfold lCp;split;rfl;split;rfl;split;rfl;split;rfl;rfl
 obtain⟨v',M,N,Z,V,B,A⟩:=run_append_own_at (P:=prog) w lo 35 35 117 i0 _ 5 64 underlying35 hi S T W rfl oD v l.length _ h.row (Ua g off) m c ((UT (m*5)).map fun j=>lCp l' P' Q' (k*5+j)) oP (fun j u s=>by
  simp only [VN,YZ] at s;obtain⟨q,E,rfl⟩:=s;have F:j<m*5:=by
   rcases Nat.lt_or_ge j (m*5) with h|h
   ·exact h
   ·rw [US (oW h)] at E;cases E
  rw [YU F] at E;have E:=Option.some.inj E;rw [<- E,Qbq,hoff oM];exact hC _ oM) (fun u hu=>by
  obtain⟨j,s,rfl⟩:=List.mem_map.1 hu;exact R _) oL oM hlo
 rcases Z.2 with ⟨G,h0⟩|⟨y,o,Ha,G,r⟩
 ·exact absurd (B.1 G).1 hv
 rw [G] at N Z A;have L:Uq y=v.ownBlock \/y=w.heap.size:=by
  rcases A with A|A
  ·exact .inl (by simpa [Value.ownBlock] using A)
  ·exact .inr (by simpa [Value.ownBlock] using A)
 have Hb:=V.size;have C:Gr w M v (Uf (Uc y) (l.length+m) o):=by
  refine⟨V,?_⟩;rcases L with e|e
  ·exact .inl e
  ·exact .inr ⟨y,rfl,oM⟩
 have J:(l++l'.drop k).length=l.length+m:=oS;have K:∀b,Uq b≠v.ownBlock ->b<w.heap.size ->Uq b≠(Value.slice (Uc y) (l.length+m) o).ownBlock:=fun b hb1 hb2 e=>by
  have e:b=y:=by simpa [Value.ownBlock] using e
  rcases L with z|z
  ·exact hb1 (by rw [e];exact z)
  ·omega
 have H:∀i,i<l.length ->gL (l++l'.drop k) i=gL l i:=fun i hi=>by simp [gL,UR,YV hi]
 have I:∀i,l.length<=i ->gL (l++l'.drop k) i=gL l' (k+(i - l.length)):=fun i hi=>by simp [gL,UR,List.getElem?_append_right hi]
 refine⟨y,o,M,N,⟨?_,fun i hi=> ?_⟩,C⟩
 ·rw [J];have X:(UT ((l.length+m)*5)).map (lCp (l++l'.drop k) (fun i=>if i<l.length then P i else P' (k+(i - l.length))) (fun i=>if i<l.length then Q i else Q' (k+(i - l.length))))=(UT (l.length*5)).map (lCp l P Q)++(UT (m*5)).map fun j=>lCp l' P' Q' (k*5+j):=by
   rw [YS,List.range_add,Vl,List.map_map];congr 1
   ·refine Vr fun j s=> ?_;have D:j<l.length*5:=oW s;unfold lCp;rw [H (j/5) oM];dsimp only;rw [if_pos (show j/5<l.length by omega),if_pos (show j/5<l.length by omega)]
   ·refine Vr fun j s=> ?_;have D:j<m*5:=oW s;simp only [Function.comp];unfold lCp;rw [I ((l.length*5+j)/5) oM];dsimp only;rw [if_neg (show¬(l.length*5+j)/5<l.length by omega),if_neg (show¬(l.length*5+j)/5<l.length by omega),show k+((l.length*5+j)/5 - l.length)=(k*5+j)/5 by omega,show (l.length*5+j)%5=(k*5+j)%5 by omega]
  rw [X];exact Z
 ·by_cases e:i<l.length
  ·simp only [if_pos e];rw [H i e];obtain⟨Y,z,O,U⟩:=h.pt i e;exact⟨Y,oM,K _ O z,U.1.same (V.block _ z O),U.2⟩
  ·simp only [if_neg e];rw [I i oM];obtain⟨Y,z,O,U⟩:=hp (k+(i - l.length)) (by rw [J] at hi;omega);exact⟨Y,oM,K _ O z,U.1.same (V.block _ z O),U.2⟩
theorem Qbu(h:(Value.slice (Uc q) n c).ownBlock=Uq k):q=k:=by simpa [Value.ownBlock] using h
theorem Qm9 (g cap:Nat)(l:List Lf)(P Q:Nat ->Nat)(w:Ur)(lo pb pc:Nat)(yp:List ByteArray)(yf:Bool)(yr yq:Int)(yv:ByteArray)(h:LC w lo (Uf (Uc g) l.length cap) l P Q)(hlo:lo<=w.heap.size)(hl:l.length<=100000)(hpl:∀i,i<l.length ->(gL l i).p.length<=1048576)(hyl:yp.length<=1048576)(hy1:lo<=pb/\ pb<w.heap.size)(hyw:Wr w pb 9 yp.length (fun t=> Um (gS yp t)))(hpc:yp.length<=pc/\ pc<=9223372036854775807):
  Cl 75 #[Uf (Uc g) l.length cap,Uo #[Uf (Uc pb) yp.length pc,Un yf,Ud yr,Ud yq,Um yv]] w fun e w'=>(∃g' cap' s A,e=Ui (Uf (Uc g') (l.length+1) cap')/\ w.heap.size<=g'/\ LC w' lo (Uf (Uc g') (l.length+1) cap') (QdI ⟨yp,yf,yr,yq,yv⟩ l) s A)/\ Bl w w':=by
 obtain⟨W,hW⟩:=zE ((w.alloc (Uj #[Uf (Uc pb) yp.length pc,Un yf,Ud yr,Ud yq,Um yv] 117)).alloc (Uj #[] 117));have b0:Bl w W:=hW▸Qak _ _ _;have X0:Bx5 W w.heap.size (Uf (Uc pb) yp.length pc) (Un yf) (Ud yr) (Ud yq) (Um yv):=hW▸(Bx5.new _ _ _ _ _ _ _).up _;have zW:W.heap.size=w.heap.size+2:=hW▸oP;have Ht:LC W w.heap.size (Uf (Uq (Ua (w.heap.size+1) 0)) 0 0) [] P Q:=by
  refine⟨?_,fun i hi=>by simp at hi⟩;have:=VD (base:=w.heap.size) (e:=117) (size:=5) (w.alloc (Uj #[Uf (Uc pb) yp.length pc,Un yf,Ud yr,Ud yq,Um yv] 117)) #[] 0 oP oL rfl;rw [hW] at this;simpa using this
 have hg:=(h.lt g rfl).2;have HH:=hid h;have HX:=hid X0;have Hs:=hid hyw;have HY:=hid (And.intro hy1 hpc);have H4:=hid hpl;have Hj:=hid hlo;have Hn:=hid Ht;have H7:=h.cap;have Hr:Hid (∀i,i<l.length ->lo<=P i/\ P i<w.heap.size):=hid (fun i hi=>⟨(h.pt i hi).1,(h.pt i hi).2.1⟩);have H0:=hid hg;have H5:=hid zW;have Hy:=hid b0;clear h b0 X0 zW Ht hg hy1 hyw hpc hpl hlo;have H1:Hid (∀wr q k b,Gr W wr (Uf (Uq (Ua (w.heap.size+1) 0)) 0 0) (Uf (Uc q) k b) ->Bl w wr/\ Bx5 wr w.heap.size (Uf (Uc pb) yp.length pc) (Un yf) (Ud yr) (Ud yq) (Um yv)/\ w.heap.size<q):=hid (fun wr q k b hG=>by
  have hz:=H5.out;have hs:=hG.g.size;have e:=hG.g.block w.heap.size oM (fun e=>oH (Qbu e.symm));refine⟨Hy.trans (hG.bw oM (fun k X=>oH (Qbu X))),?_,?_⟩
  ·have q:=fun o=>UB (w:=W) (w':=wr) (a:=(Ua w.heap.size o)) e;exact⟨(q 0).trans HX.c0,(q 1).trans HX.c1,(q 2).trans HX.c2,(q 3).trans HX.c3,(q 4).trans HX.c4,fun i=>(Ys (a:=(Ua w.heap.size i)) e).trans (HX.f i),oH HX.lt⟩
  ·rcases hG.l with E|⟨j,E,h2⟩
   ·have:=Qbu (k:=w.heap.size+1) E;omega
   ·have:=Qbu E;omega)
 have Hp:Hid (∀w1 k q b,k<=l.length ->LC w1 lo (Uf (Uc q) k b) (l.take k) P Q ->Bl w w1 ->w.heap.size<q ->∃z y M,(Builtin.append_ #[35,35] 35 #[Uf (Uc q) k b,Uf (Uc w1.heap.size) 1 1]).run prog (w1.alloc (Uj #[Uf (Uc pb) yp.length pc,Un yf,Ud yr,Ud yq,Um yv] 117))=.ok (Uf (Uc z) (k+1) y) M/\ Bl w M/\ w.heap.size<=z/\
   ∀off c',(k<l.length ->off=k*5) ->∃u G w4 s A,(Builtin.append_ #[35,35] 35 #[Uf (Uc z) (k+1) y,Uf (Uq (Ua g off)) (l.length - k) c']).run prog M=.ok (Uf (Uc u) (l.length+1) G) w4/\ Bl w w4/\ w.heap.size<=u/\ LC w4 lo (Uf (Uc u) (l.length+1) G) (l.take k++(⟨yp,yf,yr,yq,yv⟩:Lf)::l.drop k) s A):=hid (fun w1 k q b X hLC O hq=>by
  have He:(l.take k).length=k:=oS;have hY:=HY.out;have H6:=O.size;obtain⟨z,y,M,e1,e2,e3⟩:=hLC.app zI (oH Hj) (by rw [He];omega) ⟨yp,yf,yr,yq,yv⟩ pb pc hY.1.1 oM (fun e=>oH (Qbu e.symm)) (Hs.same (O.block pb hY.1.2)) hY.2;rw [He] at e1 e2 e3;have J:Bl w M:=O.trans (e3.bw H6 (fun k X=>oH (Qbu X)));have Hh:w.heap.size<=z:=by
   rcases e3.l with E|⟨j,E,h2⟩
   ·have:=Qbu (k:=q) E;omega
   ·have:=Qbu E;omega
  refine⟨z,y,M,e1,J,Hh,fun off c' hoff=> ?_⟩;have Hu:=HH.bw J;have Ga:=Qci Hu.row;have Hx:(l.take k++[(⟨yp,yf,yr,yq,yv⟩:Lf)]).length=k+1:=oS;obtain⟨u,G,w4,f1,f2,f3⟩:=e2.rest (oJ J.size Hj) l P Q g k (l.length - k) c' off oM (by rw [Hx];omega) (fun hm=>hoff oM) (fun j hj=>Ga.cell hj) (fun i hi=>by
   obtain⟨x1,x2,x3,x4⟩:=Hu.pt i hi;have:=Hr i hi;exact⟨x1,x2,fun e=>oH (Qbu e.symm),x4⟩) oP
  rw [Hx,show k+1+(l.length - k)=l.length+1 by omega] at f1 f2 f3;have C:w.heap.size<=u:=by
   rcases f3.l with E|⟨j,E,h2⟩
   ·have:=Qbu (k:=z) E;omega
   ·have:=Qbu E;have:=J.size;omega
  rw [Vu,List.singleton_append] at f2;exact⟨u,G,w4,_,_,f1,J.trans (f3.bw J.size (fun k X=>oH (Qbu X))),C,f2⟩)
 go_enter func75,ntmps75;go_wp2_with fail;try rw [hW]
 clear hW;go_loopw [5,6] (fun b' i wr=>∃(k q b:Nat),k<=l.length/\ i=Ud k/\ b'=Uf (Uc q) k b/\ Hid (∀j,j<k ->QaQ (gL l j) ⟨yp,yf,yr,yq,yv⟩<0)/\ Hid (LC wr lo (Uf (Uc q) k b) (l.take k) P Q)/\ Hid (Gr W wr (Uf (Uq (Ua (w.heap.size+1) 0)) 0 0) (Uf (Uc q) k b))) (fun _ i _=>l.length - (intOf i).toNat);case atStart=>exact⟨0,_,0,Uv _,rfl,rfl,hid (fun j hj=>oM),hid (oW (Hn.low Hj)),hid (Gr.refl _ _)⟩
 case round=>
  obtain⟨k,q,b,X,rfl,rfl,HJ,HL,HG⟩:=hrel;have H9:=HL.cap;have He:(l.take k).length=k:=oS;rw [He] at H9;have i1:(0:Int)<=(k:Int):=UZ _;obtain⟨bR,xR,hq⟩:=H1 wr q k b HG;have D:=hid bR;have Hk:=hid xR;have HQ:=hid hq;have Hq:=hid He;clear bR xR hq He;by_cases Hb:k<l.length
  ·have i2:(k:Int)<(l.length:Int):=oM;have Hm:=HH.bw D;obtain⟨c0,c1,c2,y,G⟩:=Hm.cell rfl Hb;obtain⟨p1,p2,p3,p4,p5⟩:=Hm.pt k Hb;have Hg:=hid (fun w1 (m:Bl wr w1)=>QhW (Uq ⟨P k,0,Up⟩) (Uc pb) (Q k) pc (gL l k).p yp (gL l k).fl yf (gL l k).r (gL l k).q yr yq (gL l k).v yv w1 (H4 k Hb) hyl p5.1 HY.2.1 p5.2 HY.2.2 ((Hm.seg Hb).bw m) (.inr ⟨pb,0,rfl,by have E:=HY.1.2;have h2:=D.size;have h3:=m.size;omega,fun t ht=>by rw [Uw];exact((Hs.same (D.block pb HY.1.2)).same (m.block pb (by have E:=HY.1.2;have h2:=D.size;omega))).cell ht⟩));have Hf:Hid (∀w1,Bl wr w1 ->∃z y M,(Builtin.append_ #[35,35] 35 #[Uf (Uc q) k b,Uf (Uc w1.heap.size) 1 1]).run prog (w1.alloc (Uj #[Uf (Uq ⟨P k,0,Up⟩) (gL l k).p.length (Q k),Un (gL l k).fl,Ud (gL l k).r,Ud (gL l k).q,Um (gL l k).v] 117))=.ok (Uf (Uc z) (k+1) y) M/\ LC M lo (Uf (Uc z) (k+1) y) (l.take (k+1)) P Q/\ Gr w1 M (Uf (Uc q) k b) (Uf (Uc z) (k+1) y)):=hid (fun w1 m=>by
    obtain⟨z,y,M,e1,e2,e3⟩:=HL.app m (oJ Hj D.size) (by rw [Hq.out];omega) (gL l k) (P k) (Q k) p1 (oH m.size) (fun e=>by have:=Qbu e.symm;have E:=(Hr k Hb).2;have h2:=HQ.out;omega) (p4.same (m.block _ p2)) p5;rw [Hq.out] at e1 e2 e3;refine⟨z,y,M,e1,?_,e3⟩;have et:l.take (k+1)=l.take k++[gL l k]:=(by rw [VP];simp [gL,UR,Hb]);rw [et];exact e2.cast fun i hi=>by
     by_cases e:i=k
     ·rw [if_pos e,if_pos e,e];exact⟨rfl,rfl⟩
     ·rw [if_neg e,if_neg e];exact⟨rfl,rfl⟩)
   have Hc:Hid (yes (QaQ (gL l k) ⟨yp,yf,yr,yq,yv⟩<0)=true ->∀j,j<k+1 ->QaQ (gL l j) ⟨yp,yf,yr,yq,yv⟩<0):=hid (fun O j hj=>by
    by_cases e:j=k
    ·rw [e];exact Classical.byContradiction fun hn=>by rw [Qaj hn] at O;cases O
    ·exact HJ j oM)
   have Hd:Hid (yes (QaQ (gL l k) ⟨yp,yf,yr,yq,yv⟩<0)=false ->QdI ⟨yp,yf,yr,yq,yv⟩ l=l.take k++(⟨yp,yf,yr,yq,yv⟩:Lf)::l.drop k):=hid (fun O=>Qhc X HJ (fun _ hn=>by rw [Qal hn] at O;cases O));have F:Hid (∀w',Bl wr w' ->(w'.cell? (Ua g (k*5))=Uq (Uf (Uq ⟨P k,0,Up⟩) (gL l k).p.length (Q k))/\ w'.cell? (Ua g (k*5+1))=Uq (Un (gL l k).fl)/\ w'.cell? (Ua g (k*5+2))=Uq (Ud (gL l k).r)/\ w'.cell? (Ua g (k*5+3))=Uq (Ud (gL l k).q)/\ w'.cell? (Ua g (k*5+4))=Uq (Um (gL l k).v)/\ w'.cell? (Ub w.heap.size)=Uq (Uf (Uc pb) yp.length pc)/\ w'.cell? (Ua w.heap.size 1)=Uq (Un yf)/\ w'.cell? (Ua w.heap.size 2)=Uq (Ud yr)/\ w'.cell? (Ua w.heap.size 3)=Uq (Ud yq)/\ w'.cell? (Ua w.heap.size 4)=Uq (Um yv))):=hid (fun w' m=>by
    have H8:g<wr.heap.size:=(by have E:=H0.out;have h2:=D.size;omega);have q:=fun o=>m.cell (p:=(Ua g o)) H8;have Z:=Hk.bw m Hk.lt;exact⟨(q _).trans c0,(q _).trans c1,(q _).trans c2,(q _).trans y,(q _).trans G,Z.c0,Z.c1,Z.c2,Z.c3,Z.c4⟩)
   obtain⟨x,hx⟩:=zE (gL l k);obtain⟨Pk,Hv⟩:=zE (P k);obtain⟨Qk,Hw⟩:=zE (Q k);rw [hx,Hv,Hw] at Hg Hf F;rw [hx] at Hc Hd;obtain⟨xp,xf,xr,xq,xv⟩:=x;dsimp only at Hg Hf F Hc Hd;obtain⟨B,O⟩:=zE (yes (QaQ (⟨xp,xf,xr,xq,xv⟩:Lf) ⟨yp,yf,yr,yq,yv⟩<0));rw [O] at Hg Hc Hd;clear hx Hv Hw O Hm c0 c1 c2 y G p1 p2 p3 p4 p5;go_wp2_with fail;refine zR (S:=fun w'=>w'.cell? (Ua g (k*5))=Uq (Uf (Uc Pk) xp.length Qk)/\ w'.cell? (Ua g (k*5+1))=Uq (Un xf)/\ w'.cell? (Ua g (k*5+2))=Uq (Ud xr)/\ w'.cell? (Ua g (k*5+3))=Uq (Ud xq)/\ w'.cell? (Ua g (k*5+4))=Uq (Um xv)/\ w'.cell? (Ub w.heap.size)=Uq (Uf (Uc pb) yp.length pc)/\ w'.cell? (Ua w.heap.size 1)=Uq (Un yf)/\ w'.cell? (Ua w.heap.size 2)=Uq (Ud yr)/\ w'.cell? (Ua w.heap.size 3)=Uq (Ud yq)/\ w'.cell? (Ua w.heap.size 4)=Uq (Um yv)) (F _ zI.drew) (fun qh=> ?_);refine tZ 0 9 ?_;refine tZ 1 10 ?_;refine tZ 2 11 ?_;refine tZ 3 12 ?_;refine tZ 4 13 ?_;refine tZ 5 14 ?_;refine tZ 6 15 ?_;refine tZ 7 16 ?_;refine tZ 8 17 ?_;refine tZ 9 18 ?_;refine cZ 10 ?_;intro K hK;go_simp;refine(Hg _ zI.drew).mono ?_;rintro e w1 ⟨rfl,m⟩;have Hl:Bl wr w1:=⟨m.os,m.tape,m.output,m.size,m.block⟩;refine hK.out _ _ (F _ Hl) (fun qh=> ?_);clear hK K;try simp only [zP]
   refine tZ 11 20 ?_;refine zD ?_;have Hi:=hid Hl;obtain⟨c0,c1,c2,y,G,y0,y1,y2,y3,y4⟩:=F _ Hl;clear qh m Hl F Hg;cases B with
   | true=>
    obtain⟨z,Ho,M,L,l3,g3⟩:=Hf w1 Hi;have H3:=hid l3;have Hz:=hid ((HG.trans (Gr.of_below Hi)).trans g3);have H2:=hid (Hc rfl);clear l3 g3 Hf Hc Hd HJ HL HG;go_wp2_with (at_builtin;refine Qac rfl _ _ _ _ rfl L (by rfl) (by rfl) rfl ?_;clear L);go_roundw;case rel=>exact⟨k+1,z,Ho,Hb,oN,rfl,H2,H3,Hz⟩
    case measure=>exact oE
   | false=>
    have I:=hid (Hd rfl);obtain⟨z,Ho,M,L,J,Hh,Ha⟩:=Hp w1 k q b X (HL.bw Hi) (D.trans (Hi.mono D.size)) HQ;obtain⟨u,H,w4,s,A,N,R,C,T⟩:=Ha (k*5) (cap - k) (fun _=>rfl);have U:=hid R;have V:=hid T;have Y:=hid C;clear J Hh Ha R T C Hf Hc Hd HJ HL HG;have i3:k<=cap:=oM;go_wp2_with (first|(at_builtin;refine Qac rfl _ _ _ _ rfl L (by rfl) (by rfl) rfl ?_;clear L)|(at_builtin;refine Qac rfl _ _ _ _ rfl N (by rfl) (by rfl) rfl ?_;clear N));go_ret;first|exact⟨⟨u,H,rfl,Y,s,A,by rw [I.out];exact V⟩,U⟩|exact⟨⟨u,H,s,A,rfl,Y,by rw [I.out];exact V⟩,U⟩|exact⟨⟨u,H,rfl,s,A,Y,by rw [I.out];exact V⟩,U⟩
  ·obtain rfl:k=l.length:=oM;have I:Hid (QdI ⟨yp,yf,yr,yq,yv⟩ l=l.take l.length++(⟨yp,yf,yr,yq,yv⟩:Lf)::l.drop l.length):=hid (Qhc zL HJ (fun h=>oM));have F:Hid (∀w',Bl wr w' ->(w'.cell? (Ub w.heap.size)=Uq (Uf (Uc pb) yp.length pc)/\ w'.cell? (Ua w.heap.size 1)=Uq (Un yf)/\ w'.cell? (Ua w.heap.size 2)=Uq (Ud yr)/\ w'.cell? (Ua w.heap.size 3)=Uq (Ud yq)/\ w'.cell? (Ua w.heap.size 4)=Uq (Um yv))):=hid (fun w' m=>by
    have Z:=Hk.bw m Hk.lt;exact⟨Z.c0,Z.c1,Z.c2,Z.c3,Z.c4⟩)
   go_wp2_with fail;refine zR (S:=fun w'=>True) trivial (fun qh=> ?_);refine tZ 0 9 ?_;refine tZ 1 10 ?_;refine tZ 2 11 ?_;refine tZ 3 12 ?_;refine tZ 4 13 ?_;refine uZ 5 14 ?_;refine uZ 6 15 ?_;refine uZ 7 16 ?_;refine uZ 8 17 ?_;refine uZ 9 18 ?_;refine uZ 10 19 ?_;refine tZ 11 20 ?_;refine zD ?_;obtain⟨y0,y1,y2,y3,y4⟩:=F _ zI.drew;obtain⟨z,Ho,M,L,J,Hh,Ha⟩:=Hp wr.drew l.length q b X (HL.bw zI.drew) D.drew HQ;clear J Hh HJ HL HG qh F;by_cases Gb:l.length<cap
   ·obtain⟨u,H,w4,s,A,N,R,C,T⟩:=Ha (l.length*5) (cap - l.length) (fun _=>rfl);rw [YP] at N;have U:=hid R;have V:=hid T;have Y:=hid C;clear Ha R T C;go_wp2_with (first|(at_builtin;refine Qac rfl _ _ _ _ rfl L (by rfl) (by rfl) rfl ?_;clear L)|(at_builtin;refine Qac rfl _ _ _ _ rfl N (by rfl) (by rfl) rfl ?_;clear N));go_ret;first|exact⟨⟨u,H,rfl,Y,s,A,by rw [I.out];exact V⟩,U⟩|exact⟨⟨u,H,s,A,rfl,Y,by rw [I.out];exact V⟩,U⟩|exact⟨⟨u,H,rfl,s,A,Y,by rw [I.out];exact V⟩,U⟩
   ·obtain⟨u,H,w4,s,A,N,R,C,T⟩:=Ha 0 0 (fun h=>oM);rw [YP] at N;obtain rfl:cap=l.length:=oM;have U:=hid R;have V:=hid T;have Y:=hid C;clear Ha R T C;go_wp2_with (first|(at_builtin;refine Qac rfl _ _ _ _ rfl L (by rfl) (by rfl) rfl ?_;clear L)|(at_builtin;refine Qac rfl _ _ _ _ rfl N (by rfl) (by rfl) rfl ?_;clear N));go_ret;first|exact⟨⟨u,H,rfl,Y,s,A,by rw [I.out];exact V⟩,U⟩|exact⟨⟨u,H,s,A,rfl,Y,by rw [I.out];exact V⟩,U⟩|exact⟨⟨u,H,rfl,s,A,Y,by rw [I.out];exact V⟩,U⟩
open Go.Sort
def gR (l:List Rn)(i:Nat):Rn:=l.getD i (0,0,0)
def FS (w:Ur)(a:Option Us)(l:List Rn):Prop:=
 l.length=0 \/∃g off,a=Uq (Ua g off)/\ g<w.heap.size/\∀i,i<l.length ->w.cell? (Ua g (off+i*3))=Uq (Ud (gR l i).1)/\ w.cell? (Ua g (off+i*3+1))=Uq (Ud (gR l i).2.1)/\ w.cell? (Ua g (off+i*3+2))=Uq (Ud (gR l i).2.2)
theorem Qll{cap:Nat}{l:List Rn}(h:w.ownsRow B 123 3 (Uf (Uc g) n cap) n (Qar l))(hl:l.length=n):
  ∀i,i<n ->w.cell? (Ua g (i*3))=Uq (Ud (gR l i).1)/\ w.cell? (Ua g (i*3+1))=Uq (Ud (gR l i).2.1)/\ w.cell? (Ua g (i*3+2))=Uq (Ud (gR l i).2.2):=by
 intro i hi;have j:∀(l:List Rn) (i:Nat),i<l.length ->(Qar l)[i*3]? =Uq (Ud (gR l i).1)/\ (Qar l)[i*3+1]? =Uq (Ud (gR l i).2.1)/\ (Qar l)[i*3+2]? =Uq (Ud (gR l i).2.2):=by
  intro l;induction l with
  | nil=>intro i hi;simp at hi
  | cons a l ih=>
   intro i hi;cases i with
   | zero=>simp [Qar,gR]
   | succ i=>
    have:=ih i (oW hi);have e:Qar (a::l)=Ud a.1::Ud a.2.1::Ud a.2.2::Qar l:=(by simp [Qar]);rw [e,show (i+1)*3=i*3+1+1+1 from by omega];simpa [gR] using this
 rw [h.cellAt _ oM,h.cellAt _ oM,h.cellAt _ oM];exact j l i oM
theorem FR.fs{l:List Rn}(h:FR w B v l):∃a c,v=Uf a l.length c/\ FS w a l/\ l.length<=c/\ c<=9223372036854775807:=by
 rcases h.2 with ⟨e,j⟩|⟨g,cap,r,e,u,_,q,m,_⟩
 ·exact⟨Up,0,by rw [e,j],.inl j,oM,oM⟩
 ·refine⟨_,cap,e,.inr ⟨g,0,rfl,(World.ownsRow.lt h g (by rw [e];rfl)).2,fun i hi=> ?_⟩,q,by unfold maxLen at m;omega⟩;have k:w.ownsRow B 123 3 v l.length (Qar l):=h;rw [e] at k;rw [Uw];exact Qll k rfl i hi
theorem QeY (l:List Rn):(Qar l).length=l.length*3:=by
 induction l with
 | nil=>rfl
 | cons a l ih=>simp [Qar] at*;omega
theorem FS.rseg{l:List Rn}(h:FS w a l):QaD w a l.length (fun i=>(gR l i).1) (fun i=>(gR l i).2.1) (fun i=>(gR l i).2.2):=h
theorem FR.gr{l:List Rn}(h:FR w B v l)(hg:w.grownBy w' row)(hne:∀g,v.ownBlock=YO g ->YO g≠row):FR w' B v l:=
 World.ownsRow.kept h hg (by
  cases e:v.ownBlock with
  | none=>exact .inl rfl
  | some g=>exact .inr (hne g e))
theorem FR.bw{l:List Rn}(h:FR w B v l)(hb:Bl w w'):FR w' B v l:=
 h.gr (row:=Up) ⟨hb.os,hb.tape,hb.output,hb.size,fun k hk _=>hb.block k hk⟩ oP
def stK (l:List Rn)(r:Rn)(k:Nat):List Rn×Rn×List Rn:=(l.take k).foldl QaK ([],r,[])
theorem QfR {l:List Rn}{r:Rn}(h:k<l.length):stK l r (k+1)=QaK (stK l r k) (gR l k):=by
 unfold stK;rw [VP,List.foldl_append];simp [gR,UR,h]
theorem QkE (l:List Rn)(r:Rn):stK l r l.length=Qhd l r:=by unfold stK Qhd;rw [VQ]
def Bnd (p:Rn):Prop:=(-2000000000<=p.1/\ p.1<=2000000000)/\ (-2000000000<=p.2.1/\ p.2.1<=2000000000)/\ -2000000000<=p.2.2/\ p.2.2<=2000000000
theorem Rok.bnd {p:Rn}(h:Rok p):Bnd p:=by unfold Rok at h;unfold Bnd;omega
theorem Qhe {s:List Rn×Rn×List Rn}{q:Rn}(h:Bnd s.2.1)(hq:Bnd q):Bnd (QaK s q).2.1:=by
 unfold QaK;split
 ·exact h
 ·split
  ·exact h
  ·unfold Bnd at*;simp only;omega
theorem Qhf (s:List Rn×Rn×List Rn)(q:Rn):(QaK s q).1.length+(QaK s q).2.2.length<=s.1.length+s.2.2.length+1:=by
 unfold QaK;split
 ·simp;omega
 ·split
  ·simp;omega
  ·simp
theorem Qh1 (l:List Rn)(r:Rn):∀k,k<=l.length ->(stK l r k).1.length+(stK l r k).2.2.length<=k
 | 0,_=>by simp [stK]
 | k+1,h=>by
  rw [QfR oM];have:=Qhf (stK l r k) (gR l k);have:=Qh1 l r k oM;omega
theorem Qm0 {l:List Rn}(h:k<l.length):gR l k∈l:=by simp [gR,UR,h]
theorem QkF {l:List Rn}{r:Rn}(hl:∀p∈l,Bnd p)(hr:Bnd r):∀k,k<=l.length ->Bnd (stK l r k).2.1
 | 0,_=>by simpa [stK] using hr
 | k+1,h=>by rw [QfR oM];exact Qhe (QkF hl hr k oM) (hl _ (Qm0 oM))
theorem Qco {r t r' f' f t':Int}:QaJ r t r' f'=true↔Apt (r,f,t) (r',f',t'):=by unfold QaJ Apt;simp
structure IL (w wr:Ur)(u5 u6:Value)(sb:List Rn)(qr qf qt:Int)(sa:List Rn):Prop where
 b:FR wr (w.heap.size+1) u5 sb
 a:FR wr (w.heap.size+1) u6 sa
 ne:∀g,u5.ownBlock=Uq g ->u6.ownBlock≠Uq g
 nb:u5.ownBlock≠Up
 na:u6.ownBlock≠Up
 bel:Bl w wr
 sz:w.heap.size+1<=wr.heap.size
 c0:wr.cell? (Ub w.heap.size)=Uq (Ud qr)
 c1:wr.cell? (Ua w.heap.size 1)=Uq (Ud qf)
 c2:wr.cell? (Ua w.heap.size 2)=Uq (Ud qt)
 f1:wr.frozen? (Ua w.heap.size 1)=false
 f2:wr.frozen? (Ua w.heap.size 2)=false
theorem IL.q2(h:IL w wr u5 u6 sb qr qf qt sa):(wr.cell? (Ub w.heap.size)=Uq (Ud qr))/\ (wr.cell? (Ua w.heap.size 1)=Uq (Ud qf)):=⟨h.c0,h.c1⟩
theorem IL.q3(h:IL w wr u5 u6 sb qr qf qt sa):(wr.cell? (Ub w.heap.size)=Uq (Ud qr))/\ (wr.cell? (Ua w.heap.size 1)=Uq (Ud qf))/\ (wr.cell? (Ua w.heap.size 2)=Uq (Ud qt)):=⟨h.c0,h.c1,h.c2⟩
theorem IL.box5(h:IL w wr u5 u6 sb qr qf qt sa):Uq w.heap.size≠u5.ownBlock:=fun e=>by have:=(World.ownsRow.lt h.b _ e.symm).1;omega
theorem IL.bw(h:IL w wr u5 u6 sb qr qf qt sa)(hb:Bl wr w1):IL w w1 u5 u6 sb qr qf qt sa:=by
 have j:=h.sz;have k:=hb.size;exact⟨Qdf h.b hb,Qdf h.a hb,h.ne,h.nb,h.na,h.bel.trans (hb.mono oM),oM,(hb.cell (p:=(Ub w.heap.size)) (show w.heap.size<wr.heap.size by omega)).trans h.c0,(hb.cell (p:=(Ua w.heap.size 1)) (show w.heap.size<wr.heap.size by omega)).trans h.c1,(hb.cell (p:=(Ua w.heap.size 2)) (show w.heap.size<wr.heap.size by omega)).trans h.c2,((QbZ hb).2 w.heap.size 1 oM).trans h.f1,((QbZ hb).2 w.heap.size 2 oM).trans h.f2⟩
theorem IL.app5(h:IL w wr u5 u6 sb qr qf qt sa)(p:Rn)(hown:w1.ownsRow (w.heap.size+1) 123 3 v (sb.length+1) (Qar sb++[Ud p.1,Ud p.2.1,Ud p.2.2]))
  (hg:wr.grownBy w1 u5.ownBlock) (hloc:v.ownBlock=u5.ownBlock \/v.ownBlock=Uq wr.heap.size):IL w w1 v u6 (sb++[p]) qr qf qt sa:=by
 have r:=h.sz;have u:=hg.size;have m:=h.box5;have q:=hg.block w.heap.size oM m;refine⟨?_,World.ownsRow.kept h.a hg ?_,fun g e1 e2=> ?_,?_,h.na,h.bel.grown hg oM (fun k hk=>oH ((World.ownsRow.lt h.b k hk).1)),oM,hg.cell h.c0 m,hg.cell h.c1 m,hg.cell h.c2 m,(Ys q).trans h.f1,(Ys q).trans h.f2⟩
 ·unfold FR;rw [Qc9,Vg];exact hown
 ·cases e:u6.ownBlock with
  | none=>exact .inl rfl
  | some g=>exact .inr (fun e2=>h.ne g e2.symm e)
 ·rcases hloc with j|j
  ·exact h.ne g (j▸e1) e2
  ·rw [j] at e1;injection e1 with e1;have:=(World.ownsRow.lt h.a g e2).2;omega
 ·rcases hloc with j|j
  ·rw [j];exact h.nb
  ·rw [j];simp
theorem IL.app6(h:IL w wr u5 u6 sb qr qf qt sa)(p:Rn)(hown:w1.ownsRow (w.heap.size+1) 123 3 v (sa.length+1) (Qar sa++[Ud p.1,Ud p.2.1,Ud p.2.2]))
  (hg:wr.grownBy w1 u6.ownBlock) (hloc:v.ownBlock=u6.ownBlock \/v.ownBlock=Uq wr.heap.size):IL w w1 u5 v sb qr qf qt (sa++[p]):=by
 have k:IL w wr u6 u5 sa qr qf qt sb:=⟨h.a,h.b,fun g e1 e2=>h.ne g e2 e1,h.na,h.nb,h.bel,h.sz,h.c0,h.c1,h.c2,h.f1,h.f2⟩;have j:=k.app5 p hown hg hloc;exact⟨j.a,j.b,fun g e1 e2=>j.ne g e2 e1,j.na,j.nb,j.bel,j.sz,j.c0,j.c1,j.c2,j.f1,j.f2⟩
theorem IL.row_set{l:List Rn}(h:FR wr (w.heap.size+1) v l)(i:Nat)(u:Value):FR (wr.setCell (Ua w.heap.size i) u) (w.heap.size+1) v l:=by
 refine World.ownsRow.kept h (QaG wr (Ua w.heap.size i) u) ?_;cases e:v.ownBlock with
 | none=>exact .inl rfl
 | some g=>exact .inr (fun j=>by have:=(World.ownsRow.lt h g e).1;injection j with j;have j:g=w.heap.size:=j;omega)
theorem IL.set1(h:IL w wr u5 u6 sb qr qf qt sa)(z:Int):IL w (wr.setCell (Ua w.heap.size 1) (Ud z)) u5 u6 sb qr z qt sa:=
 ⟨IL.row_set h.b _ _,IL.row_set h.a _ _,h.ne,h.nb,h.na,h.bel.setCell (p:=(Ua w.heap.size 1)) zL _,oW h.sz,(UI _ _ _ _ oP).trans h.c0,UH _ _ _ h.c1,(UI _ _ _ _ oP).trans h.c2,oW h.f1,by simpa using h.f2⟩
theorem IL.set2(h:IL w wr u5 u6 sb qr qf qt sa)(z:Int):IL w (wr.setCell (Ua w.heap.size 2) (Ud z)) u5 u6 sb qr qf z sa:=
 ⟨IL.row_set h.b _ _,IL.row_set h.a _ _,h.ne,h.nb,h.na,h.bel.setCell (p:=(Ua w.heap.size 2)) zL _,oW h.sz,(UI _ _ _ _ oP).trans h.c0,(UI _ _ _ _ oP).trans h.c1,UH _ _ _ h.c2,oW h.f1,by simpa using h.f2⟩
theorem IL.drew(h:IL w wr u5 u6 sb qr qf qt sa):IL w wr.drew u5 u6 sb qr qf qt sa:=h.bw zI.drew
theorem QeZ (l:List Rn):∀u∈Qar l,u.oneCell'=true:=by
 intro u j;unfold Qar at j;obtain⟨p,_,h⟩:=List.mem_flatMap.1 j;simp at h;rcases h with rfl|rfl|rfl<;>rfl
theorem Qf0 (l l':List Rn):Qar (l++l')=Qar l++Qar l':=by simp [Qar]
theorem Qfn (r f t r' f' t':Int)(w:Ur)(h0: -2000000000<=t)(h1:t<=2000000000):
  Cl 101 #[Uo #[Ud r,Ud f,Ud t],Uo #[Ud r',Ud f',Ud t']] w (Rt w (Un (QaJ r t r' f'))):=by
 by_cases q:r<r'
 ·have j:=hid (Qbn (t:=t) (f':=f') (.inl q));go_enter func101,ntmps101;go_wp2_with fail;go_ret;exact⟨QbW j.symm,Qak _ _ _⟩
 ·by_cases k:r=r'
  ·subst k;by_cases m:t+1<f'
   ·have j:=hid (Qbn (r:=r) (r':=r) (.inr ⟨rfl,m⟩));go_enter func101,ntmps101;go_wp2_with fail;go_ret;exact⟨QbW j.symm,Qak _ _ _⟩
   ·have j:=hid (QaW (r:=r) (r':=r) (t:=t) (f':=f') oM);go_enter func101,ntmps101;go_wp2_with fail;go_ret;exact⟨QbW j.symm,Qak _ _ _⟩
  ·have m:(r==r')=false:=(by simp;exact k);have j:=hid (QaW (r:=r) (r':=r') (t:=t) (f':=f') oM);go_enter func101,ntmps101;go_wp2_with fail;go_ret;exact⟨QbW j.symm,Qak _ _ _⟩
theorem QlN (a:Option Us)(c:Nat)(l:List Rn)(rr rf rt:Int)(w:Ur)(hn:l.length<=100000)(h:FS w a l)(hl:∀p∈l,Bnd p)(hr:Bnd (rr,rf,rt)):
  Cl 103 #[Uf a l.length c,Uo #[Ud rr,Ud rf,Ud rt]] w fun e w'=>∃v,e=Ui v/\ FR w' w.heap.size v (ins l (rr,rf,rt))/\ Bl w w':=by
 obtain⟨i0,hi,Hp,Hq,Hr⟩:=info_parts Tryz.infoRun;obtain⟨s,Hg⟩:=zE (stK l (rr,rf,rt));obtain⟨n,D⟩:=zE l.length;have HI:Hid (∀k,k<=n ->Bnd (s k).2.1):=by rw [<- Hg,<- D];exact hid (QkF hl hr)
 have HS:Hid (∀k,k<n ->s (k+1)=QaK (s k) (gR l k)):=by rw [<- Hg,<- D];exact hid fun k B=>QfR B
 have HZ:Hid (s 0=([],(rr,rf,rt),[])):=Hg▸hid rfl;have HE:Hid (ins l (rr,rf,rt)=(s n).1++[(s n).2.1]++(s n).2.2):=by rw [<- Hg,<- D,QkE];exact hid rfl
 have Hw:Hid (∀k,k<=n ->(s k).1.length+(s k).2.2.length<=k):=by rw [<- Hg,<- D];exact hid (Qh1 l _)
 have H9:Hid (∀k,k<n ->Bnd (gR l k)):=D▸hid fun k B=>hl _ (Qm0 B);have H8:Hid (n=0 \/∃g off,a=Uq (Ua g off)/\ g<w.heap.size/\∀i,i<n ->w.cell? (Ua g (off+i*3))=Uq (Ud (gR l i).1)/\ w.cell? (Ua g (off+i*3+1))=Uq (Ud (gR l i).2.1)/\ w.cell? (Ua g (off+i*3+2))=Uq (Ud (gR l i).2.2)):=D▸hid h;rw [D] at hn ⊢;clear Hg D h hl;obtain⟨Y,I⟩:=zE (w.alloc (Uj #[Ud rr,Ud rf,Ud rt] 123));have z0:Y.heap.size=w.heap.size+1:=I▸oP;have H4:Hid (Bl w Y):=I▸hid (zO _ _);have x0:Y.cell? (Ub w.heap.size)=Uq (Ud rr):=I▸oP;have x1:Y.cell? (Ua w.heap.size 1)=Uq (Ud rf):=I▸oP;have x2:Y.cell? (Ua w.heap.size 2)=Uq (Ud rt):=I▸oP;have y1:Y.frozen? (Ua w.heap.size 1)=false:=I▸oP;have y2:Y.frozen? (Ua w.heap.size 2)=false:=I▸oP;go_enter func103,ntmps103;go_wp2_with fail;try rw [I]
 have Hk:Hid (IL w ((Y.alloc (Uj #[] 123)).alloc (Uj #[] 123)) (Uf (Uq (Ua (w.heap.size+1) 0)) 0 0) (Uf (Uq (Ua (w.heap.size+1+1) 0)) 0 0) [] rr rf rt []):=by
  refine hid ?_;have H:Bl Y ((Y.alloc (Uj #[] 123)).alloc (Uj #[] 123)):=Qak _ _ _;have q1:=VD (base:=w.heap.size+1) (e:=123) (size:=3) Y #[] 0 oM oL rfl;have q2:=VD (base:=w.heap.size+1) (e:=123) (size:=3) (Y.alloc (Uj #[] 123)) #[] 0 oS oL rfl;have zz:(Y.alloc (Uj #[] 123)).heap.size=w.heap.size+1+1:=oS;rw [z0] at q1;rw [zz] at q2;refine⟨World.ownsRow.alloc q1 _,q2,fun g e1 e2=> ?_,by simp [Value.ownBlock],by simp [Value.ownBlock],H4.trans (H.mono oM),oS,(H.cell (p:=(Ub w.heap.size)) (show w.heap.size<_ by omega)).trans x0,(H.cell (p:=(Ua w.heap.size 1)) (show w.heap.size<_ by omega)).trans x1,(H.cell (p:=(Ua w.heap.size 2)) (show w.heap.size<_ by omega)).trans x2,((QbZ H).2 w.heap.size 1 oM).trans y1,((QbZ H).2 w.heap.size 2 oM).trans y2⟩;simp [Value.ownBlock] at e1 e2;omega
 clear x0 x1 x2 y1 y2 z0 I;go_loopw [5,6,7] (fun u5 u6 iv wr=>∃(k:Nat),k<=n/\ iv=Ud k/\ Hid (IL w wr u5 u6 (s k).1 (s k).2.1.1 (s k).2.1.2.1 (s k).2.1.2.2 (s k).2.2)) (fun _ _ iv _=>n - (intOf iv).toNat);case atStart=>exact⟨0,Uv _,rfl,by rw [HZ.out];exact Hk⟩
 case round=>
  clear Hk;obtain⟨k,B,rfl,U⟩:=hrel;have Hd:=HI k B;by_cases J:k<n
  ·have Hc:=HS k J;have Ht:=Hw k B;have Hz:=H9 k J;have Hl:∃g off,a=Uq (Ua g off)/\ g<w.heap.size/\ w.cell? (Ua g (off+k*3))=Uq (Ud (gR l k).1)/\ w.cell? (Ua g (off+k*3+1))=Uq (Ud (gR l k).2.1)/\ w.cell? (Ua g (off+k*3+2))=Uq (Ud (gR l k).2.2):=by
    rcases H8.out with h|⟨g,off,e,hg,hc⟩
    ·omega
    ·exact⟨g,off,e,hg,hc k J⟩
   obtain⟨g,off,rfl,hg,p0,p1,p2⟩:=Hl;generalize Ho:s k=sk at*;obtain⟨E,⟨t,z,q⟩,A⟩:=sk;generalize Hx:gR l k=gk at*;obtain⟨M,y,m⟩:=gk;simp only at p0 p1 p2 U Ht;unfold Bnd at Hd Hz;simp only at Hd Hz;have Hs:=hid Hc;have HP:=hid (And.intro p0 (And.intro p1 p2));have e0:=(U.bel.cell (p:=(Ua g (off+k*3))) hg).trans p0;have e1:=(U.bel.cell (p:=(Ua g (off+k*3+1))) hg).trans p1;have e2:=(U.bel.cell (p:=(Ua g (off+k*3+2))) hg).trans p2;obtain⟨c0,c1,N⟩:=U.q3;have zr:=U.sz;have HK:=hid Ho;have Ge:=hid Hx;clear Hc Ho Hx p0 p1 p2;go_wp2_with fail;refine zR (S:=fun w'=>w'.cell? (Ua g (off+k*3))=Uq (Ud M)/\ w'.cell? (Ua g (off+k*3+1))=Uq (Ud y)/\ w'.cell? (Ua g (off+k*3+2))=Uq (Ud m)/\ w'.cell? (Ub w.heap.size)=Uq (Ud t)/\ w'.cell? (Ua w.heap.size 1)=Uq (Ud z)/\ w'.cell? (Ua w.heap.size 2)=Uq (Ud q)) ⟨e0,e1,e2,c0,c1,N⟩ (fun qh=> ?_);refine tZ 0 16 ?_;refine tZ 1 17 ?_;refine tZ 2 18 ?_;refine tZ 3 19 ?_;refine tZ 4 20 ?_;refine cZ 5 ?_;intro K hK;go_simp;refine(Qfn M y m t z q _ oM oM).mono ?_;rintro e w1 ⟨rfl,b1⟩;have He:Bl wr w1:=(Below.refl _ wr).drew.trans b1;have Ha:=hid (U.bw He);have z1:=He.size;have s0:=(He.cell (p:=(Ua g (off+k*3))) (show g<wr.heap.size by omega)).trans e0;have s1:=(He.cell (p:=(Ua g (off+k*3+1))) (show g<wr.heap.size by omega)).trans e1;have s2:=(He.cell (p:=(Ua g (off+k*3+2))) (show g<wr.heap.size by omega)).trans e2;obtain⟨t0,t1,t2⟩:=Ha.q3;refine hK.out _ _ ⟨s0,s1,s2,t0,t1,t2⟩ (fun qh=> ?_);clear hK K;try simp only [zP]
   refine zD ?_;clear qh e0 e1 e2 c0 c1 N b1 He U;by_cases hA:Apt (M,y,m) (t,z,q)
   ·rw [show QaJ M m t z=true from Qco.2 hA];have L:Hid (s (k+1)=(E++[(M,y,m)],(t,z,q),A)):=by
     refine hid ?_;rw [Hs.out];unfold QaK;simp only;rw [if_pos hA]
    clear t0 t1 t2;go_wp2_with (at_builtin;refine Qam rfl _ _ 36 rfl (w.heap.size+1) 123 i0 _ 3 24 underlying36 hi Hp Hq Hr rfl oD _ _ _ rfl (World.ownsRow.alloc Ha.b _) (Ub w1.heap.size) 1 1 [Ud M,Ud y,Ud m] rfl rfl ?n1 ?n2 ?n3 ?n4 ?n5 ?_);try (case n1=>exact Qa0 _ _ _ _ _)
    case n2=>first|exact⟨rfl,rfl,rfl⟩|(intro u P;simp at P;rcases P with rfl|rfl|rfl<;>rfl)
    case n3=>unfold maxLen;omega
    case n4=>omega
    case n5=>first|omega|(simp;omega)
    intro v7 w7 F X C;have Z:=hid ((Ha.bw (zO _ _)).app5 (M,y,m) F X (oW C));clear F X C s0 s1 s2;go_wp2_with fail;go_roundw;case rel=>exact⟨k+1,J,oN,by rw [L.out];exact Z⟩
    case measure=>exact oE
   ·rw [show QaJ M m t z=false from by rw [<- Bool.not_eq_true];exact fun h=>hA (Qco.1 h)];have HA:=hid hA;have v0:=t0;have v1:=t1;have v2:=t2;go_wp2_with fail;refine zR (S:=fun w'=>w'.cell? (Ua g (off+k*3))=Uq (Ud M)/\ w'.cell? (Ua g (off+k*3+1))=Uq (Ud y)/\ w'.cell? (Ua g (off+k*3+2))=Uq (Ud m)/\ w'.cell? (Ub w.heap.size)=Uq (Ud t)/\ w'.cell? (Ua w.heap.size 1)=Uq (Ud z)/\ w'.cell? (Ua w.heap.size 2)=Uq (Ud q)) ⟨s0,s1,s2,v0,v1,v2⟩ (fun qh=> ?_);refine tZ 0 29 ?_;refine tZ 1 30 ?_;refine tZ 2 31 ?_;refine tZ 3 32 ?_;refine tZ 4 33 ?_;refine cZ 5 ?_;intro K hK;go_simp;refine(Qfn t z q M y m _ oM oM).mono ?_;rintro e w2 ⟨rfl,H⟩;have Hf:Bl w1 w2:=(Below.refl _ w1).drew.trans H;have G:=hid (Ha.bw Hf);have z2:=Hf.size;have H0:=(Hf.cell (p:=(Ua g (off+k*3))) (show g<w1.heap.size by omega)).trans s0;have Hh:=(Hf.cell (p:=(Ua g (off+k*3+1))) (show g<w1.heap.size by omega)).trans s1;have Hi:=(Hf.cell (p:=(Ua g (off+k*3+2))) (show g<w1.heap.size by omega)).trans s2;obtain⟨H1,Hj,H2⟩:=G.q3;refine hK.out _ _ ⟨H0,Hh,Hi,H1,Hj,H2⟩ (fun qh=> ?_);clear hK K;try simp only [zP]
    refine zD ?_;clear qh H Hf s0 s1 s2 t0 t1 t2 v0 v1 v2 Ha;by_cases hB:Apt (t,z,q) (M,y,m)
    ·rw [show QaJ t q M y=true from Qco.2 hB];have L:Hid (s (k+1)=(E,(t,z,q),A++[(M,y,m)])):=by
      refine hid ?_;rw [Hs.out];unfold QaK;simp only;rw [if_neg HA.out,if_pos hB]
     clear H1 Hj H2;go_wp2_with (at_builtin;refine Qam rfl _ _ 36 rfl (w.heap.size+1) 123 i0 _ 3 24 underlying36 hi Hp Hq Hr rfl oD _ _ _ rfl (World.ownsRow.alloc G.a _) (Ub w2.heap.size) 1 1 [Ud M,Ud y,Ud m] rfl rfl ?m1 ?m2 ?m3 ?m4 ?m5 ?_);try (case m1=>exact Qa0 _ _ _ _ _)
     case m2=>first|exact⟨rfl,rfl,rfl⟩|(intro u P;simp at P;rcases P with rfl|rfl|rfl<;>rfl)
     case m3=>unfold maxLen;omega
     case m4=>omega
     case m5=>first|omega|(simp;omega)
     intro v7 w7 F X C;have Z:=hid ((G.bw (zO _ _)).app6 (M,y,m) F X (oW C));clear F X C H0 Hh Hi;go_wp2_with fail;go_roundw;case rel=>exact⟨k+1,J,oN,by rw [L.out];exact Z⟩
     case measure=>exact oE
    ·rw [show QaJ t q M y=false from by rw [<- Bool.not_eq_true];exact fun h=>hB (Qco.1 h)];have L:Hid (s (k+1)=(E,(t,min y z,max m q),A)):=by
      refine hid ?_;rw [Hs.out];unfold QaK;simp only;rw [if_neg HA.out,if_neg hB]
     have Hv:=hid G.f1;have Gd:=hid G.f2;clear hB;have Hy:g≠w.heap.size:=oM;by_cases h1:y<z
     ·by_cases h2:q<m
      ·have d1:decide (y<z)=true:=(by simp;exact h1);have T:Hid (min y z=y):=hid oM;have d2:decide (q<m)=true:=(by simp;exact h2);have W:Hid (max m q=m):=hid oM;clear h1 h2;go_wp2_with fail;refine zR (S:=fun w'=>w'.cell? (Ua g (off+k*3+1))=Uq (Ud y)/\ w'.cell? (Ua w.heap.size 1)=Uq (Ud z)) ⟨Hh,Hj⟩ (fun qh=> ?_);refine tZ 0 42 ?_;refine tZ 1 43 ?_;refine tZ 2 44 ?_;refine tZ 3 45 ?_;refine tZ 4 46 ?_;refine tZ 5 47 ?_;refine tZ 6 48 ?_;refine tZ 7 49 ?_;refine zD ?_;clear qh;have f1:=Hv.out;obtain⟨O,o⟩:=zE ((w2.setCell (Ua w.heap.size 1) (Ud y)).drew);have V:Hid (IL w O u5 u6 E t y q A):=o▸hid (G.set1 y).drew;have r2:O.cell? (Ua g (off+k*3+2))=Uq (Ud m):=o▸(UF w2 (Ua w.heap.size 1) _ _ (fun e=>Hy e.symm)).trans Hi;go_wp2_with fail;try rw [o]
       try clear f1 o
       have t3:=V.c2;refine zR (S:=fun w'=>w'.cell? (Ua g (off+k*3+2))=Uq (Ud m)/\ w'.cell? (Ua w.heap.size 2)=Uq (Ud q)) ⟨r2,t3⟩ (fun qh=> ?_);refine tZ 0 56 ?_;refine tZ 1 57 ?_;refine tZ 2 58 ?_;refine tZ 3 59 ?_;refine tZ 4 60 ?_;refine tZ 5 61 ?_;refine tZ 6 62 ?_;refine tZ 7 63 ?_;refine zD ?_;clear qh;have f2:=V.f2;obtain⟨W4,Q⟩:=zE ((O.setCell (Ua w.heap.size 2) (Ud m)).drew);have R:Hid (IL w W4 u5 u6 E t y m A):=Q▸hid (V.set2 m).drew;go_wp2_with fail;try rw [Q]
       try clear f2 Q
       go_roundw;case rel=>exact⟨k+1,J,oN,by rw [L.out,T.out,W.out];exact R⟩
       case measure=>exact oE
      ·have d1:decide (y<z)=true:=(by simp;exact h1);have T:Hid (min y z=y):=hid oM;have d2:decide (q<m)=false:=oS;have W:Hid (max m q=q):=hid oM;clear h1 h2;go_wp2_with fail;refine zR (S:=fun w'=>w'.cell? (Ua g (off+k*3+1))=Uq (Ud y)/\ w'.cell? (Ua w.heap.size 1)=Uq (Ud z)) ⟨Hh,Hj⟩ (fun qh=> ?_);refine tZ 0 42 ?_;refine tZ 1 43 ?_;refine tZ 2 44 ?_;refine tZ 3 45 ?_;refine tZ 4 46 ?_;refine tZ 5 47 ?_;refine tZ 6 48 ?_;refine tZ 7 49 ?_;refine zD ?_;clear qh;have f1:=Hv.out;obtain⟨O,o⟩:=zE ((w2.setCell (Ua w.heap.size 1) (Ud y)).drew);have V:Hid (IL w O u5 u6 E t y q A):=o▸hid (G.set1 y).drew;have r2:O.cell? (Ua g (off+k*3+2))=Uq (Ud m):=o▸(UF w2 (Ua w.heap.size 1) _ _ (fun e=>Hy e.symm)).trans Hi;go_wp2_with fail;try rw [o]
       try clear f1 o
       have t3:=V.c2;refine zR (S:=fun w'=>w'.cell? (Ua g (off+k*3+2))=Uq (Ud m)/\ w'.cell? (Ua w.heap.size 2)=Uq (Ud q)) ⟨r2,t3⟩ (fun qh=> ?_);refine tZ 0 56 ?_;refine tZ 1 57 ?_;refine tZ 2 58 ?_;refine tZ 3 59 ?_;refine tZ 4 60 ?_;refine tZ 5 61 ?_;refine tZ 6 62 ?_;refine tZ 7 63 ?_;refine zD ?_;clear qh;obtain⟨W4,Q⟩:=zE O.drew;have R:Hid (IL w W4 u5 u6 E t y q A):=Q▸hid V.drew;go_wp2_with fail;try rw [Q]
       try clear Q
       go_roundw;case rel=>exact⟨k+1,J,oN,by rw [L.out,T.out,W.out];exact R⟩
       case measure=>exact oE
     ·by_cases h2:q<m
      ·have d1:decide (y<z)=false:=oS;have T:Hid (min y z=z):=hid oM;have d2:decide (q<m)=true:=(by simp;exact h2);have W:Hid (max m q=m):=hid oM;clear h1 h2;go_wp2_with fail;refine zR (S:=fun w'=>w'.cell? (Ua g (off+k*3+1))=Uq (Ud y)/\ w'.cell? (Ua w.heap.size 1)=Uq (Ud z)) ⟨Hh,Hj⟩ (fun qh=> ?_);refine tZ 0 42 ?_;refine tZ 1 43 ?_;refine tZ 2 44 ?_;refine tZ 3 45 ?_;refine tZ 4 46 ?_;refine tZ 5 47 ?_;refine tZ 6 48 ?_;refine tZ 7 49 ?_;refine zD ?_;clear qh;obtain⟨O,o⟩:=zE w2.drew;have V:Hid (IL w O u5 u6 E t z q A):=o▸hid G.drew;have r2:O.cell? (Ua g (off+k*3+2))=Uq (Ud m):=o▸Hi;go_wp2_with fail;try rw [o]
       try clear o
       have t3:=V.c2;refine zR (S:=fun w'=>w'.cell? (Ua g (off+k*3+2))=Uq (Ud m)/\ w'.cell? (Ua w.heap.size 2)=Uq (Ud q)) ⟨r2,t3⟩ (fun qh=> ?_);refine tZ 0 56 ?_;refine tZ 1 57 ?_;refine tZ 2 58 ?_;refine tZ 3 59 ?_;refine tZ 4 60 ?_;refine tZ 5 61 ?_;refine tZ 6 62 ?_;refine tZ 7 63 ?_;refine zD ?_;clear qh;have f2:=V.f2;obtain⟨W4,Q⟩:=zE ((O.setCell (Ua w.heap.size 2) (Ud m)).drew);have R:Hid (IL w W4 u5 u6 E t z m A):=Q▸hid (V.set2 m).drew;go_wp2_with fail;try rw [Q]
       try clear f2 Q
       go_roundw;case rel=>exact⟨k+1,J,oN,by rw [L.out,T.out,W.out];exact R⟩
       case measure=>exact oE
      ·have d1:decide (y<z)=false:=oS;have T:Hid (min y z=z):=hid oM;have d2:decide (q<m)=false:=oS;have W:Hid (max m q=q):=hid oM;clear h1 h2;go_wp2_with fail;refine zR (S:=fun w'=>w'.cell? (Ua g (off+k*3+1))=Uq (Ud y)/\ w'.cell? (Ua w.heap.size 1)=Uq (Ud z)) ⟨Hh,Hj⟩ (fun qh=> ?_);refine tZ 0 42 ?_;refine tZ 1 43 ?_;refine tZ 2 44 ?_;refine tZ 3 45 ?_;refine tZ 4 46 ?_;refine tZ 5 47 ?_;refine tZ 6 48 ?_;refine tZ 7 49 ?_;refine zD ?_;clear qh;obtain⟨O,o⟩:=zE w2.drew;have V:Hid (IL w O u5 u6 E t z q A):=o▸hid G.drew;have r2:O.cell? (Ua g (off+k*3+2))=Uq (Ud m):=o▸Hi;go_wp2_with fail;try rw [o]
       try clear o
       have t3:=V.c2;refine zR (S:=fun w'=>w'.cell? (Ua g (off+k*3+2))=Uq (Ud m)/\ w'.cell? (Ua w.heap.size 2)=Uq (Ud q)) ⟨r2,t3⟩ (fun qh=> ?_);refine tZ 0 56 ?_;refine tZ 1 57 ?_;refine tZ 2 58 ?_;refine tZ 3 59 ?_;refine tZ 4 60 ?_;refine tZ 5 61 ?_;refine tZ 6 62 ?_;refine tZ 7 63 ?_;refine zD ?_;clear qh;obtain⟨W4,Q⟩:=zE O.drew;have R:Hid (IL w W4 u5 u6 E t z q A):=Q▸hid V.drew;go_wp2_with fail;try rw [Q]
       try clear Q
       go_roundw;case rel=>exact⟨k+1,J,oN,by rw [L.out,T.out,W.out];exact R⟩
       case measure=>exact oE
  ·obtain rfl:k=n:=oM;have Ht:=Hw k zL;generalize Ho:s k=sk at*;obtain⟨E,⟨t,z,q⟩,A⟩:=sk;simp only at U Ht;obtain⟨c0,c1,N⟩:=U.q3;have zr:=U.sz;clear Ho Hd;go_wp2_with (at_builtin;refine Qam rfl _ _ 36 rfl (w.heap.size+1) 123 i0 _ 3 24 underlying36 hi Hp Hq Hr rfl oD _ _ _ rfl (World.ownsRow.alloc U.b _) (Ub wr.heap.size) 1 1 [Ud t,Ud z,Ud q] rfl rfl ?o1 ?o2 ?o3 ?o4 ?o5 ?_);try (case o1=>exact Qa0 _ _ _ _ _)
   case o2=>first|exact⟨rfl,rfl,rfl⟩|(intro u P;simp at P;rcases P with rfl|rfl|rfl<;>rfl)
   case o3=>unfold maxLen;omega
   case o4=>omega
   case o5=>first|omega|(simp;omega)
   intro v7 w7 F X C;have Z:=hid ((U.bw (zO _ _)).app5 (t,z,q) F X (oW C));clear F X C c0 c1 N U;have Hu:=Z.na;have H3:=hid Z.a;have Gg:=Z.sz;rcases Z.a.2 with ⟨e,_⟩|⟨g6,c6,Gb,e,_,_,Gf,Gc,_,_⟩
   ·rw [e] at Hu;exact absurd rfl Hu
   subst e;unfold maxLen at Gc;have H6:Hid (∀j u,(Qar A)[j]? =Uq u ->w7.cell? (((Ub g6):Us).add j)=Uq u):=hid (World.ownsRow.cells H3 rfl);clear Hu;go_wp2_with (at_builtin;refine Qam rfl _ _ 36 rfl (w.heap.size+1) 123 i0 _ 3 24 underlying36 hi Hp Hq Hr rfl oD v7 (E++[(t,z,q)]).length (Qar (E++[(t,z,q)])) rfl Z.b (Ub g6) A.length c6 (Qar A) rfl (QeY A) H6 (QeZ A) ?r3 ?r4 ?r5 ?_);case r3=>unfold maxLen;simp;omega
   case r4=>simp;omega
   case r5=>omega
   intro v8 w8 Hb Hm Hn;have H5:Hid (Bl w w8):=hid (Z.bel.grown Hm oM (fun k B=>oH ((World.ownsRow.lt Z.b k B).1)));have H7:Hid (FR w8 w.heap.size v8 (E++[(t,z,q)]++A)):=by
    refine hid ?_;unfold FR;rw [Qf0,Vg,show (E++[(t,z,q)]).length=E.length+1 from by simp];obtain⟨q1,q2⟩:=Hb;refine⟨q1,q2.imp id ?_⟩;rintro⟨g,cap,Ga,e,hg,r⟩;exact⟨g,cap,Ga,e,oM,r⟩
   clear Hb Hm Hn;go_wp2_with fail;go_ret;exact⟨v8,rfl,by rw [HE.out];exact H7,H5⟩
theorem Qoh (a:Option Us)(c:Nat)(l:List Rn)(rr rf rt:Int)(w:Ur)(hn:l.length<=100000)(h:FS w a l)(hl:QdF l)(hr:Rok (rr,rf,rt)):
  Cl 103 #[Uf a l.length c,Uo #[Ud rr,Ud rf,Ud rt]] w fun e w'=>∃v,e=Ui v/\ FR w' w.heap.size v (ins l (rr,rf,rt))/\ Bl w w':=QlN a c l rr rf rt w hn h (fun p hp=>(hl.2 p hp).bnd) hr.bnd
theorem QaM.size_le{bm:Nat}{D:DataW Value}{G:Int ->Value}{L:Int ->List (Int×Int)}(h:QaM w bm n D G L):Maps.size D<=n:=h.own.size_le
def unL (R F T:Nat ->Int)(n:Nat)(R' F' T':Nat ->Int)(n':Nat):List Rn:=unF (flat R F T n) (flat R' F' T' n')
theorem Qn4 (l:List Rn)(r:Rn):(ins l r).length<=l.length+1:=by
 have:=Qh1 l r l.length zL;rw [QkE] at this;unfold ins;simp only [Vg,Vp];omega
theorem Qh6:∀(b l:List Rn),(unF l b).length<=l.length+b.length
 | [],l=>by simp [unF]
 | q::b,l=>by
  have j:=Qh6 b (ins l q);have k:=Qn4 l q;show (unF (ins l q) b).length<=_;simp only [Vh];omega
theorem QlX (l b:List Rn)(q:Rn):unF l (b++[q])=ins (unF l b) q:=by simp [unF]
theorem QbB (R F T:Nat ->Int)(n:Nat):(flat R F T n).length=n:=by simp [flat]
theorem Qns (R F T:Nat ->Int)(n i:Nat)(h:i<n):gR (flat R F T n) i=(R i,F i,T i):=by simp [gR,flat,UR,h]
theorem Qj3 (l:List Rn)(j:Nat)(u:Value)(h:(Qar l)[j]? =Uq u):j/3<l.length/\ ((j%3=0/\ u=Ud (gR l (j/3)).1) \/(j%3=1/\ u=Ud (gR l (j/3)).2.1) \/(j%3=2/\ u=Ud (gR l (j/3)).2.2)):=by
 induction l generalizing j with
 | nil=>simp [Qar] at h
 | cons a l ih=>
  have e:Qar (a::l)=Ud a.1::Ud a.2.1::Ud a.2.2::Qar l:=by simp [Qar]
  rw [e] at h;match j,h with
  | 0,h=>simp at h;simp [gR,h]
  | 1,h=>simp at h;simp [gR,h]
  | 2,h=>simp at h;simp [gR,h]
  | j+3,h=>
   have h:(Qar l)[j]? =Uq u:=oW h;obtain⟨r,q⟩:=ih j h;have k:(j+3)/3=j/3+1:=oM;have m:(j+3)%3=j%3:=oM;rw [k,m];refine⟨oS,?_⟩;simpa [gR] using q
theorem QiP{off:Nat}(h:QaD w (Uq (Ua g off)) n R F T):∀j u,(Qar (flat R F T n))[j]? =Uq u ->w.cell? (((Ua g off):Us).add j)=Uq u:=by
 intro j u z;obtain⟨k,m⟩:=Qj3 _ j u z;rw [QbB] at k;obtain⟨b,o,e,i,r,v,y⟩:=h.at k;injection e with e;injection e with e3 e4;subst e3 e4;rw [Qns _ _ _ _ _ k] at m;have t:j=j/3*3+j%3:=oM;rcases m with ⟨q,rfl⟩|⟨q,rfl⟩|⟨q,rfl⟩
 ·rw [Addr.add_lit,show off+j=off+j/3*3 from by omega];exact r
 ·rw [Addr.add_lit,show off+j=off+j/3*3+1 from by omega];exact v
 ·rw [Addr.add_lit,show off+j=off+j/3*3+2 from by omega];exact y
theorem FR.weak{C:Nat}{l:List Rn}(h:FR w B v l)(hc:C<=B):FR w C v l:=by
 obtain⟨k,m⟩:=h;refine⟨k,m.imp id ?_⟩;rintro⟨g,cap,j,e,q,r⟩;exact⟨g,cap,j,e,oM,r⟩
theorem Qhz(w:Ur)(t ty e:TypeId)(i:TypeInfo)(ht:P.underlying t=Uq (.slice e))(hi:P.info? e=Uq i)(base:Option Us)(n cap c':Nat)(h:n<=cap):
  (Builtin.append_ #[t,t] ty #[Uf base n cap,Uf Up 0 c']).run P w=.ok (Uf base n cap) w:=by
 cases base<;>simp [Builtin.append_,run_underlying ht,sizeOf,typeInfo,hi,Builtin.lenOf,Builtin.firstCells,storeCells,loadCells,loadCellsFrom,h,Result.andThen]
theorem QfX{ops:Array Oper}{rest:List Oper}{o:Oper}{a:Act}{Q:Exit ->Act ->Ur ->Prop}(hgd:o.guard=Up)(s x:Operand)(t:TypeId)
  (ho:o.op=.call {callee:=.builtin .append,args:=#[s,x],argTypes:=#[t,t]})
  (base:Nat) (e:TypeId) (i:TypeInfo) (z:Value) (size bytes:Nat) (ht:P.underlying t=Uq (.slice e)) (hi:P.info? e=Uq i) (hz:i.zero=Uq z)
  (hsize:i.size=size) (hby:i.bytes=bytes) (hzs:z.cells.size=size) (hsz:0<size)
  (v:Value) (n:Nat) (xs:List Value) (hs:a.eval s=v) (hown:w.ownsRow base e size v n xs)
  (ad:Option Us) (m c:Nat) (news:List Value) (hx:a.eval x=Uf ad m c) (hl:news.length=m*size) (hnews:m=0 \/∃b,ad=Uq b/\∀j u,news[j]? =Uq u ->w.cell? (b.add j)=Uq u) (h1:∀u∈news,u.oneCell'=true)
  (h63:n+m<=maxLen) (hbytes:(n+m)*bytes<=140737488355328) (hbase:base<=w.heap.size)
  (h:∀v' w',w'.ownsRow base e size v' (n+m) (xs++news) ->w.grownBy w' v.ownBlock ->(v'.ownBlock=v.ownBlock \/v'.ownBlock=Uq w.heap.size) ->wpList P ops Q rest (a.put o.dst v') w'):wpList P ops Q (o::rest) a w:=by
 rcases ad with _|b
 ·obtain rfl:m=0:=by
   rcases hnews with q|⟨_,e,_⟩
   ·exact q
   ·cases e
  obtain rfl:news=[]:=List.length_eq_zero_iff.1 oM;obtain⟨b,cap,k,A⟩:∃b cap,v=Uf b n cap/\ n<=cap:=by
   rcases hown.2 with ⟨e,r⟩|⟨g,cap,M,e,_,_,E,_⟩
   ·exact⟨Up,0,by rw [e,r],oM⟩
   ·exact⟨_,cap,e,E⟩
  refine wpList_plain hgd fun _ hK=> ?_;unfold Oper.wp execOp;rw [k] at hs;simp only [ho,resolve,invoke,builtin,Sem.run_bind,Sem.run_pure,Result.andThen_ok,List.map_toArray,Vm,Vo,hs,hx,Qhz w _ _ _ i ht hi b n cap c A];refine hK _ _ (h _ _ ?_ ⟨rfl,rfl,rfl,Uu _,fun _ _ _=>rfl⟩ (.inl (by rw [k])));rw [VC,<- k];exact hown
 ·refine Qam hgd s x t ho base e i z size bytes ht hi hz hsize hby hzs hsz v n xs hs hown b m c news hx hl ?_ h1 h63 hbytes hbase h;rcases hnews with q|⟨b',e,y⟩
  ·subst q;obtain rfl:news=[]:=List.length_eq_zero_iff.1 oM;intro j u p;simp at p
  ·injection e with e;subst e;exact y
theorem QiS (a:Option Us)(n c:Nat)(R F T:Nat ->Int)(a':Option Us)(n' c':Nat)(R' F' T':Nat ->Int)(w:Ur)(hn:n<=1000)(hn':n'<=1000)(h:QaD w a n R F T)(h':QaD w a' n' R' F' T')(ho:QeM R F T n)(ho':QeM R' F' T' n'):
  Cl 73 #[Uo #[Uf a n c],Uo #[Uf a' n' c']] w fun e w'=>∃v,e=Ui (Uo #[v])/\ FR w' w.heap.size v (unL R F T n R' F' T' n')/\ Bl w w':=by
 obtain⟨i0,hi,H5,H6,H7⟩:=info_parts Tryz.infoRun;obtain⟨z,Y⟩:∃z:Nat ->List Rn,(fun k=>unF (flat R F T n) (flat R' F' T' k))=z:=⟨_,rfl⟩;have Hg:Hid (z 0=flat R F T n):=Y▸hid rfl;have H2:Hid (∀k,z (k+1)=ins (z k) (R' k,F' k,T' k)):=by rw [<- Y];exact hid fun k=>by show unF _ (flat R' F' T' (k+1))=_;rw [QcU,QlX]
 have Hz:Hid (z n'=unL R F T n R' F' T' n'):=Y▸hid rfl;have H1:Hid (∀k,(z k).length<=n+k):=by rw [<- Y];exact hid fun k=>by have:=Qh6 (flat R' F' T' k) (flat R F T n);rw [QbB,QbB] at this;exact this
 have H0:Hid (∀k,k<=n' ->QdF (z k)):=by rw [<- Y];exact hid fun k V=>(QkP _ _ (Qcv n ho) (Qcv k (fun i hi=>ho' i oM)).2).1
 have Hy:Hid (∀k,k<n' ->Rok (R' k,F' k,T' k)):=hid fun k V=>Qbf.1 (ho' k V).1;have C:=hid (QbB R F T n);have X:Hid (n=0 \/∃g off,a=Uq (Ua g off)/\ g<w.heap.size/\∀j u,(Qar (flat R F T n))[j]? =Uq u ->w.cell? (((Ua g off):Us).add j)=Uq u):=by
  rcases Nat.eq_zero_or_pos n with Z|Z
  ·exact hid (.inl Z)
  ·obtain⟨b,o,e,S,_⟩:=h.at Z;rw [e] at h;exact hid (.inr ⟨b,o,e,S,QiP h⟩)
 clear Y ho ho';obtain⟨D,Hk⟩:=zE (flat R F T n);rw [Hk] at Hg C X;clear Hk;obtain⟨r,Hi⟩:=zE (((w.alloc (Uj #[Uf a n c] 38)).alloc (Uj #[Uf a' n' c'] 38)).alloc (Uj #[Ue] 38));obtain⟨t,Q⟩:=zE ((w.alloc (Uj #[Uf a n c] 38)).alloc (Uj #[Uf a' n' c'] 38));have za:t.heap.size=w.heap.size+2:=Q▸oP;have Hh:Bl w t:=Q▸Qak _ _ _;have Hm:t.cell? (Ub w.heap.size)=Uq (Uf a n c):=Q▸oP;have Hn:t.cell? (Ua (w.heap.size+1) 0)=Uq (Uf a' n' c'):=Q▸oP;have G:t.alloc (Uj #[Ue] 38)=r:=Q▸Hi;have J:Bl t r:=G▸zO _ _;have Ho:Hid (Bl w r):=hid (Qaa Hh J);have s:Hid (r.heap.size=w.heap.size+3):=hid (by rw [<- G];simp;omega);have x0:r.cell? (Ub w.heap.size)=Uq (Uf a n c):=(J.cell (p:=(Ub w.heap.size)) (show w.heap.size<t.heap.size by omega)).trans Hm;have x1:r.cell? (Ua (w.heap.size+1) 0)=Uq (Uf a' n' c'):=(J.cell (p:=(Ua (w.heap.size+1) 0)) (show w.heap.size+1<t.heap.size by omega)).trans Hn;have x2:r.cell? (Ua (w.heap.size+1+1) 0)=Uq Ue:=by rw [<- G,show w.heap.size+1+1=t.heap.size from by omega];simp
 have y2:r.frozen? (Ua (w.heap.size+1+1) 0)=false:=by rw [<- G,show w.heap.size+1+1=t.heap.size from by omega];simp
 clear Q Hm Hn G J Hh za;have Hw:=hid h';have Hs:Hid (∀w1,Bl w w1 ->n=0 \/∃ad,a=Uq ad/\∀j u,(Qar D)[j]? =Uq u ->w1.cell? (ad.add j)=Uq u):=by
  refine hid fun w1 S=> ?_;rcases X.out with Z|⟨g,off,e,hg,hc⟩
  ·exact .inl Z
  ·refine .inr ⟨_,e,fun j u hj=> ?_⟩;have K:=hc j u hj;rw [Addr.add_lit] at K ⊢;exact(S.cell (p:=(Ua g (off+j))) hg).trans K
 clear h h' X;obtain⟨I,P⟩:=zE (r.alloc (Uj #[] 123));have E:Bl r I:=P▸zO _ _;have u0:=(E.cell (p:=(Ub w.heap.size)) (show w.heap.size<r.heap.size by have:=s.out;omega)).trans x0;have u1:=(E.cell (p:=(Ua (w.heap.size+1) 0)) (show w.heap.size+1<r.heap.size by have:=s.out;omega)).trans x1;have u2:=(E.cell (p:=(Ua (w.heap.size+1+1) 0)) (show w.heap.size+1+1<r.heap.size by have:=s.out;omega)).trans x2;have v2:=((QbZ E).2 (w.heap.size+1+1) 0 (oH s)).trans y2;have Hx:Hid (I.ownsRow (w.heap.size+3) 123 3 (Uf (Uc r.heap.size) 0 0) 0 []):=by
  rw [<- P];exact hid (VD (base:=w.heap.size+3) (e:=123) (size:=3) r #[] 0 (oH s) oL rfl)
 have Hf:=hid (Qaa Ho E);have H:Hid (w.heap.size+3<=I.heap.size):=hid (oJ E.size s);clear E x0 x1 x2 y2;go_enter func73,ntmps73;go_wp2_with (at_builtin;refine QfX rfl _ _ 36 rfl (w.heap.size+3) 123 i0 _ 3 24 underlying36 hi H5 H6 H7 rfl oD (Uf (Uc r.heap.size) 0 0) 0 [] rfl Hx a n c (Qar D) rfl ?c1 (Hs I Hf) (QeZ D) ?c4 ?c5 H ?_);case c1=>rw [QeY,C.out]
 case c4=>unfold maxLen;omega
 case c5=>omega
 intro v3 N Ha U Hb;have L:∀q,q<w.heap.size+3 ->Uq q≠(Value.slice (Uc r.heap.size) 0 0).ownBlock:=fun q hq e=>by
  have:=s.out;simp [Value.ownBlock] at e;omega
 have z3:w.heap.size+3<=N.heap.size:=oJ U.size H;have d1:=U.cell u1 (L (w.heap.size+1) oM);have d2:=U.cell u2 (L (w.heap.size+1+1) oM);have k2:N.frozen? (Ua (w.heap.size+1+1) 0)=false:=(Ys (U.block (w.heap.size+1+1) (oH H) (L _ oM))).trans v2;have Ht:Hid (FR N (w.heap.size+3) v3 (z 0)):=by
  rw [Hg.out];unfold FR;rw [C.out];have K:=Ha;exact hid K
 have Hp:Hid (Bl w N):=hid (Hf.grown U (oH H) (fun k V=>by have:=s.out;simp [Value.ownBlock] at V;omega));clear Ha U Hb u0 u1 u2 v2 P Hi L;go_wp2_with fail;go_loopw [5,6] (fun u5 iv wr=>∃(k:Nat),k<=n'/\ iv=Ud k/\ Hid (FR wr (w.heap.size+3) u5 (z k))/\ wr.cell? (Ua (w.heap.size+1) 0)=Uq (Uf a' n' c')/\ wr.cell? (Ua (w.heap.size+1+1) 0)=Uq Ue/\ wr.frozen? (Ua (w.heap.size+1+1) 0)=false/\ Hid (Bl w wr)/\ w.heap.size+3<=wr.heap.size) (fun _ iv _=>n' - (intOf iv).toNat);case atStart=>exact⟨0,Uv _,rfl,Ht,d1,d2,k2,Hp,z3⟩
 case round=>
  clear d1 d2 k2 z3;obtain⟨k,V,rfl,Hc,e1,A,j2,W,zr⟩:=hrel;by_cases He:k<n'
  ·obtain⟨gb,ob,rfl,H8,q0,q1,q2⟩:=(Hw.bw W).at He;obtain⟨x,cc,rfl,Hl,H3,H4⟩:=Hc.fs;have H9:=H1 k;have HC:=hid (Qoh x cc (z k) (R' k) (F' k) (T' k) wr oM Hl (H0 k V) (Hy k He));have HN:=hid (H2 k);obtain⟨ln,Hd⟩:=zE ((z k).length);rw [Hd] at HC;clear Hl;go_wp2_with fail;try rw [Hd]
   refine HC.mono ?_;rintro e w4 ⟨v4,rfl,Hj,M⟩;have Hu:Hid (FR w4 (w.heap.size+3) v4 (z (k+1))):=(by rw [HN.out];exact hid (Hj.weak zr));have r1:=(M.cell (p:=(Ua (w.heap.size+1) 0)) (show w.heap.size+1<wr.heap.size by omega)).trans e1;have r2:=(M.cell (p:=(Ua (w.heap.size+1+1) 0)) (show w.heap.size+1+1<wr.heap.size by omega)).trans A;have s2:=((QbZ M).2 (w.heap.size+1+1) 0 oM).trans j2;have Hq:=hid (Qaa W M);have z4:=M.size;clear Hj M e1 A j2 q0 q1 q2 Hd;go_wp2_with fail;go_roundw;case rel=>exact⟨k+1,He,oN,Hu,r1,r2,s2,Hq,oM⟩
   case measure=>exact oE
  ·obtain rfl:k=n':=oM;have B:Hid (FR wr (w.heap.size+3) u5 (unL R F T n R' F' T' k)):=(by rw [<- Hz.out];exact Hc);obtain⟨y,m,O,rfl⟩:=Qbk B;have Hv:Hid (FR (wr.setCell (Ua (w.heap.size+1+1) 0) (Uf y m O)) w.heap.size (Uf y m O) (unL R F T n R' F' T' k)):=by
    refine hid ?_;refine World.ownsRow.kept (B.weak oM) (QaG wr (Ua (w.heap.size+1+1) 0) _) ?_;cases e:(Value.slice y m O).ownBlock with
    | none=>exact .inl rfl
    | some g=>exact .inr (fun A=>by have:=(World.ownsRow.lt B g e).1;injection A with A;have A:g=w.heap.size+1+1:=A;omega)
   have Hr:Hid (Bl w (wr.setCell (Ua (w.heap.size+1+1) 0) (Uf y m O))):=hid (W.setCell (p:=(Ua (w.heap.size+1+1) 0)) oQ _);have k6:=UH wr (Ua (w.heap.size+1+1) 0) (Uf y m O) A;clear Hc;go_wp2_with fail;refine zF (v:=Uo #[Uf y m O]) (by simp [results,results73,go_sem,k6]) ⟨_,rfl,Hv,Hr⟩
theorem QnI (g off m c:Nat)(p:List ByteArray)(w:Ur)(hp:p.length=m)(hm:m<=1048576)(hg:g<w.heap.size)(h:∀t,t<m ->w.cell? (Ua g (off+t))=Uq (Um (gS p t))):
  Cl 67 #[Uf (Uq (Ua g off)) m c] w fun e w'=>∃q cap,e=Ui (Uf (Uc q) m cap)/\ Bl w w'/\ w.heap.size<=q/\ q<w'.heap.size/\ Wr w' q 9 m (fun t=> Um (gS p t))/\ m<=cap/\ cap<=9223372036854775807/\ w'.ownsRow w.heap.size 9 1 (Uf (Uc q) m cap) m (Qdh p):=by
 obtain⟨G,hi,V,Y,Z⟩:=info_parts QcC;have r:Bl w (w.alloc (Uj #[] 9)):=zO _ _;have b:(w.alloc (Uj #[] 9)).ownsRow w.heap.size 9 1 (Uf (Uc w.heap.size) 0 0) 0 []:=by
  have:=VD (base:=w.heap.size) (e:=9) (size:=1) w #[] 0 zL oL rfl;simpa using this
 obtain⟨q,cap,w',o,u,i,s⟩:=QcS 90 9 G _ 1 16 underlying90 hi V Y Z rfl oD oM w.heap.size g off m c (fun t=> Um (gS p t)) (w.alloc (Uj #[] 9)) w.heap.size hm b oP (fun j hj=>(r.cell (p:=(Ua g (off+j))) hg).trans (h j oM)) (fun _ _=>rfl);have v:=Qci u;rw [YR] at v;have y:Hid (m<=cap/\ cap<=9223372036854775807):=hid (by
  rcases u.2 with ⟨O,_⟩|⟨J,H,I,U,B,X,K,Q,L,N⟩
  ·cases O
  ·injection U with e1 e2 e3;unfold maxLen at Q;omega)
 have A:Hid (Bl w w'):=hid (r.grown i r.size (fun k e=>oI e));have z:=hid v;have E:Hid (w'.ownsRow w.heap.size 9 1 (Uf (Uc q) m cap) m (Qdh p)):=hid (by unfold Qdh;rw [hp];exact u);have M:Hid (w.heap.size<=q):=hid (by rcases s with e|e<;>rw [e];exact Uu _;simp);clear u i s v h b r;go_enter func67,ntmps67;go_wp2_with (at_builtin;refine Qac rfl _ _ _ _ rfl o (by rfl) (by rfl) rfl ?_;clear o);go_ret;exact⟨q,cap,rfl,A,M,z.lt,z,y.1,y.2,E⟩
theorem QnG (g off m c:Nat)(y:Lf)(w:Ur)(hp:y.p.length=m)(hm:m<=1048576)(hg:g<w.heap.size)(h:∀t,t<m ->w.cell? (Ua g (off+t))=Uq (Um (gS y.p t))):
  Cl 63 #[Uo #[Uf (Uq (Ua g off)) m c,Un y.fl,Ud y.r,Ud y.q,Um y.v]] w fun e w'=>∃q cap,e=Ui (Uo #[Uf (Uc q) m cap,Un y.fl,Ud y.r,Ud y.q,Um y.v])/\ Bl w w'/\ w.heap.size<=q/\ q<w'.heap.size/\ Wr w' q 9 m (fun t=> Um (gS y.p t))/\ m<=cap/\ cap<=9223372036854775807/\ w'.ownsRow w.heap.size 9 1 (Uf (Uc q) m cap) m (Qdh y.p):=by
 obtain⟨W,j⟩:=zE ((w.alloc (Uj #[Uf (Uq (Ua g off)) m c,Un y.fl,Ud y.r,Ud y.q,Um y.v] 117)).alloc (Uj #[Ue,Un false,Ud 0,Ud 0,Um ⟨#[]⟩] 117));have k:Bl w W:=j▸Qak _ _ _;have z:Bx5 W w.heap.size (Uf (Uq (Ua g off)) m c) (Un y.fl) (Ud y.r) (Ud y.q) (Um y.v):=j▸(Bx5.new _ _ _ _ _ _ _).up _;have o:Bx5 W (w.heap.size+1) Ue (Un false) (Ud 0) (Ud 0) (Um ⟨#[]⟩):=by
  rw [<- j];have:=Bx5.new (w.alloc (Uj #[Uf (Uq (Ua g off)) m c,Un y.fl,Ud y.r,Ud y.q,Um y.v] 117)) Ue (Un false) (Ud 0) (Ud 0) (Um ⟨#[]⟩) 117;simpa using this
 have s:=hid (QnI g off m c y.p W hp hm (Ut hg k.size) (fun t ht=>(k.cell (p:=(Ua g (off+t))) hg).trans (h t ht)));have k0:=z.c0;have b:=hid z;have A:=hid o;have V:=hid k;have Ha:w.heap.size+1<W.heap.size:=o.lt;clear k z o h;go_enter func63,ntmps63;go_wp2_with fail;try rw [j]
 clear j;refine s.mono ?_;rintro e w1 ⟨q,cap,rfl,u,O,Q,U,I,J,M⟩;have i:=b.bw u b.lt;have E:=A.bw u A.lt;obtain⟨a0,D,F,P,R,S⟩:=i.p5;obtain⟨L,N,X,B,C,T⟩:=E.p5;have H:=hid U;have Z:Hid (w1.ownsRow w.heap.size 9 1 (Uf (Uc q) m cap) m (Qdh y.p)):=hid (QbF M oM);clear M;have Y:=hid (Qaa V u);have G:Hid (W.heap.size<=q/\ q<w1.heap.size):=hid ⟨O,Q⟩;clear k0 s U O Q u i E;go_wp2_with fail;have K:=G.out;refine zF (v:=Uo #[Uf (Uc q) m cap,Un y.fl,Ud y.r,Ud y.q,Um y.v]) (by simp [results,results63,go_sem,L,N,X,B,C]) ⟨q,cap,rfl,?_,oM,?_,?_,I,J,?_⟩
 ·repeat (refine Below.setCell ?_ oP _)
  exact Y
 ·simp [UC];exact K.2
 ·repeat (refine Wr.same (w:=_) ?_ (zH _ _ _ _ oS))
  exact H
 ·refine QaO Z (fun g hg=> ?_);have e:q=g:=by simpa [Value.ownBlock] using hg
  repeat (rw [zH _ _ _ _ oS])
theorem QjV (g off m c:Nat)(y:Lf)(w:Ur)(hp:y.p.length=m)(hm:m<=1048576)(hg:g<w.heap.size)(h:∀t,t<m ->w.cell? (Ua g (off+t))=Uq (Um (gS y.p t))):
  Cl 63 #[Uo #[Uf (Uq (Ua g off)) m c,Un y.fl,Ud y.r,Ud y.q,Um y.v]] w fun e w'=>∃q cap,e=Ui (Uo #[Uf (Uc q) m cap,Un y.fl,Ud y.r,Ud y.q,Um y.v])/\ Bl w w'/\ w.heap.size<=q/\ q<w'.heap.size/\ Wr w' q 9 m (fun t=> Um (gS y.p t))/\ m<=cap/\ cap<=9223372036854775807:=
 (QnG g off m c y w hp hm hg h).mono fun e w' ⟨q,cap,a1,a2,a3,a4,a5,a6,a7,_⟩=>⟨q,cap,a1,a2,a3,a4,a5,a6,a7⟩
theorem Bx5.setFar{v3 v4:Value}(h:Bx5 w b v0 v1 v2 v3 v4)(t:Nat)(u:Value)(hne:b≠t):Bx5 (w.setCell (Ub t) u) b v0 v1 v2 v3 v4:=by
 have e:(w.setCell (Ub t) u).heap[b]? =w.heap[b]? :=zH _ _ _ _ hne;have q:=fun o=>UB (w:=w) (w':=w.setCell (Ub t) u) (a:=(Ua b o)) e;exact⟨(q 0).trans h.c0,(q 1).trans h.c1,(q 2).trans h.c2,(q 3).trans h.c3,(q 4).trans h.c4,fun i=>(Ys (a:=(Ua b i)) e).trans (h.f i),by simp [UC];exact h.lt⟩
theorem FR.setFar{l:List Rn}(h:FR w B v l)(q:Us)(u:Value)(hv:v.ownBlock≠Uq q.block):FR (w.setCell q u) B v l:=by
 refine World.ownsRow.kept h (w':=w.setCell q u) (row:=Uq q.block) ⟨rfl,rfl,rfl,by simp [UC],fun k hk hne=>zH _ _ _ _ (fun e=>hne (by rw [e]))⟩ ?_;cases e:v.ownBlock with
 | none=>exact .inl rfl
 | some b=>exact .inr (fun e2=>hv (by rw [e];exact e2))
theorem LC.set{P Q:Nat ->Nat}(h:LC w lo v l P Q)(q:Us)(u:Value)(hg:v.ownBlock≠Uq q.block)(hP:∀i,i<l.length ->P i≠q.block):LC (w.setCell q u) lo v l P Q:=
 ⟨QaO h.row (fun g hg'=>zH _ _ _ _ (fun e=>hg (by rw [hg',e]))),fun i hi=>by
  obtain⟨k,m,r,j⟩:=h.pt i hi;exact⟨k,by simp [UC];exact m,r,j.1.same (zH _ _ _ _ (hP i hi)),j.2⟩⟩
structure JS (w wr:Ur)(t:Nat)(va0 va1 vb0 vb1:Value)(g c:Nat)(vr:Value)(l:List Lf)(lr:List Rn)(P Q:Nat ->Nat):Prop where
 low:Bl w wr
 a:Bx2 wr w.heap.size va0 va1
 b:Bx2 wr (w.heap.size+1) vb0 vb1
 r:Bx2 wr (w.heap.size+1+1) Ue Ue
 o:Bx2 wr t (Uf (Uc g) l.length c) vr
 lc:LC wr w.heap.size (Uf (Uc g) l.length c) l P Q
 fr:FR wr w.heap.size vr lr
 ht:w.heap.size+3<=t
 hv:vr.ownBlock≠Uq t
 hg:w.heap.size+3<=g
 hv2:∀b,vr.ownBlock=Uq b ->w.heap.size+3<=b
section
variable {w wr w1 : Ur} {t : Nat} {va0 va1 vb0 vb1 : Value} {g c : Nat} {vr : Value} {l : List Lf} {lr : List Rn} {P Q : Nat -> Nat}
theorem JS.bw (h:JS w wr t va0 va1 vb0 vb1 g c vr l lr P Q)(hb:Bl wr w1):JS w w1 t va0 va1 vb0 vb1 g c vr l lr P Q:=
 ⟨h.low.trans (hb.mono h.low.size),h.a.bw hb h.a.lt,h.b.bw hb h.b.lt,h.r.bw hb h.r.lt,h.o.bw hb h.o.lt,h.lc.bw hb,h.fr.bw hb,h.ht,h.hv,h.hg,h.hv2⟩
theorem JS.set {g2 c2 n2:Nat}{l2:List Lf}{P2 Q2:Nat ->Nat}(h:JS w wr t va0 va1 vb0 vb1 g c vr l lr P Q)(hb:Bl wr w1)(h2:LC w1 w.heap.size (Uf (Uc g2) n2 c2) l2 P2 Q2)(hn:n2=l2.length)(hg:wr.heap.size<=g2)(hp:∀i,i<l2.length ->1<=(gL l2 i).p.length):JS w (w1.setCell (Ub t) (Uf (Uc g2) n2 c2)) t va0 va1 vb0 vb1 g2 c2 vr l2 lr P2 Q2:=by
 subst hn;have j:=h.bw hb;have u:=h.o.lt;have m:=h.ht;refine⟨j.low.setCell oQ _,j.a.setAt _ _ oQ,j.b.setAt _ _ oQ,j.r.setAt _ _ oQ,j.o.set0 _,h2.set _ _ (fun e=>by have:=Qbu e;have:g2=t:=this;omega) (fun i hi e=> ?_),?_,h.ht,h.hv,oM,h.hv2⟩
 ·have q:=(h2.pt i hi).2.2.2.1.cell (i:=0) (oH (hp i hi));have e:P2 i=t:=e;rw [e,j.o.c0] at q;cases q
 ·refine World.ownsRow.kept j.fr (w':=w1.setCell (Ub t) _) (row:=Uq t) ⟨rfl,rfl,rfl,by simp [UC],fun k hk hne=>zH _ _ _ _ (fun e=>hne (by rw [e]))⟩ ?_;cases e:vr.ownBlock with
  | none=>exact .inl rfl
  | some b=>exact .inr (fun e2=>h.hv (by rw [e];exact e2))
end
end Go.Proofs.YtedpomikcaemgaaGreatDoor
