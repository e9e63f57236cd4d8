import Derived.Test.YtdeolligikjieaaGreatDoorFkg10
import Derived.Shelf.SlIter.Collect
import Derived.Test.YtdeolligikjieaaGreatDoorFkg08
import Derived.Test.YtdeolligikjieaaGreatDoorFkg06
import Derived.RegionTactic
import Derived.ChangeAlike
import Derived.Maps.AppendAt
import Derived.Deep.AppendSrc
set_option linter.unusedVariables false
set_option linter.unusedSimpArgs false
set_option maxRecDepth 100000
set_option maxHeartbeats 40000000
namespace Go.Proofs.YtdeolligikjieaaGreatDoor
open Go.ChangeShapes Go.WideShapes Go.ChangeAt Go.RowKit
noncomputable def mJ (J:List Lf)(z:List Ky)(K:Ky ->Prop):List Ky ->Dt ->Option ByteArray
 | []=>Mk J J.length z
 | y::r=>if yes (K y)=true then Mk J J.length (z++y::r) else fun _=>none
def Ah (J:List Lf)(z:List Ky):Prop:=∃x∈J,z <+:Way x
structure JT (w:World)(B:Nat)(J:List Lf)(z:List Ky)(K:Ky ->Prop)(N:List Ky ->Option (Nat×Nat))(c:Nat)(x0:Nat×Nat):Prop where
 tre:Tre w B N (mJ J z K) c
 root:N []=some x0
 there:∀y r,(N (y::r)).isSome=true↔K y/\ Ah J (z++y::r)
structure JF (w:World)(B:Nat)(J:List Lf)(z:List Ky)(N:List Ky ->Option (Nat×Nat))(c:Nat)(x0:Nat×Nat):Prop where
 tre:Tre w B N (fun r=>Mk J J.length (z++r)) c
 root:N []=some x0
 there:∀y r,(N (y::r)).isSome=true↔Ah J (z++y::r)
theorem JT.full {w:World}{B:Nat}{J:List Lf}{z:List Ky}{K:Ky ->Prop}{N:List Ky ->Option (Nat×Nat)}{c:Nat}{x0:Nat×Nat}(h:JT w B J z K N c x0)(hK:∀y,Ah J (z++[y]) ->K y):JF w B J z N c x0:=by
 have k:∀y r,Ah J (z++y::r) ->Ah J (z++[y]):=fun y r ⟨x,hx,hp⟩=>⟨x,hx,List.IsPrefix.trans (by rw [show z++y::r=(z++[y])++r by simp];exact List.prefix_append _ _) hp⟩;have m:mJ J z K=fun r=>Mk J J.length (z++r):=by
  funext r;cases r with
  | nil=>simp [mJ]
  | cons y r=>
   simp only [mJ];by_cases e:K y
   ·rw [if_pos (Qal e)]
   ·rw [if_neg (by rw [Qaj e];simp)];funext d;cases hv:Mk J J.length (z++y::r) d with
    | none=>rfl
    | some v=>
     obtain⟨j,u,q,_⟩:=QjQ.1 (show Mk J J.length (z++y::r) d≠none by rw [hv];simp);exact absurd (hK y (k y r ⟨gL J j,Qa1.2 ⟨j,u,rfl⟩,by rw [q];exact List.prefix_refl _⟩)) e
 exact⟨by rw [<- m];exact h.tre,h.root,fun y r=>(h.there y r).trans ⟨fun g=>g.2,fun g=>⟨hK y (k y r g),g⟩⟩⟩
theorem JT.hang {w w':World}{B:Nat}{J:List Lf}{z:List Ky}{K:Ky ->Prop}{N N1:List Ky ->Option (Nat×Nat)}{c:Nat}{x0 x1:Nat×Nat}{y:Ky}(h:JT w B J z K N c x0)(h1:JF w B J (z++[y]) N1 c x1)(hy:¬K y)(ha:Ah J (z++[y]))(hap:ApN N N1)(hg:w.grownBy w' (some x0.1))(hm:QaZ w' 88 Qbs Qdg x0.1 (c+1) (fun u=>if u=y then some x1 else N [u])):
  JT w' B J z (fun u=>K u \/u=y) (hgN N N1 y) (c+1) x0:=by
 have k:=h.tre.hang h1.tre h.root h1.root hap hg hm;have m:hgM (mJ J z K) (fun r=>Mk J J.length ((z++[y])++r)) y=mJ J z (fun u=>K u \/u=y):=by
  funext r;cases r with
  | nil=>rfl
  | cons u r=>
   simp only [hgM,mJ];by_cases e:u=y
   ·rw [if_pos e,if_pos (Qal (.inr e)),e];simp
   ·rw [if_neg e];by_cases j:K u
    ·rw [if_pos (Qal j),if_pos (Qal (.inl j))]
    ·rw [if_neg (by rw [Qaj j];simp),if_neg (by rw [Qaj (fun hh=>hh.elim j e)];simp)]
 rw [m] at k;refine⟨k,h.root,fun u r=> ?_⟩;simp only [hgN];by_cases e:u=y
 ·rw [if_pos e];cases r with
  | nil=>rw [h1.root,e];exact⟨fun _=>⟨.inr rfl,ha⟩,fun _=>rfl⟩
  | cons v r=>
   rw [h1.there v r,e];rw [show z++[y]++v::r=z++y::v::r by simp];exact⟨fun g=>⟨.inr rfl,g⟩,fun g=>g.2⟩
 ·rw [if_neg e,h.there u r];exact⟨fun g=>⟨.inl g.1,g.2⟩,fun g=>⟨g.1.resolve_right e,g.2⟩⟩
section
variable {R F T : Nat -> Int} {n : Nat} {la : List Lf} {R' F' T' : Nat -> Int} {n' : Nat} {lb : List Lf}
end
section
variable {fa fb : Dt -> Option ByteArray} {hb : Dt -> Bool} {f : Dt -> Option ByteArray} {ds : List Dt} {d : Dt} {v : ByteArray}
end
noncomputable def cW (J:List Lf)(z:List Ky):Nat:=(J.filter (fun x=>yes (z <+:Way x))).length
noncomputable def mW (J:List Lf)(z:List Ky):Nat:=(J.filter (fun x=>yes (Way x=z))).length
open Go.Maps
section
variable {α β : Type} {w : World} {t : TypeId} {kv : α -> Value} {vo : Option β -> Value} {b c : Nat} {f : α -> Option β} {D : DataW Value}
end
section
variable {α β : Type} {w w' : World} {t : TypeId} {kv : α -> Value} {vo : Option β -> Value} {mo : Option Nat} {r c cnt : Nat} {f : α -> Option β} {ds : List α}
end
section
variable {α β : Type} {t : TypeId} {kv : α -> Value} {vo : Option β -> Value} {mo : Option Nat} {r c cnt : Nat} {f : α -> Option β} {ds : List α}
variable (w : World) {ops : Array Oper} {rest : List Oper} {o : Oper} {a : Act} {Q : Exit -> Act -> World -> Prop}
end
section
variable {α β : Type} {w w' : World} {t : TypeId} {kv : α -> Value} {vo : Option β -> Value} {mo : Option Nat} {r c cnt : Nat} {f : α -> Option β} {ds : List α}
end
theorem QiN {w w':World}{row:Option Nat}{a:Addr}(hg:w.grownBy w' row)(hlt:a.block<w.heap.size)(hne:some a.block≠row):w'.frozen? a=w.frozen? a:=by
 unfold World.frozen?;rw [hg.block a.block hlt hne]
theorem Bx2.gr {w w':World}{b:Nat}{v0 v1:Value}{row:Option Nat}(h:Bx2 w b v0 v1)(hg:w.grownBy w' row)(hr:∀k,row=some k ->k≠b):Bx2 w' b v0 v1:=
 have j:some b≠row:=fun e=>hr b e.symm rfl
 ⟨hg.cell h.c0 j,hg.cell h.c1 j,fun i=>(QiN hg h.lt j).trans (h.f i),Nat.lt_of_lt_of_le h.lt hg.size⟩
section
variable {w w' : World} {s t : Nat} {a0 a1 a2 b0 b1 b2 : Option Nat} {x0 : Nat × Nat}
end
section
variable {w w' : World} {B c : Nat} {N : List Ky -> Option (Nat × Nat)} {M : List Ky -> Dt -> Option ByteArray}
theorem Tre.lower {B':Nat}(h:Tre w B N M c)(hB:B'<=B):Tre w B' N M c:=⟨h.kids,h.marks,h.apart,fun p x hx=>by have:=h.lo p x hx;omega,h.none',h.up⟩
end
section
variable {w w' : World} {B c : Nat} {J : List Lf} {z : List Ky} {K : Ky -> Prop} {N N1 : List Ky -> Option (Nat × Nat)} {x0 x1 : Nat × Nat}
theorem JT.mono {c':Nat}(h:JT w B J z K N c x0)(hc:c<=c'):JT w B J z K N c' x0:=⟨h.tre.mono hc,h.root,h.there⟩
end
open Go.Deep
noncomputable def cDR (g:Lf ->Prop)(l P:List Lf)(j k:Nat):List Rn:=unF [] ((goL g (l.take j)).map dtR++(P.take k).map dtR)
def cNR (S:Sx)(P:List Lf)(k:Nat):List Rn:=unF (flat S.R S.F S.T S.n) ((P.take k).map dtR)
noncomputable def cNL (g:Lf ->Prop)(l P:List Lf)(j k:Nat):List Lf:=(P.take k).foldl (fun o y=>Qcs y o) (stL g (l.take j))
noncomputable def cDL (P:List Lf)(k:Nat):List Lf:=(P.take k).foldl (fun o y=>Qcs y o) []
theorem QbL {l:List Lf}{j:Nat}(h:j<l.length):l.take (j+1)=l.take j++[gL l j]:=by
 rw [List.take_add_one,List.getElem?_eq_getElem h];simp [gL,List.getD,h]
theorem Qcm {l:List Lf}{j:Nat}{x:Lf}(h:x∈l.take j):x∈l:=List.mem_of_mem_take h
section
variable {g : Lf -> Prop} {l P : List Lf} {j k : Nat}
theorem Qo4 (h:j<l.length)(hg:g (gL l j)):goL g (l.take (j+1))=goL g (l.take j)++[gL l j]:=by
 unfold goL;rw [QbL h,List.filter_append];congr 1;simp [Qal hg]
theorem Qo3 (h:j<l.length)(hg:¬g (gL l j)):goL g (l.take (j+1))=goL g (l.take j):=by
 unfold goL;rw [QbL h,List.filter_append];simp [Qaj hg]
theorem QoS (h:j<l.length)(hg:g (gL l j)):stL g (l.take (j+1))=stL g (l.take j):=by
 unfold stL;rw [QbL h,List.filter_append];simp [Qal hg]
theorem QoR (h:j<l.length)(hg:¬g (gL l j)):stL g (l.take (j+1))=stL g (l.take j)++[gL l j]:=by
 unfold stL;rw [QbL h,List.filter_append];congr 1;simp [Qaj hg]
theorem QmT (h:j<l.length)(hg:g (gL l j)):cDR g l P (j+1) 0=ins (cDR g l P j 0) (dtR (gL l j)):=by
 unfold cDR;rw [Qo4 h hg,List.take_zero,List.map_append,List.map_nil,List.append_nil,List.append_nil];exact Qdy _ _ _
theorem QmV (h:j<l.length)(hg:¬g (gL l j)):cDR g l P (j+1) 0=cDR g l P j 0:=by unfold cDR;rw [Qo3 h hg]
theorem QmW (h:j<l.length)(hg:g (gL l j)):cNL g l P (j+1) 0=cNL g l P j 0:=by unfold cNL;rw [QoS h hg]
theorem QmX (h:j<l.length)(hg:¬g (gL l j)):cNL g l P (j+1) 0=cNL g l P j 0++[gL l j]:=by
 unfold cNL;rw [QoR h hg,List.take_zero];rfl
theorem QlV (h:k<P.length):cDR g l P j (k+1)=ins (cDR g l P j k) (dtR (gL P k)):=by
 unfold cDR;rw [QbL h,List.map_append,<- List.append_assoc];exact Qdy _ _ _
theorem Qmb {S:Sx}(h:k<P.length):cNR S P (k+1)=ins (cNR S P k) (dtR (gL P k)):=by
 unfold cNR;rw [QbL h,List.map_append];exact Qdy _ _ _
theorem QlZ (h:k<P.length):cNL g l P j (k+1)=Qcs (gL P k) (cNL g l P j k):=by
 unfold cNL;rw [QbL h,List.foldl_append];rfl
theorem QlT (h:k<P.length):cDL P (k+1)=Qcs (gL P k) (cDL P k):=by
 unfold cDL;rw [QbL h,List.foldl_append];rfl
theorem Qgf:cDR g l P l.length P.length=dlU g l P:=by unfold cDR dlU;rw [List.take_length,List.take_length]
theorem Qgh {S:Sx}:cNR S P P.length=nxU S P:=by unfold cNR nxU;rw [List.take_length]
theorem Qgg:cNL g l P l.length P.length=nxL g l P:=by unfold cNL nxL;rw [List.take_length,List.take_length]
theorem Qiy (h:P.length<=1):cDL P P.length=P:=by
 unfold cDL;rw [List.take_length];match P,h with
 | [],_=>rfl
 | [y],_=>rfl
 | _::_::_,h=>simp at h
theorem QeS:∀(P o:List Lf),(P.foldl (fun o y=>Qcs y o) o).length=o.length+P.length
 | [],o=>rfl
 | y::P,o=>by rw [List.foldl_cons,QeS P,Qby,List.length_cons];omega
theorem QlW:(cNL g l P j k).length<=l.length+P.length:=by
 unfold cNL;rw [QeS];have m:(stL g (l.take j)).length<=(l.take j).length:=List.length_filter_le _ _;rw [List.length_take] at m ⊢;omega
theorem QlQ:(cDL P k).length<=P.length:=by
 unfold cDL;rw [QeS,List.length_take,List.length_nil];omega
theorem QlU:(cDR g l P j k).length<=l.length+P.length:=by
 have m:=QcZ ((goL g (l.take j)).map dtR++(P.take k).map dtR) [];have q:(goL g (l.take j)).length<=(l.take j).length:=List.length_filter_le _ _;rw [List.length_append,List.length_map,List.length_map,List.length_take,List.length_nil] at m;rw [List.length_take] at q;show (unF [] _).length<=_;omega
theorem Qma {S:Sx}:(cNR S P k).length<=S.n+P.length:=by
 have j:=QcZ ((P.take k).map dtR) (flat S.R S.F S.T S.n);rw [List.length_map,List.length_take,QaU] at j;show (unF _ _).length<=_;omega
theorem QlX {z:Lf}(h:z∈cNL g l P j k):z∈l \/z∈P:=by
 unfold cNL at h;rcases (Qfd (l:=l)).1 h with h|h
 ·exact .inl (Qcm (QgK.1 h).1)
 ·exact .inr (Qcm h)
theorem QlR {z:Lf}(h:z∈cDL P k):z∈P:=by
 unfold cDL at h;rcases (Qfd (l:=P)).1 h with h|h
 ·cases h
 ·exact Qcm h
end
section
variable {g : Lf -> Prop} {S : Sx} {P : List Lf}
theorem QmU (h:Qbe S.R S.F S.T S.n S.l)(hp:PtO S P)(j k:Nat):QbT (cDR g S.l P j k):=(Qdj _ [] Qlh (fun p m=>by
 refine Qlf (g:=g) h hp p ?_;rcases List.mem_append.1 m with m|m
 ·obtain⟨x,q,rfl⟩:=List.mem_map.1 m;exact List.mem_append.2 (.inl (List.mem_map.2 ⟨x,QcQ.2 ⟨Qcm (QcQ.1 q).1,(QcQ.1 q).2⟩,rfl⟩))
 ·obtain⟨x,q,rfl⟩:=List.mem_map.1 m;exact List.mem_append.2 (.inr (List.mem_map.2 ⟨x,Qcm q,rfl⟩)))).1
theorem QmY (h:Qbe S.R S.F S.T S.n S.l)(hp:PtO S P)(k:Nat):QbT (cNR S P k):=(Qdj _ _ (Qbv S.n (Qcw h)) (fun p hq=>by
 obtain⟨x,j,rfl⟩:=List.mem_map.1 hq;exact hp.dot x (Qcm j))).1
theorem Ql2 {l:List Lf}(h:∀z∈l,1<=z.p.length/\ z.p.length<=8):∀i,i<l.length ->1<=(gL l i).p.length/\ (gL l i).p.length<=8:=fun i hi=>h _ (Qa1.2 ⟨i,hi,rfl⟩)
theorem QoE (h:Qbe S.R S.F S.T S.n S.l):∀z∈S.l,1<=z.p.length/\ z.p.length<=8:=fun z hz=>by
 obtain⟨j,k,e⟩:=Qa1.1 hz;have:=(h.2.2.1 j k).1;rw [e] at this;exact⟨this.1.1,this.1.2.1⟩
theorem PtO.pm (hp:PtO S P):∀z∈P,1<=z.p.length/\ z.p.length<=8:=fun z hz=>⟨(hp.ok z hz).1.1,(hp.ok z hz).1.2.1⟩
theorem QlY (h:Qbe S.R S.F S.T S.n S.l)(hp:PtO S P)(j k:Nat):∀i,i<(cNL g S.l P j k).length ->1<=(gL (cNL g S.l P j k) i).p.length/\ (gL (cNL g S.l P j k) i).p.length<=8:=Ql2 fun z m=>by
 rcases QlX m with m|m
 ·exact QoE h z m
 ·exact hp.pm z m
theorem QlS (hp:PtO S P)(k:Nat):∀i,i<(cDL P k).length ->1<=(gL (cDL P k) i).p.length/\ (gL (cDL P k) i).p.length<=8:=Ql2 fun z hz=>hp.pm z (QlR hz)
end
theorem Qn8 {w:World}{lo g c:Nat}{ra:Option Addr}{rc:Nat}{l:List Lf}{u:List Rn}{P Q:Nat ->Nat}(h:LC w lo (.slice (some ⟨g,0,none⟩) l.length c) l P Q)(hf:FR w lo (.slice ra u.length rc) u):SNc w lo (some ⟨g,0,none⟩) c ra (mkS l u):=⟨fun w' h1 h2=>by
 have k:=h.move h1 h2;have j:FR w' lo (.slice ra u.length rc) u:=Qaq hf (fun q hq=>h2 q (World.ownsRow.lt hf q hq).1 (World.ownsRow.lt hf q hq).2);obtain⟨a,m,e,s,_,_⟩:=j.fs;injection e with e1 e2 e3;subst e1;exact⟨k.lcap rfl,s.rseg⟩,h.cp rfl⟩
structure CS (w wr:World)(t1 t2:Nat)(va0 va1:Value)(gD cD:Nat)(DL:List Lf)(DP DQ:Nat ->Nat)(vr1:Value)(DU:List Rn)(gN cN:Nat)(NL:List Lf)(NP NQ:Nat ->Nat)(vr2:Value)(NU:List Rn):Prop where
 low:Below w.heap.size w wr
 a:Bx2 wr w.heap.size va0 va1
 r1:Bx2 wr (w.heap.size+1) (.slice none 0 0) (.slice none 0 0)
 r2:Bx2 wr (w.heap.size+1+1) (.slice none 0 0) (.slice none 0 0)
 d:Bx2 wr t1 (.slice (some ⟨gD,0,none⟩) DL.length cD) vr1
 n:Bx2 wr t2 (.slice (some ⟨gN,0,none⟩) NL.length cN) vr2
 ld:LC wr (w.heap.size+3) (.slice (some ⟨gD,0,none⟩) DL.length cD) DL DP DQ
 ln:LC wr (w.heap.size+3) (.slice (some ⟨gN,0,none⟩) NL.length cN) NL NP NQ
 fd:FR wr (w.heap.size+3) vr1 DU
 fn:FR wr (w.heap.size+3) vr2 NU
 h1:w.heap.size+3<=t1
 h2:w.heap.size+3<=t2
 h12:t1≠t2
 sd:gD≠t1/\ gD≠t2/\ gD≠gN
 sn:gN≠t1/\ gN≠t2
 s1:∀b,vr1.ownBlock=some b ->b≠t1/\ b≠t2/\ b≠gN
 s2:∀b,vr2.ownBlock=some b ->b≠t1/\ b≠t2/\ b≠gN
 pd:∀i,i<DL.length ->DP i≠t1/\ DP i≠t2
 pn:∀i,i<NL.length ->NP i≠t1/\ NP i≠t2
section
variable {w wr w1 : World} {t1 t2 : Nat} {va0 va1 : Value} {gD cD : Nat} {DL : List Lf} {DP DQ : Nat -> Nat} {vr1 : Value} {DU : List Rn} {gN cN : Nat} {NL : List Lf} {NP NQ : Nat -> Nat} {vr2 : Value} {NU : List Rn}
theorem CS.below (h:CS w wr t1 t2 va0 va1 gD cD DL DP DQ vr1 DU gN cN NL NP NQ vr2 NU)(hb:Below wr.heap.size wr w1):CS w w1 t1 t2 va0 va1 gD cD DL DP DQ vr1 DU gN cN NL NP NQ vr2 NU:=
 ⟨h.low.trans (hb.mono h.low.size),h.a.below hb h.a.lt,h.r1.below hb h.r1.lt,h.r2.below hb h.r2.lt,h.d.below hb h.d.lt,h.n.below hb h.n.lt,h.ld.below hb,h.ln.below hb,h.fd.below hb,h.fn.below hb,h.h1,h.h2,h.h12,h.sd,h.sn,h.s1,h.s2,h.pd,h.pn⟩
theorem Qb6 {a b:Nat}{n c:Nat}(h:a≠b):(Value.slice (some ⟨a,0,none⟩) n c).ownBlock≠some b:=fun e=>h (by simpa [Value.ownBlock] using e)
theorem CS.setD1 {v:Value}{U:List Rn}(h:CS w wr t1 t2 va0 va1 gD cD DL DP DQ vr1 DU gN cN NL NP NQ vr2 NU)(hb:Below wr.heap.size wr w1)(hf:FR w1 wr.heap.size v U):CS w (w1.setCell ⟨t1,1,none⟩ v) t1 t2 va0 va1 gD cD DL DP DQ v U gN cN NL NP NQ vr2 NU:=by
 have k:=h.below hb;have m:=h.d.lt;have q:=h.n.lt;have r:=(h.ln.row.lt gN rfl).2;have u:=h.h1;have j:∀b,v.ownBlock=some b ->wr.heap.size<=b:=fun b e=>(World.ownsRow.lt hf b e).1;refine⟨k.low.setCell (by show w.heap.size<=t1;omega) _,k.a.setAt _ _ (by show t1≠w.heap.size;omega),k.r1.setAt _ _ (by show t1≠w.heap.size+1;omega),k.r2.setAt _ _ (by show t1≠w.heap.size+1+1;omega),k.d.set1 _,k.n.setAt _ _ h.h12,k.ld.set _ _ (Qb6 h.sd.1) (fun i hi=>(h.pd i hi).1),k.ln.set _ _ (Qb6 h.sn.1) (fun i hi=>(h.pn i hi).1),(hf.weak (by omega)).setFar _ _ (fun e=>by have:=j _ e;have:wr.heap.size<=t1:=this;omega),k.fn.setFar _ _ (fun e=>(h.s2 _ e).1 rfl),h.h1,h.h2,h.h12,h.sd,h.sn,fun b e=> ?_,h.s2,h.pd,h.pn⟩;have:=j b e;exact⟨by omega,by omega,by omega⟩
theorem CS.setN1 {v:Value}{U:List Rn}(h:CS w wr t1 t2 va0 va1 gD cD DL DP DQ vr1 DU gN cN NL NP NQ vr2 NU)(hb:Below wr.heap.size wr w1)(hf:FR w1 wr.heap.size v U):CS w (w1.setCell ⟨t2,1,none⟩ v) t1 t2 va0 va1 gD cD DL DP DQ vr1 DU gN cN NL NP NQ v U:=by
 have k:=h.below hb;have m:=h.d.lt;have q:=h.n.lt;have r:=(h.ln.row.lt gN rfl).2;have u:=h.h2;have j:∀b,v.ownBlock=some b ->wr.heap.size<=b:=fun b e=>(World.ownsRow.lt hf b e).1;refine⟨k.low.setCell (by show w.heap.size<=t2;omega) _,k.a.setAt _ _ (by show t2≠w.heap.size;omega),k.r1.setAt _ _ (by show t2≠w.heap.size+1;omega),k.r2.setAt _ _ (by show t2≠w.heap.size+1+1;omega),k.d.setAt _ _ (Ne.symm h.h12),k.n.set1 _,k.ld.set _ _ (Qb6 h.sd.2.1) (fun i hi=>(h.pd i hi).2),k.ln.set _ _ (Qb6 h.sn.2) (fun i hi=>(h.pn i hi).2),k.fd.setFar _ _ (fun e=>(h.s1 _ e).2.1 rfl),(hf.weak (by omega)).setFar _ _ (fun e=>by have:=j _ e;have:wr.heap.size<=t2:=this;omega),h.h1,h.h2,h.h12,h.sd,h.sn,h.s1,fun b e=> ?_,h.pd,h.pn⟩;have:=j b e;exact⟨by omega,by omega,by omega⟩
theorem Qew {g n c:Nat}{l:List Lf}{P Q:Nat ->Nat}{lo t:Nat}{n0 c0:Nat}{a0:Option Addr}{u:Value}(h:LC w lo (.slice (some ⟨g,0,none⟩) n c) l P Q)(hp:∀i,i<l.length ->1<=(gL l i).p.length)(hb:Bx2 w t (.slice a0 n0 c0) u):∀i,i<l.length ->P i≠t:=fun i hi e=>by
 have j:=(h.pt i hi).2.2.2.1.cell (i:=0) (by have:=hp i hi;omega);rw [e,hb.c0] at j;cases j
theorem CS.setD0 {g2 c2 n2:Nat}{l2:List Lf}{P2 Q2:Nat ->Nat}(h:CS w wr t1 t2 va0 va1 gD cD DL DP DQ vr1 DU gN cN NL NP NQ vr2 NU)(hb:Below wr.heap.size wr w1)(hl:LC w1 (w.heap.size+3) (.slice (some ⟨g2,0,none⟩) n2 c2) l2 P2 Q2)(hn:n2=l2.length)(hg:wr.heap.size<=g2)(hp:∀i,i<l2.length ->1<=(gL l2 i).p.length):CS w (w1.setCell ⟨t1,0,none⟩ (.slice (some ⟨g2,0,none⟩) n2 c2)) t1 t2 va0 va1 g2 c2 l2 P2 Q2 vr1 DU gN cN NL NP NQ vr2 NU:=by
 subst hn;have k:=h.below hb;have q:=h.d.lt;have r:=h.n.lt;have v:=(h.ln.row.lt gN rfl).2;have u:=h.h1;have j:=Qew hl hp k.d;have m:=Qew hl hp k.n;exact⟨k.low.setCell (by show w.heap.size<=t1;omega) _,k.a.setAt _ _ (by show t1≠w.heap.size;omega),k.r1.setAt _ _ (by show t1≠w.heap.size+1;omega),k.r2.setAt _ _ (by show t1≠w.heap.size+1+1;omega),k.d.set0 _,k.n.setAt _ _ h.h12,hl.set _ _ (Qb6 (show g2≠t1 by omega)) j,k.ln.set _ _ (Qb6 h.sn.1) (fun i hi=>(h.pn i hi).1),k.fd.setFar _ _ (fun e=>(h.s1 _ e).1 rfl),k.fn.setFar _ _ (fun e=>(h.s2 _ e).1 rfl),h.h1,h.h2,h.h12,⟨by omega,by omega,by omega⟩,h.sn,h.s1,h.s2,fun i hi=>⟨j i hi,m i hi⟩,h.pn⟩
theorem CS.setN0 {g2 c2 n2:Nat}{l2:List Lf}{P2 Q2:Nat ->Nat}(h:CS w wr t1 t2 va0 va1 gD cD DL DP DQ vr1 DU gN cN NL NP NQ vr2 NU)(hb:Below wr.heap.size wr w1)(hl:LC w1 (w.heap.size+3) (.slice (some ⟨g2,0,none⟩) n2 c2) l2 P2 Q2)(hn:n2=l2.length)(hg:wr.heap.size<=g2)(hp:∀i,i<l2.length ->1<=(gL l2 i).p.length):CS w (w1.setCell ⟨t2,0,none⟩ (.slice (some ⟨g2,0,none⟩) n2 c2)) t1 t2 va0 va1 gD cD DL DP DQ vr1 DU g2 c2 l2 P2 Q2 vr2 NU:=by
 subst hn;have k:=h.below hb;have q:=h.d.lt;have r:=h.n.lt;have v:=(h.ld.row.lt gD rfl).2;have u:=h.h2;have m:=Qew hl hp k.d;have j:=Qew hl hp k.n;refine⟨k.low.setCell (by show w.heap.size<=t2;omega) _,k.a.setAt _ _ (by show t2≠w.heap.size;omega),k.r1.setAt _ _ (by show t2≠w.heap.size+1;omega),k.r2.setAt _ _ (by show t2≠w.heap.size+1+1;omega),k.d.setAt _ _ (Ne.symm h.h12),k.n.set0 _,k.ld.set _ _ (Qb6 h.sd.2.1) (fun i hi=>(h.pd i hi).2),hl.set _ _ (Qb6 (show g2≠t2 by omega)) j,k.fd.setFar _ _ (fun e=>(h.s1 _ e).2.1 rfl),k.fn.setFar _ _ (fun e=>(h.s2 _ e).2.1 rfl),h.h1,h.h2,h.h12,⟨h.sd.1,h.sd.2.1,by omega⟩,⟨by omega,by omega⟩,fun b e=> ?_,fun b e=> ?_,h.pd,fun i hi=>⟨m i hi,j i hi⟩⟩
 ·have:=(World.ownsRow.lt h.fd b e).2;exact⟨(h.s1 b e).1,(h.s1 b e).2.1,by omega⟩
 ·have:=(World.ownsRow.lt h.fn b e).2;exact⟨(h.s2 b e).1,(h.s2 b e).2.1,by omega⟩
theorem CS.appN {y:Lf}{p pc:Nat}(h:CS w wr t1 t2 va0 va1 gD cD [] DP DQ vr1 DU gN cN NL NP NQ vr2 NU)(hb:Below wr.heap.size wr w1)(hk:NL.length<=1048576)(hy:1<=y.p.length)(hp:∀i,i<NL.length ->1<=(gL NL i).p.length)(hp1:wr.heap.size<=p)(hp2:p<w1.heap.size)(hw:Wr w1 p 9 y.p.length (fun t=> .string (gS y.p t)))(hpc:y.p.length<=pc/\ pc<=9223372036854775807):
  ∃m s u,(Builtin.append_ #[23,23] 23 #[.slice (some ⟨gN,0,none⟩) NL.length cN,.slice (some ⟨w1.heap.size,0,none⟩) 1 1]).run Tryz.prog (w1.alloc (.cells #[.slice (some ⟨p,0,none⟩) y.p.length pc,.bool y.fl,.int .i64 y.r,.int .i64 y.q,.string y.v] 69))=.ok (.slice (some ⟨m,0,none⟩) (NL.length+1) s) u/\ Below w.heap.size w u/\ Bx2 u w.heap.size va0 va1/\ Bx2 u t2 (.slice (some ⟨gN,0,none⟩) NL.length cN) vr2/\
   ∃P' Q',CS w (u.setCell ⟨t2,0,none⟩ (.slice (some ⟨m,0,none⟩) (NL.length+1) s)) t1 t2 va0 va1 gD cD [] DP DQ vr1 DU m s (NL++[y]) P' Q' vr2 NU:=by
 have k:=h.below hb;have S:=h.low.size;have T:=hb.size;have W:=h.d.lt;have l2:=h.n.lt;have l3:=h.a.lt;have l4:=h.r1.lt;have l5:=h.r2.lt;have l6:=h.ln.row.lt gN rfl;have l7:=h.ld.row.lt gD rfl;have V:=h.h1;have Y:=h.h2;obtain⟨m,s,u,B,A,z⟩:=h.ln.app hb (by omega) hk y p pc (by omega) hp2 (fun e=>by simp [Value.ownBlock] at e;omega) hw hpc;have O:m=gN \/w1.heap.size<=m:=by
  rcases z.l with e|⟨b,e,P⟩
  ·exact .inl (by simpa [Value.ownBlock] using e)
  ·have F:m=b:=by simpa [Value.ownBlock] using e
   exact .inr (by omega)
 have R:=(A.row.lt m rfl).2;have row:∀b,(Value.slice (some ⟨gN,0,none⟩) NL.length cN).ownBlock=some b ->b=gN:=fun b e=>by
  have:gN=b:=by simpa [Value.ownBlock] using e
  exact this.symm
 have o:∀{b:Nat} {u0 u1:Value},Bx2 w1 b u0 u1 ->b≠gN ->Bx2 u b u0 u1:=fun hB hne=>hB.gr z.g (fun b e=>by rw [row b e];exact fun j=>hne j.symm);have Q:=o k.a (by omega);have N:=o k.r1 (by omega);have X:=o k.r2 (by omega);have U:=o k.d (fun e=>h.sn.1 e.symm);have M:=o k.n (fun e=>h.sn.2 e.symm);have J:FR u (w.heap.size+3) vr1 DU:=k.fd.gr z.g (fun b e j=>(h.s1 b e).2.2 (row b j.symm));have K:FR u (w.heap.size+3) vr2 NU:=k.fn.gr z.g (fun b e j=>(h.s2 b e).2.2 (row b j.symm));have L:LC u (w.heap.size+3) (.slice (some ⟨gD,0,none⟩) ([]:List Lf).length cD) [] DP DQ:=⟨Qaq k.ld.row (fun b e=>by
  have e:gD=b:=by simpa [Value.ownBlock] using e
  subst e;exact z.g.block gD (by omega) (fun j=>h.sd.2.2 (row gD j.symm))),fun i hi=>by simp at hi⟩
 have H:Below w.heap.size w u:=k.low.grown z.g k.low.size (fun b e=>by rw [row b e];omega);have G:∀i,i<(NL++[y]).length ->1<=(gL (NL++[y]) i).p.length:=fun i hi=>by
  by_cases e:i=NL.length
  ·rw [e,QfC];exact hy
  ·have Z:i<NL.length:=by simp at hi;omega
   rw [QfD NL y Z];exact hp i Z
 have D:=Qew A G U;have I:=Qew A G M;have E:m≠t1/\ m≠t2/\ gD≠m:=by
  rcases O with e|e
  ·rw [e];exact⟨h.sn.1,h.sn.2,h.sd.2.2⟩
  ·exact⟨by omega,by omega,by omega⟩
 have C:NL.length+1=(NL++[y]).length:=by simp
 refine⟨m,s,u,B,H,Q,M,(fun i=>if i=NL.length then p else NP i),(fun i=>if i=NL.length then pc else NQ i),?_⟩;rw [C] at A ⊢;refine⟨H.setCell (by show w.heap.size<=t2;omega) _,Q.setAt _ _ (by show t2≠w.heap.size;omega),N.setAt _ _ (by show t2≠w.heap.size+1;omega),X.setAt _ _ (by show t2≠w.heap.size+1+1;omega),U.setAt _ _ (Ne.symm h.h12),M.set0 _,L.set _ _ (Qb6 h.sd.2.1) (fun i hi=>by simp at hi),A.set _ _ (Qb6 E.2.1) I,J.setFar _ _ (fun e=>(h.s1 _ e).2.1 rfl),K.setFar _ _ (fun e=>(h.s2 _ e).2.1 rfl),h.h1,h.h2,h.h12,⟨h.sd.1,h.sd.2.1,E.2.2⟩,⟨E.1,E.2.1⟩,fun b e=>⟨(h.s1 b e).1,(h.s1 b e).2.1,?_⟩,fun b e=>⟨(h.s2 b e).1,(h.s2 b e).2.1,?_⟩,fun i hi=>by simp at hi,fun i hi=>⟨D i hi,I i hi⟩⟩
 ·have:=(World.ownsRow.lt h.fd b e).2;rcases O with j|j
  ·rw [j];exact(h.s1 b e).2.2
  ·omega
 ·have:=(World.ownsRow.lt h.fn b e).2;rcases O with j|j
  ·rw [j];exact(h.s2 b e).2.2
  ·omega
end
def Ow (w:World)(lo:Nat)(l:List Lf)(P Q:Nat ->Nat):Prop:=∀i,i<l.length ->w.ownsRow lo 9 1 (.slice (some ⟨P i,0,none⟩) (gL l i).p.length (Q i)) (gL l i).p.length (Qcf (gL l i).p)
structure CpS (w wr:World)(va vx:Value)(g c:Nat)(l:List Lf)(P Q:Nat ->Nat):Prop where
 low:Below w.heap.size w wr
 ab:Bx2 wr w.heap.size va vx
 rb:Bx2 wr (w.heap.size+1) (.slice none 0 0) (.slice none 0 0)
 ob:Bx2 wr (w.heap.size+1+1+1+1) (.slice (some ⟨g,0,none⟩) l.length c) (.slice (some ⟨w.heap.size+1+1+1,0,none⟩) 0 0)
 lc:LC wr (w.heap.size+1+1) (.slice (some ⟨g,0,none⟩) l.length c) l P Q
 q1:g=w.heap.size+1+1 \/w.heap.size+5<=g
 rn:wr.ownsRow (w.heap.size+1+1+1) 113 3 (.slice (some ⟨w.heap.size+1+1+1,0,none⟩) 0 0) 0 []
 pt:∀i,i<l.length ->w.heap.size+5<=P i
 ow:Ow wr (w.heap.size+1+1) l P Q
 sep:Sep P l.length
theorem CpS.below {w wr w':World}{va vx:Value}{g c:Nat}{l:List Lf}{P Q:Nat ->Nat}(h:CpS w wr va vx g c l P Q)(hb:Below wr.heap.size wr w'):CpS w w' va vx g c l P Q:=
 ⟨Qab h.low hb,h.ab.below hb h.ab.lt,h.rb.below hb h.rb.lt,h.ob.below hb h.ob.lt,h.lc.below hb,h.q1,Qaq h.rn fun g hg=>hb.block g (h.rn.lt g hg).2,h.pt,fun i hi=>Qaq (h.ow i hi) fun g hg=>hb.block g ((h.ow i hi).lt g hg).2,h.sep⟩
theorem Bx2.grw {w w':World}{b g:Nat}{u0 u1:Value}(h:Bx2 w b u0 u1)(hg:w.grownBy w' (some g))(hne:b≠g):Bx2 w' b u0 u1:=h.gr hg (fun k e=>by injection e with e;omega)
theorem CpS.step {w wr w1:World}{va vx:Value}{g c:Nat}{l:List Lf}{P Q:Nat ->Nat}(h:CpS w wr va vx g c l P Q)(hb:Below wr.heap.size wr w1)(hk:l.length<=1048576)(y:Lf)(p pc:Nat)(hp1:wr.heap.size<=p)(hp2:p<w1.heap.size)(hw:Wr w1 p 9 y.p.length (fun t=> .string (gS y.p t)))(hpc:y.p.length<=pc/\ pc<=9223372036854775807)(ho:w1.ownsRow wr.heap.size 9 1 (.slice (some ⟨p,0,none⟩) y.p.length pc) y.p.length (Qcf y.p)):
  ∃u o j,(Builtin.append_ #[23,23] 23 #[.slice (some ⟨g,0,none⟩) l.length c,.slice (some ⟨w1.heap.size,0,none⟩) 1 1]).run Tryz.prog (w1.alloc (.cells #[.slice (some ⟨p,0,none⟩) y.p.length pc,.bool y.fl,.int .i64 y.r,.int .i64 y.q,.string y.v] 69))=.ok (.slice (some ⟨u,0,none⟩) (l.length+1) o) j/\
   Below w.heap.size w j/\ Bx2 j w.heap.size va vx/\ Bx2 j (w.heap.size+1+1+1+1) (.slice (some ⟨g,0,none⟩) l.length c) (.slice (some ⟨w.heap.size+1+1+1,0,none⟩) 0 0)/\
   ∃q cap P Q,CpS w (j.setCell ⟨w.heap.size+1+1+1+1,0,none⟩ (.slice (some ⟨u,0,none⟩) (l.length+1) o)) va vx q cap (l++[y]) P Q:=by
 have X:=h.ob.lt;have m:=h.below hb;obtain⟨u,o,j,J,K,V⟩:=h.lc.app hb (by omega) hk y p pc (by omega) hp2 (fun e=>by have:=(h.lc.lt p e.symm).2;omega) hw hpc;have s:w1.grownBy j (some g):=V.g;have B:=h.q1;have N:=(h.lc.lt g rfl).2;have C:=hb.size;have D:=s.size;have I:u=g \/w1.heap.size<=u:=by
  rcases V.l with e|⟨q,e,I⟩
  ·exact .inl (by simpa [Value.ownBlock] using e)
  ·have e:u=q:=by simpa [Value.ownBlock] using e
   exact .inr (by omega)
 have A:∀b,b<w1.heap.size ->b≠g ->j.heap[b]? =w1.heap[b]? :=fun b m h2=>s.block b m (fun e=>h2 (by injection e));have O:=m.ab.grw s (by omega);have G:=m.rb.grw s (by omega);have U:=m.ob.grw s (by omega);have Z:Below w.heap.size w j:=m.low.grown s m.low.size (fun k e=>by injection e with e;omega);have Y:∀i,i<(l++[y]).length ->w.heap.size+5<=(if i=l.length then p else P i)/\ (if i=l.length then p else P i)<j.heap.size:=fun i hi=>by
  by_cases e:i=l.length
  ·rw [if_pos e];exact⟨by omega,by omega⟩
  ·rw [if_neg e];have z:i<l.length:=by simp at hi;omega
   have:=(h.lc.pt i z).2.1;exact⟨h.pt i z,by omega⟩
 have M:∀b,b≠w.heap.size+1+1+1+1 ->(j.setCell ⟨w.heap.size+1+1+1+1,0,none⟩ (.slice (some ⟨u,0,none⟩) (l.length+1) o)).heap[b]? =j.heap[b]? :=fun b hb2=>zH _ _ _ _ (by simpa using hb2);have E:(l++[y]).length=l.length+1:=by simp
 refine⟨u,o,j,J,Z,O,U,u,o,(fun i=>if i=l.length then p else P i),(fun i=>if i=l.length then pc else Q i),Z.setCell (by simp;omega) _,O.setAt _ _ (by simp;omega),G.setAt _ _ (by simp;omega),?_,?_,by omega,?_,fun i hi=>(Y i hi).1,fun i hi=> ?_,?_⟩
 ·rw [E];exact U.set0 _
 ·rw [E];exact K.set _ _ (fun e=>by have e:=Qbk e;simp only at e;omega) (fun i hi=>by have:=(Y i hi).1;simp only;omega)
 ·refine Qaq m.rn (fun b hb2=> ?_);have e:w.heap.size+1+1+1=b:=by simpa [Value.ownBlock] using hb2
  exact(M b (by omega)).trans (A b (by omega) (by omega))
 ·by_cases e:i=l.length
  ·subst e;simp only [if_pos];rw [QfC];refine QaV (Qaq ho (fun b hb2=> ?_)) (by omega);have e:p=b:=by simpa [Value.ownBlock] using hb2
   exact(M b (by omega)).trans (A b (by omega) (by omega))
  ·have z:i<l.length:=by simp at hi;omega
   simp only [if_neg e];rw [QfD l y z];refine Qaq (m.ow i z) (fun b hb2=> ?_);have e:P i=b:=by simpa [Value.ownBlock] using hb2
   obtain⟨_,L,H,_⟩:=h.lc.pt i z;have:=h.pt i z;exact(M b (by omega)).trans (A b (by omega) (fun e2=>H (by simp [Value.ownBlock];omega)))
 ·rw [E];exact h.sep.app (fun i hi=>by have:=(h.lc.pt i hi).2.1;omega)
theorem QlO {wr:World}{B q n d:Nat}{x:Option Addr}{R F T:Nat ->Int}(ho:wr.ownsRow B 113 3 (.slice (some ⟨q,0,none⟩) 0 0) 0 [])(hB:B<=wr.heap.size)(hn:n<=1048576)(h:Qb3 wr x n R F T):
  ∃k z y,(Builtin.append_ #[24,24] 24 #[.slice (some ⟨q,0,none⟩) 0 0,.slice x n d]).run Tryz.prog wr=.ok (.slice (some ⟨k,0,none⟩) n z) y/\ FR y B (.slice (some ⟨k,0,none⟩) n z) (flat R F T n)/\ wr.grownBy y (some q)/\ (k=q \/k=wr.heap.size)/\ (0<n ->k=wr.heap.size):=by
 obtain⟨v,p,U,V,Y⟩:=info_parts Tryz.infoRun;have fl:(flat R F T n).length=n:=QaU _ _ _ _;rcases x with _|b
 ·obtain rfl:n=0:=by
   rcases h with h|⟨_,_,e,_⟩
   ·exact h
   ·cases e
  refine⟨q,0,wr,QdX wr _ _ _ v Tryz.underlying24 p _ 0 0 d zL,?_,⟨rfl,rfl,rfl,Nat.le_refl _,fun _ _ _=>rfl⟩,.inl rfl,fun h=>by omega⟩;simpa [FR,flat,Qah] using ho
 ·have O:∀j u,(Qah (flat R F T n))[j]? =some u ->wr.cell? (b.add j)=some u:=by
   rcases h with rfl|⟨g,o,e,I,H⟩
   ·intro j u s;simp [flat,Qah] at s
   ·injection e with e;subst e;exact Qe2 (.inr ⟨g,o,rfl,I,H⟩)
  have E:∀u∈Qah (flat R F T n),u.oneCell'=true:=fun u hu=>by
   obtain⟨j,s⟩:=List.getElem?_of_mem hu;rcases (QfA _ j u s).2 with ⟨_,e⟩|⟨_,e⟩|⟨_,e⟩<;>rw [e]<;>rfl
  have M:(Qah (flat R F T n)).length=n*3:=by rw [QcO,fl]
  obtain⟨v',y,i,t,Z,G,m⟩:=run_append_own_at (P:=Tryz.prog) wr B 24 24 113 v _ 3 24 Tryz.underlying24 p U V Y rfl (by decide) (.slice (some ⟨q,0,none⟩) 0 0) 0 [] ho b n d _ M O E (by unfold maxLen;omega) (by omega) hB;rcases t.2 with ⟨A,_⟩|⟨k,z,L,A,r⟩
  ·have:=G.1 A;exact absurd this.1 (by simp)
  rw [A] at i t m;rw [Nat.zero_add] at i t;refine⟨k,z,y,i,?_,Z,?_,fun h0=> ?_⟩
  ·show y.ownsRow B 113 3 _ (flat R F T n).length (Qah (flat R F T n));rw [fl];simpa using t
  ·rcases m with m|m
   ·exact .inl (by simpa [Value.ownBlock] using m)
   ·exact .inr (by simpa [Value.ownBlock] using m)
  ·have J:(Builtin.firstCells v.size 0 (.slice (some ⟨q,0,none⟩) 0 0)).run Tryz.prog wr.drew=.ok #[] wr.drew:=run_firstCells_some (P:=Tryz.prog) wr.drew v.size 0 ⟨q,0,none⟩ 0 0 [] (by simp) (fun j u hu=>by simp at hu);have K:Src Tryz.prog v.size 24 (.slice (some b) n d) n (Qah (flat R F T n)) wr:=Src.ofSlice wr Tryz.underlying24 b n d _ (by rw [M,V]) O E;have Q:=run_append_grow_src (P:=Tryz.prog) (w:=wr) 24 24 24 113 v _ Tryz.underlying24 p U (some ⟨q,0,none⟩) 0 0 [] J (.slice (some b) n d) n _ K (by omega) (by omega) (growslice_fits (by omega) (by rw [Y];omega));rw [i] at Q;injection Q with e1 e2;injection e1 with e1 _ _;injection e1 with e1;injection e1
theorem CpS.start (w:World)(va vx:Value):
  CpS w (((((w.alloc (.cells #[va,vx] 28)).alloc (.cells #[.slice none 0 0,.slice none 0 0] 28)).alloc (.cells #[] 69)).alloc (.cells #[] 113)).alloc (.cells #[.slice (some ⟨w.heap.size+1+1,0,none⟩) 0 0,.slice (some ⟨w.heap.size+1+1+1,0,none⟩) 0 0] 28)) va vx (w.heap.size+1+1) 0 [] (fun _=>0) (fun _=>0):=by
 obtain⟨w1,u⟩:∃w1,w.alloc (.cells #[va,vx] 28)=w1:=⟨_,rfl⟩;have A:w1.heap.size=w.heap.size+1:=by rw [<- u];simp
 have O:Bx2 w1 w.heap.size va vx:=by rw [<- u];exact Bx2.made _ _ _ _
 have U:Below w.heap.size w w1:=by rw [<- u];exact zO _ _
 rw [u];obtain⟨k,r⟩:∃k,w1.alloc (.cells #[.slice none 0 0,.slice none 0 0] 28)=k:=⟨_,rfl⟩;have E:k.heap.size=w.heap.size+1+1:=by rw [<- r];simp [A]
 have h:Bx2 k w.heap.size va vx:=by rw [<- r];exact O.allocs _
 have b:Bx2 k (w.heap.size+1) (.slice none 0 0) (.slice none 0 0):=by rw [<- r,<- A];exact Bx2.made _ _ _ _
 have V:Below w.heap.size w k:=by rw [<- r];exact U.alloc (by omega) _
 rw [r];obtain⟨m,v⟩:∃m,k.alloc (.cells #[] 69)=m:=⟨_,rfl⟩;have M:m.heap.size=w.heap.size+1+1+1:=by rw [<- v];simp [E]
 have b3:Below k.heap.size k m:=by rw [<- v];exact zO _ _
 have Q:LC m (w.heap.size+1+1) (.slice (some ⟨w.heap.size+1+1,0,none⟩) 0 0) [] (fun _=>0) (fun _=>0):=by
  refine⟨?_,fun i hi=>by simp at hi⟩;rw [<- v,<- E];have:=World.ownsRow_lit (base:=k.heap.size) (e:=69) (size:=5) k #[] 0 zL (by unfold maxLen;omega) rfl;simpa using this
 rw [v];obtain⟨q,y⟩:∃q,m.alloc (.cells #[] 113)=q:=⟨_,rfl⟩;have Y:q.heap.size=w.heap.size+1+1+1+1:=by rw [<- y];simp [M]
 have b4:Below m.heap.size m q:=by rw [<- y];exact zO _ _
 have t:q.ownsRow (w.heap.size+1+1+1) 113 3 (.slice (some ⟨w.heap.size+1+1+1,0,none⟩) 0 0) 0 []:=by
  rw [<- y,<- M];have:=World.ownsRow_lit (base:=m.heap.size) (e:=113) (size:=3) m #[] 0 zL (by unfold maxLen;omega) rfl;simpa using this
 rw [y];have s:∀o,Below q.heap.size q (q.alloc o):=fun o=>zO _ o;have p:=fun o=>Qab b4 (s o);have z:=fun o=>Qab b3 (p o);refine⟨Qab V (z _),h.below (z _) h.lt,b.below (z _) b.lt,?_,Q.below (p _),.inl rfl,Qaq t fun g hg=>(s _).block g (t.lt g hg).2,fun i hi=>by simp at hi,fun i hi=>by simp at hi,fun i j hi=>by simp at hi⟩;rw [<- Y];exact Bx2.made _ _ _ _
structure Cpd (w w':World)(S:Sx)(g c gx cx:Nat)(P Q:Nat ->Nat):Prop where
 lc:LC w' w.heap.size (.slice (some ⟨g,0,none⟩) S.l.length c) S.l P Q
 ow:Ow w' w.heap.size S.l P Q
 sep:Sep P S.l.length
 fr:FR w' w.heap.size (.slice (some ⟨gx,0,none⟩) S.n cx) (fS S)
 gn:g≠gx
 pn:∀i,i<S.l.length ->P i≠gx
 up:0<S.n ->g<gx/\∀i,i<S.l.length ->P i<gx
 low:Below w.heap.size w w'
theorem Qmt (a x:Option Addr)(c d:Nat)(S:Sx)(w:World)(hm:S.Sm)(hpl:∀i,i<S.l.length ->1<=(gL S.l i).p.length)(h:SCt w a x S):
  Calls Tryz.prog 49 #[.agg #[.slice a S.l.length c,.slice x S.n d]] w fun e w'=>∃g cg gx cx P Q,e=.returned (.agg #[.slice (some ⟨g,0,none⟩) S.l.length cg,.slice (some ⟨gx,0,none⟩) S.n cx])/\ Cpd w w' S g cg gx cx P Q:=by
 have HA:=hid h.lf;have H4:=hid h.rn;have H6:=hm.l1;have H7:=hm.n1;have H2:=hid hm.p1;have H3:=hid hpl;have Hs:=hid (CpS.start w (.slice a S.l.length c) (.slice x S.n d));clear h hpl;go_enter Tryz.func49,Tryz.ntmps49;go_wp2_with fail;go_loopw [4] (fun i wr=>∃(j:Nat),j<=S.l.length/\ i=.int .i64 (j:Int)/\ Hid (∃q cap P Q,CpS w wr (.slice a S.l.length c) (.slice x S.n d) q cap (S.l.take j) P Q)) (fun i _=>S.l.length - (intOf i).toNat);case atStart=>exact⟨0,Nat.zero_le _,rfl,hid ⟨_,_,_,_,Hs.out⟩⟩
 case round=>
  clear Hs;obtain⟨j,hj,rfl,HI⟩:=hrel;obtain⟨q,cap,P,Q,V⟩:=HI.out;have Hp:(S.l.take j).length=j:=by simp;omega
  have Hk:=hid Hp;have s:=hid V;have a0:=V.ab.c0;have a1:=V.ab.c1;have o0:=V.ob.c0;have o1:=V.ob.c1;rw [Hp] at o0;clear V HI Hp;by_cases Hf:j<S.l.length
  ·have i1:(0:Int)<=(j:Int):=Int.natCast_nonneg _;have i2:(j:Int)<(S.l.length:Int):=by omega
   obtain⟨m,A,rfl,He,Hv⟩:=(HA.out).resolve_left (by omega);obtain⟨Ge,pc,⟨z,d0⟩,sg,L,c2,c3,c4⟩:=Hv j Hf;have H9:=H3 j Hf;obtain⟨pb,po,rfl,Hn,Hy⟩:=sg.resolve_left (by omega);have Ht:Hid (S.l.take j++[gL S.l j]=S.l.take (j+1)):=hid (by
    rw [List.take_add_one];congr 1;simp [gL,List.getD,Hf])
   have D:Hid (∀w1 p Z,Below wr.heap.size wr w1 ->wr.heap.size<=p ->p<w1.heap.size ->Wr w1 p 9 (gL S.l j).p.length (fun t=> .string (gS (gL S.l j).p t)) ->((gL S.l j).p.length<=Z/\ Z<=9223372036854775807) ->w1.ownsRow wr.heap.size 9 1 (.slice (some ⟨p,0,none⟩) (gL S.l j).p.length Z) (gL S.l j).p.length (Qcf (gL S.l j).p) ->∃q' Hc w3,(Builtin.append_ #[23,23] 23 #[.slice (some ⟨q,0,none⟩) j cap,.slice (some ⟨w1.heap.size,0,none⟩) 1 1]).run Tryz.prog (w1.alloc (.cells #[.slice (some ⟨p,0,none⟩) (gL S.l j).p.length Z,.bool (gL S.l j).fl,.int .i64 (gL S.l j).r,.int .i64 (gL S.l j).q,.string (gL S.l j).v] 69))=.ok (.slice (some ⟨q',0,none⟩) (j+1) Hc) w3/\
    Below w.heap.size w w3/\ Bx2 w3 w.heap.size (.slice (some ⟨m,A,none⟩) S.l.length c) (.slice x S.n d)/\ Bx2 w3 (w.heap.size+1+1+1+1) (.slice (some ⟨q,0,none⟩) j cap) (.slice (some ⟨w.heap.size+1+1+1,0,none⟩) 0 0)/\
    ∃q cap P Q,CpS w (w3.setCell ⟨w.heap.size+1+1+1+1,0,none⟩ (.slice (some ⟨q',0,none⟩) (j+1) Hc)) (.slice (some ⟨m,A,none⟩) S.l.length c) (.slice x S.n d) q cap (S.l.take (j+1)) P Q):=hid (fun w1 p Z hb h1 h2 h3 h4 h5=>by
    have:=s.step hb (by rw [Hk.out];omega) (gL S.l j) p Z h1 h2 h3 h4 h5;rw [Hk.out,Ht.out] at this;exact this)
   have C:Hid (∀w1,Below wr.heap.size wr w1 ->Calls Tryz.prog 52 #[.agg #[.slice (some ⟨pb,po,none⟩) (gL S.l j).p.length pc,.bool (gL S.l j).fl,.int .i64 (gL S.l j).r,.int .i64 (gL S.l j).q,.string (gL S.l j).v]] w1 fun e w'=>∃q cap,e=.returned (.agg #[.slice (some ⟨q,0,none⟩) (gL S.l j).p.length cap,.bool (gL S.l j).fl,.int .i64 (gL S.l j).r,.int .i64 (gL S.l j).q,.string (gL S.l j).v])/\ Below w1.heap.size w1 w'/\ w1.heap.size<=q/\ q<w'.heap.size/\ Wr w' q 9 (gL S.l j).p.length (fun t=> .string (gS (gL S.l j).p t))/\ (gL S.l j).p.length<=cap/\ cap<=9223372036854775807/\ w'.ownsRow w1.heap.size 9 1 (.slice (some ⟨q,0,none⟩) (gL S.l j).p.length cap) (gL S.l j).p.length (Qcf (gL S.l j).p)):=hid (fun w1 hb=>by
    have b2:=Qab s.low hb;exact Qg4 pb po (gL S.l j).p.length pc (gL S.l j) w1 rfl (H2 j) (Nat.lt_of_lt_of_le Hn b2.size) (fun t ht=>(b2.cell (p:=⟨pb,po+t,none⟩) Hn).trans (Hy t ht)))
   have B:Hid (∀w',Below w.heap.size w w' ->w'.cell? ⟨m,A+j*5,none⟩=some (.slice (some ⟨pb,po,none⟩) (gL S.l j).p.length pc)/\ w'.cell? ⟨m,A+j*5+1,none⟩=some (.bool (gL S.l j).fl)/\ w'.cell? ⟨m,A+j*5+2,none⟩=some (.int .i64 (gL S.l j).r)/\ w'.cell? ⟨m,A+j*5+3,none⟩=some (.int .i64 (gL S.l j).q)/\ w'.cell? ⟨m,A+j*5+4,none⟩=some (.string (gL S.l j).v)):=hid (fun w' b=>⟨(b.cell (p:=⟨m,_,none⟩) He).trans z,(b.cell (p:=⟨m,_,none⟩) He).trans L,(b.cell (p:=⟨m,_,none⟩) He).trans c2,(b.cell (p:=⟨m,_,none⟩) He).trans c3,(b.cell (p:=⟨m,_,none⟩) He).trans c4⟩);obtain⟨z,L,c2,c3,c4⟩:=B wr s.low;obtain⟨y,hy⟩:∃y,gL S.l j=y:=⟨_,rfl⟩;rw [hy] at z L c2 c3 c4 C D B;obtain⟨yp,yf,yr,yq,yv⟩:=y;dsimp only at z L c2 c3 c4 C D B;obtain⟨np,Hw⟩:∃np,yp.length=np:=⟨_,rfl⟩;rw [Hw] at z C D B;clear hy Hw Hv sg Hy Hn He d0 H9 Ht;go_wp2_with fail;have E:Hid (∀w',Below w.heap.size w w' ->w'.cell? ⟨w.heap.size,0,none⟩=some (.slice (some ⟨m,A,none⟩) S.l.length c) ->(Below w.heap.size w w'/\ w'.cell? ⟨w.heap.size,0,none⟩=some (.slice (some ⟨m,A,none⟩) S.l.length c)/\ w'.cell? ⟨m,A+j*5,none⟩=some (.slice (some ⟨pb,po,none⟩) np pc)/\ w'.cell? ⟨m,A+j*5+1,none⟩=some (.bool yf)/\ w'.cell? ⟨m,A+j*5+2,none⟩=some (.int .i64 yr)/\ w'.cell? ⟨m,A+j*5+3,none⟩=some (.int .i64 yq)/\ w'.cell? ⟨m,A+j*5+4,none⟩=some (.string yv))):=hid (fun w' hB h0=>⟨hB,h0,B.out w' hB⟩);refine zR (S:=fun w'=>Below w.heap.size w w'/\ w'.cell? ⟨w.heap.size,0,none⟩=some (.slice (some ⟨m,A,none⟩) S.l.length c)/\ w'.cell? ⟨m,A+j*5,none⟩=some (.slice (some ⟨pb,po,none⟩) np pc)/\ w'.cell? ⟨m,A+j*5+1,none⟩=some (.bool yf)/\ w'.cell? ⟨m,A+j*5+2,none⟩=some (.int .i64 yr)/\ w'.cell? ⟨m,A+j*5+3,none⟩=some (.int .i64 yq)/\ w'.cell? ⟨m,A+j*5+4,none⟩=some (.string yv)) (E _ s.low.drew (s.ab.below zI.drew s.ab.lt).c0) (fun qh=> ?_);clear z L c2 c3 c4;refine tZ 0 16 ?_;refine tZ 2 18 ?_;refine tZ 3 19 ?_;refine tZ 4 20 ?_;refine tZ 5 21 ?_;refine tZ 6 22 ?_;refine QaO (i:=1) (j:=7) (d:=some 17) (d':=some 23) (by kernel_rfl) (by kernel_rfl) (by kernel_rfl) ?_ ?_
   ·
    intro o H Hm K u;simp only [gZa,gZb,gZc,gZd] at H;subst H;go_simp;refine u.out _ _ (E _ s.low.drew (s.ab.below zI.drew s.ab.lt).c0) (fun qh=> ?_);clear u K;try simp only [zP]
    refine cZ 7 ?_;intro K u;go_simp;refine(C _ zI.drew).mono ?_;rintro e w1 ⟨p,Z,rfl,M,p1,p2,Hh,q1,N,Hg⟩;have W:Below wr.heap.size wr w1:=⟨M.os,M.tape,M.output,M.size,M.block⟩;have O:=s.below W;have U:=O.below (zO w1 (.cells #[.slice (some ⟨p,0,none⟩) np Z,.bool yf,.int .i64 yr,.int .i64 yq,.string yv] 69));obtain⟨q',Hc,w3,J,l3,A3,I,h5⟩:=D w1 p Z W p1 p2 Hh ⟨q1,N⟩ Hg;have Hd:=hid h5;refine u.out _ _ (E _ O.low O.ab.c0) (fun qh=> ?_);clear u K;try simp only [zP]
    refine cZ 8 ?_;intro K u;go_simp;refine u.out _ _ (E _ U.low U.ab.c0) (fun qh=> ?_);clear u K;try simp only [zP]
    refine cZ 9 ?_;intro K u;refine QaX _ _ _ _ rfl J (by rfl) (by rfl) rfl ?_;refine u.out _ _ (E _ l3 A3.c0) (fun qh=> ?_);clear u K;try simp only [zP]
    refine tZ 10 26 ?_;have X:=I.c0;have tf:=I.f;refine cZ 11 ?_;intro K u;go_simp;obtain⟨_,_,_,_,G⟩:=Hd.out;refine u.out _ _ (E _ G.low G.ab.c0) (fun qh=> ?_);clear u K;try simp only [zP]
    refine zD ?_;clear qh M W O U J l3 A3 I h5 G X tf Hh p1 p2 D C B E q1 N Hg;go_wp2_with fail;go_roundw;case rel=>exact⟨j+1,Hf,by go_num,Hd⟩
    case measure=>simp [intOf];omega
   ·
    intro o H Hm K u;simp only [gZa,gZb,gZc,gZd] at H;subst H;go_simp;refine(C _ zI.drew).mono ?_;rintro e w1 ⟨p,Z,rfl,M,p1,p2,Hh,q1,N,Hg⟩;have W:Below wr.heap.size wr w1:=⟨M.os,M.tape,M.output,M.size,M.block⟩;have O:=s.below W;have U:=O.below (zO w1 (.cells #[.slice (some ⟨p,0,none⟩) np Z,.bool yf,.int .i64 yr,.int .i64 yq,.string yv] 69));obtain⟨q',Hc,w3,J,l3,A3,I,h5⟩:=D w1 p Z W p1 p2 Hh ⟨q1,N⟩ Hg;have Hd:=hid h5;refine u.out _ _ (E _ O.low O.ab.c0) (fun qh=> ?_);clear u K;try simp only [zP]
    refine QaO (i:=1) (j:=8) (d:=some 17) (d':=some 24) (by kernel_rfl) (by kernel_rfl) (by kernel_rfl) ?_ ?_
    ·
     have X:=O.ob.c0;intro o H Hm K u;simp only [gZa,gZb,gZc,gZd] at H;subst H;go_simp;refine u.out _ _ (E _ O.low O.ab.c0) (fun qh=> ?_);clear u K;try simp only [zP]
     clear X;refine cZ 8 ?_;intro K u;go_simp;refine u.out _ _ (E _ U.low U.ab.c0) (fun qh=> ?_);clear u K;try simp only [zP]
     refine cZ 9 ?_;intro K u;refine QaX _ _ _ _ rfl J (by rfl) (by rfl) rfl ?_;refine u.out _ _ (E _ l3 A3.c0) (fun qh=> ?_);clear u K;try simp only [zP]
     refine tZ 10 26 ?_;have X:=I.c0;have tf:=I.f;refine cZ 11 ?_;intro K u;go_simp;obtain⟨_,_,_,_,G⟩:=Hd.out;refine u.out _ _ (E _ G.low G.ab.c0) (fun qh=> ?_);clear u K;try simp only [zP]
     refine zD ?_;clear qh M W O U J l3 A3 I h5 G X tf Hh p1 p2 D C B E q1 N Hg;go_wp2_with fail;go_roundw;case rel=>exact⟨j+1,Hf,by go_num,Hd⟩
     case measure=>simp [intOf];omega
    ·
     intro o H Hm K u;simp only [gZa,gZb,gZc,gZd] at H;subst H;go_simp;refine u.out _ _ (E _ U.low U.ab.c0) (fun qh=> ?_);clear u K;try simp only [zP]
     have X:=U.ob.c0;refine cZ 1 ?_;intro K u;go_simp;refine u.out _ _ (E _ U.low U.ab.c0) (fun qh=> ?_);clear u K;try simp only [zP]
     clear X;refine cZ 9 ?_;intro K u;refine QaX _ _ _ _ rfl J (by rfl) (by rfl) rfl ?_;refine u.out _ _ (E _ l3 A3.c0) (fun qh=> ?_);clear u K;try simp only [zP]
     refine tZ 10 26 ?_;have X:=I.c0;have tf:=I.f;refine cZ 11 ?_;intro K u;go_simp;obtain⟨_,_,_,_,G⟩:=Hd.out;refine u.out _ _ (E _ G.low G.ab.c0) (fun qh=> ?_);clear u K;try simp only [zP]
     refine zD ?_;clear qh M W O U J l3 A3 I h5 G X tf Hh p1 p2 D C B E q1 N Hg;go_wp2_with fail;go_roundw;case rel=>exact⟨j+1,Hf,by go_num,Hd⟩
     case measure=>simp [intOf];omega
  ·obtain rfl:j=S.l.length:=by omega
   have Hu:Qb3 wr x S.n S.R S.F S.T:=H4.below s.low;have Gb:=s.ob.lt;obtain⟨N,Hl,w5,J,Hx,Hb,Ho,Hz⟩:=QlO (d:=d) s.rn (by omega) H7 Hu;have O5:=s.ob.grw Hb (by omega);have R5:=s.rb.grw Hb (by omega);have b0:=O5.c0;have M:=O5.c1;have bf:=O5.f;have r0:=R5.c0;have r1:=R5.c1;have rf:=R5.f;rw [Hk.out] at b0;have Hj:Hid (∀b,b<wr.heap.size ->b≠w.heap.size+1+1+1 ->w5.heap[b]? =wr.heap[b]?):=hid (fun b h1 h2=>Hb.block b h1 (fun e=>h2 (by injection e)));have H1:=hid Hx;have H0:=hid Hb;have Hr:=hid (And.intro Ho Hz);have H5:Hid (wr.heap.size<=w5.heap.size):=hid Hb.size;clear Hx Hb Ho Hz O5 R5 Hu;go_wp2_with (at_builtin;refine Qaa rfl _ _ _ _ rfl J (by rfl) (by rfl) rfl ?_;clear J);have Gd:=H5.out;have Ho:=Hr.1;have Gc:=s.q1;have Ga:=(s.lc.lt q rfl).2;have Ha:∀(v0 v1 v2:Value) (b:Nat),b≠w.heap.size+1 ->b≠w.heap.size+1+1+1+1 ->(((w5.setCell ⟨w.heap.size+1+1+1+1,1,none⟩ v0).setCell ⟨w.heap.size+1,0,none⟩ v1).setCell ⟨w.heap.size+1,1,none⟩ v2).heap[b]? =w5.heap[b]? :=fun v0 v1 v2 b h1 h2=>by
    rw [zH _ _ _ _ (by simpa using h1),zH _ _ _ _ (by simpa using h1),zH _ _ _ _ (by simpa using h2)]
   have Hq:Below w.heap.size w w5:=s.low.grown H0.out s.low.size (fun k e=>by injection e with e;omega);have H8:S.l.take S.l.length=S.l:=by simp
   have V:CpS w wr (.slice a S.l.length c) (.slice x S.n d) q cap S.l P Q:=by have:=s.out;rw [H8] at this;exact this
   have Hi:∀i,i<S.l.length ->w.heap.size+5<=P i/\ P i<wr.heap.size:=fun i Y=>⟨V.pt i Y,(V.lc.pt i Y).2.1⟩;refine zF (v:=.agg #[.slice (some ⟨q,0,none⟩) S.l.length cap,.slice (some ⟨N,0,none⟩) S.n Hl]) (by simp [results,Tryz.results49,go_sem,r0,r1]) ⟨_,_,_,_,P,Q,rfl,?_,?_,V.sep,?_,by omega,fun i Y=>by have:=Hi i Y;omega,fun h0=> ?_,?_⟩
   ·refine⟨QaV (Qaq V.lc.row (fun b hb=> ?_)) (by omega),fun i Y=> ?_⟩
    ·have e:q=b:=by simpa [Value.ownBlock] using hb
     exact(Ha _ _ _ b (by omega) (by omega)).trans (Hj b (by omega) (by omega))
    ·obtain⟨e1,e2,e3,e4,e5⟩:=V.lc.pt i Y;have:=Hi i Y;exact⟨by omega,by simp [World.setCell];omega,e3,e4.same ((Ha _ _ _ _ (by omega) (by omega)).trans (Hj _ (by omega) (by omega))),e5⟩
   ·intro i Y;refine QaV (Qaq (V.ow i Y) (fun b hb=> ?_)) (by omega);have e:P i=b:=by simpa [Value.ownBlock] using hb
    have:=Hi i Y;exact(Ha _ _ _ b (by omega) (by omega)).trans (Hj b (by omega) (by omega))
   ·refine QaV (Qaq H1.out (fun b hb=> ?_)) (by omega);have e:N=b:=by simpa [Value.ownBlock] using hb
    exact Ha _ _ _ b (by omega) (by omega)
   ·have:=Hr.2 h0;exact⟨by omega,fun i Y=>by have:=Hi i Y;omega⟩
   ·exact((Hq.setCell (by simp;omega) _).setCell (by simp) _).setCell (by simp) _
end Go.Proofs.YtdeolligikjieaaGreatDoor
