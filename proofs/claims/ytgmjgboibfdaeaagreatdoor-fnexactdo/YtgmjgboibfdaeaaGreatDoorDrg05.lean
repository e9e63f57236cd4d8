import Derived.Test.YtgmjgboibfdaeaaGreatDoorDrg04
import Derived.Shelf.SlSortCmp.WholeK
import Derived.Lib.SlicesCompact
set_option linter.unusedVariables false
set_option linter.unusedSimpArgs false
set_option maxRecDepth 100000
set_option maxHeartbeats 40000000
namespace Go.Proofs.YtgmjgboibfdaeaaGreatDoor
open Go.ChangeShapes Go.WideShapes Go.ChangeAt Go.RowKit Go.Maps
variable {B b i k n:Nat}{F R T:Nat ->Int}{l:List Lf}{p q:List ByteArray}{s t:ByteArray}{v v0 v1 v2:Value}{w w':World}{x:Lf}{y:Ky}
noncomputable def Mk (l:List Lf):Nat ->List Ky ->Dt ->Option ByteArray
 | 0=>fun _ _=>none
 | k+1=>Qkf (Mk l k) (Qac (gL l k).p (kd (gL l k).fl)) ((gL l k).r,(gL l k).q) (gL l k).v
def Way (x:Lf):List Ky:=Qac x.p (kd x.fl)
theorem Qdp {l:List Lf}{p:List Ky}{d:Dt}:∀{k:Nat},Mk l k p d≠none↔∃j,j<k/\ Way (gL l j)=p/\ ((gL l j).r,(gL l j).q)=d
 | 0=>⟨fun h=>absurd rfl h,fun⟨j,m,_⟩=>by omega⟩
 | k+1=>by
  have y:=Qdp (l:=l) (p:=p) (d:=d) (k:=k);simp only [Mk];by_cases e:p=Qac (gL l k).p (kd (gL l k).fl)
  ·rw [e,QdL,<- e];by_cases u:d=((gL l k).r,(gL l k).q)
   ·rw [u,Qau];exact⟨fun _=>⟨k,by omega,e.symm,rfl⟩,fun _ h=>by cases h⟩
   ·rw [Qam _ _ u,y];constructor
    ·rintro⟨j,m,r⟩;exact⟨j,by omega,r⟩
    ·rintro⟨j,m,r1,r2⟩;by_cases v:j=k
     ·subst v;exact absurd r2.symm u
     ·exact⟨j,by omega,r1,r2⟩
  ·rw [Qce _ _ _ e,y];constructor
   ·rintro⟨j,m,r⟩;exact⟨j,by omega,r⟩
   ·rintro⟨j,m,r1,r2⟩;by_cases v:j=k
    ·subst v;exact absurd r1.symm e
    ·exact⟨j,by omega,r1,r2⟩
def NkI (l:List Lf)(k:Nat)(N:List Ky ->Option (Nat×Nat)):Prop:=∀z,(N z).isSome=true↔z=[] \/∃j,j<k/\ z <+:Way (gL l j)
theorem QiG (a:Option Addr)(c:Nat)(l:List Lf)(x:Option Addr)(n d:Nat)(R F T:Nat ->Int)(w:World)(hn:l.length<=1048576)(hp:LBd l)(hi:∀i,LfI (gL l i))(hm:n<=1048576)(h:QbD w a l)(h':Qa7 w x n R F T)(hok:QaT R F T n l):
  Cl 130 #[.agg #[.slice a l.length c,.slice x n d]] w fun e w'=>(∃j D G,e=.returned (.tuple #[.map (some j),.bool true])/\ Qaz w' j n D G (Lk R F T n)/\ w.heap.size<=j)/\ Bl w w':=by
 obtain⟨W,k⟩:=zE (w.alloc (.cells #[.slice a l.length c,.slice x n d] 40));have m:Bl w W:=by rw [<- k];exact zO _ _
 have A:w.heap.size<W.heap.size:=by rw [<- k];simp
 have k0:W.cell? ⟨w.heap.size,0,none⟩=some (.slice a l.length c):=by rw [<- k];simp
 have J:W.cell? ⟨w.heap.size,1,none⟩=some (.slice x n d):=by rw [<- k];simp
 have U:=hid (h.bw m);have Y:=hid (h'.bw m);have E:=hid m;clear h h' m;have v:=hok.1;have z:=Qax.1 v;have o:=hid (QmY x n d R F T W hm Y v);have Z:Hid (∀r,Srt (Lk R F T n r)):=hid (fun r=>(Qcg n z.1 r).1);have V:Hid (∀r,(Lk R F T n r).length<=1000000):=hid (fun r=>by have:=Qbo R F T n r;have:=z.2;omega);have t:Hid (yes (Qmg R F T n l)=true):=hid (Qah ⟨hok.2.1,hok.2.2.1,hok.2.2.2⟩);have b:=hid A;clear z v hok;go_enter Tryz.func130,Tryz.ntmps130;go_wp2_with fail;try rw [k]
 clear k;refine o.mono ?_;rintro e w1 ⟨j,D,G,rfl,y,s,q⟩;have K:=(q.cell (p:=⟨w.heap.size,0,none⟩) b).trans k0;have g:=hid (QgU a c l j n D G R F T w1 hn hp hi (U.bw q) y Z V);have H:=hid (Qaa E q);have Q:=hid y;have M:=hid s;clear q o k0 J y s A;go_wp2_with fail;refine g.mono ?_;rintro e L ⟨rfl,u⟩;have I:=hid (Qaa H u);have O:=hid (Q.bw u);rw [t.out];clear u g t;go_wp2_with fail;go_ret2;exact⟨⟨j,D,G,rfl,O,Nat.le_trans (Nat.le_of_lt b) M⟩,I⟩
structure Bx3 (w:World)(b:Nat)(v0 v1 v2:Value):Prop where
 c0:w.cell? ⟨b,0,none⟩=some v0
 c1:w.cell? ⟨b,1,none⟩=some v1
 c2:w.cell? ⟨b,2,none⟩=some v2
 f:∀i,w.frozen? ⟨b,i,none⟩=false
 lt:b<w.heap.size
theorem Bx3.q2(h:Bx3 w b v0 v1 v2):w.cell? ⟨b,0,none⟩=some v0/\ w.cell? ⟨b,1,none⟩=some v1:=⟨h.c0,h.c1⟩
theorem Bx3.p2(h:Bx3 w b v0 v1 v2):w.cell? ⟨b,0,none⟩=some v0/\ w.cell? ⟨b,1,none⟩=some v1/\ ∀i,w.frozen? ⟨b,i,none⟩=false:=⟨h.c0,h.c1,h.f⟩
theorem Bx3.q3(h:Bx3 w b v0 v1 v2):w.cell? ⟨b,0,none⟩=some v0/\ w.cell? ⟨b,1,none⟩=some v1/\ w.cell? ⟨b,2,none⟩=some v2:=⟨h.c0,h.c1,h.c2⟩
theorem Bx3.p3(h:Bx3 w b v0 v1 v2):w.cell? ⟨b,0,none⟩=some v0/\ w.cell? ⟨b,1,none⟩=some v1/\ w.cell? ⟨b,2,none⟩=some v2/\ ∀i,w.frozen? ⟨b,i,none⟩=false:=⟨h.c0,h.c1,h.c2,h.f⟩
theorem Bx3.bw(h:Bx3 w b v0 v1 v2)(hb:Below B w w')(hB:b<B):Bx3 w' b v0 v1 v2:=
 ⟨(hb.cell (p:=⟨b,0,none⟩) hB).trans h.c0,(hb.cell (p:=⟨b,1,none⟩) hB).trans h.c1,(hb.cell (p:=⟨b,2,none⟩) hB).trans h.c2,fun i=>(hb.frozen (p:=⟨b,i,none⟩) hB).trans (h.f i),Nat.lt_of_lt_of_le h.lt hb.size⟩
theorem Bx3.gt(h:Bx3 w b v0 v1 v2)(hg:Gt B w w'):Bx3 w' b v0 v1 v2:=
 ⟨hg.cell h.c0,hg.cell h.c1,hg.cell h.c2,fun i=>(hg.frozen (q:=⟨b,i,none⟩) h.c0 rfl).trans (h.f i),Nat.lt_of_lt_of_le h.lt hg.size⟩
theorem Bx3.made (w:World)(v0 v1 v2:Value)(t:TypeId):Bx3 (w.alloc (.cells #[v0,v1,v2] t)) w.heap.size v0 v1 v2:=⟨by simp,by simp,by simp,fun i=>by simp,by simp⟩
theorem Bx3.set0(h:Bx3 w b v0 v1 v2)(u:Value):Bx3 (w.setCell ⟨b,0,none⟩ u) b u v1 v2:=
 ⟨World.cell?_setCell_same _ _ _ h.c0,by simp [World.cell?_setCell_other,h.c1],by simp [World.cell?_setCell_other,h.c2],fun i=>by rw [World.frozen?_setCell];exact h.f i,by simp [World.setCell];exact h.lt⟩
theorem Bx3.set1(h:Bx3 w b v0 v1 v2)(u:Value):Bx3 (w.setCell ⟨b,1,none⟩ u) b v0 u v2:=
 ⟨by simp [World.cell?_setCell_other,h.c0],World.cell?_setCell_same _ _ _ h.c1,by simp [World.cell?_setCell_other,h.c2],fun i=>by rw [World.frozen?_setCell];exact h.f i,by simp [World.setCell];exact h.lt⟩
theorem Bx3.set2(h:Bx3 w b v0 v1 v2)(u:Value):Bx3 (w.setCell ⟨b,2,none⟩ u) b v0 v1 u:=
 ⟨by simp [World.cell?_setCell_other,h.c0],by simp [World.cell?_setCell_other,h.c1],World.cell?_setCell_same _ _ _ h.c2,fun i=>by rw [World.frozen?_setCell];exact h.f i,by simp [World.setCell];exact h.lt⟩
theorem Bx3.set(h:Bx3 w b v0 v1 v2)(u0 u1 u2:Value):Bx3 (((w.setCell ⟨b,0,none⟩ u0).setCell ⟨b,1,none⟩ u1).setCell ⟨b,2,none⟩ u2) b u0 u1 u2:=((h.set0 u0).set1 u1).set2 u2
theorem NkI.step{N N':List Ky ->Option (Nat×Nat)}(h:NkI l k N)(h':∀z,(N' z).isSome=true↔(N z).isSome=true \/z <+:Way (gL l k)):NkI l (k+1) N':=fun z=>by
 rw [h' z,h z];constructor
 ·rintro((e|⟨j,q,e⟩)|e)
  ·exact .inl e
  ·exact .inr ⟨j,by omega,e⟩
  ·exact .inr ⟨k,by omega,e⟩
 ·rintro(e|⟨j,q,e⟩)
  ·exact .inl (.inl e)
  ·by_cases m:j=k
   ·subst m;exact .inr e
   ·exact .inl (.inr ⟨j,by omega,e⟩)
theorem QnG (fl:Bool):(Lit.int .i64 (kd fl)).wf=true:=by cases fl<;>decide
theorem Qd9 (a:Option Addr)(c:Nat)(l:List Lf)(x:Option Addr)(n d:Nat)(R F T:Nat ->Int)(w:World)(hn:l.length<=1048576)(hp:LBd l)(hi:∀i,LfI (gL l i))(hm:n<=1048576)(h:QbD w a l)(h':Qa7 w x n R F T)(hok:¬QaT R F T n l):
  Cl 106 #[.agg #[.slice a l.length c,.slice x n d]] w (Rt w (.tuple #[.agg #[.map none,.map none,.map none],.bool false])):=by
 obtain⟨W,k⟩:=zE ((w.alloc (.cells #[.slice a l.length c,.slice x n d] 40)).alloc (.cells #[.map none,.map none,.map none] 160));have m:Bl w W:=by rw [<- k];exact Qae _ _ _
 have u:Bx3 W (w.heap.size+1) (.map none) (.map none) (.map none):=by rw [<- k];simpa using Bx3.made (w.alloc (.cells #[.slice a l.length c,.slice x n d] 40)) (.map none) (.map none) (.map none) 160
 have k0:W.cell? ⟨w.heap.size,0,none⟩=some (.slice a l.length c):=by rw [<- k];simp
 have o:W.cell? ⟨w.heap.size,1,none⟩=some (.slice x n d):=by rw [<- k];simp
 have q:=hid (QiF a c l x n d R F T W hn hp hi hm (h.bw m) (h'.bw m));have z:=hid m;have y:=hid u;rw [Qaf hok] at q;clear h h' m u;go_enter Tryz.func106,Tryz.ntmps106;go_wp2_with fail;try rw [k]
 clear k;refine q.mono ?_;rintro e w1 ⟨⟨M,rfl⟩,r⟩;have j:=y.bw r y.lt;obtain⟨p,s,A⟩:=j.q3;have E:=j.f 0;have O:=j.f 1;have Q:=j.f 2;have t:=hid (Qaa z r);have g:=hid (j.set (.map none) (.map none) (.map none));clear r q k0 o j;go_wp2_with fail;obtain⟨b,r1,r2⟩:=g.q3;refine zF (v:=.tuple #[.agg #[.map none,.map none,.map none],.bool false]) (by simp [results,Tryz.results106,go_sem,b,r1,r2]) ⟨rfl,?_⟩;exact((t.setCell (by simp) _).setCell (by simp) _).setCell (by simp) _
theorem Qaz.set{bm:Nat}{D:DataW Value}{G:Int ->Value}{L:Int ->List (Int×Int)}(h:Qaz w bm n D G L)(q:Addr)(u:Value)(hq:q.block<bm):Qaz (w.setCell q u) bm n D G L:=by
 have j:w.grownBy (w.setCell q u) (some q.block):=⟨rfl,rfl,rfl,by simp [World.setCell],fun k _ hk=>zH _ _ _ _ (fun e=>hk (by rw [e]))⟩;refine⟨h.own.kept j (fun e=>by injection e with e;omega),h.at',h.has',fun r=>(h.rows r).kept j ?_,h.apart⟩;cases e:(G r).ownBlock with
 | none=>exact .inl rfl
 | some g=>exact .inr (fun e2=>by have:=((h.rows r).lt g e).1;injection e2 with e2;omega)
theorem Qej (a:Option Addr)(c:Nat)(l:List Lf)(x:Option Addr)(n d:Nat)(R F T:Nat ->Int)(w:World)(hn:l.length<=1048576)(hp:LBd l)(hi:∀i,LfI (gL l i))(hm:n<=1048576)(h:QbD w a l)(h':Qa7 w x n R F T)(hok:QaT R F T n l):
  Cl 106 #[.agg #[.slice a l.length c,.slice x n d]] w fun e w'=>(∃x0 g D G N B,e=.returned (.tuple #[.agg #[.map (some x0.1),.map (some x0.2),.map (some g)],.bool true])/\ Qaz w' g n D G (Lk R F T n)/\ w.heap.size<=g/\ w.heap.size<=B/\ g<B/\ Tre w' B N (Mk l l.length) (9*l.length)/\ N []=some x0/\ NkI l l.length N)/\ Bl w w':=by
 obtain⟨W,V⟩:=zE ((w.alloc (.cells #[.slice a l.length c,.slice x n d] 40)).alloc (.cells #[.map none,.map none,.map none] 160));have X:Bl w W:=by rw [<- V];exact Qae _ _ _
 have B0:Bx3 W (w.heap.size+1) (.map none) (.map none) (.map none):=by rw [<- V];simpa using Bx3.made (w.alloc (.cells #[.slice a l.length c,.slice x n d] 40)) (.map none) (.map none) (.map none) 160
 have k0:W.cell? ⟨w.heap.size,0,none⟩=some (.slice a l.length c):=by rw [<- V];simp
 have k1:W.cell? ⟨w.heap.size,1,none⟩=some (.slice x n d):=by rw [<- V];simp
 have HO:=hid (QiG a c l x n d R F T W hn hp hi hm (h.bw X) (h'.bw X) hok);have Hx:=hid X;have I:=hid B0;have H3:=hid hok;have HL:=hid (h.bw X);have Ga:=hok.2.1;clear h h' X B0 hok;go_enter Tryz.func106,Tryz.ntmps106;go_wp2_with fail;try rw [V]
 clear V;refine HO.mono ?_;rintro e w1 ⟨⟨g,D,G,rfl,Hb,H9⟩,C⟩;have B1:=I.bw C I.lt;have H:=hid B1;have HZ:=hid (Qaa Hx C);have k2:=(C.cell (p:=⟨w.heap.size,0,none⟩) (show w.heap.size<W.heap.size by have:=I.lt;omega)).trans k0;have Hm:=hid (HL.bw C);have Hl:=hid Hb;have Hc:=hid (show w.heap.size+1<g from by have:=I.lt;omega);clear C HO k0 k1 B1 Hb H9 HL I;go_wp2_with fail;refine(Qd7 w1).mono ?_;rintro e Z ⟨m,u,rfl,Hw,Hu,Hv,m1,m2,b2⟩;obtain⟨M,Y⟩:=zE (Z.alloc (.cells #[.map (some m),.map (some u)] 156));have Q:Bl w1 M:=by rw [<- Y];exact b2.alloc b2.size _
 have NB:Bx2 M Z.heap.size (.map (some m)) (.map (some u)):=by rw [<- Y];exact Bx2.made _ _ _ _
 have Hn:=hid NB;have T0:Tre M w1.heap.size (fun z=>if z=[] then some (m,u) else none) (Mk l 0) 0:=by
  have e1:M.heap[m]? =Z.heap[m]? :=by rw [<- Y];exact Below.heap_alloc _ _ _ m1.lt
  have e2:M.heap[u]? =Z.heap[u]? :=by rw [<- Y];exact Below.heap_alloc _ _ _ m2.lt
  refine⟨fun p x hx=> ?_,fun p x hx=> ?_,fun p q x y hx A=> ?_,fun p x hx=> ?_,fun p hp=>rfl,fun p y hp=>by simp⟩
  ·split at hx
   ·injection hx with hx;subst hx;exact(m1.same e1).ext (fun y=>by simp)
   ·cases hx
  ·split at hx
   ·injection hx with hx;subst hx;exact m2.same e2
   ·cases hx
  ·split at hx
   ·rename_i ep;split at A
    ·rename_i eq;injection hx with hx;injection A with A;subst hx;subst A;exact⟨Hw,fun _=>by rw [ep,eq],fun _=>by rw [ep,eq]⟩
    ·cases A
   ·cases hx
  ·split at hx
   ·injection hx with hx;subst hx;exact⟨Hu,Hv⟩
   ·cases hx
 have Hp:=hid T0;have He:=hid (H.bw Q H.lt);have H6:=hid (Qaa HZ Q);have k3:=(Q.cell (p:=⟨w.heap.size,0,none⟩) (show w.heap.size<w1.heap.size by have:=H.lt;omega)).trans k2;have H1:=hid (Hm.bw Q);have H8:=hid Q;have O:=hid (show w.heap.size<=w1.heap.size/\ w.heap.size+1<w1.heap.size/\ g<w1.heap.size/\ w1.heap.size<=M.heap.size from⟨HZ.size,H.lt,Hl.own.lt,Q.size⟩);clear m1 m2 b2 Q NB T0 Hw Hu Hv H Hm k2;go_wp2_with fail;try rw [Y]
 clear Y k3;go_loopw [21] (fun i wr=>∃k:Nat,k<=l.length/\ i=.int .i64 k/\ Hid (Gt w1.heap.size M wr)/\ (∃N,Hid (Tre wr w1.heap.size N (Mk l k) (9*k))/\ Hid (N []=some (m,u))/\ Hid (NkI l k N))) (fun i _=>l.length - (intOf i).toNat);case atStart=>
  refine⟨0,Nat.zero_le _,rfl,hid (Gt.refl _ _),_,Hp,hid (if_pos rfl),hid (fun z=> ?_)⟩;show ((if z=[] then some (m,u) else none:Option (Nat×Nat)).isSome=true↔_);by_cases e:z=[]
  ·rw [if_pos e];exact⟨fun _=> .inl e,fun _=>rfl⟩
  ·rw [if_neg e];exact⟨fun h=>by simp at h,fun h=>by rcases h with h|⟨j,hj,_⟩;exact absurd h e;omega⟩
 case round=>
  clear Hp;obtain⟨k,hk,rfl,o,N,HT,HN,HI⟩:=hrel;by_cases Hj:k<l.length
  ·rcases (H1.gt o.out) with h|⟨b,Gc,rfl,hb,hc⟩
   ·omega
   obtain⟨pa,pc,x0,s,x1,x2,x3,x4⟩:=hc k Hj;have Hi:=H3.2.2.1 k Hj;have Hd:=hi k;have Hk:=hp k;have i1:(0:Int)<=(k:Int):=Int.natCast_nonneg _;have i2:(k:Int)<(l.length:Int):=by omega
   obtain⟨y,A⟩:=zE (gL l k);rw [A] at s x0 x1 x2 x3 x4 Hk Hd Hi;have HS:=hid s;have HE:=hid A;obtain⟨p,fl,r,q,v⟩:=y;dsimp only [LfI] at HS x0 x1 x2 x3 x4 Hk Hd;have Ho:=hid Hi.1.1;have Ha:=hid (Hn.gt o);clear hc s A Hi;obtain⟨L,Ht⟩:=zE (wr.alloc (.cells #[.slice pa p.length pc,.bool fl,.int .i64 r,.int .i64 q,.string v] 106));have P:Bl wr L:=by rw [<- Ht];exact zO _ _
   have t:Bx5 L wr.heap.size (.slice pa p.length pc) (.bool fl) (.int .i64 r) (.int .i64 q) (.string v):=by rw [<- Ht];exact⟨by simp,by simp,by simp,by simp,by simp,fun i=>by simp,by simp⟩
   have J:=Ha.bw P Ha.lt;obtain⟨y0,y1,y2,y3,y4⟩:=t.q5;obtain⟨n0,n1⟩:=J.q2;have H4:=hid (HS.bw P);have Hq:=hid (HT.bw P);have Hg:=hid (o.keep P);clear P t J HS HT o Ha;go_wp2_with fail;have Hf:Hid (∀w',Gt w1.heap.size L w' ->(Gt w1.heap.size L w'/\ w'.cell? ⟨Z.heap.size,0,none⟩=some (.map (some m))/\ w'.cell? ⟨Z.heap.size,1,none⟩=some (.map (some u))/\ w'.cell? ⟨wr.heap.size,0,none⟩=some (.slice pa p.length pc)/\ w'.cell? ⟨wr.heap.size,1,none⟩=some (.bool fl)/\ w'.cell? ⟨wr.heap.size,2,none⟩=some (.int .i64 r)/\ w'.cell? ⟨wr.heap.size,3,none⟩=some (.int .i64 q)/\ w'.cell? ⟨wr.heap.size,4,none⟩=some (.string v))):=hid (fun w' hB=>⟨hB,hB.cell n0,hB.cell n1,hB.cell y0,hB.cell y1,hB.cell y2,hB.cell y3,hB.cell y4⟩);refine zA Hf (Gt.of_below zI.drew) (fun qh=> ?_);refine tZ 0 25 ?_;refine tZ 1 26 ?_;refine tZ 2 27 ?_;refine tZ 3 28 ?_;refine tZ 5 30 ?_;refine tZ 6 31 ?_;refine tZ 7 32 ?_;refine tZ 8 33 ?_;refine tZ 9 34 ?_;refine cZ 4 ?_;intro K S;go_simp;refine(QeB _ fl _ _ _ _).mono ?_;rintro e w5 ⟨rfl,U⟩;have E:Bl L w5:=⟨U.os,U.tape,U.output,U.size,U.block⟩;refine S.out _ _ (Hf _ (Gt.of_below E)) (fun qh=> ?_);clear S K;try simp only [zP]
   refine cZ 10 ?_;intro K S;go_simp;refine(Qof 0 p pa pc (kd fl) r q v w1.heap.size (9*k) N (Mk l k) (m,u) w5 Hk (fun i=> ?_) (QnG fl) Hd.1 Hd.2 (by omega) ?_ (H4.bw E) (Hq.bw E) HN ?_ (fun z x hz=> ?_)).mono ?_
   ·by_cases hi':i<p.length
    ·have:=(Ho.2.2 i hi').2;omega
    ·rw [Qdx (by omega)];simp
   ·have h1:=O.2.2.2;have h2:=Hg.size;have h3:=E.size;omega
   ·have h1:=O.out;have h2:=Hg.size;have h3:=E.size;omega
   ·have h1:=Hq.lo z x hz;have h2:=O.2.1;exact⟨by omega,by omega⟩
   rintro e w6 ⟨rfl,g6,_,N',T6,Hs,Hr⟩;have Hy:=hid ((Hg.keep E).trans g6);have H5:=hid T6;have H0:=hid Hr;have H2:=hid Hs;refine S.out _ _ (Hf _ ((Gt.of_below E).trans g6)) (fun qh=> ?_);clear S K;try simp only [zP]
   refine zD ?_;clear qh U E g6 T6 Hs Hr;go_wp2_with fail;go_roundw;case rel=>
    have Gb:=Ho.2.1;refine⟨k+1,Hj,by go_num,Hy,N',hid ?_,H2,hid (HI.step ?_)⟩
    ·have e:Mk l (k+1)=Qkf (Mk l k) (Qac p (kd fl)) (r,q) v:=by simp only [Mk];rw [HE.out]
     rw [e];exact H5.mono (by omega)
    ·rw [HE.out];exact H0
   case measure=>simp [intOf];omega
  ·obtain rfl:k=l.length:=by omega
   have J:=Hn.gt o;obtain⟨n0,n1⟩:=J.q2;have t:=He.gt o;obtain⟨c0,c1,c2⟩:=t.q3;have f0:=t.f 0;have f1:=t.f 1;have f2:=t.f 2;have HC:=hid (t.set (.map (some m)) (.map (some u)) (.map (some g)));have Hh:Below w1.heap.size M wr:=o.bw O.2.2.2;have Hz:=hid (Hl.bw (H8.trans Hh));have H7:=hid (H6.trans (Hh.mono O.1));clear J t Hh;go_wp2_with fail;obtain⟨r0,r1,r2⟩:=HC.q3;refine zF (v:=.tuple #[.agg #[.map (some m),.map (some u),.map (some g)],.bool true]) (by simp [results,Tryz.results106,go_sem,r0,r1,r2]) ⟨⟨(m,u),g,D,G,N,w1.heap.size,rfl,?_,by have:=Hc.out;omega,O.1,O.2.2.1,?_,HN,HI⟩,?_⟩
   ·exact((Hz.set _ _ Hc.out).set _ _ Hc.out).set _ _ Hc.out
   ·exact((HT.set _ c0).set _ (He.gt o.out|>.set0 _).c1).set _ ((He.gt o.out|>.set0 _).set1 _).c2
   ·exact((H7.setCell (by simp) _).setCell (by simp) _).setCell (by simp) _
theorem Qa0 {P:Program}{ops:Array Oper}{Q:Exit ->Act ->World ->Prop}{md:Region.Mode}{S:World ->Prop}{j:Nat}{d d':Option Tmp}{fuel:Nat}{listed:Array Bool}{a:Act}
  (hd:ops[i]?.map (fun o=>o.dst)=some d) (hd':ops[j]?.map (fun o=>o.dst)=some d') (hr:Region.ready md ops listed=[i,j])
  (h:∀o,ops[i]? =some o ->o.dst=d ->∀K':Act ->World ->Prop,Shut (∀a w,S w ->(S w ->wpAnyH P md ops Q S fuel (listed.setIfInBounds i true) a w) ->K' a w) ->if Region.wanted o (yielded ops a.tmps)=true then Oper.wp P o a w K' Q else K' (a.put o.dst undef) w)
  (h':∀o,ops[j]? =some o ->o.dst=d' ->∀K':Act ->World ->Prop,Shut (∀a w,S w ->(S w ->wpAnyH P md ops Q S fuel (listed.setIfInBounds j true) a w) ->K' a w) ->if Region.wanted o (yielded ops a.tmps)=true then Oper.wp P o a w K' Q else K' (a.put o.dst undef) w):
  wpAnyH P md ops Q S (fuel+1) listed a w:=by
 obtain⟨o,k,q⟩:=Option.map_eq_some_iff.1 hd;obtain⟨u,m,r⟩:=Option.map_eq_some_iff.1 hd';exact wpAnyH_ready hr (by simp) (AllReadyH.cons k (h o k q) (AllReadyH.cons m (h' u m r) AllReadyH.nil))
def mF (o:Option (Nat×Nat)):Option Nat:=o.map Prod.fst
def mS (o:Option (Nat×Nat)):Option Nat:=o.map Prod.snd
theorem QlD (o:Option (Nat×Nat)):QaQ o=.agg #[.map (mF o),.map (mS o)]:=by cases o<;>rfl
theorem Tre.look{c:Nat}{N:List Ky ->Option (Nat×Nat)}{M:List Ky ->Dt ->Option ByteArray}(h:Tre w B N M c)(p:List Ky)(y:Ky){kl:Lit}(hk:keyOf Tryz.prog 208 (Qa5 y)=some kl):
  (Instr.lookup 153 (.map (mF (N p))) (Qa5 y) false).run Tryz.prog w=.ok (.agg #[.map (mF (N (p++[y]))),.map (mS (N (p++[y])))]) w:=by
 rw [<- QlD];cases e:N p with
 | some x=>exact(h.kids p x e).look Qas Tryz.underlying153 (Qdo w) hk
 | none=>
  rw [h.up p y e];exact Maps.look_nil false Qas Tryz.underlying153 (Qdo w) hk
theorem atC (p:List ByteArray)(a:Option Addr)(cp:Nat)(k:Int)(B c:Nat)(N:List Ky ->Option (Nat×Nat))(M:List Ky ->Dt ->Option ByteArray)(w:World)
  (hp:p.length<=1048576) (hs:∀i,(gS p i).size<=1048576) (hk:(Lit.int .i64 k).wf=true) (h:Qaw w a p) (hT:Tre w B N M c):
  Cl 147 #[.agg #[.map (mF (N [])),.map (mS (N []))],.slice a p.length cp,.int .i64 k] w (Rt w (.agg #[.map (mF (N (Qac p k))),.map (mS (N (Qac p k)))])):=by
 obtain⟨J,T⟩:=zE (mF (N []));obtain⟨L,Ha⟩:=zE (mS (N []));rw [T,Ha];obtain⟨W,O⟩:=zE ((w.alloc (.cells #[.map J,.map L] 156)).alloc (.cells #[.map none,.map none] 156));have b0:Bl w W:=by rw [<- O];exact Qae _ _ _
 have P0:Bx2 W w.heap.size (.map J) (.map L):=by rw [<- O];exact(Bx2.made w _ _ _).allocs _
 have P1:Bx2 W (w.heap.size+1) (.map none) (.map none):=by rw [<- O];simpa using Bx2.made (w.alloc (.cells #[.map J,.map L] 156)) (.map none) (.map none) 156
 have HS:=hid h;have Hd:=hid P0;have He:=hid P1;have HT:=hid hT;have Hc:=hid b0;have z:=hid (And.intro T Ha);have Hs:=hid hs;clear h hT b0 P0 P1 hs T Ha;go_enter Tryz.func147,Tryz.ntmps147;go_wp2_with fail;try rw [O]
 clear O;go_loopw [10] (fun i wr=>∃j:Nat,j<=p.length/\ i=.int .i64 j/\ Hid (Bl w wr)/\ (∃u v,Hid (mF (N ((Qac p k).take j))=u/\ mS (N ((Qac p k).take j))=v)/\ Hid (Bx2 wr w.heap.size (.map u) (.map v))/\ Hid (Bx2 wr (w.heap.size+1) (.map none) (.map none)))) (fun i _=>p.length - (intOf i).toNat);case atStart=>exact⟨0,Nat.zero_le _,rfl,Hc,J,L,hid (by simpa using z.out),Hd,He⟩
 case round=>
  clear Hd He Hc z;obtain⟨j,hj,rfl,r,u,v,z,g,y⟩:=hrel;by_cases I:j<p.length
  ·have i1:(0:Int)<=(j:Int):=Int.natCast_nonneg _;have i2:(j:Int)<(p.length:Int):=by omega
   obtain⟨nm,b,A⟩:∃nm b,Qar p k j=(nm,b):=⟨_,_,rfl⟩;obtain⟨kl,Hg⟩:∃kl,keyOf Tryz.prog 208 (Qa5 (nm,b))=some kl:=by
    unfold Qar at A;have e1:=(Prod.mk.inj A).1;have e2:=(Prod.mk.inj A).2;refine QgN ?_ ?_
    ·rw [<- e1];have:=Hs j;unfold maxLen;omega
    ·rw [<- e2];split
     ·decide
     ·exact hk
   have Hh:(Qac p k).take (j+1)=(Qac p k).take j++[(nm,b)]:=by rw [Qcf I];have:=A;unfold Qar at this;rw [this]
   have G:Hid (∀w1,Bl wr w1 ->Cl 153 #[.slice a p.length cp,.int .i64 j,.int .i64 k] w1 (Rt w1 (.agg #[.string nm,.int .i64 b]))):=hid (fun w1 m=>by
    have:=QgO p a cp k j w1 hp I (HS.bw (r.trans (m.mono r.size)));rw [A] at this;exact this)
   obtain⟨s,R⟩:=zE (mF (N ((Qac p k).take (j+1))));obtain⟨v',Hb⟩:=zE (mS (N ((Qac p k).take (j+1))));have Hf:=hid (And.intro R Hb);have H:Hid (∀w1,Bl wr w1 ->(Instr.lookup 153 (.map u) (.agg #[.string nm,.int .i64 b]) false).run Tryz.prog w1=.ok (.agg #[.map s,.map v']) w1):=hid (fun w1 m=>by
    have:=(HT.bw (r.trans (m.mono r.size))).look ((Qac p k).take j) (nm,b) Hg;rw [<- Hh,R,Hb,z.1] at this;exact this)
   have n0:=g.c0;have zb:=g.lt;have E:Hid (∀w1,Bl wr w1 ->w1.cell? ⟨w.heap.size,0,none⟩=some (.map u)/\ w1.cell? ⟨w.heap.size,1,none⟩=some (.map v)/\ w1.frozen? ⟨w.heap.size,0,none⟩=false/\ w1.frozen? ⟨w.heap.size,1,none⟩=false/\ Bl w ((w1.setCell ⟨w.heap.size,0,none⟩ (.map s)).setCell ⟨w.heap.size,1,none⟩ (.map v'))/\ Bx2 ((w1.setCell ⟨w.heap.size,0,none⟩ (.map s)).setCell ⟨w.heap.size,1,none⟩ (.map v')) w.heap.size (.map s) (.map v')/\ Bx2 ((w1.setCell ⟨w.heap.size,0,none⟩ (.map s)).setCell ⟨w.heap.size,1,none⟩ (.map v')) (w.heap.size+1) (.map none) (.map none)):=hid (fun w1 m=>by
    have P:=g.bw m g.lt;exact⟨P.c0,P.c1,P.f 0,P.f 1,((r.trans (m.mono r.size)).setCell (p:=⟨w.heap.size,0,none⟩) zL _).setCell (p:=⟨w.heap.size,1,none⟩) zL _,P.set _ _,((y.bw m y.lt).setAt _ _ (by simp)).setAt _ _ (by simp)⟩)
   clear A Hg Hh R Hb r g y z;go_wp2_with fail;refine zR (S:=fun w'=>True) trivial (fun qh=> ?_);refine tZ 0 13 ?_;refine tZ 2 15 ?_;refine tZ 3 16 ?_;refine tZ 4 17 ?_;refine Qa0 (i:=1) (j:=5) (d:=some 14) (d':=some 18) (by kernel_rfl) (by kernel_rfl) (by kernel_rfl) ?_ ?_
   ·
    intro o Q Hj K q;simp only [gZa,gZb,gZc,gZd] at Q;subst Q;go_simp;refine q.out _ _ trivial (fun qh=> ?_);clear q K;try simp only [zP]
    refine cZ 5 ?_;intro K q;go_simp;refine(G _ zI.drew).mono ?_;rintro e w1 ⟨rfl,m⟩;refine q.out _ _ trivial (fun qh=> ?_);clear q K;try simp only [zP]
    have t:Bl wr w1:=⟨m.os,m.tape,m.output,m.size,m.block⟩;have F:=H _ t;refine cZ 6 ?_;intro K q;go_simp;refine q.out _ _ trivial (fun qh=> ?_);clear q K;try simp only [zP]
    clear F;obtain⟨U,t1,t2,t3,V,Y,Z⟩:=E _ t;have X:=hid V;have C:=hid Y;have D:=hid Z;clear V Y Z;refine cZ 7 ?_;intro K q;go_simp;refine q.out _ _ trivial (fun qh=> ?_);clear q K;try simp only [zP]
    refine zD ?_;clear qh m t U t1 t2 t3 E H G;go_wp2_with fail;go_roundw;case rel=>exact⟨j+1,I,by go_num,X,s,v',Hf,C,D⟩
    case measure=>simp [intOf];omega
   ·
    intro o Q Hj K q;simp only [gZa,gZb,gZc,gZd] at Q;subst Q;go_simp;refine(G _ zI.drew).mono ?_;rintro e w1 ⟨rfl,m⟩;refine q.out _ _ trivial (fun qh=> ?_);clear q K;try simp only [zP]
    have U:=(E _ ⟨m.os,m.tape,m.output,m.size,m.block⟩).1;refine cZ 1 ?_;intro K q;go_simp;refine q.out _ _ trivial (fun qh=> ?_);clear q K;try simp only [zP]
    clear U;have t:Bl wr w1:=⟨m.os,m.tape,m.output,m.size,m.block⟩;have F:=H _ t;refine cZ 6 ?_;intro K q;go_simp;refine q.out _ _ trivial (fun qh=> ?_);clear q K;try simp only [zP]
    clear F;obtain⟨U,t1,t2,t3,V,Y,Z⟩:=E _ t;have X:=hid V;have C:=hid Y;have D:=hid Z;clear V Y Z;refine cZ 7 ?_;intro K q;go_simp;refine q.out _ _ trivial (fun qh=> ?_);clear q K;try simp only [zP]
    refine zD ?_;clear qh m t U t1 t2 t3 E H G;go_wp2_with fail;go_roundw;case rel=>exact⟨j+1,I,by go_num,X,s,v',Hf,C,D⟩
    case measure=>simp [intOf];omega
  ·obtain rfl:j=p.length:=by omega
   have Hi:(Qac p k).take p.length=Qac p k:=List.take_of_length_le (by rw [Qav];exact Nat.le_refl _);rw [Hi] at z;obtain⟨c0,c1⟩:=g.q2;obtain⟨d0,d1⟩:=y.q2;have f0:=y.f 0;have f1:=y.f 1;have HX:=hid (y.set (.map u) (.map v));clear Hi g y;go_wp2_with fail;obtain⟨r0,r1⟩:=HX.q2;refine zF (v:=.agg #[.map u,.map v]) (by simp [results,Tryz.results147,go_sem,r0,r1]) ⟨by rw [z.1,z.2],?_⟩;exact(r.setCell (by simp) _).setCell (by simp) _
theorem Qbd(h:s.toList=t.toList):s=t:=by
 rw [ByteArray.toList_eq,ByteArray.toList_eq] at h;exact bytes_inj h
theorem Qd5:∀l:List UInt8,Op.bytesLess l l=false
 | []=>rfl
 | a::l=>by simp [Op.bytesLess,Qd5 l]
theorem QbJ:QbI s t=0↔s=t:=by
 unfold QbI ltS eqS;constructor
 ·intro h;split at h
  ·cases h
  ·split at h
   ·rename_i e;exact Qbd (by simpa using e)
   ·cases h
 ·rintro rfl;rw [if_neg (by rw [Qd5];simp),if_pos (by simp)]
theorem Qds:∀{p q:List ByteArray},QaD p q=0↔p=q
 | [],[]=>by simp [QaD]
 | [],_::_=>by simp [QaD]
 | _::_,[]=>by simp [QaD]
 | s::p,t::q=>by
  simp only [QaD];by_cases e:QbI s t=0
  ·rw [if_pos e,Qds];have:=QbJ.1 e;subst this;simp
  ·rw [if_neg e];exact⟨fun h=>absurd h e,fun h=>by injection h with h1 h2;exact absurd (QbJ.2 h1) e⟩
open Go.Sort Go.Lib Go.Shelf
structure QaX {α:Type}(f:α ->α ->Int):Prop where
 z:∀x y,f x y=0↔x=y
 neg:∀x y,f x y<0↔0<f y x
 tr:∀x y z,f x y<0 ->f y z<0 ->f x z<0
theorem QaX.irr {α:Type}{f:α ->α ->Int}(h:QaX f)(x:α):f x x=0:=(h.z x x).2 rfl
theorem QaX.swo {α:Type}{f:α ->α ->Int}(h:QaX f):SWO (ltOf f) where
 irrefl x:=by simp [ltOf,h.irr x]
 trans x y z h1 h2:=by simp only [ltOf,decide_eq_true_eq] at*;exact h.tr x y z h1 h2
 ntrans x y z h1 h2:=by
  simp only [ltOf,decide_eq_false_iff_not] at*;intro k;have j:0<=f x y:=by omega
  have m:0<=f y z:=by omega
  rcases Int.lt_or_eq_of_le j with j|j
  ·have:=h.tr y x z ((h.neg y x).2 j) k;omega
  ·have:=(h.z x y).1 j.symm;subst this;omega
theorem QaX.int:QaX QaU:=⟨fun x y=>QdV,fun x y=>by unfold QaU;split<;>split<;>(try split)<;>(try split)<;>omega,fun x y z h1 h2=>by rw [Qet] at*;omega⟩
theorem QaX.pair {α β:Type}{f:α ->α ->Int}{g:β ->β ->Int}(hf:QaX f)(hg:QaX g):QaX (fun x y:α×β=>orI (f x.1 y.1) (g x.2 y.2)):=by
 refine⟨fun x y=> ?_,fun x y=> ?_,fun x y z=> ?_⟩
 ·simp only [orI];by_cases e:f x.1 y.1=0
  ·rw [if_pos e,hg.z];exact⟨fun h=>Prod.ext ((hf.z _ _).1 e) h,fun h=>by rw [h]⟩
  ·rw [if_neg e];exact⟨fun h=>absurd h e,fun h=>by rw [h] at e;exact absurd (hf.irr _) e⟩
 ·simp only [orI];by_cases e:f x.1 y.1=0
  ·have r:f y.1 x.1=0:=(hf.z _ _).2 ((hf.z _ _).1 e).symm;rw [if_pos e,if_pos r,hg.neg]
  ·have r:f y.1 x.1≠0:=fun h=>e ((hf.z _ _).2 ((hf.z _ _).1 h).symm);rw [if_neg e,if_neg r,hf.neg]
 ·simp only [orI];intro q k;by_cases e:f x.1 y.1=0
  ·rw [if_pos e] at q;have:=(hf.z _ _).1 e;by_cases j:f y.1 z.1=0
   ·rw [if_pos j] at k;have m:f x.1 z.1=0:=by rw [this];exact j
    rw [if_pos m];exact hg.tr _ _ _ q k
   ·rw [if_neg j] at k;have m:f x.1 z.1≠0:=by rw [this];exact j
    rw [if_neg m,this];exact k
  ·rw [if_neg e] at q;by_cases j:f y.1 z.1=0
   ·have:=(hf.z _ _).1 j;have m:f x.1 z.1≠0:=by rw [<- this];exact e
    rw [if_neg m,<- this];exact q
   ·rw [if_neg j] at k;have u:=hf.tr _ _ _ q k;rw [if_neg (by omega)];exact u
theorem QgW:∀x y:List UInt8,Op.bytesLess x y=false ->Op.bytesLess y x=false ->x=y
 | [],[],_,_=>rfl
 | [],_::_,h,_=>by simp [Op.bytesLess] at h
 | _::_,[],_,h=>by simp [Op.bytesLess] at h
 | a::x,b::y,h,h'=>by
  simp only [Op.bytesLess,Bool.or_eq_false_iff,decide_eq_false_iff_not,Bool.and_eq_false_iff] at h h';have e:a=b:=by
   have k:=h.1;have m:=h'.1;rcases Nat.lt_trichotomy a.toNat b.toNat with j|j|j
   ·exact absurd (UInt8.lt_iff_toNat_lt.2 j) k
   ·exact UInt8.toNat_inj.1 j
   ·exact absurd (UInt8.lt_iff_toNat_lt.2 j) m
  subst e;rw [QgW x y (by simpa using h.2) (by simpa using h'.2)]
theorem QgV:∀x y:List UInt8,Op.bytesLess x y=true ->Op.bytesLess y x=false
 | [],[],_=>rfl
 | [],_::_,_=>rfl
 | _::_,[],h=>by simp [Op.bytesLess] at h
 | a::x,b::y,h=>by
  simp only [Op.bytesLess,Bool.or_eq_true,decide_eq_true_eq,Bool.and_eq_true,beq_iff_eq] at h;simp only [Op.bytesLess,Bool.or_eq_false_iff,decide_eq_false_iff_not,Bool.and_eq_false_iff];rcases h with h|⟨rfl,h⟩
  ·have j:=UInt8.lt_iff_toNat_lt.1 h;refine⟨fun h2=>by have:=UInt8.lt_iff_toNat_lt.1 h2;omega,.inl ?_⟩;simp only [beq_eq_false_iff_ne];intro e;subst e;omega
  ·exact⟨fun h2=>by have:=UInt8.lt_iff_toNat_lt.1 h2;omega,.inr (QgV x y h)⟩
theorem Qef:∀x y z:List UInt8,Op.bytesLess x y=true ->Op.bytesLess y z=true ->Op.bytesLess x z=true
 | _,_,[],_,h=>by cases ‹List UInt8›<;>simp [Op.bytesLess] at h
 | [],_,_::_,_,_=>rfl
 | _::_,[],_,h,_=>by simp [Op.bytesLess] at h
 | a::x,b::y,c::z,h,j=>by
  simp only [Op.bytesLess,Bool.or_eq_true,decide_eq_true_eq,Bool.and_eq_true,beq_iff_eq] at h j ⊢;rcases h with h|⟨rfl,h⟩
  ·rcases j with j|⟨rfl,j⟩
   ·exact .inl (UInt8.lt_iff_toNat_lt.2 (by have:=UInt8.lt_iff_toNat_lt.1 h;have:=UInt8.lt_iff_toNat_lt.1 j;omega))
   ·exact .inl h
  ·rcases j with j|⟨rfl,j⟩
   ·exact .inl j
   ·exact .inr ⟨rfl,Qef x y z h j⟩
theorem Qew:QbI s t<0↔Op.bytesLess s.toList t.toList=true:=by
 unfold QbI ltS eqS;split
 ·rename_i h;exact⟨fun _=>h,fun _=>by decide⟩
 ·rename_i h;split<;>exact⟨fun h2=>by omega,fun h2=>absurd h2 h⟩
theorem QaX.str:QaX QbI:=by
 refine⟨fun x y=>QbJ,fun x y=> ?_,fun x y z h1 h2=> ?_⟩
 ·rw [Qew];constructor
  ·intro h;have:=QgV _ _ h;unfold QbI ltS eqS;rw [if_neg (by rw [this];simp),if_neg]
   ·decide
   ·intro e;rw [Qbd (by simpa using e:y.toList=x.toList),Qd5] at h;cases h
  ·intro h;cases e:Op.bytesLess x.toList y.toList with
   | true=>rfl
   | false=>
    exfalso;cases e':Op.bytesLess y.toList x.toList with
    | true=>have:=Qew.2 e';omega
    | false=>rw [QbJ.2 (Qbd (QgW _ _ e' e))] at h;omega
 ·rw [Qew] at*;exact Qef _ _ _ h1 h2
def QeW (x y:Ky):Int:=orI (QbI x.1 y.1) (QaU x.2 y.2)
def Qb6 (x y:Dt):Int:=orI (QaU x.1 y.1) (QaU x.2 y.2)
theorem QaX.key:QaX QeW:=QaX.str.pair QaX.int
theorem QaX.dot:QaX Qb6:=QaX.int.pair QaX.int
theorem QaX.uniq {α:Type}{f:α ->α ->Int}(h:QaX f):∀{l m:List α},l.Pairwise (fun x y=>f x y<0) ->m.Pairwise (fun x y=>f x y<0) ->(∀x,x∈l↔x∈m) ->l=m
 | [],[],_,_,_=>rfl
 | [],y::m,_,_,hm=>by have:=(hm y).2 (by simp);simp at this
 | x::l,[],_,_,hm=>by have:=(hm x).1 (by simp);simp at this
 | x::l,y::m,hl,hm',hm=>by
  have q:=List.pairwise_cons.1 hl;have r:=List.pairwise_cons.1 hm';have e:x=y:=by
   rcases List.mem_cons.1 ((hm x).1 (by simp)) with e|e
   ·exact e
   ·rcases List.mem_cons.1 ((hm y).2 (by simp)) with k|k
    ·exact k.symm
    ·have v:=r.1 x e;have g:=q.1 y k;have:=h.tr _ _ _ v g;rw [h.irr] at this;omega
  subst e;congr 1;refine h.uniq q.2 r.2 fun z=> ?_;have u:=hm z;simp only [List.mem_cons] at u;constructor
  ·intro j;rcases u.1 (.inr j) with e|e
   ·subst e;have:=q.1 _ j;rw [h.irr] at this;omega
   ·exact e
  ·intro j;rcases u.2 (.inr j) with e|e
   ·subst e;have:=r.1 _ j;rw [h.irr] at this;omega
   ·exact e
theorem QaX.rises {α:Type} [Inhabited α]{f:α ->α ->Int}(h:QaX f){d:Array α}(hs:SortedIn (ltOf f) 0 d.size d)(hn:d.toList.Nodup):d.toList.Pairwise (fun x y=>f x y<0):=by
 rw [List.pairwise_iff_getElem];intro i j hi m q;have k:=hs i j (by omega) q (by simpa using m);have hi':i<d.size:=by simpa using hi
 have g:j<d.size:=by simpa using m
 have r:d[i]! =d[i]:=getElem!_pos d i hi';have u:d[j]! =d[j]:=getElem!_pos d j g;rw [r,u] at k;simp only [ltOf,decide_eq_false_iff_not] at k;have t:d[i]≠d[j]:=by
  have:=(List.nodup_iff_pairwise_ne.1 hn);rw [List.pairwise_iff_getElem] at this;simpa using this i j hi m q
 have o:f d[i] d[j]≠0:=fun e=>t ((h.z _ _).1 e);have v:=h.neg (d[j]) (d[i]);have b:¬0<f d[i] d[j]:=fun e=>k (v.2 e);have:f d[i] d[j]<0:=by omega
 simpa using this
def Bw (w w':World):Prop:=Bl w w'/\ w.drawn<=w'.drawn
theorem Bw.grown(h:Bw w w'):∃q u,w'=grow (w.drewN q) u:=by
 obtain⟨y,z⟩:=h;refine⟨w'.drawn - w.drawn,w'.heap.extract w.heap.size w'.heap.size,?_⟩;obtain⟨p,E,t,u,out⟩:=w;obtain⟨g,M,o,s,A⟩:=w';obtain⟨j,k,m,v,r⟩:=y;simp only at j k m v r z;subst j;subst k;subst m;simp only [grow,World.drewN,World.mk.injEq,and_true,true_and];refine⟨?_,by omega⟩;apply Array.ext_getElem?;intro i;rw [Array.getElem?_append];split
 ·rename_i hi;exact r i hi
 ·rename_i hi;rw [Array.getElem?_extract];by_cases b:i<g.size
  ·rw [if_pos (by omega)];congr 1;omega
  ·rw [if_neg (by omega)];exact Array.getElem?_eq_none (by omega)
theorem Qb0{kl:Lit}(h:keyOf Tryz.prog 208 v=some kl):∃x,v=Qa5 x:=by
 unfold keyOf at h;rw [Tryz.underlying208] at h;simp only [QmI,Bool.true_and] at h;have p:0<Tryz.prog.types.size:=of_decide_eq_true (by kernel_rfl);obtain⟨m,o⟩:∃m,Tryz.prog.types.size=m+1:=⟨Tryz.prog.types.size - 1,by omega⟩;rw [o] at h;have z:Tryz.prog.cellsOf 208=2:=by kernel_rfl
 have g:Tryz.prog.cellsOf 3=1:=by kernel_rfl
 have t:Tryz.prog.cellsOf 9=1:=by kernel_rfl
 cases v<;>simp [Value.formed,Tryz.underlying208,z,Program.keyLits,Tryz.underlying3,Tryz.underlying9,g,t,Value.cells] at h;obtain⟨u,a,⟨i,h⟩,b⟩:=h;clear i b;obtain⟨y,j,rfl⟩:=QhO u;clear u;cases y<;>simp at h;rename_i s;by_cases r:s.size<=maxLen
 ·cases j<;>simp [r] at h;rename_i k n;by_cases q:k=.i64/\ (Lit.int .i64 n).wf=true
  ·exact⟨(s,n),by rw [q.1];rfl⟩
  ·rw [if_neg q] at h;simp at h
 ·cases j<;>simp [r] at h
theorem Qft{kl:Lit}(h:keyOf Tryz.prog 104 v=some kl):∃x,v=dtV x:=by
 unfold keyOf at h;rw [Tryz.underlying104] at h;simp only [Qlf,Bool.true_and] at h;have b:0<Tryz.prog.types.size:=of_decide_eq_true (by kernel_rfl);obtain⟨m,t⟩:∃m,Tryz.prog.types.size=m+1:=⟨Tryz.prog.types.size - 1,by omega⟩;rw [t] at h;have z:Tryz.prog.cellsOf 104=2:=by kernel_rfl
 have g:Tryz.prog.cellsOf 3=1:=by kernel_rfl
 cases v<;>simp [Value.formed,Tryz.underlying104,z,Program.keyLits,Tryz.underlying3,g,Value.cells] at h;obtain⟨r,a,⟨o,h⟩,i⟩:=h;clear o i;obtain⟨u,y,rfl⟩:=QhO r;clear r;cases u<;>simp at h;rename_i k n;by_cases j:k=.i64/\ (Lit.int .i64 n).wf=true
 ·rw [if_pos j] at h;cases y<;>simp at h;rename_i k' n';by_cases q:k'=.i64/\ (Lit.int .i64 n').wf=true
  ·exact⟨(n,n'),by rw [j.1,q.1];rfl⟩
  ·rw [if_neg q] at h;simp at h
 ·rw [if_neg j] at h;simp at h
structure QcJ {α β:Type}(t:TypeId)(kv:α ->Value)(f:α ->Option β)(left:Lit ->Bool)(ss:List α):Prop where
 nd:ss.Nodup
 old:∀x∈ss,f x≠none/\∀kl,keyOf Tryz.prog t (kv x)=some kl ->left kl=false
 all:∀x,f x≠none ->x∈ss \/∀kl,keyOf Tryz.prog t (kv x)=some kl ->left kl=true
def QbF {α β:Type}(f:α ->Option β)(ss:List α):Prop:=ss.Nodup/\∀x,x∈ss↔f x≠none
section
variable {α β : Type} {w : World} {t : TypeId} {kv : α -> Value} {vo : Option β -> Value} {b c : Nat} {f : α -> Option β} {D : DataW Value} {left : Lit -> Bool} {ss : List α}
theorem QcJ.start (h:FM w t kv vo b c f D):QcJ t kv f (has D) ([]:List α):=by
 refine⟨List.nodup_nil,fun x hx=>absurd hx (by simp),fun x hx=>Or.inr fun kl hk=> ?_⟩;rw [(h.at' x kl hk).1];cases e:f x with
 | none=>exact absurd e hx
 | some y=>rfl
theorem QcJ.step (hC:QcJ t kv f left ss)(h:FM w t kv vo b c f D)(K:Keyed Tryz.prog t)(hi:∀x y,kv x=kv y ->x=y){x:α}{kl:Lit}{y:DataW Value}(hk:keyOf Tryz.prog t (kv x)=some kl)(hl:left kl=true)(hat:∀zd,D.atKey kl zd=y):
  QcJ t kv f (fun z=>left z && !z.sameKey kl) (ss++[x]):=by
 have q:x ∉ ss:=fun hm=>by have:=(hC.old x hm).2 kl hk;rw [hl] at this;cases this
 have m:f x≠none:=fun e=>by
  have k:=has_true_of_atKey hat;rw [(h.at' x kl hk).1,e] at k;cases k
 refine⟨?_,fun z j=> ?_,fun z j=> ?_⟩
 ·rw [List.nodup_append];exact⟨hC.nd,by simp,fun a ha b hb=>by rw [List.mem_singleton] at hb;subst hb;exact fun e=>q (e ▸ ha)⟩
 ·rcases List.mem_append.1 j with j|j
  ·refine⟨(hC.old z j).1,fun kl' hk'=> ?_⟩;show (left kl' && !kl'.sameKey kl)=false;rw [(hC.old z j).2 kl' hk'];rfl
  ·rw [List.mem_singleton] at j;subst j;refine⟨m,fun kl' hk'=> ?_⟩;rw [hk] at hk';injection hk' with hk';subst hk';show (left kl && !kl.sameKey kl)=false;rw [WideAt.sameKey_self (K.key hk)];simp
 ·by_cases e:z=x
  ·subst e;exact .inl (by simp)
  ·rcases hC.all z j with k|k
   ·exact .inl (List.mem_append.2 (.inl k))
   ·refine .inr fun kl' hk'=> ?_;show (left kl' && !kl'.sameKey kl)=true;rw [k kl' hk',sameKey_ne (fun e2=>e (hi _ _ (by subst e2;exact K.inj hk' hk)))];rfl
theorem QcJ.done (hC:QcJ t kv f left ss)(h:FM w t kv vo b c f D)(hl:∀j,left j=false):QbF f ss:=
 ⟨hC.nd,fun x=>⟨fun hx=>(hC.old x hx).1,fun hx=>by
  rcases hC.all x hx with k|k
  ·exact k
  ·obtain⟨j,m⟩:=h.ok x hx;have:=k j m;rw [hl j] at this;cases this⟩⟩
end
theorem QgE:∀p q:List ByteArray,QaD p q<0↔0<QaD q p
 | [],[]=>by simp [QaD]
 | [],_::_=>by simp [QaD]
 | _::_,[]=>by simp [QaD]
 | s::p,t::q=>by
  simp only [QaD];by_cases e:QbI s t=0
  ·have j:QbI t s=0:=QbJ.2 (QbJ.1 e).symm;rw [if_pos e,if_pos j];exact QgE p q
  ·have j:QbI t s≠0:=fun h=>e (QbJ.2 (QbJ.1 h).symm);rw [if_neg e,if_neg j];exact QaX.str.neg s t
theorem QhU:∀p q r:List ByteArray,QaD p q<0 ->QaD q r<0 ->QaD p r<0
 | [],[],_,h,_=>by simp [QaD] at h
 | [],_::_,[],_,h=>by simp [QaD] at h
 | [],_::_,_::_,_,_=>by simp [QaD]
 | _::_,[],_,h,_=>by simp [QaD] at h
 | _::_,_::_,[],_,h=>by simp [QaD] at h
 | s::p,t::q,u::r,h,h'=>by
  simp only [QaD] at*;by_cases e:QbI s t=0
  ·rw [if_pos e] at h;have:=QbJ.1 e;subst this;by_cases j:QbI s u=0
   ·rw [if_pos j] at h' ⊢;exact QhU p q r h h'
   ·rw [if_neg j] at h' ⊢;exact h'
  ·rw [if_neg e] at h;by_cases j:QbI t u=0
   ·have:=QbJ.1 j;subst this;rw [if_neg e];exact h
   ·rw [if_neg j] at h';have k:=QaX.str.tr s t u h h';rw [if_neg (by omega)];exact k
theorem QaX.path:QaX QaD:=⟨fun _ _=>Qds,QgE,QhU⟩
theorem QfN {y z:Lf}(h:QaM x y<0)(h':QaM y z<0):QaM x z<0:=
 (QaX.path.pair (QaX.int.pair QaX.dot)).tr (x.p,(kd x.fl,(x.r,x.q))) (y.p,(kd y.fl,(y.r,y.q))) (z.p,(kd z.fl,(z.r,z.q))) h h'
theorem QbT.lt(h:QbT R F T n l k):∀j,i<j ->j<k ->QaM (gL l i) (gL l j)<0
 | 0,h1,_=>by omega
 | j+1,h1,h2=>by
  have m:=(h (j+1) h2).2.2 (by omega);simp only [Nat.add_sub_cancel] at m;by_cases e:i=j
  ·subst e;exact m
  ·exact QfN (h.lt j (by omega) (by omega)) m
theorem Qjh (p:List ByteArray):Qac p 3=(List.range p.length).map fun i=>(gS p i,3):=by
 unfold Qac;congr 1;funext i;split<;>rfl
theorem Qim(h:p <+:q)(hi:i<p.length):gS q i=gS p i:=by
 obtain⟨r,rfl⟩:=h;simp [gS,List.getD,List.getElem?_append,hi]
theorem Qhq{k:Int}(h:p <+:q)(hl:p.length<q.length):(Qac q k).take p.length=Qac p 3:=by
 apply List.ext_getElem?;intro i;by_cases hi:i<p.length
 ·rw [List.getElem?_take_of_lt hi,QaO (by omega),Qjh,if_pos (by omega),Qim h hi];simp [hi]
 ·rw [List.getElem?_take_eq_none (by omega),List.getElem?_eq_none (by rw [Qav];omega)]
noncomputable def nx (p:List ByteArray)(x:Lf):Option Ky:=if yes (p <+:x.p/\ p.length<x.p.length)=true then some (Qar x.p (kd x.fl) p.length) else none
theorem QgY:Qac p 3++[y] <+:Way x↔nx p x=some y:=by
 unfold nx Way;constructor
 ·intro h;have z:p.length+1<=x.p.length:=by have:=h.length_le;simpa [Qav] using this
  have j:=List.prefix_iff_eq_take.1 h;simp only [List.length_append,Qav,List.length_cons,List.length_nil] at j;rw [Qcf (by omega)] at j;have m:=List.append_inj' j rfl;have v:p <+:x.p:=by
   have r:p=x.p.take p.length:=by
    refine Qil (by simp;omega) fun i hi=> ?_;have:=congrArg (fun l=>l[i]?) m.1;rw [List.getElem?_take_of_lt hi,QaO hi,QaO (k:=kd x.fl) (show i<x.p.length by omega)] at this;injection this with this;rw [(Prod.mk.inj this).1];simp [gS,List.getD,List.getElem?_take_of_lt hi]
   rw [r];exact List.take_prefix _ _
  rw [if_pos (Qah ⟨v,by omega⟩)];have q:=m.2;simp only [List.cons.injEq,and_true] at q;rw [q];rfl
 ·intro h;by_cases e:p <+:x.p/\ p.length<x.p.length
  ·rw [if_pos (Qah e)] at h;injection h with h;have:=Qcf (k:=kd x.fl) e.2;rw [Qhq e.1 e.2] at this;have u:(gS x.p p.length,if p.length+1<x.p.length then 3 else kd x.fl)=y:=h;rw [u] at this;rw [<- this];exact List.take_prefix _ _
  ·rw [Qaf e] at h;simp at h
theorem QgD:∀(p a b:List ByteArray),QaD (p++a) (p++b)=QaD a b
 | [],_,_=>rfl
 | s::p,a,b=>by
  simp only [List.cons_append,QaD];rw [if_pos (QbJ.2 rfl)];exact QgD p a b
theorem QbZ{a b:Lf}{z:Ky}(h:QaM a b<0)(ha:nx p a=some y)(hb:nx p b=some z):QeW y z<=0:=by
 unfold nx at ha hb;by_cases m:p <+:a.p/\ p.length<a.p.length
 ·by_cases q:p <+:b.p/\ p.length<b.p.length
  ·rw [if_pos (Qah m)] at ha;rw [if_pos (Qah q)] at hb;injection ha with ha;injection hb with hb;obtain⟨⟨j,g⟩,i⟩:=m;obtain⟨⟨rb,o⟩,A⟩:=q;cases j with
   | nil=>rw [<- g] at i;simp at i
   | cons s j=>
    cases rb with
    | nil=>rw [<- o] at A;simp at A
    | cons t rb=>
     have M:y=(s,if j=[] then kd a.fl else 3):=by
      rw [<- ha];unfold Qar;rw [<- g];have r:gS (p++s::j) p.length=s:=by simp [gS,List.getD]
      rw [r];cases j<;>simp
     have O:z=(t,if rb=[] then kd b.fl else 3):=by
      rw [<- hb];unfold Qar;rw [<- o];have r:gS (p++t::rb) p.length=t:=by simp [gS,List.getD]
      rw [r];cases rb<;>simp
     unfold QaM at h;rw [<- g,<- o,QgD] at h;rw [M,O];unfold QeW;simp only [QaD] at h;by_cases k:QbI s t=0
     ·rw [if_pos k] at h;simp only [orI,k,if_true];have U:kd b.fl<=3:=by cases b.fl<;>decide
      have Q:kd a.fl<=3:=by cases a.fl<;>decide
      cases j with
      | nil=>
       cases rb with
       | nil=>
        simp only [if_true];simp only [QaD,orI,if_true] at h;by_cases E:QaU (kd a.fl) (kd b.fl)=0
        ·omega
        ·rw [if_neg E] at h;omega
       | cons u rb=>
        simp only [if_true,reduceCtorEq,if_false];unfold QaU;split
        ·omega
        ·split<;>omega
      | cons u j=>
       cases rb with
       | nil=>simp [QaD,orI] at h
       | cons v rb=>simp [QaU]
     ·rw [if_neg k] at h;simp only [orI,k,if_false] at h ⊢;omega
  ·rw [Qaf q] at hb;simp at hb
 ·rw [Qaf m] at ha;simp at ha
noncomputable def kS (l:List Lf)(p:List ByteArray):Nat ->List Ky
 | 0=>[]
 | k+1=>match nx p (gL l k) with
  | none=>kS l p k
  | some y=>if yes ((kS l p k).getLast? =some y)=true then kS l p k else kS l p k++[y]
theorem QcQ(h:nx p (gL l k)=none):kS l p (k+1)=kS l p k:=by simp only [kS,h]
theorem QcR(h:nx p (gL l k)=some y):kS l p (k+1)=if yes ((kS l p k).getLast? =some y)=true then kS l p k else kS l p k++[y]:=by simp only [kS,h]
theorem Qfr (l:List Lf)(p:List ByteArray):∀k,(kS l p k).length<=k
 | 0=>by simp [kS]
 | k+1=>by
  have j:=Qfr l p k;cases h:nx p (gL l k) with
  | none=>rw [QcQ h];omega
  | some y=>rw [QcR h];split<;>simp<;>omega
theorem Qfs {R F T:Nat ->Int}{n:Nat}{l:List Lf}(p:List ByteArray)(h:QbT R F T n l l.length):∀k,k<=l.length ->(kS l p k).Pairwise (fun x y=>QeW x y<0)/\∀y,y∈kS l p k↔∃j,j<k/\ nx p (gL l j)=some y
 | 0,_=>⟨List.Pairwise.nil,fun y=>by simp [kS]⟩
 | k+1,hk=>by
  obtain⟨r,i⟩:=Qfs p h k (by omega);have t:∀y,(∃j,j<k+1/\ nx p (gL l j)=some y)↔y∈kS l p k \/nx p (gL l k)=some y:=fun y=>by
   rw [i];constructor
   ·rintro⟨j,v,e⟩;by_cases s:j=k
    ·subst s;exact .inr e
    ·exact .inl ⟨j,by omega,e⟩
   ·rintro(⟨j,v,e⟩|e)
    ·exact⟨j,by omega,e⟩
    ·exact⟨k,by omega,e⟩
  cases hn:nx p (gL l k) with
  | none=>
   rw [QcQ hn];refine⟨r,fun y=> ?_⟩;rw [t y,hn];simp
  | some z=>
   have g:∀y∈kS l p k,QeW y z<=0:=fun y hy=>by
    obtain⟨j,v,e⟩:=(i y).1 hy;exact QbZ (h.lt k v (by omega)) e hn
   rw [QcR hn];by_cases e:(kS l p k).getLast? =some z
   ·rw [if_pos (Qah e)];refine⟨r,fun y=> ?_⟩;rw [t y,hn];constructor
    ·exact .inl
    ·rintro(m|m)
     ·exact m
     ·injection m with m;subst m;exact List.mem_of_getLast? e
   ·rw [if_neg (by rw [Qaf e];simp)];have q:z ∉ kS l p k:=fun q=>by
     obtain⟨b,u,E⟩:∃b u,kS l p k=b++[u]:=by
      refine⟨(kS l p k).dropLast,(kS l p k).getLast (List.ne_nil_of_mem q),(List.dropLast_concat_getLast _).symm⟩
     rw [E] at q g e r;simp at e;rcases List.mem_append.1 q with m|m
     ·have o:=(List.pairwise_append.1 r).2.2 z m u (by simp);have M:=g u (by simp);have A:=QaX.key.neg z u;have:0<QeW u z:=A.1 o;omega
     ·simp at m;exact e m.symm
    refine⟨List.pairwise_append.2 ⟨r,List.pairwise_singleton _ _,fun x hx y hy=> ?_⟩,fun y=> ?_⟩
    ·simp at hy;subst hy;have m:=g x hx;have o:QeW x y≠0:=fun e=>q ((QaX.key.z x y).1 e ▸ hx);omega
    ·rw [t y,hn];simp only [List.mem_append,List.mem_singleton,Option.some.injEq];exact⟨fun h=>h.imp id Eq.symm,fun h=>h.imp id Eq.symm⟩
theorem Qiv{N:List Ky ->Option (Nat×Nat)}{ts:List Ky}(h:QbT R F T n l l.length)(hI:NkI l l.length N)(h1:ts.Pairwise (fun x y=>QeW x y<0))(h2:∀x,x∈ts↔N (Qac p 3++[x])≠none):ts=kS l p l.length:=by
 obtain⟨m,q⟩:=Qfs p h l.length zL;refine QaX.key.uniq h1 m fun x=> ?_;rw [h2,q];have:=hI (Qac p 3++[x]);rw [Option.isSome_iff_ne_none] at this;rw [this];simp only [List.append_eq_nil_iff,List.cons_ne_self,and_false,false_or,reduceCtorEq];constructor
 ·rintro⟨j,k,e⟩;exact⟨j,k,QgY.1 e⟩
 ·rintro⟨j,k,e⟩;exact⟨j,k,QgY.2 e⟩
noncomputable def rV (l:List Lf)(p:List ByteArray):Nat ->List ByteArray
 | 0=>[]
 | k+1=>if yes ((gL l k).fl=false/\ (gL l k).p=p)=true then rV l p k++[(gL l k).v] else rV l p k
theorem Qnb {l:List Lf}{p:List ByteArray}{s:ByteArray}:∀{k:Nat},s∈rV l p k↔∃j,j<k/\ (gL l j).fl=false/\ (gL l j).p=p/\ (gL l j).v=s
 | 0=>by simp [rV]
 | k+1=>by
  have y:=Qnb (l:=l) (p:=p) (s:=s) (k:=k);simp only [rV];by_cases e:(gL l k).fl=false/\ (gL l k).p=p
  ·rw [if_pos (Qah e),List.mem_append,y,List.mem_singleton];constructor
   ·rintro(⟨j,u,r⟩|r)
    ·exact⟨j,by omega,r⟩
    ·exact⟨k,by omega,e.1,e.2,r.symm⟩
   ·rintro⟨j,u,r1,r2,m⟩;by_cases q:j=k
    ·subst q;exact .inr m.symm
    ·exact .inl ⟨j,by omega,r1,r2,m⟩
  ·rw [if_neg (by rw [Qaf e];simp),y];constructor
   ·rintro⟨j,u,r⟩;exact⟨j,by omega,r⟩
   ·rintro⟨j,u,r1,r2,m⟩;by_cases q:j=k
    ·subst q;exact absurd ⟨r1,r2⟩ e
    ·exact⟨j,by omega,r1,r2,m⟩
theorem QhF {l:List Lf}{p:List Ky}{d:Dt}{s:ByteArray}:∀{k:Nat},Dis l k ->(Mk l k p d=some s↔∃j,j<k/\ Way (gL l j)=p/\ ((gL l j).r,(gL l j).q)=d/\ (gL l j).v=s)
 | 0,_=>⟨fun h=>by simp [Mk] at h,fun⟨j,m,_⟩=>by omega⟩
 | k+1,hd=>by
  have g:=QhF (l:=l) (p:=p) (d:=d) (s:=s) (k:=k) (fun i hi j m=>hd i (by omega) j m);simp only [Mk];by_cases e:p=Qac (gL l k).p (kd (gL l k).fl)
  ·rw [e,QdL,<- e];by_cases z:d=((gL l k).r,(gL l k).q)
   ·rw [z,Qau];constructor
    ·intro h;injection h with h;exact⟨k,by omega,e.symm,rfl,h⟩
    ·rintro⟨j,m,r1,r2,y⟩;by_cases u:j=k
     ·subst u;rw [y]
     ·have:=hd k (by omega) j (by omega);exact absurd ⟨congrArg Prod.fst r2,congrArg Prod.snd r2⟩ this
   ·rw [Qam _ _ z,g];constructor
    ·rintro⟨j,m,r⟩;exact⟨j,by omega,r⟩
    ·rintro⟨j,m,r1,r2,y⟩;by_cases u:j=k
     ·subst u;exact absurd r2.symm z
     ·exact⟨j,by omega,r1,r2,y⟩
  ·rw [Qce _ _ _ e,g];constructor
   ·rintro⟨j,m,r⟩;exact⟨j,by omega,r⟩
   ·rintro⟨j,m,r1,r2,y⟩;by_cases u:j=k
    ·subst u;exact absurd r1.symm e
    ·exact⟨j,by omega,r1,r2,y⟩
def Seg (w:World)(a:Option Addr)(n:Nat)(f:Nat ->Int):Prop:=
 n=0 \/∃b off,a=some ⟨b,off,none⟩/\ b<w.heap.size/\∀i,i<n ->w.cell? ⟨b,off+i,none⟩=some (.int .u8 (f i))
theorem Tryz.infoByte:(Tryz.prog.info? 5).map (fun i=>(i.zero,i.size,i.bytes))=some (some (.int .u8 0),1,1):=by kernel_rfl
end Go.Proofs.YtgmjgboibfdaeaaGreatDoor
