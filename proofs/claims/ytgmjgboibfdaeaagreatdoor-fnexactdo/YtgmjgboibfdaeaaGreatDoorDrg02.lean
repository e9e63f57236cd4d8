import Derived.Test.YtgmjgboibfdaeaaGreatDoorDrg01
import Derived.Deep.Slices
import Derived.Deep.SlicePairs
import Derived.Deep.Strs
import Derived.Lib.SmallJoins
import Derived.Maps.Own
import Derived.Maps.OwnSet
import Derived.Maps.OwnOps
import Derived.Maps.AppendAt
import Derived.Maps.Views
set_option linter.unusedVariables false
set_option linter.unusedSimpArgs false
set_option maxRecDepth 100000
set_option maxHeartbeats 40000000
namespace Go.Proofs.YtgmjgboibfdaeaaGreatDoor
open Go.ChangeShapes Go.WideShapes Go.ChangeAt Go.RowKit
variable {B b base bm fuel hi i j k lo n:Nat}{L:Int ->List (Int×Int)}{P:Program}{W w w' w1:World}{a:Option Addr}{cs xs:List Value}{held:Bool}{l:List Lf}{p q:List ByteArray}{r x:Int}{v v0 v1 v2 v3 v4:Value}
theorem QbY:(Tryz.prog.info? 106).map (fun i=>(i.zero,i.size,i.bytes))=some (some (.agg #[.slice none 0 0,.bool false,.int .i64 0,.int .i64 0,.string ByteArray.empty]),5,64):=by kernel_rfl
def Qmf (w:World)(B:Nat)(xs:List Value)(x:Lf)(j:Nat):Prop:=
 ∃g,B<g/\ (g<w.heap.size/\ PMk w g x.p.length)/\ Qaw w (some ⟨g,0,none⟩) x.p/\ xs[j*5]? =some (.slice (some ⟨g,0,none⟩) x.p.length x.p.length)/\ xs[j*5+1]? =some (.bool x.fl)/\ xs[j*5+2]? =some (.int .i64 x.r)/\ xs[j*5+3]? =some (.int .i64 x.q)/\ xs[j*5+4]? =some (.string x.v)
def Qjk (xs:List Value)(k:Nat)(v0 v1 v2 v3 v4:Value):List Value:=((((xs.set (k*5) v0).set (k*5+1) v1).set (k*5+2) v2).set (k*5+3) v3).set (k*5+4) v4
theorem QdD(h:j≠k)(hi:i<5):(Qjk xs k v0 v1 v2 v3 v4)[j*5+i]? =xs[j*5+i]? :=by
 unfold Qjk;rw [List.getElem?_set_ne (by omega),List.getElem?_set_ne (by omega),List.getElem?_set_ne (by omega),List.getElem?_set_ne (by omega),List.getElem?_set_ne (by omega)]
theorem QlJ(h:k*5+4<xs.length):(Qjk xs k v0 v1 v2 v3 v4)[k*5]? =some v0/\ (Qjk xs k v0 v1 v2 v3 v4)[k*5+1]? =some v1/\ (Qjk xs k v0 v1 v2 v3 v4)[k*5+2]? =some v2/\ (Qjk xs k v0 v1 v2 v3 v4)[k*5+3]? =some v3/\ (Qjk xs k v0 v1 v2 v3 v4)[k*5+4]? =some v4:=by
 unfold Qjk;refine⟨?_,?_,?_,?_,?_⟩
 ·rw [List.getElem?_set_ne (by omega),List.getElem?_set_ne (by omega),List.getElem?_set_ne (by omega),List.getElem?_set_ne (by omega),List.getElem?_set_self (by omega)]
 ·rw [List.getElem?_set_ne (by omega),List.getElem?_set_ne (by omega),List.getElem?_set_ne (by omega),List.getElem?_set_self (by simp;omega)]
 ·rw [List.getElem?_set_ne (by omega),List.getElem?_set_ne (by omega),List.getElem?_set_self (by simp;omega)]
 ·rw [List.getElem?_set_ne (by omega),List.getElem?_set_self (by simp;omega)]
 ·rw [List.getElem?_set_self (by simp;omega)]
theorem Qmf.put{x:Lf}(h:Qmf w B xs x j)(hj:j≠k)(hs:w.heap.size<=w'.heap.size)(hb:∀g,B<g ->g<w.heap.size ->w'.heap[g]? =w.heap[g]?):Qmf w' B (Qjk xs k v0 v1 v2 v3 v4) x j:=by
 obtain⟨g,q,m,r,u,v,y,z,t⟩:=h;refine⟨g,q,⟨by have:=m.1;omega,m.2.same (hb g q m.1)⟩,r.same hs (fun x hx=>by simp at hx;subst hx;exact hb g q m.1),?_,?_,?_,?_,?_⟩
 ·exact(QdD (i:=0) hj (by omega)).trans u
 ·exact(QdD (i:=1) hj (by omega)).trans v
 ·exact(QdD (i:=2) hj (by omega)).trans y
 ·exact(QdD (i:=3) hj (by omega)).trans z
 ·exact(QdD (i:=4) hj (by omega)).trans t
theorem QdF{g:Nat}(h:b<g):(((((w.setCell ⟨b,k*5,none⟩ v0).setCell ⟨b,k*5+1,none⟩ v1).setCell ⟨b,k*5+2,none⟩ v2).setCell ⟨b,k*5+3,none⟩ v3).setCell ⟨b,k*5+4,none⟩ v4).heap[g]? =w.heap[g]? :=by
 have q:∀(w:World) (o:Nat) (v:Value),(w.setCell ⟨b,o,none⟩ v).heap[g]? =w.heap[g]? :=fun w o v=>zH _ _ _ _ (by simp;omega);rw [q,q,q,q,q]
theorem QdG:(((((w.setCell ⟨b,k*5,none⟩ v0).setCell ⟨b,k*5+1,none⟩ v1).setCell ⟨b,k*5+2,none⟩ v2).setCell ⟨b,k*5+3,none⟩ v3).setCell ⟨b,k*5+4,none⟩ v4).heap.size=w.heap.size:=by simp [World.setCell]
def QcF (w:World)(a:Option Addr)(l:List Lf):Prop:=
 l.length=0 \/∃b off,a=some ⟨b,off,none⟩/\ b<w.heap.size/\∀i,i<l.length ->∃pa pc,(w.cell? ⟨b,off+i*5,none⟩=some (.slice pa (gL l i).p.length pc)/\ (gL l i).p.length<=pc/\ pc<=9223372036854775807)/\ Qaw w pa (gL l i).p/\ w.cell? ⟨b,off+i*5+1,none⟩=some (.bool (gL l i).fl)/\ w.cell? ⟨b,off+i*5+2,none⟩=some (.int .i64 (gL l i).r)/\ w.cell? ⟨b,off+i*5+3,none⟩=some (.int .i64 (gL l i).q)/\ w.cell? ⟨b,off+i*5+4,none⟩=some (.string (gL l i).v)
theorem QcF.bw(h:QcF w a l)(hb:Bl w w1):QcF w1 a l:=by
 refine h.imp id ?_;rintro⟨b,g,e,j,z⟩;refine⟨b,g,e,Nat.lt_of_lt_of_le j hb.size,fun i hi=> ?_⟩;obtain⟨t,pc,⟨k,y⟩,s,m,r,u,v⟩:=z i hi;have q:=fun o=>hb.cell (p:=⟨b,o,none⟩) j;exact⟨t,pc,⟨(q _).trans k,y⟩,s.bw hb,(q _).trans m,(q _).trans r,(q _).trans u,(q _).trans v⟩
theorem QcF.seg(h:QcF w a l):QbD w a l:=by
 refine h.imp id ?_;rintro⟨b,y,e,v,u⟩;refine⟨b,y,e,v,fun i hi=> ?_⟩;obtain⟨z,pc,⟨j,_⟩,s,k,m,q,r⟩:=u i hi;exact⟨z,pc,j,s,k,m,q,r⟩
def QdS (w:World)(B:Nat)(a:Option Addr)(l:List Lf):Prop:=∀w',w.heap.size<=w'.heap.size ->(∀g,B<=g ->g<w.heap.size ->w'.heap[g]? =w.heap[g]?) ->QcF w' a l
theorem QdS.cap(h:QdS w B a l):QcF w a l:=h w zL (fun _ _ _=>rfl)
theorem QdS.seg(h:QdS w B a l):QbD w a l:=h.cap.seg
theorem QdS.move{C:Nat}(h:QdS w B a l)(hBC:C<=B)(hs:w.heap.size<=w1.heap.size)(hb:∀g,B<=g ->g<w.heap.size ->w1.heap[g]? =w.heap[g]?):QdS w1 C a l:=
 fun w' hs' hb'=>h w' (Nat.le_trans hs hs') (fun g h1 h2=>(hb' g (Nat.le_trans hBC h1) (Nat.lt_of_lt_of_le h2 hs)).trans (hb g h1 h2))
theorem QdS.set(h:QdS w B a l)(q:Addr)(u:Value)(hq:q.block<B):QdS (w.setCell q u) B a l:=
 h.move zL (by simp [World.setCell]) (fun g h1 h2=>zH _ _ _ _ (by omega))
theorem QdS.bw(h:QdS w B a l)(hb:Bl w w1):QdS w1 B a l:=
 h.move zL hb.size (fun g h1 h2=>hb.block g h2)
def LMk (w:World)(lo hi b:Nat)(l:List Lf):Prop:=
 (lo<=b/\ b<hi)/\ (∃cur,w.heap[b]? =some (.cells cur 106 (0,0))/\ l.length*5<=cur.size)/\∀i,i<l.length ->∃g,w.cell? ⟨b,i*5,none⟩=some (.slice (some ⟨g,0,none⟩) (gL l i).p.length (gL l i).p.length)/\ g≠b/\ lo<=g/\ g<hi/\ PMk w g (gL l i).p.length
theorem LMk.same(h:LMk w lo hi b l)(e:∀g,lo<=g ->g<hi ->w'.heap[g]? =w.heap[g]?):LMk w' lo hi b l:=by
 obtain⟨j,⟨q,y,z⟩,t⟩:=h;refine⟨j,⟨q,(e b j.1 j.2).trans y,z⟩,fun i hi'=> ?_⟩;obtain⟨g,r,u,k,m,v⟩:=t i hi';exact⟨g,(World.cell?_of_block (a:=⟨b,i*5,none⟩) (e b j.1 j.2)).trans r,u,k,m,v.same (e g k m)⟩
theorem LMk.set(h:LMk w lo hi b l)(q:Addr)(u:Value)(hq:q.block<lo):LMk (w.setCell q u) lo hi b l:=h.same fun g h1 h2=>zH _ _ _ _ (by omega)
theorem LMk.wide{lo' hi':Nat}(h:LMk w lo hi b l)(h1:lo'<=lo)(h2:hi<=hi'):LMk w lo' hi' b l:=
 ⟨⟨Nat.le_trans h1 h.1.1,Nat.lt_of_lt_of_le h.1.2 h2⟩,h.2.1,fun i hi''=>by
  obtain⟨g,j,k,m,q,r⟩:=h.2.2 i hi'';exact⟨g,j,k,Nat.le_trans h1 m,Nat.lt_of_lt_of_le q h2,r⟩⟩
theorem Qkb (a:Option Addr)(c:Nat)(l:List Lf)(w:World)(hn:l.length<=1048576)(hp:LBd l)(h:QbD w a l):
  Cl 42 #[.slice a l.length c] w fun e w'=>e=.returned (.slice (some ⟨w.heap.size,0,none⟩) l.length l.length)/\ QdS w' w.heap.size (some ⟨w.heap.size,0,none⟩) l/\ Bl w w'/\ (w.heap.size<w'.heap.size/\ LMk w' w.heap.size w'.heap.size w.heap.size l):=by
 obtain⟨i0,hi,Hi,Hj,Hk⟩:=info_parts QbY;have hm:l.length<=maxLen:=by unfold maxLen;omega
 have Hh:i0.bytes*l.length<=281474976710656:=by rw [Hk];omega
 go_enter Tryz.func42,Tryz.ntmps42;go_wp2_with (at_make;refine wpList_make_full _ rfl _ _ 35 rfl w.heap.size 106 i0 _ 5 Tryz.underlying35 hi Hi Hj _ _ _ _ l.length rfl rfl rfl rfl Hh hm zL ?_;intro w1 m T);have y:Bl w w1:=zI.grown T zL (fun _ h=>by cases h);have Ha:∃xs,w1.ownsRow w.heap.size 106 5 (.slice (some ⟨w.heap.size,0,none⟩) l.length l.length) l.length xs:=⟨_,m⟩;clear m T;go_loopw [4] (fun i wr=>∃k:Nat,k<=l.length/\ i=.int .i64 k/\ Hid (Bl w wr)/\∃xs:List Value,Hid (wr.ownsRow w.heap.size 106 5 (.slice (some ⟨w.heap.size,0,none⟩) l.length l.length) l.length xs)/\ Hid (∀j,j<k ->Qmf wr w.heap.size xs (gL l j) j)) (fun i _=>l.length - (intOf i).toNat);case atStart=>obtain⟨xs,ho⟩:=Ha;exact⟨0,Nat.zero_le _,rfl,hid y,xs,hid ho,hid (fun j hj=>by omega)⟩
 case round=>
  clear Ha y;obtain⟨k,hk,rfl,y,xs,m,M⟩:=hrel;have Y:=(m.lt w.heap.size rfl).2;by_cases Hd:k<l.length
  ·rcases h with h|⟨b,O,rfl,z,R⟩
   ·omega
   obtain⟨pa,pc,K,s,L,N,X,B⟩:=R k Hd;have x0:=(y.cell (p:=⟨b,O+k*5,none⟩) z).trans K;have x1:=(y.cell (p:=⟨b,O+k*5+1,none⟩) z).trans L;have x2:=(y.cell (p:=⟨b,O+k*5+2,none⟩) z).trans N;have x3:=(y.cell (p:=⟨b,O+k*5+3,none⟩) z).trans X;have x4:=(y.cell (p:=⟨b,O+k*5+4,none⟩) z).trans B;have H:=hid (QlU pa pc (gL l k).p (gL l k).fl (gL l k).r (gL l k).q (gL l k).v wr (hp k) (s.bw y));have i1:(0:Int)<=(k:Int):=Int.natCast_nonneg _;have i2:(k:Int)<(l.length:Int):=by omega
   clear R K s L N X B;go_wp2_with fail;refine H.mono ?_;rintro e w2 ⟨g,Hl,S,rfl,s2,A⟩;have u:=Qbc m A (fun k hk=>by simp [Value.ownBlock] at hk;omega);obtain⟨u0,Hm⟩:=QaA u (k*5) (by omega);obtain⟨u1,Hn⟩:=QaA u (k*5+1) (by omega);obtain⟨u2,Ho⟩:=QaA u (k*5+2) (by omega);obtain⟨u3,Hp⟩:=QaA u (k*5+3) (by omega);obtain⟨u4,Hq⟩:=QaA u (k*5+4) (by omega);have f0:=u.frozenAt (k*5);have f1:=u.frozenAt (k*5+1);have f2:=u.frozenAt (k*5+2);have f3:=u.frozenAt (k*5+3);have f4:=u.frozenAt (k*5+4);have Hb:=u.1;have Q:=hid (((((u.stored (k*5) (.slice (some ⟨g,0,none⟩) (gL l k).p.length (gL l k).p.length)).1.stored (k*5+1) (.bool (gL l k).fl)).1.stored (k*5+2) (.int .i64 (gL l k).r)).1.stored (k*5+3) (.int .i64 (gL l k).q)).1.stored (k*5+4) (.string (gL l k).v)).1;have J:=y.trans (A.mono (by omega));have G:=hid (((((J.setCell (p:=⟨w.heap.size,k*5,none⟩) zL (.slice (some ⟨g,0,none⟩) (gL l k).p.length (gL l k).p.length)).setCell (p:=⟨w.heap.size,k*5+1,none⟩) zL (.bool (gL l k).fl)).setCell (p:=⟨w.heap.size,k*5+2,none⟩) zL (.int .i64 (gL l k).r)).setCell (p:=⟨w.heap.size,k*5+3,none⟩) zL (.int .i64 (gL l k).q)).setCell (p:=⟨w.heap.size,k*5+4,none⟩) zL (.string (gL l k).v));have I:Hid (∀j,j<k+1 ->Qmf (((((w2.setCell ⟨w.heap.size,k*5,none⟩ (.slice (some ⟨g,0,none⟩) (gL l k).p.length (gL l k).p.length)).setCell ⟨w.heap.size,k*5+1,none⟩ (.bool (gL l k).fl)).setCell ⟨w.heap.size,k*5+2,none⟩ (.int .i64 (gL l k).r)).setCell ⟨w.heap.size,k*5+3,none⟩ (.int .i64 (gL l k).q)).setCell ⟨w.heap.size,k*5+4,none⟩ (.string (gL l k).v)) w.heap.size (Qjk xs k (.slice (some ⟨g,0,none⟩) (gL l k).p.length (gL l k).p.length) (.bool (gL l k).fl) (.int .i64 (gL l k).r) (.int .i64 (gL l k).q) (.string (gL l k).v)) (gL l j) j):=hid (fun j hj=>by
    by_cases W:j=k
    ·subst W;obtain⟨q0,q1,q2,q3,q4⟩:=QlJ (xs:=xs) (k:=j) (v0:=.slice (some ⟨g,0,none⟩) (gL l j).p.length (gL l j).p.length) (v1:=.bool (gL l j).fl) (v2:=.int .i64 (gL l j).r) (v3:=.int .i64 (gL l j).q) (v4:=.string (gL l j).v) (by omega);exact⟨g,by omega,⟨by rw [QdG];exact S.1,S.2.same (QdF (show w.heap.size<g by omega))⟩,s2.same (by rw [QdG];omega) (fun x hx=>by simp at hx;subst hx;exact QdF (show w.heap.size<g by omega)),q0,q1,q2,q3,q4⟩
    ·exact(M j (by omega)).put W (by rw [QdG];exact A.size) (fun g E t=>(QdF E).trans (A.block g t)))
   clear m M u Hb J A y s2 H x0 x1 x2 x3 x4;obtain⟨vx,Z⟩:=zE (gL l k);rw [Z] at Q G I;rw [Z];clear Z;go_wp2_with fail;go_roundw;case rel=>exact⟨k+1,Hd,by go_num,G,_,Q,I⟩
   case measure=>simp [intOf];omega
  ·obtain rfl:k=l.length:=by omega
   have He:QdS wr w.heap.size (some ⟨w.heap.size,0,none⟩) l:=fun w' hs z=> .inr ⟨w.heap.size,0,rfl,by omega,fun i hi=>by
    obtain⟨g,E,t,V,U,C,D,F,P⟩:=M i hi;have m:=m.out;have q:∀o,w'.cell? ⟨w.heap.size,o,none⟩=wr.cell? ⟨w.heap.size,o,none⟩:=fun o=>World.cell?_of_block (w:=wr) (w':=w') (a:=⟨w.heap.size,o,none⟩) (z _ zL Y);exact⟨_,_,⟨by rw [Nat.zero_add,q,m.cellAt _ (by omega)];exact U,Nat.le_refl _,by have:=hp i;omega⟩,V.same hs (fun x hx=>by simp at hx;subst hx;exact z g (Nat.le_of_lt E) t.1),by rw [Nat.zero_add,q,m.cellAt _ (by omega)];exact C,by rw [Nat.zero_add,q,m.cellAt _ (by omega)];exact D,by rw [Nat.zero_add,q,m.cellAt _ (by omega)];exact F,by rw [Nat.zero_add,q,m.cellAt _ (by omega)];exact P⟩⟩
   have Q:=hid He;have HM:Hid (LMk wr w.heap.size wr.heap.size w.heap.size l):=hid (by
    have m:=m.out;refine⟨⟨Nat.le_refl _,Y⟩,?_,fun i hi=> ?_⟩
    ·rcases m.2 with ⟨h0,_⟩|⟨g',Hf,Hg,hv,Hc,z,E,t,V,U⟩
     ·cases h0
     ·cases hv;exact⟨Hg,z,by omega⟩
    ·obtain⟨g,E,t,V,U,C,D,F,P⟩:=M i hi;exact⟨g,by rw [m.cellAt _ (by omega)];exact U,by omega,by omega,t.1,t.2⟩)
   clear m M He h;go_wp2_with fail;go_ret;exact⟨rfl,Q,y,Y,HM⟩
theorem Qkc (a:Option Addr)(c:Nat)(l:List Lf)(x:Option Addr)(n d:Nat)(R F T:Nat ->Int)(w:World)(hn:l.length<=1048576)(hp:LBd l)(hm:n<=1048576)(h:QbD w a l)(h':Qa7 w x n R F T):
  Cl 22 #[.agg #[.slice a l.length c,.slice x n d]] w fun e w'=>∃g k,w.heap.size<=g/\ (g<w'.heap.size/\ LMk w' w.heap.size w'.heap.size g l)/\ w.heap.size<=k/\ (k<w'.heap.size/\∃s,w'.ownsRow w.heap.size 124 3 (.slice (some ⟨k,0,none⟩) n n) n s)/\ e=.returned (.agg #[.slice (some ⟨g,0,none⟩) l.length l.length,.slice (some ⟨k,0,none⟩) n n])/\ QdS w' w.heap.size (some ⟨g,0,none⟩) l/\ Qa7 w' (some ⟨k,0,none⟩) n R F T/\ Bl w w':=by
 have Hd:=hid h';clear h';go_enter Tryz.func22,Tryz.ntmps22;go_wp2_with fail;refine(Qkb a c l _ hn hp (h.bw (((zO _ _).alloc (by simp) _).alloc (by simp;omega) _))).mono ?_;rintro e w1 ⟨rfl,G,E,z1,A⟩;obtain⟨⟨P,U,V⟩,S,Ha⟩:=Qnr E;have I:Bl w w1:=(((zO _ _).alloc (by simp) _).alloc (by simp;omega) _).trans (E.mono (by simp;omega));have Y:w.heap.size+1+1+1<w1.heap.size:=by have:=z1;simp at this;omega
 simp only [World.size_alloc] at G A;have z:=hid G;have y:=hid A;have u:=hid I;have k1:w1.cell? ⟨w.heap.size,1,none⟩=some (.slice x n d):=by rw [P];simp
 have t:w1.cell? ⟨w.heap.size+1,0,none⟩=some (.slice none 0 0):=by rw [U,World.cell?_alloc_at _ _ _ _ (by simp)];rfl
 have o:w1.cell? ⟨w.heap.size+1,1,none⟩=some (.slice none 0 0):=by rw [U,World.cell?_alloc_at _ _ _ _ (by simp)];rfl
 have M:∀i,w1.frozen? ⟨w.heap.size+1,i,none⟩=false:=fun i=>by rw [S,World.frozen?_alloc_at _ _ _ _ (by simp)]
 have x0:w1.cell? ⟨w.heap.size+1+1,0,none⟩=some (.slice none 0 0):=by rw [V,World.cell?_alloc_at _ _ _ _ (by simp)];rfl
 have H:w1.cell? ⟨w.heap.size+1+1,1,none⟩=some (.slice none 0 0):=by rw [V,World.cell?_alloc_at _ _ _ _ (by simp)];rfl
 have O:∀i,w1.frozen? ⟨w.heap.size+1+1,i,none⟩=false:=fun i=>by rw [Ha,World.frozen?_alloc_at _ _ _ _ (by simp)]
 clear G A I E z1 P U V S Ha h;go_wp2_with fail;obtain⟨W,m⟩:=zE (w1.setCell ⟨w.heap.size+1+1,0,none⟩ (.slice (some ⟨w.heap.size+1+1+1,0,none⟩) l.length l.length));have X:W.cell? ⟨w.heap.size+1+1,0,none⟩=some (.slice (some ⟨w.heap.size+1+1+1,0,none⟩) l.length l.length):=by rw [<- m];exact World.cell?_setCell_same _ _ _ x0
 have C:W.cell? ⟨w.heap.size+1+1,1,none⟩=some (.slice none 0 0):=by rw [<- m];simp [World.cell?_setCell_other,H]
 have K:∀i,W.frozen? ⟨w.heap.size+1+1,i,none⟩=false:=fun i=>by rw [<- m,World.frozen?_setCell];exact O i
 have J:∀i,W.frozen? ⟨w.heap.size+1,i,none⟩=false:=fun i=>by rw [<- m,World.frozen?_setCell];exact M i
 have L:W.cell? ⟨w.heap.size+1,0,none⟩=some (.slice none 0 0):=by rw [<- m,World.cell?_setCell_far _ _ _ _ (by simp)];exact t
 have N:W.cell? ⟨w.heap.size+1,1,none⟩=some (.slice none 0 0):=by rw [<- m,World.cell?_setCell_far _ _ _ _ (by simp)];exact o
 have D:QdS W (w.heap.size+1+1+1) (some ⟨w.heap.size+1+1+1,0,none⟩) l:=by rw [<- m];exact z.set _ _ (by simp)
 have Q:LMk W (w.heap.size+1+1+1) W.heap.size (w.heap.size+1+1+1) l:=by rw [<- m];exact(y.set _ _ (by simp)).wide zL (by simp [World.setCell])
 have q:Bl w W:=by rw [<- m];exact u.setCell (by simp;omega) _
 have zW:w.heap.size+1+1+1<W.heap.size:=by rw [<- m];simp [World.setCell];exact Y
 rw [m];clear m z y u k1 t o x0 H O M Y;refine(QhB x n d R F T W hm (Hd.bw q)).mono ?_;rintro e b ⟨k,Hi,Hj,rfl,s2,j,s,o2⟩;have Hc:Hid (b.ownsRow w.heap.size 124 3 (.slice (some ⟨k,0,none⟩) n n) n s):=hid (by
  obtain⟨q1,Z⟩:=o2;refine⟨q1,?_⟩;rcases Z with Z|⟨g,Hf,Hg,e,Hh,r⟩
  ·exact .inl Z
  ·exact .inr ⟨g,Hf,Hg,e,Nat.le_trans q.size Hh,r⟩)
 have Hb:=hid ((Q.same (fun g _ h2=>j.block g h2)).wide (show w.heap.size<=w.heap.size+1+1+1 by omega) (Nat.le_refl W.heap.size));have y:=hid (Q.same (fun g _ h2=>j.block g h2));have He:=hid j.size;have z:=hid (D.bw j);have u:=hid (q.trans (j.mono q.size));have HK:=hid s2;have Y:w.heap.size+1+1+1<b.heap.size:=Nat.lt_of_lt_of_le zW j.size;have x0:=(j.cell (p:=⟨w.heap.size+1+1,0,none⟩) (show w.heap.size+1+1<W.heap.size by omega)).trans X;have H:=(j.cell (p:=⟨w.heap.size+1+1,1,none⟩) (show w.heap.size+1+1<W.heap.size by omega)).trans C;have t:=(j.cell (p:=⟨w.heap.size+1,0,none⟩) (show w.heap.size+1<W.heap.size by omega)).trans L;have o:=(j.cell (p:=⟨w.heap.size+1,1,none⟩) (show w.heap.size+1<W.heap.size by omega)).trans N;have O:∀i,b.frozen? ⟨w.heap.size+1+1,i,none⟩=false:=fun i=>(j.frozen (p:=⟨w.heap.size+1+1,i,none⟩) (show w.heap.size+1+1<W.heap.size by omega)).trans (K i);have M:∀i,b.frozen? ⟨w.heap.size+1,i,none⟩=false:=fun i=>(j.frozen (p:=⟨w.heap.size+1,i,none⟩) (show w.heap.size+1<W.heap.size by omega)).trans (J i);have Hk:w.heap.size+1+1<k:=by omega
 clear D q Q j X C L N K J s2 o2 zW Hi Hb;go_wp2_with fail;refine zF (v:=.agg #[.slice (some ⟨w.heap.size+1+1+1,0,none⟩) l.length l.length,.slice (some ⟨k,0,none⟩) n n]) (by simp [results,Tryz.results22,go_sem,t,o]) ⟨w.heap.size+1+1+1,k,by omega,⟨by simp [World.setCell];omega,?_⟩,by omega,⟨by simp [World.setCell];omega,s,?_⟩,rfl,?_,?_,?_⟩
 ·refine LMk.wide (lo:=w.heap.size+1+1+1) (hi:=W.heap.size) ?_ (by omega) (by simp [World.setCell];exact He);repeat (refine LMk.set ?_ _ _ (by simp;try omega))
  exact y
 ·repeat (refine Qbr ?_ _ _ (by simp;try omega))
  exact Hc
 ·refine QdS.move (B:=w.heap.size+1+1+1) ?_ (by omega) zL (fun _ _ _=>rfl);repeat (refine QdS.set ?_ _ _ (by simp;try omega))
  exact z
 ·repeat (refine Qa7.set ?_ _ _ (fun x hx=>by simp at hx;subst hx;simp;try omega))
  exact HK
 ·repeat (refine Below.setCell ?_ (by simp;try omega) _)
  exact u
theorem Qhj (a:Option Addr)(c:Nat)(l:List Lf)(x:Option Addr)(n d:Nat)(k:Int)(w:World)(hk0:0<=k)(hk1:k<=1048576)(hn:l.length<=9223372036854775807)(hm:n<=9223372036854775807)(hb:∀i,Qfa (gL l i))(h:QbD w a l):
  Cl 15 #[.agg #[.slice a l.length c,.slice x n d],.int .i64 k] w fun e w'=>(∃j,e=.returned (.int .i64 j)/\ -1<=j/\ j<=k/\ (0<=j ->(l.length<=1048576/\∀i,QlY (gL l i))/\ n<=1048576))/\ Bl w w':=by
 obtain⟨W,m⟩:=zE (w.alloc (.cells #[.slice a l.length c,.slice x n d] 27));have v:Bl w W:=by rw [<- m];exact zO _ _
 have O:w.heap.size<W.heap.size:=by rw [<- m];simp
 have k0:W.cell? ⟨w.heap.size,0,none⟩=some (.slice a l.length c):=by rw [<- m];simp
 have M:W.cell? ⟨w.heap.size,1,none⟩=some (.slice x n d):=by rw [<- m];simp
 have g:=hid (QjY a c l k W hk0 hk1 hn hb (h.bw v));have r:=hid v;clear h v hb;go_enter Tryz.func15,Tryz.ntmps15;go_wp2_with fail;try rw [m]
 clear m;refine g.mono ?_;rintro e w1 ⟨⟨j,rfl,H,I,E⟩,y⟩;have Z:=(y.cell (p:=⟨w.heap.size,1,none⟩) O).trans M;have U:=hid E;have u:=hid (r.trans (y.mono r.size));clear E g r k0 M y O;by_cases A:j<0
 ·have V:decide (j<0)=true:=by simpa using A
  go_wp2_with fail;go_ret;exact⟨⟨-1,rfl,by omega,by omega,fun h=>by omega⟩,u⟩
 ·have V:decide (j<0)=false:=by simpa using A
  go_wp2_with fail;refine(QiZ x n d j w1 hm (by omega) (by omega)).mono ?_;rintro e J ⟨rfl,t⟩;have z:=hid (u.trans (t.mono u.size));clear t Z;by_cases Y:j<(n:Int)
  ·rw [show QcD j n= -1 from if_pos (by omega)];go_wp2_with fail;go_ret;exact⟨⟨-1,rfl,by omega,by omega,fun h=>by omega⟩,z⟩
  ·obtain⟨q,s⟩:=zE (j - (n:Int));have b:QcD j n=q:=by rw [show QcD j n=j - n from if_neg (by omega)];exact s
   rw [b];have G:decide (q<0)=false:=by simp;omega
   have Q:Hid (n<=1048576):=hid (by omega);have o: -1<=q/\ q<=k:=by omega
   clear b s Y;go_wp2_with fail;go_ret;exact⟨⟨q,rfl,o.1,o.2,fun _=>⟨U (by omega),Q⟩⟩,z⟩
open Go.Deep
theorem QnI {α:Type}{l:List α}(h:l.length=3):∃x y z,l=[x,y,z]:=by
 match l,h with
 | [x,y,z],_=>exact⟨x,y,z,rfl⟩
instance:Inhabited Lf:=⟨⟨[],false,0,0,ByteArray.empty⟩⟩
instance:Inhabited ByteArray:=⟨ByteArray.empty⟩
theorem QdU{a:Addr}(h:W.cell? a=some v):∃b j,a=⟨b,j,none⟩/\ b<W.heap.size:=by
 obtain⟨b,j,m⟩:=a;have k:m=none:=by simpa [Addr.add] using World.cell?_spot h
 subst k;exact⟨b,j,rfl,block_lt_of_cell h⟩
theorem QhJ (a:Addr):a.add 0=a:=rfl
theorem QgZ {H:Type}{enc:TypeId×Value ->H}{spare:Nat ->Bool}{x:DataW H×List MemPlace}
  (h:DataW.trod enc Tryz.prog W base spare held fuel 30 cs=some x):∃a p c,cs=[.slice a p.length c]/\ Qaw W a p/\ QlZ p:=by
 rcases open_slice1 Tryz.underlying30 (by kernel_rfl) h with ⟨r,_⟩|⟨a,j,z,m,k,V,D,Z,r,G,I,M,O,_,U⟩
 ·exact⟨none,[],0,r,.inl rfl,by simp,fun i=>by rw [Qdx (by simp)];simp⟩
 ·have J:j<=m:=by rw [O];split<;>omega
  have g:∀i,i<m ->∃s:ByteArray,W.cell? (a.add i)=some (.string s)/\ s.size<=maxLen:=by
   intro i hi;obtain⟨o,A⟩:=U i hi;obtain⟨s,e,_,Q⟩:=DataW.trod_string Tryz.underlying9 A;simp at e;exact⟨s,by rw [o,e],Q⟩
  obtain⟨q,u⟩:=choose_lt g;have v:∀i,i<j ->gS ((List.range j).map q) i=q i:=fun i hi=>by simp [gS,List.getD,hi]
  refine⟨some a,(List.range j).map q,z,by simpa using r,?_,⟨by simp;unfold maxLen at M;omega,fun i=> ?_⟩⟩
  ·by_cases t:j=0
   ·exact .inl (by simp [t])
   ·have y:=(u 0 (by omega)).1;obtain⟨b,Y,rfl,E⟩:=QdU (a:=a) y;refine .inr ⟨b,Y,rfl,E,fun i hi=> ?_⟩;have hi':i<j:=by simpa using hi
    rw [v i hi',<- Qbf];exact(u i (by omega)).1
  ·by_cases hi:i<j
   ·rw [v i hi];have:=(u i (by omega)).2;unfold maxLen at this;omega
   ·rw [Qdx (by simp;omega)];simp
theorem QnJ {α:Type}{l:List α}(h:l.length=5):∃a b c d e,l=[a,b,c,d,e]:=by
 match l,h with
 | [a,b,c,d,e],_=>exact⟨a,b,c,d,e,rfl⟩
theorem QjT {H:Type}{enc:TypeId×Value ->H}{spare:Nat ->Bool}{y:DataW H×List MemPlace}(hl:cs.length=5)
  (h:DataW.trod enc Tryz.prog W base spare held fuel 102 cs=some y):∃(x:Lf) (a:Option Addr) (c:Nat),cs=[.slice a x.p.length c,.bool x.fl,.int .i64 x.r,.int .i64 x.q,.string x.v]/\ Qaw W a x.p/\ Qfa x/\ LfI x:=by
 obtain⟨v0,v1,v2,v3,v4,rfl⟩:=QnJ hl;obtain⟨K,L,N,X,n,_,_,u,z,g,t⟩:=Go.Joins.trod_struct4 Tryz.underlying102 h;have M:Tryz.prog.cellsOf 30=1:=by kernel_rfl
 have O:Tryz.prog.cellsOf 4=1:=by kernel_rfl
 have Q:Tryz.prog.cellsOf 100=2:=by kernel_rfl
 have U:Tryz.prog.cellsOf 9=1:=by kernel_rfl
 have V:Tryz.prog.cellsOf 3=1:=by kernel_rfl
 simp [M,O,Q,U] at u z g t;obtain⟨a,p,c,i,Z,Y⟩:=QgZ u;obtain⟨fl,o,_⟩:=DataW.trod_bool Tryz.underlying4 z;obtain⟨B,C,k,_,_,j,m⟩:=trod_struct2 Tryz.underlying100 g;simp [V] at j m;obtain⟨r,A,_,I⟩:=DataW.trod_int Tryz.underlying3 j;obtain⟨q,b,_,J⟩:=DataW.trod_int Tryz.underlying3 m;obtain⟨s,E,_,G⟩:=DataW.trod_string Tryz.underlying9 t;simp at i o A b E;subst i o A b E;exact⟨⟨p,fl,r,q,s⟩,a,c,rfl,Z,⟨Y,by unfold maxLen at G;show s.size<=_;omega⟩,I,J⟩
theorem Qh7 {H:Type}{enc:TypeId×Value ->H}{spare:Nat ->Bool}{y:DataW H×List MemPlace}
  (h:DataW.trod enc Tryz.prog W base spare held fuel 22 cs=some y):∃a l c,cs=[.slice a l.length c]/\ l.length<=9223372036854775807/\ QbD W a l/\ (∀i,Qfa (gL l i))/\∀i,LfI (gL l i):=by
 have M:∀(l:List Lf) (i:Nat),l.length<=i ->gL l i=⟨[],false,0,0,ByteArray.empty⟩:=fun l i hi=>by simp [gL,List.getD,List.getElem?_eq_none hi]
 have V:Qfa ⟨[],false,0,0,ByteArray.empty⟩:=⟨⟨by simp,fun i=>by rw [Qdx (by simp)];simp⟩,by simp⟩;have Z:LfI ⟨[],false,0,0,ByteArray.empty⟩:=⟨by decide,by decide⟩;rcases open_slice Tryz.underlying22 h with ⟨Q,_⟩|⟨a,j,G,m,k,D,Pl,Q,hb,hl,F,P,_,S⟩
 ·exact⟨none,[],0,Q,by simp,.inl rfl,fun i=>by rw [M _ _ (by simp)];exact V,fun i=>by rw [M _ _ (by simp)];exact Z⟩
 ·have Hb:j<=m:=by rw [P];split<;>omega
  have I:Tryz.prog.cellsOf 102=5:=by kernel_rfl
  have J:∀i,i<m ->∃x:Lf,(∃z pc,W.cell? (a.add (i*5))=some (.slice z x.p.length pc)/\ Qaw W z x.p/\ W.cell? (a.add (i*5+1))=some (.bool x.fl)/\ W.cell? (a.add (i*5+2))=some (.int .i64 x.r)/\ W.cell? (a.add (i*5+3))=some (.int .i64 x.q)/\ W.cell? (a.add (i*5+4))=some (.string x.v))/\ Qfa x/\ LfI x:=by
   intro i hi;obtain⟨Ha,Y,L⟩:=S i hi;rw [I] at Y;obtain⟨_,B,E⟩:=World.cells?_some Y;obtain⟨x,z,pc,rfl,R,N,X⟩:=QjT B L;have u:=E 0 (by omega);have g:=E 1 (by omega);have t:=E 2 (by omega);have o:=E 3 (by omega);have A:=E 4 (by omega);rw [add_add] at u g t o A;exact⟨x,⟨z,pc,by simpa using u,R,by simpa using g,by simpa using t,by simpa using o,by simpa using A⟩,N,X⟩
  obtain⟨q,O⟩:=choose_lt J;have U:∀i,i<j ->gL ((List.range j).map q) i=q i:=fun i hi=>by simp [gL,List.getD,hi]
  refine⟨some a,(List.range j).map q,G,by simpa using Q,by simp;unfold maxLen at F;omega,?_,fun i=> ?_,fun i=> ?_⟩
  ·by_cases K:j=0
   ·exact .inl (by simp [K])
   ·obtain⟨z,pc,u,_⟩:=(O 0 (by omega)).1;obtain⟨b,T,rfl,C⟩:=QdU (a:=a) (by simpa [QhJ] using u);refine .inr ⟨b,T,rfl,C,fun i hi=> ?_⟩;have hi':i<j:=by simpa using hi
    obtain⟨z,pc,u,s,g,t,o,A⟩:=(O i (by omega)).1;rw [Qbf] at u g t o A;rw [U i hi'];exact⟨z,pc,u,s,by simpa [Nat.add_assoc] using g,by simpa [Nat.add_assoc] using t,by simpa [Nat.add_assoc] using o,by simpa [Nat.add_assoc] using A⟩
  ·by_cases hi:i<j
   ·rw [U i hi];exact(O i (by omega)).2.1
   ·rw [M _ _ (by simp;omega)];exact V
  ·by_cases hi:i<j
   ·rw [U i hi];exact(O i (by omega)).2.2
   ·rw [M _ _ (by simp;omega)];exact Z
theorem QiH {H:Type}{enc:TypeId×Value ->H}{spare:Nat ->Bool}{V:DataW H×List MemPlace}
  (h:DataW.trod enc Tryz.prog W base spare held fuel 23 [v0]=some V):∃a n c R F T,v0=.slice a n c/\ n<=9223372036854775807/\ Qa7 W a n R F T/\ I64 R/\ I64 F/\ I64 T:=by
 have Z:Tryz.prog.cellsOf 152=3:=by kernel_rfl
 have I:Tryz.prog.cellsOf 3=1:=by kernel_rfl
 rcases open_slice Tryz.underlying23 h with ⟨y,_⟩|⟨a,t,Y,m,k,D,Pl,y,hb,hl,N,X,_,C⟩
 ·simp at y;subst y;exact⟨none,0,0,fun _=>0,fun _=>0,fun _=>0,rfl,by omega,.inl rfl,fun _=>by simp,fun _=>by simp,fun _=>by simp⟩
 ·simp at y;subst y;have Hd:t<=m:=by rw [X];split<;>omega
  have G:∀i,i<m ->∃q:Int×Int×Int,W.cell? (a.add (i*3))=some (.int .i64 q.1)/\ W.cell? (a.add (i*3+1))=some (.int .i64 q.2.1)/\ W.cell? (a.add (i*3+2))=some (.int .i64 q.2.2)/\
    (-9223372036854775808<=q.1/\ q.1<=9223372036854775807)/\ (-9223372036854775808<=q.2.1/\ q.2.1<=9223372036854775807)/\ (-9223372036854775808<=q.2.2/\ q.2.2<=9223372036854775807):=by
   intro i hi;obtain⟨Hc,E,J⟩:=C i hi;rw [Z] at E;obtain⟨_,L,g⟩:=World.cells?_some E;obtain⟨x0,x1,x2,rfl⟩:=QnI L;obtain⟨V,y1,y2,k',_,_,p,s,A⟩:=trod_struct3 Tryz.underlying152 J;simp [I] at p s A;obtain⟨z0,O,_,S⟩:=DataW.trod_int Tryz.underlying3 p;obtain⟨z1,Q,_,Ha⟩:=DataW.trod_int Tryz.underlying3 s;obtain⟨z2,U,_,Hb⟩:=DataW.trod_int Tryz.underlying3 A;simp at O Q U;subst O Q U;have r:=g 0 (by omega);have u:=g 1 (by omega);have v:=g 2 (by omega);rw [add_add] at r u v;exact⟨(z0,z1,z2),by simpa using r,by simpa using u,by simpa using v,bounds_i64 S,bounds_i64 Ha,bounds_i64 Hb⟩
  obtain⟨q,z⟩:=choose_lt G;refine⟨some a,t,Y,fun i=>if i<m then(q i).1 else 0,fun i=>if i<m then(q i).2.1 else 0,fun i=>if i<m then(q i).2.2 else 0,rfl,by unfold maxLen at N;omega,?_,?_,?_,?_⟩
  ·by_cases h:t=0
   ·exact .inl h
   ·have r:=(z 0 (by omega)).1;obtain⟨b,o,P⟩:=a;have B:P=none:=by simpa [Addr.add] using World.cell?_spot r
    subst B;have K:∀j,(⟨b,o,none⟩:Addr).add j=⟨b,o+j,none⟩:=by
     intro j;by_cases M:j=0
     ·subst M;rfl
     ·simp [Addr.add,M]
    refine .inr ⟨b,o,rfl,block_lt_of_cell r,fun i hi=> ?_⟩;have hi':i<m:=by omega
    obtain⟨r,u,v,_⟩:=z i hi';rw [K] at r u v;simp only [hi',if_true];exact⟨r,by simpa [Nat.add_assoc] using u,by simpa [Nat.add_assoc] using v⟩
  ·intro i;by_cases hi:i<m
   ·simp only [hi,if_true];exact(z i hi).2.2.2.1
   ·simp only [hi,if_false];omega
  ·intro i;by_cases hi:i<m
   ·simp only [hi,if_true];exact(z i hi).2.2.2.2.1
   ·simp only [hi,if_false];omega
  ·intro i;by_cases hi:i<m
   ·simp only [hi,if_true];exact(z i hi).2.2.2.2.2
   ·simp only [hi,if_false];omega
theorem QhO {α:Type}{cs:Array α}(h:cs.size=2):∃c0 c1,cs=#[c0,c1]:=by
 obtain⟨l⟩:=cs;match l,h with
 | [c0,c1],_=>exact⟨c0,c1,rfl⟩
def ltS (s t:ByteArray):Bool:=Op.bytesLess s.toList t.toList
def eqS (s t:ByteArray):Bool:=s.toList==t.toList
def QbI (s t:ByteArray):Int:=if ltS s t=true then -1 else if eqS s t=true then 0 else 1
def QaD:List ByteArray ->List ByteArray ->Int
 | [],[]=>0
 | [],_::_=> -1
 | _::_,[]=>1
 | s::p,t::q=>if QbI s t=0 then QaD p q else QbI s t
theorem Qaw.tail{o:Nat}{s:ByteArray}(hb:b<w.heap.size)(h:∀i,i<(s::p).length ->w.cell? ⟨b,o+i,none⟩=some (.string (gS (s::p) i))):Qaw w (some ⟨b,o+1,none⟩) p:=
 .inr ⟨b,o+1,rfl,hb,fun i hi=>by
  have e:=h (i+1) (by simp;omega);rw [show o+(i+1)=o+1+i by omega] at e;exact e⟩
theorem Qaw.drews(h:Qaw w a p):Qaw (w.drewN k) a p:=h
theorem QbA {y:Int}(h:x=y):Ending.returned (.int .i64 x)=.returned (.int .i64 y):=by rw [h]
theorem QcL:∀(p q:List ByteArray) (a b:Option Addr) (c d:Nat) (w:World),p.length<=c ->q.length<=d ->c<=9223372036854775807 ->d<=9223372036854775807 ->Qaw w a p ->Qaw w b q ->
  Cl 94 #[.slice a p.length c,.slice b q.length d] w fun e w'=>e=.returned (.int .i64 (QaD p q))/\∃k,w'=w.drewN k
 | [],[],a,b,c,d,w,_,_,_,_,_,_=>by
  go_enter Tryz.func94,Tryz.ntmps94;go_wp2_with fail;go_ret;exact⟨rfl,0,rfl⟩
 | [],t::q,a,b,c,d,w,_,_,_,_,_,_=>by
  have N:(((t::q).length:Int)==0)=false:=by simp;omega
  go_enter Tryz.func94,Tryz.ntmps94;go_wp2_with fail;go_ret;exact⟨rfl,0,rfl⟩
 | s::p,[],a,b,c,d,w,_,_,_,_,_,_=>by
  have N:(((s::p).length:Int)==0)=false:=by simp;omega
  go_enter Tryz.func94,Tryz.ntmps94;go_wp2_with fail;go_ret;exact⟨rfl,0,rfl⟩
 | s::p,t::q,a,b,c,d,w,hc,hd,hc',hd',h,g=>by
  obtain⟨n,G⟩:=zE ((s::p).length);obtain⟨m,Z⟩:=zE ((t::q).length);rcases h with h|⟨o,E,rfl,D,h⟩
  ·simp at h
  rcases g with g|⟨i,M,rfl,F,g⟩
  ·simp at g
  have x0:w.cell? ⟨o,E,none⟩=some (.string s):=by simpa [gS] using h 0 (by simp)
  have S:w.cell? ⟨i,M,none⟩=some (.string t):=by simpa [gS] using g 0 (by simp)
  have C:n=p.length+1:=by rw [<- G];simp
  have X:m=q.length+1:=by rw [<- Z];simp
  have U:=hid (Qaw.tail D h);have V:=hid (Qaw.tail F g);have N:((n:Int)==0)=false:=by simp;omega
  have d1:((m:Int)==0)=false:=by simp;omega
  have I:=hid C;have H:=hid X;have Hf:(0:Int)<(n:Int):=by omega
  have Hd:(0:Int)<(m:Int):=by omega
  have Hb:n<=c:=by rw [<- G];exact hc
  have Hc:m<=d:=by rw [<- Z];exact hd
  rw [G,Z];clear C X G Z hc hd h g;by_cases Q:Op.bytesLess s.toList t.toList=true
  ·have v:Hid (QaD (s::p) (t::q)= -1):=hid (by simp [QaD,QbI,ltS,Q]);clear U V;go_enter Tryz.func94,Tryz.ntmps94;go_wp2_with fail;go_quiet (fail);go_wp2_with fail;go_ret;exact⟨QbA v.symm,_,rfl⟩
  ·have Q:Op.bytesLess s.toList t.toList=false:=by simpa using Q
   by_cases Y:(s.toList==t.toList)=true
   ·have v:Hid (QaD (s::p) (t::q)=QaD p q):=hid (by simp only [QaD,QbI,ltS,eqS,Q,Y];simp);have y:Hid (∀A B W,Qaw W A p ->Qaw W B q ->Cl 94 #[.slice A (n - 1) (c - 1),.slice B (m - 1) (d - 1)] W fun e w'=>e=.returned (.int .i64 (QaD p q))/\∃m,w'=W.drewN m):=hid (fun A B W hA hB=>by
     have e1:=I.out;have e2:=H.out;rw [show n - 1=p.length by omega,show m - 1=q.length by omega];exact QcL p q A B (c - 1) (d - 1) _ (by omega) (by omega) (by omega) (by omega) hA hB)
    have Hg:(1:Int)<=(n:Int):=by omega
    have He:(1:Int)<=(m:Int):=by omega
    go_enter Tryz.func94,Tryz.ntmps94;go_wp2_with fail;go_quiet (fail);obtain⟨J,O⟩:=zE (w.drewN nq);rw [O];have R:J.cell? ⟨o,E,none⟩=some (.string s):=by rw [<- O];exact x0
    have T:J.cell? ⟨i,M,none⟩=some (.string t):=by rw [<- O];exact S
    have L:=hid O;clear O;go_wp2_with fail;go_quiet (fail);obtain⟨u,K⟩:=zE (J.drewN nq);rw [K];have z:Hid (∃k,u=w.drewN k):=hid ⟨_,by rw [<- K,<- L.out,World.drewN_drewN]⟩;clear K L R T;go_wp2_with fail;by_cases Ha:1<c
    ·skip;by_cases P:1<d
     ·skip;have j:Hid (Qaw u (some ⟨o,E+1,none⟩) p):=hid (by obtain⟨k,e⟩:=z.out;rw [e];exact U);have r:Hid (Qaw u (some ⟨i,M+1,none⟩) q):=hid (by obtain⟨k,e⟩:=z.out;rw [e];exact V);go_quiet ((go_at_call 94;exact Calls.quiet_of (y _ _ _ j.drews r.drews)));clear j r y;go_wp2_with fail;go_ret;obtain⟨k,e⟩:=z.out;exact⟨QbA v.symm,_,by rw [e,World.drewN_drewN]⟩
     ·skip;have j:Hid (Qaw u (some ⟨o,E+1,none⟩) p):=hid (by obtain⟨k,e⟩:=z.out;rw [e];exact U);have r:=hid (show Qaw u (some ⟨i,M,none⟩) q from .inl (by have:=H.out;omega));go_quiet ((go_at_call 94;exact Calls.quiet_of (y _ _ _ j.drews r.drews)));clear j r y;go_wp2_with fail;go_ret;obtain⟨k,e⟩:=z.out;exact⟨QbA v.symm,_,by rw [e,World.drewN_drewN]⟩
    ·skip;by_cases P:1<d
     ·skip;have j:=hid (show Qaw u (some ⟨o,E,none⟩) p from .inl (by have:=I.out;omega));have r:Hid (Qaw u (some ⟨i,M+1,none⟩) q):=hid (by obtain⟨k,e⟩:=z.out;rw [e];exact V);go_quiet ((go_at_call 94;exact Calls.quiet_of (y _ _ _ j.drews r.drews)));clear j r y;go_wp2_with fail;go_ret;obtain⟨k,e⟩:=z.out;exact⟨QbA v.symm,_,by rw [e,World.drewN_drewN]⟩
     ·skip;have j:=hid (show Qaw u (some ⟨o,E,none⟩) p from .inl (by have:=I.out;omega));have r:=hid (show Qaw u (some ⟨i,M,none⟩) q from .inl (by have:=H.out;omega));go_quiet ((go_at_call 94;exact Calls.quiet_of (y _ _ _ j.drews r.drews)));clear j r y;go_wp2_with fail;go_ret;obtain⟨k,e⟩:=z.out;exact⟨QbA v.symm,_,by rw [e,World.drewN_drewN]⟩
   ·have Y:(s.toList==t.toList)=false:=by simpa using Y
    have v:Hid (QaD (s::p) (t::q)=1):=hid (by simp [QaD,QbI,ltS,eqS,Q,Y]);clear U V;go_enter Tryz.func94,Tryz.ntmps94;go_wp2_with fail;go_quiet (fail);go_wp2_with fail;go_quiet (fail);go_wp2_with fail;go_ret;exact⟨QbA v.symm,_,World.drewN_drewN _ _ _⟩
theorem Qko (s t:ByteArray)(w:World):Cl 182 #[.string s,.string t] w fun e w'=>e=.returned (.int .i64 (QbI s t))/\ w'=w:=by
 have q:∀(s:ByteArray) (w:World),Cl 196 #[.string s] w fun e w'=>e=.returned (.bool false)/\ w'=w:=fun s w=>by
  have e:(s.toList==s.toList)=true:=by simp
  go_enter Tryz.func196,Tryz.ntmps196;go_wp2_with fail;go_ret;exact⟨rfl,rfl⟩
 by_cases k:Op.bytesLess s.toList t.toList=true
 ·have j:Hid (QbI s t= -1):=hid (by simp [QbI,ltS,k]);go_enter Tryz.func182,Tryz.ntmps182;go_wp2_with (go_at_call 196;refine(q _ _).mono ?_;rintro e w' ⟨rfl,rfl⟩);go_ret;exact⟨QbA j.symm,rfl⟩
 ·have k:Op.bytesLess s.toList t.toList=false:=by simpa using k
  by_cases m:(s.toList==t.toList)=true
  ·have j:Hid (QbI s t=0):=hid (by simp only [QbI,ltS,eqS,k,m];simp);go_enter Tryz.func182,Tryz.ntmps182;go_wp2_with (go_at_call 196;refine(q _ _).mono ?_;rintro e w' ⟨rfl,rfl⟩);go_ret;exact⟨QbA j.symm,rfl⟩
  ·have m:(s.toList==t.toList)=false:=by simpa using m
   have j:Hid (QbI s t=1):=hid (by simp [QbI,ltS,eqS,k,m]);go_enter Tryz.func182,Tryz.ntmps182;go_wp2_with (go_at_call 196;refine(q _ _).mono ?_;rintro e w' ⟨rfl,rfl⟩);go_ret;exact⟨QbA j.symm,rfl⟩
theorem Qey(h:k<p.length):p.drop k=gS p k::p.drop (k+1):=by
 rw [List.drop_eq_getElem_cons h];simp [gS,List.getD,h]
theorem Qju(h:k<p.length)(h':q.length<=k):QaD (p.drop k) (q.drop k)=1:=by
 rw [Qey h,List.drop_eq_nil_of_le h'];rfl
theorem Qjs(h:p.length<=k)(h':k<q.length):QaD (p.drop k) (q.drop k)= -1:=by
 rw [Qey h',List.drop_eq_nil_of_le h];rfl
theorem Qjt(h:p.length<=k)(h':q.length<=k):QaD (p.drop k) (q.drop k)=0:=by
 rw [List.drop_eq_nil_of_le h',List.drop_eq_nil_of_le h];rfl
theorem Qlc(h:k<p.length)(h':k<q.length):QaD (p.drop k) (q.drop k)=if QbI (gS p k) (gS q k)=0 then QaD (p.drop (k+1)) (q.drop (k+1)) else QbI (gS p k) (gS q k):=by
 rw [Qey h,Qey h'];rfl
theorem Qlb (p q:List ByteArray)(a b:Option Addr)(c d:Nat)(w:World)(hp:p.length<=1048576)(hq:q.length<=1048576)(h:Qaw w a p)(u:Qaw w b q):
  Cl 193 #[.slice a p.length c,.slice b q.length d] w fun e w'=>e=.returned (.int .i64 (QaD p q))/\ w'=w:=by
 go_enter Tryz.func193,Tryz.ntmps193;go_wp2_with fail;go_loop [11] (fun i=>∃k:Nat,k<=p.length/\ i=.int .i64 (k:Int)/\ k<=q.length/\ Hid (QaD p q=QaD (p.drop k) (q.drop k))) (fun i=>p.length - (intOf i).toNat);case atStart=>exact⟨0,Nat.zero_le _,rfl,Nat.zero_le _,hid rfl⟩
 case round=>
  obtain⟨k,G,rfl,H,m⟩:=hrel;by_cases v:k<p.length
  ·rcases h with h|⟨U,N,rfl,Y,z⟩
   ·omega
   have x0:=z k v;have I:(0:Int)<=(k:Int):=Int.natCast_nonneg _;have J:(k:Int)<(p.length:Int):=by omega
   by_cases r:k<q.length
   ·rcases u with u|⟨V,X,rfl,Z,M⟩
    ·omega
    have Q:=M k r;have K:(k:Int)<(q.length:Int):=by omega
    have A:decide ((q.length:Int)<=(k:Int))=false:=by simp;omega
    have j:=hid (Qlc v r);obtain⟨s,g⟩:=zE (gS p k);obtain⟨t,o⟩:=zE (gS q k);rw [g] at x0;rw [o] at Q;have j:Hid (QaD p q=if QbI s t=0 then QaD (p.drop (k+1)) (q.drop (k+1)) else QbI s t):=hid (by rw [m.out,j.out,g,o]);have E:=hid (Qko s t w);obtain⟨x,O⟩:=zE (QbI s t);rw [O] at E j;clear z M g o m O;go_wp2_with fail;refine E.mono ?_;rintro e w' ⟨rfl,rfl⟩;by_cases y:x=0
    ·subst y;have j:Hid (QaD p q=QaD (p.drop (k+1)) (q.drop (k+1))):=hid (by rw [j.out,if_pos rfl]);go_wp2_with fail;go_round;case rel=>exact⟨k+1,v,by go_num,r,j⟩
     case measure=>simp [intOf];omega
    ·have j:Hid (QaD p q=x):=hid (by rw [j.out,if_neg y]);have L:(x !=0)=true:=by simpa using y
     go_wp2_with fail;go_ret;exact⟨QbA j.symm,rfl⟩
   ·have A:decide ((q.length:Int)<=(k:Int))=true:=by simp;omega
    have j:Hid (QaD p q=1):=hid (by rw [m.out];exact Qju v (by omega));clear z m;go_wp2_with fail;go_ret;exact⟨QbA j.symm,rfl⟩
  ·obtain rfl:k=p.length:=by omega
   by_cases r:p.length<q.length
   ·have j:Hid (QaD p q= -1):=hid (by rw [m.out];exact Qjs zL r);have A:decide ((p.length:Int)<(q.length:Int))=true:=by simp;omega
    clear h u m;go_wp2_with fail;go_ret;exact⟨QbA j.symm,rfl⟩
   ·have j:Hid (QaD p q=0):=hid (by rw [m.out];exact Qjt zL (by omega));have A:decide ((p.length:Int)<(q.length:Int))=false:=by simp;omega
    clear h u m;go_wp2_with fail;go_ret;exact⟨QbA j.symm,rfl⟩
def QaH (p:List ByteArray):Prop:=1<=p.length/\ p.length<=8/\∀i,i<p.length ->1<=(gS p i).size/\ (gS p i).size<=40
noncomputable def yes (P:Prop):Bool:=@decide P (Classical.propDecidable P)
theorem Qah {P:Prop}(h:P):yes P=true:=by unfold yes;exact @decide_eq_true _ (Classical.propDecidable P) h
theorem Qaf {P:Prop}(h:¬P):yes P=false:=by unfold yes;exact @decide_eq_false _ (Classical.propDecidable P) h
theorem Qcy {P:Prop}:yes P=true↔P:=⟨fun h=>by unfold yes at h;exact @of_decide_eq_true _ (Classical.propDecidable P) h,Qah⟩
theorem Qay {x y:Bool}(h:x=y):Ending.returned (.bool x)=.returned (.bool y):=by rw [h]
theorem QeG (p:List ByteArray)(a:Option Addr)(c:Nat)(w:World)(hp:p.length<=1048576)(h:Qaw w a p):
  Cl 62 #[.slice a p.length c] w fun e w'=>e=.returned (.bool (yes (QaH p)))/\ w'=w:=by
 go_enter Tryz.func62,Tryz.ntmps62;go_wp2_with fail;go_loop [3] (fun i=>∃k:Nat,k<=p.length/\ i=.int .i64 (k:Int)/\ Hid (∀j,j<k ->1<=(gS p j).size/\ (gS p j).size<=40)) (fun i=>p.length - (intOf i).toNat);case atStart=>exact⟨0,Nat.zero_le _,rfl,hid (fun j hj=>by omega)⟩
 case round=>
  obtain⟨k,M,rfl,y⟩:=hrel;by_cases v:k<p.length
  ·rcases h with h|⟨A,U,rfl,E,b⟩
   ·omega
   have x0:=b k v;have O:(0:Int)<=(k:Int):=Int.natCast_nonneg _;have Q:(k:Int)<(p.length:Int):=by omega
   obtain⟨s,o⟩:=zE (gS p k);rw [o] at x0;have z:=hid o;clear b o;by_cases r:(s.size:Int)<1
   ·have g:decide ((s.size:Int)<1)=true:=by simpa using r
    have m:Hid (yes (QaH p)=false):=hid (Qaf (fun h=>by have:=(h.2.2 k v).1;rw [z.out] at this;omega));go_wp2_with fail;go_ret;exact⟨Qay m.symm,rfl⟩
   ·have g:decide ((s.size:Int)<1)=false:=by simpa using r
    by_cases u:(40:Int)<(s.size:Int)
    ·have t:decide ((40:Int)<(s.size:Int))=true:=by simpa using u
     have m:Hid (yes (QaH p)=false):=hid (Qaf (fun h=>by have:=(h.2.2 k v).2;rw [z.out] at this;omega));go_wp2_with fail;go_ret;exact⟨Qay m.symm,rfl⟩
    ·have t:decide ((40:Int)<(s.size:Int))=false:=by simpa using u
     have m:Hid (∀j,j<k+1 ->1<=(gS p j).size/\ (gS p j).size<=40):=hid (fun j hj=>by
      by_cases e:j=k
      ·rw [e,z.out];omega
      ·exact y j (by omega))
     go_wp2_with fail;go_round;case rel=>exact⟨k+1,v,by go_num,m⟩
     case measure=>simp [intOf];omega
  ·obtain rfl:k=p.length:=by omega
   have m:Hid (yes (QaH p)=decide (1<=p.length/\ p.length<=8)):=hid (by
    by_cases q:1<=p.length/\ p.length<=8
    ·rw [Qah ⟨q.1,q.2,y.out⟩,decide_eq_true q]
    ·rw [Qaf (fun h=>q ⟨h.1,h.2.1⟩),decide_eq_false q])
   clear h y;by_cases r:(1:Int)<=(p.length:Int)
   ·have g:decide ((1:Int)<=(p.length:Int))=true:=by simpa using r
    by_cases u:(p.length:Int)<=8
    ·have t:decide ((p.length:Int)<=8)=true:=by simpa using u
     have m:Hid (yes (QaH p)=true):=hid (by rw [m.out];exact decide_eq_true (by omega));go_wp2_with fail;go_ret;exact⟨Qay m.symm,rfl⟩
    ·have t:decide ((p.length:Int)<=8)=false:=by simpa using u
     have m:Hid (yes (QaH p)=false):=hid (by rw [m.out];exact decide_eq_false (by omega));go_wp2_with fail;go_ret;exact⟨Qay m.symm,rfl⟩
   ·have g:decide ((1:Int)<=(p.length:Int))=false:=by simpa using r
    have m:Hid (yes (QaH p)=false):=hid (by rw [m.out];exact decide_eq_false (by omega));go_wp2_with fail;go_ret;exact⟨Qay m.symm,rfl⟩
theorem Qhb (p:List ByteArray)(a:Option Addr)(c:Nat)(w:World)(hp:p.length<=1048576)(h:Qaw w a p):
  Cl 123 #[.slice a p.length c] w fun e w'=>e=.returned (.bool (yes (QaH p)))/\ w'=w:=by
 by_cases q:(p.length:Int)<1
 ·have u:decide ((p.length:Int)<1)=true:=by simpa using q
  have m:Hid (yes (QaH p)=false):=hid (Qaf (fun h=>by have:=h.1;omega));clear h;go_enter Tryz.func123,Tryz.ntmps123;go_wp2_with fail;go_ret;exact⟨Qay m.symm,rfl⟩
 ·have u:decide ((p.length:Int)<1)=false:=by simpa using q
  by_cases r:(8:Int)<(p.length:Int)
  ·have v:decide ((8:Int)<(p.length:Int))=true:=by simpa using r
   have m:Hid (yes (QaH p)=false):=hid (Qaf (fun h=>by have:=h.2.1;omega));clear h;go_enter Tryz.func123,Tryz.ntmps123;go_wp2_with fail;go_ret;exact⟨Qay m.symm,rfl⟩
  ·have v:decide ((8:Int)<(p.length:Int))=false:=by simpa using r
   go_enter Tryz.func123,Tryz.ntmps123;go_wp2_with fail;clear u v;go_loop [15] (fun i=>∃k:Nat,k<=p.length/\ i=.int .i64 (k:Int)/\ Hid (∀j,j<k ->1<=(gS p j).size/\ (gS p j).size<=40)) (fun i=>p.length - (intOf i).toNat);case atStart=>exact⟨0,Nat.zero_le _,rfl,hid (fun j hj=>by omega)⟩
   case round=>
    obtain⟨k,E,rfl,z⟩:=hrel;by_cases y:k<p.length
    ·rcases h with h|⟨b,Q,rfl,A,o⟩
     ·omega
     have x0:=o k y;have M:(0:Int)<=(k:Int):=Int.natCast_nonneg _;have O:(k:Int)<(p.length:Int):=by omega
     obtain⟨s,t⟩:=zE (gS p k);rw [t] at x0;have g:=hid t;clear o t;by_cases q:(s.size:Int)<1
     ·have u:decide ((s.size:Int)<1)=true:=by simpa using q
      have m:Hid (yes (QaH p)=false):=hid (Qaf (fun h=>by have:=(h.2.2 k y).1;rw [g.out] at this;omega));go_wp2_with fail;go_ret;exact⟨Qay m.symm,rfl⟩
     ·have u:decide ((s.size:Int)<1)=false:=by simpa using q
      by_cases r:(40:Int)<(s.size:Int)
      ·have v:decide ((40:Int)<(s.size:Int))=true:=by simpa using r
       have m:Hid (yes (QaH p)=false):=hid (Qaf (fun h=>by have:=(h.2.2 k y).2;rw [g.out] at this;omega));go_wp2_with fail;go_ret;exact⟨Qay m.symm,rfl⟩
      ·have v:decide ((40:Int)<(s.size:Int))=false:=by simpa using r
       have m:Hid (∀j,j<k+1 ->1<=(gS p j).size/\ (gS p j).size<=40):=hid (fun j hj=>by
        by_cases e:j=k
        ·rw [e,g.out];omega
        ·exact z j (by omega))
       go_wp2_with fail;go_round;case rel=>exact⟨k+1,y,by go_num,m⟩
       case measure=>simp [intOf];omega
    ·obtain rfl:k=p.length:=by omega
     have m:Hid (yes (QaH p)=true):=hid (Qah ⟨by omega,by omega,z⟩);clear h z;go_wp2_with fail;go_ret;exact⟨Qay m.symm,rfl⟩
open Go.Maps
def Qcj (v:Value):Option (DataW Value×List MemPlace):=match v with
 | .slice a n c=>some (.held (.slice a n c),[])
 | _=>none
theorem Qdl{d:DataW Value}{ps:List MemPlace}(h:Qcj v=some (d,ps)):d=.held v/\∃a n c,v=.slice a n c:=by
 unfold Qcj at h;split at h
 ·simp at h;exact⟨h.1.symm,_,_,_,rfl⟩
 ·cases h
theorem Qdm{e:TypeId}{size:Nat}(h:w.ownsRow B e size v n xs):Qcj v=some (.held v,[]):=by
 rcases h.2 with ⟨rfl,_⟩|⟨g,j,k,rfl,_⟩<;>rfl
def kI (r:Int):Lit:=.int .i64 r
def upd {α:Type}(G:Int ->α)(r:Int)(v:α)(x:Int):α:=if x=r then v else G x
theorem Qak {α:Type}(G:Int ->α)(r:Int)(v:α):upd G r v r=v:=if_pos rfl
theorem Qad {α:Type}(G:Int ->α)(v:α)(h:x≠r):upd G r v x=G x:=if_neg h
theorem Qhy(h:x≠r):kI x≠kI r:=fun e=>h (by unfold kI at e;injection e)
def Qal (l:List (Int×Int)):List Value:=l.flatMap fun p=>[.int .i64 p.1,.int .i64 p.2]
theorem Qa2 (l:List (Int×Int))(p:Int×Int):Qal (l++[p])=Qal l++[.int .i64 p.1,.int .i64 p.2]:=by simp [Qal]
structure Qaz (w:World)(bm n:Nat)(D:DataW Value)(G:Int ->Value)(L:Int ->List (Int×Int)):Prop where
 own:w.ownsMap Tryz.prog 3 Qcj bm n D
 at':∀r,D.atKey (kI r) (.held (.slice none 0 0))=.held (G r)
 has':∀r,Maps.has D (kI r)= !(L r).isEmpty
 rows:∀r,w.ownsRow (bm+1) 233 2 (G r) (L r).length (Qal (L r))
 apart:∀r r' g,(G r).ownBlock=some g ->(G r').ownBlock=some g ->r=r'
theorem Qaz.bw{D:DataW Value}{G:Int ->Value}(h:Qaz w bm n D G L)(hb:Bl w w1):Qaz w1 bm n D G L:=
 ⟨h.own.kept ⟨hb.os,hb.tape,hb.output,hb.size,fun k hk _=>hb.block k hk⟩ (by simp:some bm≠none),h.at',h.has',fun r=>Qbc (h.rows r) hb (fun k hk=>((h.rows r).lt k hk).2),h.apart⟩
theorem Qaz.step {w2 w3:World}{D:DataW Value}{G:Int ->Value}{v':Value}{f t:Int}(h:Qaz w bm n D G L)
  (hb:Bl w w1) (hown:w2.ownsRow (bm+1) 233 2 v' ((L r).length+1) (Qal (L r)++[.int .i64 f,.int .i64 t]))
  (hgr:w1.grownBy w2 (G r).ownBlock) (hloc:v'.ownBlock=(G r).ownBlock \/v'.ownBlock=some w1.heap.size)
  (hD:w3.ownsMap Tryz.prog 3 Qcj bm (n+1) (D.put (kI r) (.held v'))) (hgr3:w2.grownBy w3 (some bm)):
  Qaz w3 bm (n+1) (D.put (kI r) (.held v')) (upd G r v') (upd L r (L r++[(f,t)])):=by
 have E:=h.bw hb;have A:∀(w:World) (v:Value) (m:Nat) (xs:List Value),w.ownsRow (bm+1) 233 2 v m xs ->v.ownBlock=none \/v.ownBlock≠some bm:=by
  intro w v m xs O;cases e:v.ownBlock with
  | none=>exact .inl rfl
  | some g=>exact .inr (fun e2=>by have:=(O.lt g e).1;injection e2 with e2;omega)
 refine⟨hD,fun x=> ?_,fun x=> ?_,fun x=> ?_,?_⟩
 ·by_cases e:x=r
  ·subst e;rw [Qak,atKey_put_same h.own.isMap (show WideAt.IsKeyLit (kI x) from trivial)]
  ·rw [Qad G v' e,atKey_put_other (Qhy e)];exact h.at' x
 ·by_cases e:x=r
  ·subst e;rw [Qak,has_put_same h.own.isMap (show WideAt.IsKeyLit (kI x) from trivial)];simp
  ·rw [Qad L _ e,has_put_other (Qhy e)];exact h.has' x
 ·by_cases e:x=r
  ·subst e;rw [Qak,Qak,Qa2,List.length_append];exact hown.kept hgr3 (A _ _ _ _ hown)
  ·rw [Qad G v' e,Qad L _ e];have j:=E.rows x;have M:(G x).ownBlock=none \/(G x).ownBlock≠(G r).ownBlock:=by
    cases e1:(G x).ownBlock with
    | none=>exact .inl rfl
    | some g=>exact .inr (fun e2=>e (h.apart x r g e1 e2.symm))
   have p:=j.kept hgr M;exact p.kept hgr3 (A _ _ _ _ p)
 ·intro x y g j q;have s:∀z,z≠r ->∀g,(G z).ownBlock=some g ->v'.ownBlock=some g ->False:=by
   intro z Q g b u;rcases hloc with i|i
   ·exact Q (h.apart z r g b (i ▸ u))
   ·rw [i] at u;have U:=((h.rows z).lt g b).2;have V:=hb.size;injection u with u;omega
  by_cases o:x=r
  ·subst o;rw [Qak] at j;by_cases k:y=x
   ·exact k.symm
   ·rw [Qad G v' k] at q;exact(s y k g q j).elim
  ·rw [Qad G v' o] at j;by_cases k:y=r
   ·subst k;rw [Qak] at q;exact(s x o g j q).elim
   ·rw [Qad G v' k] at q;exact h.apart x y g j q
def Lk (R F T:Nat ->Int):Nat ->Int ->List (Int×Int)
 | 0=>fun _=>[]
 | k+1=>upd (Lk R F T k) (R k) (Lk R F T k (R k)++[(F k,T k)])
theorem Qbo (R F T:Nat ->Int)(k:Nat):∀r,(Lk R F T k r).length<=k:=by
 induction k with
 | zero=>intro r;simp [Lk]
 | succ k ih=>
  intro r;by_cases e:r=R k
  ·subst e;simp only [Lk];rw [Qak];have:=ih (R k);simp;omega
  ·simp only [Lk];rw [Qad _ _ e];have:=ih r;omega
theorem QfD (w:World):(zeroValue 215).run Tryz.prog w=.ok (.slice none 0 0) w:=by kernel_rfl
theorem wfI(h0: -9223372036854775808<=r)(h1:r<=9223372036854775807):(Lit.int .i64 r).wf=true:=by
 have j:IntKind.i64.min= -9223372036854775808:=by decide
 have k:IntKind.i64.max=9223372036854775807:=by decide
 simp only [Lit.wf,j,k,Bool.and_eq_true,decide_eq_true_iff];exact⟨h0,h1⟩
theorem Qaz.look{D:DataW Value}{G:Int ->Value}(h:Qaz w bm n D G L)(r:Int)(hr:(Lit.int .i64 r).wf=true):
  (Instr.lookup 158 (.map (some bm)) (.int .i64 r) false).run Tryz.prog w=.ok (G r) w:=by
 obtain⟨v,ps,k,m⟩:=h.own.lookup (int_keyed Tryz.underlying3) Tryz.underlying158 (QfD w) (zd:=.held (.slice none 0 0)) (zp:=[]) rfl (keyOf_int_mk Tryz.underlying3 hr);have:=h.at' r;obtain⟨j,_⟩:=Qdl m;unfold kI at this;rw [this] at j;have e:v=G r:=by injection j with j;exact j.symm
 rw [k,e]
theorem Tryz.infoSpan:(Tryz.prog.info? 233).map (fun i=>(i.zero,i.size,i.bytes))=some (some (.agg #[.int .i64 0,.int .i64 0]),2,16):=by kernel_rfl
theorem Qnc{ops:Array Oper}{Q:Exit ->Act ->World ->Prop}{md:Region.Mode}{S:World ->Prop}{d d':Option Tmp}{listed:Array Bool}{a:Act}
  (hd:ops[i]?.map (fun o=>o.dst)=some d) (hd':ops[j]?.map (fun o=>o.dst)=some d') (hr:Region.ready md ops listed=[i,j])
  (h:∀o,ops[i]? =some o ->o.dst=d ->∀K':Act ->World ->Prop,Shut (∀a w,S w ->(S w ->wpAnyH P md ops Q S fuel (listed.setIfInBounds i true) a w) ->K' a w) ->if Region.wanted o (yielded ops a.tmps)=true then Oper.wp P o a w K' Q else K' (a.put o.dst undef) w)
  (h':∀o,ops[j]? =some o ->o.dst=d' ->∀K':Act ->World ->Prop,Shut (∀a w,S w ->(S w ->wpAnyH P md ops Q S fuel (listed.setIfInBounds j true) a w) ->K' a w) ->if Region.wanted o (yielded ops a.tmps)=true then Oper.wp P o a w K' Q else K' (a.put o.dst undef) w):
  wpAnyH P md ops Q S (fuel+1) listed a w:=by
 obtain⟨o,k,q⟩:=Option.map_eq_some_iff.1 hd;obtain⟨u,m,r⟩:=Option.map_eq_some_iff.1 hd';exact wpAnyH_ready hr (by simp) (AllReadyH.cons k (h o k q) (AllReadyH.cons m (h' u m r) AllReadyH.nil))
theorem QcE{o:Oper}{a:Act}{K:Act ->World ->Prop}{Q:Exit ->Act ->World ->Prop}(s x:Operand)(t:TypeId)
  (ho:o.op=.call {callee:=.builtin .append,args:=#[s,x],argTypes:=#[t,t]})
  (base:Nat) (e:TypeId) (i:TypeInfo) (z:Value) (size bytes:Nat) (ht:P.underlying t=some (.slice e)) (hi:P.info? e=some i) (hz:i.zero=some z)
  (hsize:i.size=size) (hby:i.bytes=bytes) (hzs:z.cells.size=size) (hsz:0<size)
  (v:Value) (n:Nat) (xs:List Value) (hs:a.eval s=v) (hown:w.ownsRow base e size v n xs)
  (ad:Addr) (m c:Nat) (news:List Value) (hx:a.eval x=.slice (some ad) m c) (hl:news.length=m*size) (hnews:∀j u,news[j]? =some u ->w.cell? (ad.add j)=some u) (h1:∀u∈news,u.oneCell'=true)
  (h63:n+m<=maxLen) (hbytes:(n+m)*bytes<=140737488355328) (hbase:base<=w.heap.size)
  (h:∀v' w',w'.ownsRow base e size v' (n+m) (xs++news) ->w.grownBy w' v.ownBlock ->(v'.ownBlock=v.ownBlock \/v'.ownBlock=some w.heap.size) ->K (a.put o.dst v') w'):o.wp P a w K Q:=by
 obtain⟨v',w',y,k,q,g,r⟩:=run_append_own_at (P:=P) w base t o.type e i z size bytes ht hi hz hsize hby hzs hsz v n xs hown ad m c news hl hnews h1 h63 hbytes hbase;unfold Oper.wp execOp;simp only [ho,resolve,invoke,builtin,Sem.run_bind,Sem.run_pure,Result.andThen_ok,List.map_toArray,List.map_cons,List.map_nil,hs,hx,y];exact h v' w' k q r
theorem QcY {H:Type}(w:World){o:Oper}{a:Act}{K:Act ->World ->Prop}{Q:Exit ->Act ->World ->Prop}
  (m x v:Operand) (t:TypeId) (hop:o.op=Op.mapUpdate t m x v)
  (k e:TypeId) (Kd:Keyed P k) (ht:P.underlying t=some (.map k e)) (R:Value ->Option (DataW H×List MemPlace)) (b n:Nat) (D:DataW H)
  (hm:a.eval m=.map (some b)) (hown:w.ownsMap P k R b n D) (hn:n<maxLen) (key val:Value) (kl:Lit) (hx:a.eval x=key) (hv:a.eval v=val) (hkey:keyOf P k key=some kl)
  (d:DataW H) (ps:List MemPlace) (hval:R val=some (d,ps))
  (hK:∀w',w'.ownsMap P k R b (n+1) (D.put kl d) ->w.grownBy w' (some b) ->K (a.put o.dst undef) w'):o.wp P a w K Q:=by
 obtain⟨w',j,r1,r2⟩:=hown.update Kd ht hn hkey hval;unfold Oper.wp;simp [execOp,hop,hm,hx,hv,j,Result.andThen];exact hK _ r1 r2
theorem Qe4 (w:World):Qaz (w.alloc (.map #[] 0)) w.heap.size 0 (.map []) (fun _=> .slice none 0 0) (fun _=>[]):=
 ⟨World.ownsMap_made w _ _ _,fun r=>rfl,fun r=>rfl,fun r=>World.ownsRow_nil _ _ _ _,fun r r' g h _=>by cases h⟩
theorem QjE{row:Option Nat}{x y z:Value}(hg:w.grownBy w' row)(h0:w.cell? ⟨B,0,none⟩=some x)(h1:w.cell? ⟨B,1,none⟩=some y)(h2:w.cell? ⟨B,2,none⟩=some z)(hne:some B≠row):
  w'.cell? ⟨B,0,none⟩=some x/\ w'.cell? ⟨B,1,none⟩=some y/\ w'.cell? ⟨B,2,none⟩=some z:=⟨hg.cell h0 hne,hg.cell h1 hne,hg.cell h2 hne⟩
theorem QmY (a:Option Addr)(n c:Nat)(R F T:Nat ->Int)(w:World)(hn:n<=1048576)(h:Qa7 w a n R F T)(hok:Qdh R F T n=true):
  Cl 154 #[.agg #[.slice a n c]] w fun e w'=>∃bm D G,e=.returned (.tuple #[.map (some bm),.bool true])/\ Qaz w' bm n D G (Lk R F T n)/\ w.heap.size<=bm/\ Bl w w':=by
 have H1:=@run_makeMap Tryz.prog;have Hf:=(Qax.1 hok);obtain⟨i0,hi,Hr,Hs,Ht⟩:=info_parts Tryz.infoSpan;have B0:Bl w (w.alloc (.cells #[.slice a n c] 38)):=zO _ _;have Hm:=hid Hf;clear Hf;go_enter Tryz.func154,Tryz.ntmps154;go_wp2_with fail;refine(Qky a n c R F T _ hn (h.bw B0)).mono ?_;rintro e w1 ⟨rfl,P⟩;rw [hok];have Hu:w1.cell? ⟨w.heap.size,0,none⟩=some (.slice a n c):=by rw [(Qcm P).1 _ _ (by simp)];simp
 have N:=Qaa B0 P;have z1:w.heap.size<w1.heap.size:=by have:=P.size;simp at this;omega
 clear P B0 hok;rcases h with h|⟨b,Hl,rfl,hb,Z⟩
 ·subst h;have Hh:=hid N;clear N;go_wp2_with fail;refine wp_loop_rounds 1 ?_;rw [rounds_succ];go_wp2_with fail;go_ret2;exact⟨w1.heap.size,_,_,rfl,Qe4 w1,by omega,(Hh.alloc (by omega) _)⟩
 have Hh:=hid N;clear N;go_wp2_with fail;go_loopw [14] (fun i wr=>∃(k:Nat) (D:DataW Value) (G:Int ->Value),k<=n/\ i=.int .i64 k/\ Qaz wr w1.heap.size k D G (Lk R F T k)/\ Bl w wr/\ w1.heap.size<wr.heap.size) (fun i _=>n - (intOf i).toNat);case atStart=>exact⟨0,_,_,Nat.zero_le _,rfl,Qe4 w1,Hh.alloc (by omega) _,by simp⟩
 case round=>
  obtain⟨k,D,G,g,rfl,s,E,H2⟩:=hrel;by_cases O:k<n
  ·have Hv:wr.cell? ⟨b,Hl+k*3,none⟩=some (.int .i64 (R k)):=(E.cell (p:=⟨b,_,none⟩) hb).trans (Z k O).1;have Hj:wr.cell? ⟨b,Hl+k*3+1,none⟩=some (.int .i64 (F k)):=(E.cell (p:=⟨b,_,none⟩) hb).trans (Z k O).2.1;have Hk:wr.cell? ⟨b,Hl+k*3+2,none⟩=some (.int .i64 (T k)):=(E.cell (p:=⟨b,_,none⟩) hb).trans (Z k O).2.2;have Hx:=QaV.1 ((Hm.1 k O).1);have Hg:(Lit.int .i64 (R k)).wf=true:=wfI (by omega) (by omega);have H0:=Hm.2;have hL:=Qbo R F T k (R k);obtain⟨z,A⟩:=zE (wr.alloc (.cells #[.int .i64 (R k),.int .i64 (F k),.int .i64 (T k)] 124));have zW:z.heap.size=wr.heap.size+1:=by rw [<- A];simp
   have bW:Bl wr z:=by rw [<- A];exact zO _ _
   have r0:z.cell? ⟨wr.heap.size,0,none⟩=some (.int .i64 (R k)):=by rw [<- A];simp
   have r1:z.cell? ⟨wr.heap.size,1,none⟩=some (.int .i64 (F k)):=by rw [<- A];simp
   have r2:z.cell? ⟨wr.heap.size,2,none⟩=some (.int .i64 (T k)):=by rw [<- A];simp
   have He:some w1.heap.size≠(G (R k)).ownBlock:=fun e=>by have:=((s.rows (R k)).lt _ e.symm).1;omega
   have Hq:some wr.heap.size≠(G (R k)).ownBlock:=fun e=>by have:=((s.rows (R k)).lt _ e.symm).2;omega
   have g1:=s.bw (bW.drew);have Hy:=g1.look (R k) Hg;obtain⟨U,Y⟩:=zE (z.alloc (.cells #[.int .i64 (F k),.int .i64 (T k)] 233));have V:Bl z U:=by rw [<- Y];exact zO _ _
   have Hd:U.drew.heap.size=wr.heap.size+2:=by show U.heap.size=_;rw [<- Y];simp;omega
   have b2:Bl wr U.drew:=(bW.trans (V.mono (by omega))).drew;have W:=s.bw b2;have Hz:=W.look (R k) Hg;have Hc:Hid (∀j u,[Value.int .i64 (F k),.int .i64 (T k)][j]? =some u ->U.drew.cell? ((⟨wr.heap.size+1,0,none⟩:Addr).add j)=some u):=by rw [<- Y,<- zW];exact cell_two_new _ _ _ _
   have C:=hid (W.rows (R k));have Hb:=hid W.own;have Ha:=hid s;have B:=hid b2;have X:=hid E;have Hn:=(V.cell (p:=⟨wr.heap.size,0,none⟩) (show wr.heap.size<z.heap.size by omega)).trans r0;have Ho:=(V.cell (p:=⟨wr.heap.size,1,none⟩) (show wr.heap.size<z.heap.size by omega)).trans r1;have Hp:=(V.cell (p:=⟨wr.heap.size,2,none⟩) (show wr.heap.size<z.heap.size by omega)).trans r2;clear s E g1 W b2 bW V Hx Z;go_wp2_with fail;try rw [A]
   clear Hv Hj Hk A;refine zR (S:=fun w'=>w'.cell? ⟨wr.heap.size,0,none⟩=some (.int .i64 (R k))/\ w'.cell? ⟨wr.heap.size,1,none⟩=some (.int .i64 (F k))/\ w'.cell? ⟨wr.heap.size,2,none⟩=some (.int .i64 (T k))) ⟨r0,r1,r2⟩ (fun qh=> ?_);refine tZ 0 18 ?_;refine tZ 1 19 ?_;refine tZ 2 20 ?_;refine tZ 3 21 ?_;refine tZ 4 22 ?_;refine tZ 5 23 ?_;refine tZ 7 25 ?_;refine tZ 8 26 ?_;refine tZ 9 27 ?_;refine tZ 10 28 ?_;refine tZ 11 29 ?_;refine Qnc (i:=6) (j:=12) (d:=some 24) (d':=some 30) (by kernel_rfl) (by kernel_rfl) (by kernel_rfl) ?_ ?_
   ·intro o I Hw K m;simp only [gZa,gZb,gZc,gZd] at I;subst I;go_simp;refine m.out _ _ ⟨r0,r1,r2⟩ (fun qh=> ?_);clear m K;try simp only [zP]
    refine cZ 12 ?_;intro K m;go_simp;try rw [Y]
    have q:=And.intro Hn (And.intro Ho Hp);refine m.out _ _ ⟨q.1,q.2.1,q.2.2⟩ (fun qh=> ?_);clear m K;try simp only [zP]
    refine cZ 13 ?_;intro K m;rw [if_pos (by rfl)];refine QcE _ _ _ (by rfl) (w1.heap.size+1) 233 i0 _ 2 16 Tryz.underlying215 hi Hr Hs Ht rfl (by decide) (G (R k)) (Lk R F T k (R k)).length _ (by rfl) C ⟨wr.heap.size+1,0,none⟩ 1 1 [.int .i64 (F k),.int .i64 (T k)] (by rfl) (by rfl) Hc (by intro u L;simp at L;rcases L with rfl|rfl<;>rfl) (by unfold maxLen;omega) (by omega) (by rw [Hd];omega) ?_;intro v' w3 M v H;have r:=QjE v q.1 q.2.1 q.2.2 Hq;refine m.out _ _ ⟨r.1,r.2.1,r.2.2⟩ (fun qh=> ?_);clear m K;try simp only [zP]
    refine cZ 14 ?_;intro K m;rw [if_pos (by rfl)];refine QcY _ _ _ _ _ (by rfl) 3 215 (int_keyed Tryz.underlying3) Tryz.underlying158 Qcj w1.heap.size k D (by rfl) (Hb.kept v He) (by unfold maxLen;omega) (.int .i64 (R k)) v' (kI (R k)) (by rfl) (by rfl) (keyOf_int_mk Tryz.underlying3 Hg) (.held v') [] (Qdm M) ?_;intro w4 J y;have t:=QjE y r.1 r.2.1 r.2.2 (by simp;omega);refine m.out _ _ ⟨t.1,t.2.1,t.2.2⟩ (fun qh=> ?_);clear m K;try simp only [zP]
    refine zD ?_;have Q:=hid (Ha.step (v':=v') B M v H J y);have HZ:=hid (Nat.le_trans v.size y.size);have Hi:=hid (((X.trans (B.mono (by omega))).grown v (by omega) (fun k g=>by have:=(C.lt k g).1;omega)).grown y (by have:=v.size;omega) (fun k g=>by injection g with g;omega));clear qh q r t M v H J y;go_wp2_with fail;go_roundw;case rel=>exact⟨k+1,_,_,O,by go_num,Q,Hi,by have:=HZ.out;omega⟩
    case measure=>simp [intOf];omega
   ·intro o I Hw K m;simp only [gZa,gZb,gZc,gZd] at I;subst I;go_simp;try rw [Y]
    have q:=And.intro Hn (And.intro Ho Hp);refine m.out _ _ ⟨q.1,q.2.1,q.2.2⟩ (fun qh=> ?_);clear m K;try simp only [zP]
    refine cZ 6 ?_;intro K m;go_simp;refine m.out _ _ ⟨q.1,q.2.1,q.2.2⟩ (fun qh=> ?_);clear m K;try simp only [zP]
    refine cZ 13 ?_;intro K m;rw [if_pos (by rfl)];refine QcE _ _ _ (by rfl) (w1.heap.size+1) 233 i0 _ 2 16 Tryz.underlying215 hi Hr Hs Ht rfl (by decide) (G (R k)) (Lk R F T k (R k)).length _ (by rfl) C ⟨wr.heap.size+1,0,none⟩ 1 1 [.int .i64 (F k),.int .i64 (T k)] (by rfl) (by rfl) Hc (by intro u L;simp at L;rcases L with rfl|rfl<;>rfl) (by unfold maxLen;omega) (by omega) (by rw [Hd];omega) ?_;intro v' w3 M v H;have r:=QjE v q.1 q.2.1 q.2.2 Hq;refine m.out _ _ ⟨r.1,r.2.1,r.2.2⟩ (fun qh=> ?_);clear m K;try simp only [zP]
    refine cZ 14 ?_;intro K m;rw [if_pos (by rfl)];refine QcY _ _ _ _ _ (by rfl) 3 215 (int_keyed Tryz.underlying3) Tryz.underlying158 Qcj w1.heap.size k D (by rfl) (Hb.kept v He) (by unfold maxLen;omega) (.int .i64 (R k)) v' (kI (R k)) (by rfl) (by rfl) (keyOf_int_mk Tryz.underlying3 Hg) (.held v') [] (Qdm M) ?_;intro w4 J y;have t:=QjE y r.1 r.2.1 r.2.2 (by simp;omega);refine m.out _ _ ⟨t.1,t.2.1,t.2.2⟩ (fun qh=> ?_);clear m K;try simp only [zP]
    refine zD ?_;have Q:=hid (Ha.step (v':=v') B M v H J y);have HZ:=hid (Nat.le_trans v.size y.size);have Hi:=hid (((X.trans (B.mono (by omega))).grown v (by omega) (fun k g=>by have:=(C.lt k g).1;omega)).grown y (by have:=v.size;omega) (fun k g=>by injection g with g;omega));clear qh q r t M v H J y;go_wp2_with fail;go_roundw;case rel=>exact⟨k+1,_,_,O,by go_num,Q,Hi,by have:=HZ.out;omega⟩
    case measure=>simp [intOf];omega
  ·obtain rfl:k=n:=by omega
   have Q:=hid s;have X:=hid E;clear s E Z;go_wp2_with fail;go_ret2;exact⟨w1.heap.size,D,G,rfl,Q,by omega,X⟩
end Go.Proofs.YtgmjgboibfdaeaaGreatDoor
